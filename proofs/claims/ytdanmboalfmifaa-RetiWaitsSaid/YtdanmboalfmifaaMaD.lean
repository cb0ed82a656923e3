import Derived.Test.YtdanmboalfmifaaMaC
import Derived.Test.YtdanmboalfmifaaMaA
import Derived.WalkKit
import Derived.Outline
import Derived.Test.YtdanmboalfmifaaRows
import Derived.Lib.Bytes
import Derived.Lib.Bytealg
import Derived.Deep.QuietTactic
import Derived.BigQuiet
import Derived.Test.YtdanmboalfmifaaMaB
import Derived.Lib.AppendZeros
import Derived.Laws.Rows
set_option linter.unusedVariables false
set_option linter.unusedSimpArgs false
set_option maxRecDepth 100000
namespace Go.Proofs.Ytdanmboalfmifaa.Rx
section
open Go.RowKit
section
variable{P:Program}{T:Nat->Tch}{md:Bool}{call:bE}{nt:Nat}{ops:Array Oper}{st:St}{D:Nat->DS}
def HpI(T:Nat->Tch)(ops:Array Oper)(st:St)(D:Nat->DS)(listed:Array Bool)(H:Nat->Option Blk):Prop:=
 ∀id,(∃k,k<ops.size∧Up listed k∧dN (T k) id∧(∀j,j<ops.size->Up listed j->dN (T j) id->j<=k)∧H id=(D (k+1)).st.heap id)∨((∀j,j<ops.size->Up listed j-> ¬dN (T j) id)∧H id=st.heap id)
structure EnvI (ops:Array Oper) (st:St) (D:Nat->DS) (listed:Array Bool) (e:Nat->AV):Prop where
 e1: ∀(k:Nat) o t,ops[k]? =some o->o.dst=some t->Up listed k->e t=(D (k+1)).st.env t
 e2: ∀t,(∀(k:Nat) o,ops[k]? =some o->o.dst=some t-> ¬Up listed k)->e t=st.env t
theorem EnvI.put{listed:Array Bool}{e:Nat->AV}(h:EnvI ops st D listed e)(hs:de ops (fY ops)=true){i:Nat}{o:Oper}(ho:ops[i]? =some o)(hi:i<listed.size){v:AV}(hv:(D (i+1)).st.env=ef (D i).st.env o.dst v):EnvI ops st D (listed.setIfInBounds i true) (ef e o.dst v):=by
 refine⟨fun k p t hp hd hu=> ?_,fun t hno=> ?_⟩
 ·rcases (bU hi).1 hu with rfl |hu'
  ·rw[ho] at hp;cases hp
   rw[hv,eZ hd,eZ hd]
  ·by_cases hk:k=i
   ·subst hk
    rw[ho] at hp;cases hp
    rw[hv,eZ hd,eZ hd]
   ·have:=(dQ hs ho hp hd).1
    rw[fC (this.resolve_left hk)]
    exact h.e1 k p t hp hd hu'
 ·rw[fC fun hd=>hno i o ho hd ((bU hi).2 (.inl rfl))]
  exact h.e2 t fun k p hp hd hu=>hno k p hp hd ((bU hi).2 (.inr hu))
theorem EnvI.agree{listed:Array Bool}{e:Nat->AV}(h:EnvI ops st D listed e)(hD:SeqD P T md call nt ops st D)(hs:de ops (fY ops)=true)(hc:Closed ops listed){i:Nat}(hr:i∈Region.ready .any ops listed){o:Oper}(ho:ops[i]? =some o){t:Tmp}(ht:t∈ep o ops):e t=(D i).st.env t:=by
 obtain⟨hnu,hi,hc'⟩:=hc.ready hr
 have hi':i<listed.size:=by rw[hc.sz];exact hi
 have uniq: ∀(k k':Nat) p p',ops[k]? =some p->ops[k']? =some p'->p.dst=some t->p'.dst=some t->k=k':=fun k k' p p' h1 h2 h3 h4=>by
  have:=(dQ hs h2 h1 h3).1
  exact this.resolve_right fun hn=>hn h4
 by_cases hex: ∃(k:Nat) (p:Oper),ops[k]? =some p∧p.dst=some t
 ·obtain⟨k,p,hp,hd⟩:=hex
  have hk:k<ops.size:=(aC.1 hp).1
  have late: ¬k<i-> ¬Up listed k->e t=(D i).st.env t:=fun h1 h2=>by
   rw[h.e2 t fun k' p' hp' hd' hu=>h2 (uniq k k' p p' hp hp' hd hd'▸hu)]
   have:=hD.env_keep (t:=t) (a:=0) i (by omega) (by omega) fun j o' j1 j2 j3 j4=>by
    have:=uniq k j p o' hp j3 hd j4
    omega
   rw[this,hD.st0]
  rcases (dQ hs ho hp hd).2 ht with rfl |⟨h1,h2⟩|⟨h1,h2⟩
  ·exact late (by omega) hnu
  ·have hu:Up listed k:=by
    have:=(hc'.bef hs i ((bU hi').2 (.inl rfl)) k h2)
    rcases (bU hi').1 this with rfl |hu
    ·omega
    ·exact hu
   rw[h.e1 k p t hp hd hu]
   exact(hD.env_keep (t:=t) (a:=k+1) i (by omega) (by omega) fun j o' j1 j2 j3 j4=>by
    have:=uniq k j p o' hp j3 hd j4
    omega).symm
  ·exact late h1 fun hu=>hnu (hc.bef hs k hu i h2)
 ·rw[h.e2 t fun k p hp hd=>absurd ⟨k,p,hp,hd⟩ hex]
  have:=hD.env_keep (t:=t) (a:=0) i (by omega) (by omega) fun j o' j1 j2 j3 j4=>hex ⟨j,o',j3,j4⟩
  rw[this,hD.st0]
theorem lf{o:Oper}{e e':Nat->AV}(h: ∀t∈ep o ops,e t=e' t): ∀x∈o.op.operands.toList,bj e x=bj e' x:=fun x hx=>by
 cases x with
 |tmp t=>exact h t (by
   unfold ep
   rw[bh]
   exact .inl (List.mem_filterMap.2 ⟨.tmp t,hx,rfl⟩))
 |_=>rfl
theorem kB{o:Oper}{e e':Nat->AV}(h: ∀t∈ep o ops,e t=e' t){orc:List Orc}:dY ops o e orc=dY ops o e' orc:=by
 unfold dY
 cases hg:o.guard with
 |none=>rfl
 |some p=>
  obtain⟨j,want⟩:=p
  simp only
  cases hd:(ops[j]?).bind (·.dst) with
  |none=>rfl
  |some d=>
   simp only
   rw[h d (by
    unfold ep
    rw[bh]
    refine .inr ?_
    rw[hg]
    simp only[hd,Option.toList,ay])]
theorem ko{md:Bool}{op:Op}{ρ:Operand->AV}{h:Nat->Option Blk}{next:Nat}{orc:List Orc}{r:Res}(hv:fvO orc=false)(hr:bJ P md op ρ h next orc=some r):next<r.next:=by
 cases hb:bxO op orc with
 |true=>
  rw[jd hb] at hr
  obtain⟨b,q1,q2,q3⟩:=kr h hr
  omega
 |false=>
 rw[kp hv hb] at hr
 cases op with
 |alloc t=>
  obtain⟨z,hz,rfl⟩:=aa.1 hr
  exact cc _
 |box t x=>
  obtain⟨z,hz,rfl⟩:=aa.1 hr
  cases hfz:fzO orc&&z.all cK with
  |false=>exact cc _
  |true=>exact cc _
 |makeSlice t x y=>
  unfold bk at hr
  simp only at hr
  split at hr
  ·split at hr
   ·obtain⟨i,hi,hr⟩:=ab.1 hr
    obtain⟨z,hz,hr⟩:=ab.1 hr
    obtain⟨hb,hr⟩:=ao hr
    obtain⟨p,hp,rfl⟩:=aa.1 hr
    exact cc _
   ·cases hr
  ·cases hr
 |buildSlice t len parts=>
  unfold bk at hr
  simp only at hr
  split at hr
  ·obtain⟨s,hs,hr⟩:=ab.1 hr
   obtain⟨hb,hr⟩:=ao hr
   obtain⟨z,hz,hr⟩:=ab.1 hr
   obtain⟨cs,hcs,rfl⟩:=aa.1 hr
   exact cc _
  ·cases hr
 |call c=>
  obtain⟨callee,args,at_⟩:=c
  cases callee with
  |builtin b=>
   cases b with
   |append=>
    have hr:apz P md args at_ ρ h next orc=some r:=hr
    obtain⟨b,q1,q2,q3⟩:=lD h hr
    omega
   |_=>cases hr
  |_=>cases hr
 |_=>cases hr
structure InvD [Dfs] (T:Nat->Tch) (ops:Array Oper) (st:St) (D:Nat->DS) (nt:Nat) (cx0:Cx) (listed:Array Bool) (a:Act) (cx:Cx) (e:Nat->AV) (N:Nat):Prop where
 cl:Closed ops listed
 stab:Stab cx0 cx
 s:SRep cx ⟨e,cx.H,N⟩ a nt
 env:EnvI ops st D listed e
 hp:HpI T ops st D listed cx.H
 bd: ∀k,k<ops.size->Up listed k->(T k).all=true->Bnd (D (k+1))
theorem oT(hD:SeqD P T md call nt ops st D){listed:Array Bool}{H:Nat->Option Blk}(hp:HpI T ops st D listed H){i id:Nat}(hi:i<=ops.size)(h1: ∀k,k<i->dN (T k) id->Up listed k)(h2: ∀k,i<=k->k<ops.size->dN (T k) id-> ¬Up listed k):H id=(D i).st.heap id:=by
 rcases hp id with⟨k,k1,k2,k3,k4,k5⟩|⟨k1,k2⟩
 ·have hk:k<i:=by
   rcases iI k i with h |h
   ·exact h
   ·exact absurd k2 (h2 k h k1 k3)
  rw[k5]
  exact(hD.keepId (a:=k+1) (id:=id) i (by omega) hi fun j j1 j2 hw=>by
   have:=k4 j (by omega) (h1 j j2 hw) hw
   omega).symm
 ·rw[k2, <-hD.st0]
  exact(hD.keepId (a:=0) (id:=id) i (by omega) hi fun j j1 j2 hw=>k1 j (by omega) (h1 j j2 hw) hw).symm
theorem nb{listed:Array Bool}{H:Nat->Option Blk}{i:Nat}(hi:i<listed.size)(hq: ∀id, ¬dN (T i) id)(hp:HpI T ops st D listed H):HpI T ops st D (listed.setIfInBounds i true) H:=by
 intro id
 have hu: ∀j,Up (listed.setIfInBounds i true) j->dN (T j) id->Up listed j:=fun j hj hw=>by
  rcases (bU hi).1 hj with rfl |hj
  ·exact absurd hw (hq id)
  ·exact hj
 rcases hp id with⟨k,k1,k2,k3,k4,k5⟩|⟨k1,k2⟩
 ·exact .inl ⟨k,k1,(bU hi).2 (.inr k2),k3,fun j j1 j2 j3=>k4 j j1 (hu j j2 j3) j3,k5⟩
 ·exact .inr ⟨fun j j1 j2 j3=>k1 j j1 (hu j j2 j3) j3,k2⟩
theorem kh{listed:Array Bool}{H H':Nat->Option Blk}{i:Nat}(hi:i<listed.size)(hio:i<ops.size)(hlast: ∀id,dN (T i) id-> ∀j,j<ops.size->Up listed j->dN (T j) id->j<=i)(h1: ∀id,dN (T i) id->H' id=(D (i+1)).st.heap id)(h2: ∀id, ¬dN (T i) id->H' id=H id)(hp:HpI T ops st D listed H):HpI T ops st D (listed.setIfInBounds i true) H':=by
 intro id
 by_cases hw:dN (T i) id
 ·refine .inl ⟨i,hio,(bU hi).2 (.inl rfl),hw,fun j j1 j2 j3=> ?_,h1 id hw⟩
  rcases (bU hi).1 j2 with rfl |hu
  ·exact ax _
  ·exact hlast id hw j j1 hu j3
 ·have hu: ∀j,Up (listed.setIfInBounds i true) j->dN (T j) id->Up listed j:=fun j hj hw'=>by
   rcases (bU hi).1 hj with rfl |hj
   ·exact absurd hw' hw
   ·exact hj
  rw[h2 id hw]
  rcases hp id with⟨k,k1,k2,k3,k4,k5⟩|⟨k1,k2⟩
  ·exact .inl ⟨k,k1,(bU hi).2 (.inr k2),k3,fun j j1 j2 j3=>k4 j j1 (hu j j2 j3) j3,k5⟩
  ·exact .inr ⟨fun j j1 j2 j3=>k1 j j1 (hu j j2 j3) j3,k2⟩
theorem InvD.step[Dfs]{cx0 cx:Cx}{listed:Array Bool}{a:Act}{e:Nat->AV}{N:Nat}(hI:InvD T ops st D nt cx0 listed a cx e N)(hD:SeqD P T md call nt ops st D)(hcall:cQ P call)(hs:de ops (fY ops)=true){i:Nat}(hr:i∈Region.ready .any ops listed)
  {K:Act->World->Prop}{Q:Exit->Act->World->Prop}(hK: ∀cx' a' e' N',InvD T ops st D nt cx0 (listed.setIfInBounds i true) a' cx' e' N'->K a' cx'.w):wpOp P ops Q i K a cx.w:=by
 obtain⟨hnu,hi,hc'⟩:=hI.cl.ready hr
 have hi':i<listed.size:=by rw[hI.cl.sz];exact hi
 obtain⟨o,g,ho,hd,hg,h1,hbef⟩:=hD.at_ hi
 have hag: ∀t∈ep o ops,(D i).st.env t=e t:=fun t ht=>(hI.env.agree hD hs hI.cl hr ho ht).symm
 have hev:=lf hag
 rw[kB hag] at hg
 have upB: ∀k,k<i->cfl (T i) (T k)=true->Up listed k:=fun k hk hc=>by
  have:=hc'.bef hs i ((bU hi').2 (.inl rfl)) k (hbef k hk hc)
  rcases (bU hi').1 this with rfl |hu
  ·omega
  ·exact hu
 have upA: ∀k,i<k->k<ops.size->cfl (T k) (T i)=true-> ¬Up listed k:=fun k hk hkn hc hu=>by
  obtain⟨_,_,_,_,_,_,hb⟩:=hD.at_ hkn
  exact hnu (hI.cl.bef hs k hu i (hb i hk hc))
 have seen: ∀id,o6 (T i) id->cx.H id=(D i).st.heap id:=fun id ht=>oT hD hI.hp (ci hi) (fun k hk hw=>upB k hk (k0 hw ht).2) (fun k hk hkn hw=>by
  by_cases hki:k=i
  ·subst hki;exact hnu
  ·exact upA k (by omega) hkn (k0 hw ht).1)
 have hlast: ∀id,dN (T i) id-> ∀j,j<ops.size->Up listed j->dN (T j) id->j<=i:=fun id hw j hj hu hwj=>by
  rcases iI i j with h |h
  ·exact absurd hu (upA j h hj (k0 hwj (hw.imp_right .inl)).1)
  ·exact h
 have bdI:(T i).any=true->Bnd (D i):=fun hany=>by
  have hdec:DecidablePred fun k=>(T k).all=true:=fun k=>inferInstance
  rcases mY (fun k=>(T k).all=true) i with⟨k,k1,k2,k3⟩|h0
  ·have hu:Up listed k:=upB k k1 (by unfold cfl;rw[k2,hany];simp)
   refine hD.bnd (a:=k+1) (hI.bd k (by omega) hu k2) i (by omega) (by omega) fun j j1 j2=> ?_
   cases hx:(T j).all with
   |false=>rfl
   |true=>have:=k3 j j2 hx;omega
  ·refine hD.bnd (a:=0) (fun id hid=> ?_) i (by omega) (by omega) fun j _ j2=> ?_
   ·rw[hD.st0] at hid ⊢;exact hD.lt id hid
   ·cases hx:(T j).all with
    |false=>rfl
    |true=>exact absurd hx (h0 j j2)
 unfold wpOp
 rw[ho]
 simp only
 rcases h1 with⟨hgf,hv,_,_,hT,hp⟩|⟨hgt,r,hrr,hpg,hpr,hv,e1,e2,hT⟩
 ·have hw:=da hg hp hI.s
  rw[hgf] at hw
  rw[hw]
  simp only[dm,if_false]
  refine hK cx _ _ N ⟨hc',hI.stab,hI.s.put (Stab.refl cx) hI.s.c rfl hI.s.lt hd (.pure (.val _)),hI.env.put hs ho hi' hv,nb hi' (fun id hw=>by rw[hT] at hw;rcases hw with h |h<;>cases h) hI.hp,fun k k1 k2 k3=> ?_⟩
  rcases (bU hi').1 k2 with rfl |hu
  ·rw[hT] at k3;cases k3
  ·exact hI.bd k k1 hu k3
 ·have hw:=da hg hpg hI.s
  rw[hgt] at hw
  rw[hw]
  simp only[if_true]
  refine .inl ?_
  cases hall:(T i).all with
  |true=>
   have hH:cx.H=(D i).st.heap:=funext fun id=>seen id (.inl hall)
   have hbnd:Bnd (D i):=bdI (by unfold Tch.any;rw[hall];rfl)
   have hrr':evD P md call o.op (bj e) (D i).st.heap (D i).st.next g.2.1=some r:=gr hev▸hrr
   have hs0:SRep cx ⟨e,(D i).st.heap,(D i).st.next⟩ a nt:=⟨hH,hI.s.c,hI.s.env,hbnd,hI.s.sz,hI.s.df⟩
   have fin: ∀cx' a',SRep cx' ⟨ef e o.dst r.v,r.heap,r.next⟩ a' nt->Stab cx cx'->K a' cx'.w:=fun cx' a' hs' hst'=>by
    have hHe:cx'.H=r.heap:=hs'.H
    refine hK cx' a' _ r.next ⟨hc',hI.stab.trans hst',by rw[hHe];exact hs',hI.env.put hs ho hi' hv,kh hi' hi hlast (fun id _=>by rw[hHe,e1]) (fun id hn=>absurd (.inl hall) hn) hI.hp,fun k k1 k2 k3=> ?_⟩
    rcases (bU hi').1 k2 with rfl |hu
    ·intro id hid
     rw[e2]
     rw[e1] at hid
     exact hs'.lt id hid
    ·exact hI.bd k k1 hu k3
   cases hcl:fH o.op (bj e) g.2.1 with
   |true=>
    refine ky hcl (by rw[hH];exact hrr') hpr hI.s.c hI.s.env (fun id h5 h6=> ?_) fun cx' z m1 m2 m3 m4 m5=>fin cx' _ (hI.s.put m3 m2 m1 (m5.lt fun id hid=>hbnd id (by rw[<-hH];exact hid)) hd m4) m3
    cases hx:cx.H id with
    |none=>rfl
    |some b=>have:=hbnd id (by rw[<-hH,hx];rfl);omega
   |false=>
    cases hcp:fF o.op (bj e) g.2.1 with
    |true=>
     refine iC hcp (by rw[hH];exact hrr') hpr hI.s.c hI.s.env fun cx' z m1 m2 m3 m4 m5 m6=>fin cx' _ (hI.s.put m3 m2 m1 (fun id hid=> ?_) hd m4) m3
     rw[m6]
     exact hbnd id (by rw[<-hH, <-m5];exact hid)
    |false=>
     cases hcm:fG o.op (bj e) g.2.1 with
     |true=>
      refine kw hcm (by rw[hH];exact hrr') hpr hI.s.c hI.s.env (fun id h5 h6=> ?_) fun cx' z m1 m2 m3 m4 m5=>fin cx' _ (hI.s.put m3 m2 m1 (m5.lt fun id hid=>hbnd id (by rw[<-hH];exact hid)) hd m4) m3
      cases hx:cx.H id with
      |none=>rfl
      |some b=>have:=hbnd id (by rw[<-hH,hx];rfl);omega
     |false=>
      unfold evD at hrr'
      rw[hcl,hcp,hcm] at hrr'
      exact im hcall hrr' hpr hs0 hd fin
  |false=>
   have hall':=hall
   rw[hT] at hall'
   have L:=jA hrr hall'
   rw[<-hT] at L
   have wr_iff: ∀id,dN (T i) id↔id∈(T i).wr:=fun id=>⟨fun h=>h.resolve_left (by rw[hall];simp),.inr⟩
   have notall: ∀k,k<ops.size->Up (listed.setIfInBounds i true) k->(T k).all=true->Bnd (D (k+1)):=fun k k1 k2 k3=>by
    rcases (bU hi').1 k2 with rfl |hu
    ·rw[hall] at k3;cases k3
    ·exact hI.bd k k1 hu k3
   have done: ∀cx' a' r' N',evD P md call o.op (bj e) cx.H N' g.2.1=some r'->r'.v=r.v->(∀id∈(T i).wr,r'.heap id=r.heap id)->(∀id,id ∉ (T i).wr->r'.heap id=cx.H id)->cx'.H=r'.heap-> ∀M,SRep cx' ⟨ef e o.dst r.v,cx'.H,M⟩ a' nt->Stab cx cx'->K a' cx'.w:=fun cx' a' r' N' _ _ q1 q2 hHe M hs' hst'=>by
    refine hK cx' a' _ M ⟨hc',hI.stab.trans hst',hs',hI.env.put hs ho hi' hv,kh hi' hi hlast (fun id hw=>by rw[hHe,q1 id ((wr_iff id).1 hw),e1]) (fun id hn=>by rw[hHe,q2 id fun hm=>hn ((wr_iff id).2 hm)]) hI.hp,notall⟩
   have rdH: ∀id∈(T i).rd,cx.H id=(D i).st.heap id:=fun id hid=>seen id (.inr (.inr hid))
   have wrH: ∀id∈(T i).wr,cx.H id=(D i).st.heap id:=fun id hid=>seen id (.inr (.inl hid))
   cases hnw:(T i).nw with
   |false=>
    obtain⟨r',k1,k2,k3,k4,_,k6,k7,k8⟩:=L.loc cx.H N (fun h=>by rw[hnw] at h;cases h) rdH wrH
    rw[gr hev] at k1
    have hpr': ∀p∈r'.cs,p:=by rw[k4];exact hpr
    have hlt': ∀id,(r'.heap id).isSome=true->id<N:=fun id hid=>by
     by_cases hm:id∈(T i).wr
     ·rcases L.wrs id hm with h2 |h2
      ·exact hI.s.lt id (by show(cx.H id).isSome=true;rw[wrH id hm];exact h2)
      ·have:=L.nonew hnw
       omega
     ·rw[k8 id hm] at hid
      exact hI.s.lt id hid
    have finz: ∀cx' z,cx'.H=r'.heap->CRep cx'->Stab cx cx'->Rep cx' r'.v z->K (a.put o.dst z) cx'.w:=fun cx' z m1 m2 m3 m4=>by
     have hs':=hI.s.put (next:=N) m3 m2 m1 hlt' hd m4
     rw[k2, <-m1] at hs'
     exact done cx' _ r' N k1 k2 k7 k8 m1 N hs' m3
    cases hcl:fH o.op (bj e) g.2.1 with
    |true=>
     exfalso
     have hcls:=m9 (P:=P) (op:=o.op) (ρ:=bj e) (orc:=g.2.1) hcl
     rw[hT] at hnw hall
     unfold cw at hnw hall
     rw[hcls] at hnw hall
     rw[di hev,hcl] at hnw hall
     simp only[aD] at hnw hall
     cases hf:du (D i).st.heap (rdD o.op (bj (D i).st.env)) with
     |true=>rw[hf] at hnw;cases hnw
     |false=>rw[hf] at hall;cases hall
    |false=>
     cases hcp:fF o.op (bj e) g.2.1 with
     |true=>exact iC hcp k1 hpr' hI.s.c hI.s.env fun cx' z m1 m2 m3 m4 _ _=>finz cx' z m1 m2 m3 m4
     |false=>
      have hcm:fG o.op (bj e) g.2.1=false:=by
       cases hcm:fG o.op (bj e) g.2.1 with
       |false=>rfl
       |true=>
        exfalso
        rw[hT] at hnw
        unfold cw at hnw
        rw[kg (P:=P) hcm,di hev,hcl,dW hev,hcp,dX hev,hcm] at hnw
        cases hnw
      have hrl:=k1
      unfold evD at hrl
      rw[hcl,hcp,hcm] at hrl
      simp only[aN] at hrl
      by_cases hcc:bI P o.op= .call
      ·exfalso
       rw[hT] at hall
       unfold cw at hall
       rw[hcc,di hev,hcl,dW hev,hcp,dX hev,hcm] at hall
       cases hall
      ·exact gp hrl hcc hpr' rfl hI.s.c hI.s.env (by
        cases hx:cx.H N with
        |none=>rfl
        |some b=>exact absurd (hI.s.lt N (by show(cx.H N).isSome=true;rw[hx];rfl)) (bL _)) fun cx' z m1 m2 m3 m4 _=>finz cx' z m1 m2 m3 m4
   |true=>
    have hany:(T i).any=true:=by unfold Tch.any;rw[hnw];simp
    have hbnd:=bdI hany
    obtain⟨r',k1,k2,k3,k4,k5,_,k7,k8⟩:=L.loc cx.H (D i).st.next (fun _=>rfl) rdH wrH
    rw[gr hev] at k1
    have k5':=k5 hnw
    have hpr': ∀p∈r'.cs,p:=by rw[k4];exact hpr
    have hfree: ∀id,(D i).st.next<=id->id<r.next->cx.H id=none:=fun id h5 h6=>by
     rw[wrH id (L.new id h5 h6)]
     cases hx:(D i).st.heap id with
     |none=>rfl
     |some b=>have:=hbnd id (by rw[hx];rfl);omega
    have hlt': ∀id,(r'.heap id).isSome=true->id<max N r.next:=fun id hid=>by
     by_cases hm:id∈(T i).wr
     ·rcases L.wrs id hm with h2 |h2
      ·have:id<N:=hI.s.lt id (by show(cx.H id).isSome=true;rw[wrH id hm];exact h2)
       omega
      ·omega
     ·rw[k8 id hm] at hid
      have:id<N:=hI.s.lt id hid
      omega
    have finz: ∀cx' z,cx'.H=r'.heap->CRep cx'->Stab cx cx'->Rep cx' r'.v z->K (a.put o.dst z) cx'.w:=fun cx' z m1 m2 m3 m4=>by
     have hs':=hI.s.put (next:=max N r.next) m3 m2 m1 hlt' hd m4
     rw[k2, <-m1] at hs'
     exact done cx' _ r' _ k1 k2 k7 k8 m1 _ hs' m3
    cases hcl:fH o.op (bj e) g.2.1 with
    |true=>exact ky hcl k1 hpr' hI.s.c hI.s.env (fun id h5 h6=>hfree id h5 (by rw[k5'] at h6;exact h6)) fun cx' z m1 m2 m3 m4 _=>finz cx' z m1 m2 m3 m4
    |false=>
     cases hcp:fF o.op (bj e) g.2.1 with
     |true=>exact iC hcp k1 hpr' hI.s.c hI.s.env fun cx' z m1 m2 m3 m4 _ _=>finz cx' z m1 m2 m3 m4
     |false=>
      cases hcm:fG o.op (bj e) g.2.1 with
      |true=>exact kw hcm k1 hpr' hI.s.c hI.s.env (fun id h5 h6=>hfree id h5 (by rw[k5'] at h6;exact h6)) fun cx' z m1 m2 m3 m4 _=>finz cx' z m1 m2 m3 m4
      |false=>
      have hrl:=k1
      unfold evD at hrl
      rw[hcl,hcp,hcm] at hrl
      simp only[aN] at hrl
      by_cases hcc:bI P o.op= .call
      ·exfalso
       rw[hT] at hall
       unfold cw at hall
       rw[hcc,di hev,hcl,dW hev,hcp,dX hev,hcm] at hall
       cases hall
      ·refine gp hrl hcc hpr' rfl hI.s.c hI.s.env ?_ fun cx' z m1 m2 m3 m4 _=>finz cx' z m1 m2 m3 m4
       cases hx:cx.H (D i).st.next with
       |none=>rfl
       |some b=>
        exfalso
        have hlt:(D i).st.next<r.next:=by
         cases hcz:bI P o.op with
         |pur=>rw[hT] at hnw;unfold cw at hnw;rw[hcz] at hnw;cases hnw
         |read=>
          rw[hT] at hnw;unfold cw at hnw;rw[hcz] at hnw
          simp only at hnw
          cases ha:gT o.op (bj (D i).st.env) with
          |true=>rw[ha] at hnw;cases hnw
          |false=>rw[ha] at hnw;cases hnw
         |call=>exact absurd hcz hcc
         |make=>
          have hfv:fvO g.2.1=false:=by
           rw[hT] at hnw;unfold cw at hnw;rw[hcz] at hnw
           simp only at hnw
           cases hx2:fvO g.2.1 with
           |false=>rfl
           |true=>rw[hx2] at hnw;cases hnw
          have h9:=hrr
          unfold evD cb at h9
          rw[hcz] at h9
          exact ko hfv h9
         |write=>
          have hm:(D i).st.next∈(T i).wr:=by
           rw[hT] at hnw hall ⊢
           exact lG hcz hnw hall
          rcases L.wrs _ hm with h2 |h2
          ·have:=hbnd _ h2;omega
          ·exact h2.2
        rw[hfree _ (ax _) hlt] at hx
        cases hx
end
end
section
open Go.RowKit
section
variable{P:Program}
def Cx.drew(cx:Cx):Cx:=⟨{cx.w with drawn:=cx.w.drawn+1},cx.R,cx.φ,cx.H,cx.B⟩
theorem gt(cx:Cx):Stab cx cx.drew:=
 ⟨⟨rfl,fun _ h=>h,fun _ h=> .inl h,rfl,rfl,rfl,ax _,fun _ _ _=>rfl⟩,fun id b h=>⟨b,h,fun _=>⟨rfl,sameShape.rfl' b⟩,fun _=>rfl⟩,fun id b b' h h'=>by
  have h2:cx.H id=some b':=h'
  rw[h] at h2;cases h2;exact ax _⟩
theorem l8{cx:Cx}(hc:CRep cx):CRep cx.drew:=by
 refine⟨fun id b hb=> ?_,hc.inj,hc.rlt,hc.blt⟩
 have h:=hc.hb id b hb
 unfold HB at h ⊢
 split
 ·rename_i cs hcs
  rw[hcs] at h
  obtain⟨g,cur,h1,h2,h3,h4,h5⟩:=h
  refine⟨g,cur,h1,h2,h3,fun j a ha=> ?_,h5⟩
  obtain⟨u,u1,u2,u3⟩:=h4 j a ha
  exact⟨u,u1,u2,u3.stab hc (gt cx)⟩
 ·rename_i m n f hcs
  rw[hcs] at h
  rcases h with h |⟨g,cap,cur,h1,h2,h3,h4,h5,h6,h7⟩
  ·exact .inl h
  ·refine .inr ⟨g,cap,cur,h1,h2,h3,h4,h5,fun i hi j hj=> ?_,h7⟩
   obtain⟨u,u1,u2,u3⟩:=h6 i hi j hj
   exact⟨u,u1,u2,u3.mono (fun _ h=>h) fun _ _=>rfl⟩
theorem l7[Dfs]{cx:Cx}{st:St}{a:Act}{nt:Nat}(hs:SRep cx st a nt):SRep cx.drew st a nt:=
 ⟨hs.H,l8 hs.c,fun t=>(hs.env t).stab hs.c (gt cx),hs.lt,hs.sz,hs.df⟩
theorem InvD.any[Dfs]{T:Nat->Tch}{md:Bool}{call:bE}{nt:Nat}{ops:Array Oper}{st:St}{D:Nat->DS}{cx0:Cx}(hD:SeqD P T md call nt ops st D)(hcall:cQ P call)(hs:de ops (fY ops)=true)
  {Q:Exit->Act->World->Prop}(hQ: ∀cx' a',SRep cx' (D ops.size).st a' nt->Stab cx0 cx'->Q .normal a' cx'.w):
  ∀(fuel:Nat) {listed:Array Bool} {a:Act} {cx:Cx} {e:Nat->AV} {N:Nat},InvD T ops st D nt cx0 listed a cx e N->(List.range ops.size).countP (fun i=> !(listed.getD i false))<=fuel->wpAny P .any ops Q fuel listed a cx.w:=by
 have fin: ∀{listed:Array Bool} {a:Act} {cx:Cx} {e:Nat->AV} {N:Nat},InvD T ops st D nt cx0 listed a cx e N->Region.ready .any ops listed=[]->Q .normal a cx.w:=by
  intro listed a cx e N hI hr
  have hall:=hI.cl.done hs hr
  have hH:cx.H=(D ops.size).st.heap:=funext fun id=>oT hD hI.hp (ax _) (fun k hk _=>hall k hk) (fun k h1 h2 _=>by omega)
  have hlt:Bnd (D ops.size):=by
   have hdec:DecidablePred fun k=>(T k).all=true:=fun k=>inferInstance
   rcases mY (fun k=>(T k).all=true) ops.size with⟨k,k1,k2,k3⟩|h0
   ·refine hD.bnd (a:=k+1) (hI.bd k k1 (hall k k1) k2) ops.size (by omega) (ax _) fun j j1 j2=> ?_
    cases hx:(T j).all with
    |false=>rfl
    |true=>have:=k3 j j2 hx;omega
   ·refine hD.bnd (a:=0) (fun id hid=> ?_) ops.size (by omega) (ax _) fun j _ j2=> ?_
    ·rw[hD.st0] at hid ⊢;exact hD.lt id hid
    ·cases hx:(T j).all with
     |false=>rfl
     |true=>exact absurd hx (h0 j j2)
  have he:e=(D ops.size).st.env:=by
   funext t
   by_cases hex: ∃(k:Nat) (p:Oper),ops[k]? =some p∧p.dst=some t
   ·obtain⟨k,p,hp,hd⟩:=hex
    have hk:k<ops.size:=(aC.1 hp).1
    rw[hI.env.e1 k p t hp hd (hall k hk)]
    exact(hD.env_keep (t:=t) (a:=k+1) ops.size (by omega) (ax _) fun j o' j1 j2 j3 j4=>by
     have:=(dQ hs j3 hp hd).1
     rcases this with rfl |h5
     ·omega
     ·exact h5 j4).symm
   ·rw[hI.env.e2 t fun k p hp hd=>absurd ⟨k,p,hp,hd⟩ hex]
    have:=hD.env_keep (t:=t) (a:=0) ops.size (by omega) (ax _) fun j o' j1 j2 j3 j4=>hex ⟨j,o',j3,j4⟩
    rw[this,hD.st0]
  refine hQ cx a ⟨hH,hI.s.c, ?_,hlt,hI.s.sz,hI.s.df⟩ hI.stab
  rw[<-he]
  exact hI.s.env
 intro fuel
 induction fuel with
 |zero=>
  intro listed a cx e N hI hcnt
  have hr:Region.ready .any ops listed=[]:=by
   rw[List.eq_nil_iff_forall_not_mem]
   intro i hi
   obtain⟨hnu,hlt,_⟩:=hI.cl.ready hi
   have:=List.countP_eq_zero.1 (Nat.le_zero.1 hcnt) i (bQ.2 hlt)
   unfold Up at hnu
   simp at this
   exact hnu (by simpa using this)
  exact⟨hr,fin hI hr⟩
 |succ fuel ih=>
  intro listed a cx e N hI hcnt
  refine⟨fin hI,fun i hi=> ?_⟩
  refine hI.step hD hcall hs hi fun cx' a' e' N' hI'=>ih hI' ?_
  obtain⟨hnu,hlt,_⟩:=hI.cl.ready hi
  have hi':i<listed.size:=by rw[hI.cl.sz];exact hlt
  have hx:= @bU listed i
  have:=no (p:=fun i=> !(listed.getD i false)) (p':=fun k=> !((listed.setIfInBounds i true).getD k false)) (bQ.2 hlt) (by
    unfold Up at hnu
    simp only[dF] at hnu ⊢
    cases hb:listed.getD i false with
    |false=>rfl
    |true=>exact absurd hb hnu) (by
    have:=(hx (k:=i) hi').2 (.inl rfl)
    unfold Up at this
    simp only[this,Bool.not_true]) (fun k hk=>by
    simp only[dF] at hk ⊢
    cases hb:listed.getD k false with
    |false=>rfl
    |true=>
     have:=(hx (k:=k) hi').2 (.inr hb)
     unfold Up at this
     rw[this] at hk;cases hk)
  omega
theorem l9[Dfs]{md:Bool}{call:bE}(hcall:cQ P call){nt:Nat}{ops:Array Oper}{st:St}{orc:List Orc}{q:St×List Orc×List Prop}{cx:Cx}{a:Act}(h:iw P md call nt ops st orc=some q)(hp: ∀p∈q.2.2,p)(hs:SRep cx st a nt){Q:Exit->Act->World->Prop}
  (hQ: ∀cx' a',SRep cx' q.1 a' nt->Stab cx cx'->Q .normal a' cx'.w):P.follows .mixedOrders=true∧wpAny P .any ops Q ops.size (Array.replicate ops.size false) a {cx.w with drawn:=cx.w.drawn+1}:=by
 unfold iw at h
 obtain⟨h1,h2⟩:=ao h
 rw[ai] at h1
 obtain⟨q',hq,rfl⟩:=aa.1 h2
 obtain⟨s',ps⟩:=q'
 obtain⟨D,d0,d1,d2⟩:=jW ops.size 0 hq hp
 rw[bA] at d1
 have htr: ∀j,j<ops.size-> ∃t,(D (j+1)).tr=(j,t)::(D j).tr:=fun j hj=>by
  obtain⟨q,hq,_⟩:=d2 j (bK _) (by omega)
  obtain⟨o,g,_,_,_,h3⟩:=ga hq
  rcases h3 with⟨_,_,_,_,e,_⟩|⟨_,r,_,_,_,_,_,e,_⟩
  ·exact⟨_,e⟩
  ·exact⟨_,e⟩
 have hT: ∃T:Nat->Tch, ∀j,j<ops.size->(D (j+1)).tr=(j,T j)::(D j).tr:=
  ⟨fun j=>((D (j+1)).tr.head?.map (·.2)).getD iM,fun j hj=>by
   obtain⟨t,ht⟩:=htr j hj
   have e:((D (j+1)).tr.head?.map (·.2)).getD iM=t:=by rw[ht];rfl
   show(D (j+1)).tr=(j,((D (j+1)).tr.head?.map (·.2)).getD iM)::(D j).tr
   rw[e];exact ht⟩
 obtain⟨T,hT⟩:=hT
 have hD:SeqD P T md call nt ops st D:=⟨by rw[d0],by rw[d0],fun j hj=>d2 j (bK _) (by omega),hT,hs.lt⟩
 refine⟨h1.1, ?_⟩
 have hs':=l7 hs
 have hno: ∀k, ¬Up (Array.replicate ops.size false) k:=fun k hk=>by
  unfold Up at hk
  rw[aG,Array.getElem?_replicate] at hk
  split at hk<;>cases hk
 refine InvD.any hD hcall h1.2 (cx0:=cx.drew) (Q:=Q) (fun cx' a' hs2 hst2=> ?_) ops.size (cx:=cx.drew) (e:=st.env) (N:=st.next) ⟨⟨by simp,fun k o _ hu=>absurd hu (hno k)⟩,Stab.refl _, ?_,⟨fun k o t _ _ hu=>absurd hu (hno k),fun t _=>rfl⟩,fun id=> .inr ⟨fun j _ hu=>absurd hu (hno j), ?_⟩,fun k _ hu=>absurd hu (hno k)⟩ ?_
 ·rw[d1] at hs2
  exact hQ cx' a' hs2 ((gt cx).trans hst2)
 ·have:cx.drew.H=st.heap:=hs'.H
  rw[this]
  exact hs'
 ·rw[show cx.drew.H=st.heap from hs'.H]
 ·exact fq List.countP_le_length (by simp)
theorem iv(md:Bool):gu P (iw P md):=by
 intro D0 call hcall nt ops st orc q cx a id h hp hs Q hQ
 obtain⟨h1,h2⟩:=l9 hcall h hp hs hQ
 exact wp_region_any h1 h2
end
end
section
open Go.RowKit
structure Vc (p:Prop):Prop where
 out:p
def jF:List Prop->Prop
 | []=>True
 |p::l=>p∧jF l
theorem eT: ∀{l:List Prop},jF l-> ∀p∈l,p
 | [],_,p,hp=>by cases hp
 |q::l,h,p,hp=>by
  rcases a9.1 hp with rfl |hp
  ·exact h.1
  ·exact eT h.2 p hp
def eqX:X->X->Bool
 | .nrm,.nrm=>true
 | .ext i,.ext j=>Nat.beq i j
 | .ret,.ret=>true
 |_,_=>false
theorem pq{x y:X}(h:eqX x y=true):x=y:=by
 cases x<;>cases y<;>first |rfl |cases h | (unfold eqX at h;rw[af h])
def loops:Code->List Code
 | .seq a b=>loops a++loops b
 | .cond _ a b=>loops a++loops b
 | .block _ c=>loops c
 | .loop c=>c::loops c
 |_=>[]
section
variable(P:Program)
def pr(f:FuncId):Code:=((P.funcs[f]?).bind (·.body)).getD .skip
def lpC(f:FuncId)(k:Nat):Code:=(loops (pr P f)).getD k .skip
def lS(f:FuncId):Nat:=((P.funcs[f]?).map (·.ntmps)).getD 0
def o4(md:Bool)(f:FuncId)(args:List AV)(orc:List Orc)(ρ:List (Nat×Nat))(res:AV)(H:List Blk):Prop:=
 match iR P (iw P md) md 100 true f args (fun _=>none) 0 orc with
 |some r=>match leS ρ ⟨fun _=>r.v,r.heap,r.next⟩ ⟨[(0,res)],gL H,H.length⟩ with
  |some ps=>jF (r.cs++ps)
  |none=>False
 |none=>False
def vcC(md:Bool)(nt:Nat)(c:Code)(I:Sm)(orc:List Orc)(x:X)(r:List (Nat×Nat))(J:Sm):Prop:=
 match bw P (iw P md) true md (jf P (iR P (iw P md) md 100 false)) nt c I.st orc with
 |some q=>bif eqX q.1 x then match leS r q.2.1 J with
  |some ps=>jF (q.2.2.2++ps)
  |none=>False
  else False
 |none=>False
end
section
variable{P:Program}
theorem PureC.vc{md:Bool}{f:FuncId}{args:List AV}{orc:List Orc}{ρ:List (Nat×Nat)}{res:AV}{H:List Blk}(h:Vc (o4 P md f args orc ρ res H)):PureC P f args res H:=by
 replace h:=h.out
 unfold o4 at h
 split at h
 ·rename_i r hr
  split at h
  ·rename_i ps hps
   have hall:=eT h
   exact PureC.of (iv md) hr (fun p hp=>hall p (bh.2 (.inl hp))) hps fun p hp=>hall p (bh.2 (.inr hp))
  ·cases h
 ·cases h
theorem la{md:Bool}(n:Nat):cQ P (jf P (iR P (iw P md) md n false)):=kA fun f args h next orc r h1 h2 cx h3 h4 h5 vs h6 h7=>by
 obtain⟨k1,k2⟩:=fX (iv md) n false h1 h2 cx h3 h4 h5 vs h6 h7
 refine⟨k1,k2.mono ?_⟩
 rintro e w' ⟨z,cx',m1,m2,m3,m4,m5,m6,m7⟩
 exact⟨z,cx',m1,m2,m3,m4,m5.2 rfl,m6,m7⟩
theorem Ok.vc{md:Bool}{nt:Nat}{c:Code}{I J:Sm}{orc:List Orc}{x:X}{r:List (Nat×Nat)}(h:Vc (vcC P md nt c I orc x r J)):Ok P nt c I.st x J.st:=by
 replace h:=h.out
 unfold vcC at h
 split at h
 ·rename_i q hq
  obtain⟨hx,h1⟩:eqX q.1 x=true∧(match leS r q.2.1 J with |some ps=>jF (q.2.2.2++ps)|none=>False):=by
   cases hb:eqX q.1 x with
   |true=>rw[hb] at h;exact⟨rfl,h⟩
   |false=>rw[hb] at h;exact h.elim
  split at h1
  ·rename_i ps hps
   have hall:=eT h1
   intro d0 cx a hs Q hQ
   refine ba (iv md) (la 100) c hq (fun p hp=>hall p (bh.2 (.inl hp))) hs Q fun d1 cx1 a1 hs1 ha1=> ?_
   obtain⟨cx1p,hw,hs1p,hk⟩:=ha1.plus hs1
   obtain⟨cx2,hs2,he2,hw2⟩:=hs1p.le hps fun p hp=>hall p (bh.2 (.inr hp))
   obtain⟨cx3,e3,hs3,ha3⟩:=hk d1 cx2 _ a1 _ hs2 (.of_ext he2)
   rw[pq hx, <-hw, <-hw2, <-e3]
   exact hQ d1 cx3 a1 hs3 ha3
  ·cases h1
 ·cases h
theorem Ok.loop{nt:Nat}{c:Code}{F:Nat->Sm}{m:Nat}{x:X}{J:Sm}(hr: ∀k,k<m->Ok P nt c (F k).st .nrm (F (k+1)).st)(he:Ok P nt c (F m).st x J.st)(hx:x≠ .nrm):Ok P nt (.loop c) (F 0).st x J.st:=by
 intro d0 cx a hs Q hQ
 have key: ∀n k,k+n=m-> ∀(d1:Dfs) cx1 a1, @SRep d1 cx1 (F k).st a1 nt->(∀(d2:Dfs) cx2 a2, @SRep d2 cx2 J.st a2 nt->After true d1 cx1 d2 cx2->Q x.to a2 cx2.w)->Code.rounds P c Q (n+1) a1 cx1.w:=by
  intro n
  induction n with
  |zero=>
   intro k hk d1 cx1 a1 hs1 hK
   obtain rfl:k=m:=by omega
   rw[rounds_succ]
   refine he d1 cx1 a1 hs1 _ fun d2 cx2 a2 hs2 ha2=> ?_
   have:=hK d2 cx2 a2 hs2 ha2
   cases x with
   |nrm=>exact absurd rfl hx
   |ext id=>exact this
   |ret=>exact this
  |succ n ih=>
   intro k hk d1 cx1 a1 hs1 hK
   rw[rounds_succ]
   refine hr k (by omega) d1 cx1 a1 hs1 _ fun d2 cx2 a2 hs2 ha2=> ?_
   obtain⟨cx2p,hw,hs2p,hk2⟩:=ha2.plus hs2
   show Code.rounds _ _ _ _ _ cx2.w
   rw[<-hw]
   exact ih (k+1) (by omega) d2 cx2p a2 hs2p fun d3 cx3 a3 hs3 ha3=>by
    obtain⟨cx4,e4,hs4,ha4⟩:=hk2 d3 cx3 _ a3 _ hs3 ha3
    rw[<-e4]
    exact hK d3 cx4 a3 hs4 ha4
 exact wp_loop_rounds (m+1) (key m 0 (by omega) d0 cx a hs hQ)
def aY{α:Type}[Inhabited α](g:α->Nat->AV)(l:List α):Nat->Nat->AV:=fun i j=>g (l.getD i default) j
theorem o8{n i:Nat}{a b c:AV}(h1:i<n->a=c)(h2: ¬i<n->b=c):(bif Nat.blt i n then a else b)=c:=by
 by_cases h:i<n
 ·have:Nat.blt i n=true:=by rw[aV];exact h
  rw[this]
  exact h1 h
 ·have:Nat.blt i n=false:=by
   cases hb:Nat.blt i n with
   |false=>rfl
   |true=>rw[aV] at hb;exact absurd hb h
  rw[this]
  exact h2 h
end
end
section
open Go.RowKit
section
variable{P:Program}
theorem RepP.ints{w:World}{R:Nat->Prop}{k:IntKind}{n:Nat}{f:Nat->Nat->AV}{v:Value}{l:List Int}(h:RepP w R (.row 1 n f) v)(hR: ∀g,R g->g<w.heap.size)(hn:n=l.length)(hf: ∀i,i<n->f i 0= .int k (l.getD i 0)):
  ∃A c,v= .slice A l.length c∧l.length<=c∧c<=maxLen∧Rd w w.heap.size A (l.map (Value.int k)):=by
 subst hn
 cases h with
 |row A cap u hn hc hA h1 hu=>
  refine⟨A,cap,rfl,hn,hc,fun hl=> ?_⟩
  rw[iK] at hl
  obtain⟨g,o,rfl,hg,hcell⟩:=hA (by omega)
  refine⟨⟨g,o,none⟩,rfl,hR g hg,fun j x hx=> ?_⟩
  have hj:j<l.length:=by
   have:=(aj.1 hx).1
   simpa using this
  have h2:=hu j hj 0 (by omega)
  rw[hf j hj] at h2
  have h3:u j 0= .int k (l.getD j 0):=by
   generalize u j 0=z at h2
   cases h2;rfl
  have h4:=hcell j hj 0 (by omega)
  rw[h3] at h4
  rw[au,av hj,aB,ac] at hx
  rw[<-hx,show Addr.add ⟨g,o,none⟩ j=⟨g,o+j,none⟩ from dk g o j]
  rw[show o+(j*1+0)=o+j by omega] at h4
  rw[h4]
  simp[List.getD,hj]
theorem PureC.ofOwn{f:FuncId}{args:List AV}{t:TypeId}{k:IntKind}{l:List Int}{n:Nat}{g:Nat->Nat->AV}(hn:n=l.length)(hg: ∀i,i<n->g i 0= .int k (l.getD i 0))
  (h: ∀(w:World) (R:Nat->Prop) (vs:Array Value),(∀g,R g->g<w.heap.size)->args.length=vs.size->(∀(j:Nat) a v,args[j]? =some a->vs[j]? =some v->RepP w R a v)->Calls P f vs w (RetOwn w.heap.size t (l.map (Value.int k)) w)):
  PureC P f args (.own 0 0 1 0 n) [⟨0,false,t,.rows 1 n g⟩]:=by
 subst hn
 intro w R vs hR hl ha
 refine(h w R vs hR hl ha).mono ?_
 rintro e w' ⟨v,rfl,hown,hb⟩
 have hlen:(l.map (Value.int k)).length=l.length:=iK _
 have hR': ∀g,R g->g<w'.heap.size:=fun g hg=>aK (hR g hg) hb.size
 rcases hown.2 with⟨rfl,h0⟩|⟨gg,cap,cur,rfl,hge,hh,hnc,hcm,hsz,htk⟩
 ·rw[hlen] at h0
  refine⟨_,⟨w',R,fun _=>none,fun i=>[(⟨0,false,t,.rows 1 l.length g⟩:Blk)][i]?,fun g=>g<w.heap.size⟩,rfl,rfl,rfl,⟨fun id b hb'=> ?_,fun _ _ _ _ _ _ _ h1 _=>(by cases h1),hR',fun g hg=>aK hg hb.size⟩,rfl,fun _ h=>h,fun _ h=> .inl h,hb, ?_⟩
  ·cases id with
   |zero=>
    simp only[bt,ac] at hb'
    subst hb'
    exact .inl ⟨rfl,h0⟩
   |succ i=>simp at hb'
  ·exact .own (b:=⟨0,false,t,.rows 1 l.length g⟩) rfl (ax _) rfl fun _=>⟨l.length,g,rfl,by omega,.inl ⟨rfl,rfl,h0,rfl⟩⟩
 ·rw[hlen] at hnc htk
  have hlt:gg<w'.heap.size:=(aC.1 hh).1
  refine⟨_,⟨w',R,fun i=>if i=0 then some (gg,cap) else none,fun i=>[(⟨0,false,t,.rows 1 l.length g⟩:Blk)][i]?,fun g=>g<w.heap.size⟩,rfl,rfl,rfl,⟨fun id b hb'=> ?_,fun i j _ _ _ _ _ h1 h2=> ?_,hR',fun g hg=>aK hg hb.size⟩,rfl,fun _ h=>h,fun _ h=> .inl h,hb, ?_⟩
  ·cases id with
   |zero=>
    simp only[bt,ac] at hb'
    subst hb'
    refine .inr ⟨gg,cap,cur,rfl,hh,hsz,hnc,hcm,fun i hi j hj=> ?_,dl.2 hge, ?_⟩
    ·obtain rfl:j=0:=by omega
     have h5:cur.toList[i]? =some (.int k (l.getD i 0)):=by
      have:=congrArg (fun(x:List Value)=>x[i]?) htk
      simp only[au] at this
      rw[a7,aw (by omega)] at this
      rw[this]
      simp[List.getD,hi]
     refine⟨.int k (l.getD i 0), ?_,rfl, ?_⟩
     ·rw[<-aQ,show i*1+0=i by omega]
      exact h5
     ·rw[hg i hi]
      exact .int _ _
    ·show ¬R gg
     intro hr
     have:=hR gg hr
     omega
   |succ i=>simp at hb'
  ·simp only at h1 h2
   split at h1
   ·split at h2
    ·omega
    ·cases h2
   ·cases h1
  ·refine .own (b:=⟨0,false,t,.rows 1 l.length g⟩) rfl (ax _) rfl fun _=>⟨l.length,g,rfl,by omega,.inr ⟨gg,cap,rfl, ?_⟩⟩
   rw[hlen]
   simp
end
end
section
open Go.RowKit
section
variable{P:Program}
theorem ij{cx:Cx}(hc:CRep cx):CRep ⟨cx.w,cx.R,fun _=>none,fun i=>([]:List Blk)[i]?,cx.B⟩:=
 ⟨fun id b hb=>(by simp at hb),fun _ _ _ _ _ _ _ h1 _=>(by cases h1),hc.rlt,hc.blt⟩
theorem ii{cx:Cx}{H:List Blk}(hc:CRep cx)(hH:cx.H=fun i=>H[i]?)(ids:List Nat): ∃cx1,CRep cx1∧cx1.w=cx.w∧Stab cx cx1∧
  ∀a v,Rep cx a v->(∀id∈bF a,id∈ids)->RepP cx1.w cx1.R (frz (fun i=>H[i]?) a) v:=by
 obtain⟨cx1,e1,hc1,hs1,e2,e3,e4,e5⟩:=bT ids hc
 refine⟨cx1,hc1,e2,hs1,fun a v hr hi=>fb hc1 (fun id b hb=>by rw[e1,hH];exact bD _ _ _ _ hb) (hr.stab hc hs1) fun id hid b g c hb hg=> ?_⟩
 obtain⟨b',hb'⟩:=an.1 (e5 id (by rw[hb];rfl))
 rw[e3] at hg
 exact e4 id b' g c (hi id hid) hb' hg
theorem PureC.frozen{f:FuncId}{args:List AV}{a:AV}{H:List Blk}(h:PureC P f args a H):PureC P f args (frz (fun i=>H[i]?) a) []:=by
 intro w R vs hR hl ha
 refine(h w R vs hR hl ha).mono ?_
 rintro e w' ⟨z,cx,rfl,rfl,k1,k2,k3,k4,k5,k6,k7⟩
 obtain⟨cx1,hc1,e2,hs1,hfr⟩:=ii k2 k1 (bF a)
 refine⟨z,⟨cx1.w,cx1.R,fun _=>none,fun i=>([]:List Blk)[i]?,cx1.B⟩,rfl,e2.symm,rfl,ij hc1,by rw[hs1.ext.B];exact k3,fun g hg=>hs1.ext.R g (k4 g hg),fun g hg=> ?_,k6,.pure (hfr a z k7 fun _ h=>h)⟩
 rcases hs1.ext.Rn g hg with h1 |h1
 ·exact k5 g h1
 ·rw[k3] at h1;exact .inr (dl.1 h1)
theorem PureC.lawB{f:FuncId}{args:List AV}{b:Bool}(h:PureC P f args (.bool b) []){W:World}{R:Nat->Prop}{vs:Array Value}(hR: ∀g,R g->g<W.heap.size)(hl:args.length=vs.size)(ha: ∀(j:Nat) a v,args[j]? =some a->vs[j]? =some v->RepP W R a v):Calls P f vs W (RetB (.bool b) W):=by
 refine(h W R vs hR hl ha).mono ?_
 rintro e w' ⟨z,cx,rfl,rfl,_,_,_,_,_,hb,hz⟩
 refine⟨?_,hb⟩
 cases hz with
 |pure h=>cases h;rfl
end
end
section
open Go.RowKit
def lK(id n:Nat):AV->Option (List Prop)
 | .own i _ _ off len=>bif Nat.beq i id then some [off+len<=n] else some []
 | .eptr i _ _ _ _=>bif Nat.beq i id then none else some []
 | .bsl .. =>none
 | .agg _=>none
 | .tup _=>none
 | .clo _ (_::_)=>none
 |_=>some []
def lJ(id n:Nat):List AV->Option (List Prop)
 | []=>some []
 |a::l=>(lK id n a).bind fun p=>(lJ id n l).map (p++ ·)
def o7(id n:Nat):AV->Option (List Prop)
 | .agg cs=>lJ id n cs
 | .clo _ (c::cs)=>lJ id n (c::cs)
 |a=>lK id n a
def nQ(id n:Nat):List (Nat×AV)->Option (List Prop)
 | []=>some []
 |q::l=>(o7 id n q.2).bind fun p=>(nQ id n l).map (p++ ·)
def kH(id n:Nat)(q:Nat×Blk):Option (Blk×List Prop):=
 match q.2.c with
 | .box cs=>bif Nat.beq q.1 id then none else(lJ id n cs).map fun p=>(q.2,p)
 | .rows m k f=>bif Nat.beq q.1 id then some ({q.2 with c:= .rows m n f},[n<=k]) else some (q.2,[])
def mv(id n:Nat):List (Nat×Blk)->Option (List (Nat×Blk)×List Prop)
 | []=>some ([],[])
 |q::l=>(kH id n q).bind fun b=>(mv id n l).map fun r=>((q.1,b.1)::r.1,b.2++r.2)
def nP(id n:Nat)(J:Sm):Option (Sm×List Prop):=
 (mv id n J.heap).bind fun h=>(nQ id n J.env).map fun p=>(⟨J.env,h.1,J.next⟩,h.2++p)
def oI(id n:Nat)(J:Sm)(r:List (Nat×Nat))(K:Sm):Prop:=
 match nP id n J with
 |some q=>match leS r q.1.st K with
  |some ps=>jF (q.2++ps)
  |none=>False
 |none=>False
section
variable{P:Program}
theorem jL{id n:Nat}: ∀{l:List (Nat×Blk)} {l':List (Nat×Blk)} {ps:List Prop},mv id n l=some (l',ps)->(∀p∈ps,p)-> ∀k,(aM l k=none∧aM l' k=none)∨ ∃b b' qs,aM l k=some b∧aM l' k=some b'∧kH id n (k,b)=some (b',qs)∧ ∀q∈qs,q
 | [],l',ps,h,hp,k=>by
  simp only[mv,ac,Prod.mk.injEq] at h
  obtain⟨rfl,rfl⟩:=h
  exact .inl ⟨rfl,rfl⟩
 | (i,b)::l,l',ps,h,hp,k=>by
  unfold mv at h
  obtain⟨q,hq,h⟩:=ab.1 h
  obtain⟨r,hr,h⟩:=aa.1 h
  simp only[Prod.mk.injEq] at h
  obtain⟨rfl,rfl⟩:=h
  unfold aM
  cases hk:Nat.beq k i with
  |true=>
   obtain rfl:=af hk
   exact .inr ⟨b,q.1,q.2,rfl,rfl,hq,fun x hx=>hp x (br _ hx)⟩
  |false=>exact jL (by rw[hr]) (fun x hx=>hp x (bq _ hx)) k
theorem jM{id n:Nat}: ∀{l:List (Nat×AV)} {ps:List Prop},nQ id n l=some ps->(∀p∈ps,p)-> ∀t, ∃qs,o7 id n (eN .junk l t)=some qs∧ ∀q∈qs,q
 | [],ps,h,hp,t=>⟨[],rfl,fun q hq=>by cases hq⟩
 | (i,a)::l,ps,h,hp,t=>by
  unfold nQ at h
  obtain⟨q,hq,h⟩:=ab.1 h
  obtain⟨r,hr,rfl⟩:=aa.1 h
  unfold eN
  cases hk:Nat.beq t i with
  |true=>exact⟨q,hq,fun x hx=>hp x (br _ hx)⟩
  |false=>exact jM hr (fun x hx=>hp x (bq _ hx)) t
theorem fO{id n:Nat}: ∀{l:List AV} {ps:List Prop},lJ id n l=some ps->(∀p∈ps,p)-> ∀(j:Nat) a,l[j]? =some a-> ∃qs,lK id n a=some qs∧ ∀q∈qs,q
 | [],ps,h,hp,j,a,ha=>by simp at ha
 |x::l,ps,h,hp,j,a,ha=>by
  unfold lJ at h
  obtain⟨q,hq,h⟩:=ab.1 h
  obtain⟨r,hr,rfl⟩:=aa.1 h
  cases j with
  |zero=>
   simp only[bt,ac] at ha
   subst ha
   exact⟨q,hq,fun x hx=>hp x (br _ hx)⟩
  |succ j=>exact fO hr (fun x hx=>hp x (bq _ hx)) j a (by simpa using ha)
theorem SRep.shr[Dfs]{cx:Cx}{J J':Sm}{a:Act}{nt id n:Nat}{ps:List Prop}(hs:SRep cx J.st a nt)(h:nP id n J=some (J',ps))(hp: ∀p∈ps,p): ∃cx',SRep cx' J'.st a nt∧Ext cx cx'∧cx'.w=cx.w:=by
 unfold nP at h
 obtain⟨q,hq,h⟩:=ab.1 h
 obtain⟨pe,he,h⟩:=aa.1 h
 simp only[Prod.mk.injEq] at h
 obtain⟨rfl,rfl⟩:=h
 have hget:=jL (l':=q.1) (ps:=q.2) hq fun p hp'=>hp p (br _ hp')
 have hget':=jM he fun p hp'=>hp p (bq _ hp')
 have hH:cx.H=aM J.heap:=hs.H
 have one: ∀(x:AV) (v:Value) (qs:List Prop),lK id n x=some qs->(∀q∈qs,q)->Rep cx x v->Rep ⟨cx.w,cx.R,cx.φ,aM q.1,cx.B⟩ x v:=by
  intro x v qs hx hqs hr
  cases x with
  |own i g m off len=>
   obtain⟨b,hb,hle,hO⟩:=hr.own_inv
   have ho:=hr.own_one
   rw[hH] at hb
   rcases hget i with⟨h1,_⟩|⟨b1,b2,rs,h1,h2,h3,h4⟩
   ·rw[hb] at h1;cases h1
   ·rw[hb] at h1;cases h1
    have hgen:b2.gen=b.gen:=by
     unfold kH at h3
     split at h3
     ·obtain⟨_,h3⟩:Nat.beq i id=false∧_:=by
       cases hk:Nat.beq i id with
       |true=>rw[hk] at h3;cases h3
       |false=>exact⟨rfl,by rw[hk] at h3;exact h3⟩
      simp only[aN] at h3
      obtain⟨p,_,h3⟩:=aa.1 h3
      cases h3;rfl
     ·cases hk:Nat.beq i id with
      |true=>rw[hk] at h3;simp only[aD,ac,Prod.mk.injEq] at h3;rw[<-h3.1]
      |false=>rw[hk] at h3;simp only[aN,ac,Prod.mk.injEq] at h3;rw[<-h3.1]
    refine .own h2 (by rw[hgen];exact hle) ho fun e=> ?_
    obtain⟨k,f,k1,k2,k3⟩:=hO (by rw[<-hgen];exact e)
    unfold kH at h3
    simp only[k1] at h3
    simp only[lK] at hx
    cases hk:Nat.beq i id with
    |true=>
     rw[hk] at h3 hx
     simp only[aD,ac,Prod.mk.injEq] at h3 hx
     subst hx
     have hlen:=hqs _ (ay.2 rfl)
     exact⟨n,f,by rw[<-h3.1],hlen,k3⟩
    |false=>
     rw[hk] at h3
     simp only[aN,ac,Prod.mk.injEq] at h3
     exact⟨k,f,by rw[<-h3.1];exact k1,k2,k3⟩
  |bptr i off=>
   obtain⟨g,cap,b,h1,h2,h3,rfl⟩:=hr.bptr_inv
   rw[hH] at h1
   rcases hget i with⟨h4,_⟩|⟨b1,b2,rs,h4,h5,h6,h7⟩
   ·rw[h1] at h4;cases h4
   ·rw[h1] at h4;cases h4
    refine .bptr h5 ?_ h3
    unfold kH at h6
    split at h6
    ·cases hk:Nat.beq i id with
     |true=>rw[hk] at h6;cases h6
     |false=>
      rw[hk] at h6
      simp only[aN] at h6
      obtain⟨p,_,h6⟩:=aa.1 h6
      cases h6;exact h2
    ·rename_i m kk f hc
     have hc':b.c= .rows m kk f:=hc
     rw[hc'] at h2;cases h2
  |eptr i g m k j=>
   simp only[lK] at hx
   obtain⟨b,hb,hle,hE⟩:=hr.eptr_inv
   have ho:=hr.eptr_ptr
   rw[hH] at hb
   cases hk:Nat.beq i id with
   |true=>rw[hk] at hx;cases hx
   |false=>
    rcases hget i with⟨h1,_⟩|⟨b1,b2,rs,h1,h2,h3,h4⟩
    ·rw[hb] at h1;cases h1
    ·rw[hb] at h1;cases h1
     have e2:b2=b:=by
      unfold kH at h3
      simp only[hk,aN] at h3
      split at h3
      ·obtain⟨p,_,h3⟩:=aa.1 h3
       cases h3;rfl
      ·cases h3;rfl
     subst e2
     exact .eptr h2 hle ho hE
  |bsl i m k=>cases hx
  |agg cs=>cases hx
  |tup cs=>cases hx
  |clo f cs=>
   cases cs with
   |cons c cs=>cases hx
   |nil=>
    obtain⟨vs,rfl,hl,_⟩:=hr.clo_inv
    exact .clo hl fun j a v ha _=>by simp at ha
  |_=>cases hr with |pure h=>exact .pure h
 have val: ∀(x:AV) (v:Value) (qs:List Prop),o7 id n x=some qs->(∀q∈qs,q)->Rep cx x v->Rep ⟨cx.w,cx.R,cx.φ,aM q.1,cx.B⟩ x v:=by
  intro x v qs hx hqs hr
  cases x with
  |agg cs=>
   obtain⟨vs,rfl,h1,h2,h3⟩:=hr.agg_inv
   refine .agg h1 h2 fun j y u hy hu=> ?_
   obtain⟨rs,r1,r2⟩:=fO hx hqs j y hy
   exact one y u rs r1 r2 (h3 j y u hy hu)
  |clo f cs=>
   cases cs with
   |nil=>exact one _ _ _ hx hqs hr
   |cons c cs=>
    obtain⟨vs,rfl,hl,h3⟩:=hr.clo_inv
    refine .clo hl fun j y u hy hu=> ?_
    obtain⟨rs,r1,r2⟩:=fO hx hqs j y hy
    exact one y u rs r1 r2 (h3 j y u hy hu)
  |_=>exact one _ _ _ hx hqs hr
 refine⟨⟨cx.w,cx.R,cx.φ,aM q.1,cx.B⟩,⟨rfl,⟨fun k b hb=> ?_,fun k k' g c c' h1 h2 h3 h4=> ?_,hs.c.rlt,hs.c.blt⟩,fun t=> ?_,fun k hk=> ?_,hs.sz,hs.df⟩,⟨rfl,fun _ h=>h,fun _ h=> .inl h,rfl,rfl,rfl,ax _,fun _ _ _=>rfl⟩,rfl⟩
 ·rcases hget k with⟨_,h1⟩|⟨b1,b2,rs,h1,h2,h3,h4⟩
  ·have hb':aM q.1 k=some b:=hb
   rw[h1] at hb';cases hb'
  ·have hb':aM q.1 k=some b:=hb
   rw[h2] at hb';cases hb'
   have hold:=hs.c.hb k b1 (by rw[hH];exact h1)
   unfold kH at h3
   unfold HB at hold ⊢
   split at h3
   ·rename_i cs hcs'
    have hcs:b1.c= .box cs:=hcs'
    cases hk:Nat.beq k id with
    |true=>rw[hk] at h3;cases h3
    |false=>
     rw[hk] at h3
     simp only[aN] at h3
     obtain⟨p,hp1,h3⟩:=aa.1 h3
     simp only[Prod.mk.injEq] at h3
     obtain⟨rfl,rfl⟩:=h3
     rw[hcs] at hold ⊢
     simp only at hold ⊢
     obtain⟨g,cur,c1,c2,c3,c4,c5,c6⟩:=hold
     refine⟨g,cur,c1,c2,c3,fun j x hx=> ?_,c5,c6⟩
     obtain⟨u,u1,u2,u3⟩:=c4 j x hx
     obtain⟨ss,s1,s2⟩:=fO hp1 h4 j x hx
     exact⟨u,u1,u2,one x u ss s1 s2 u3⟩
   ·rename_i m kk f hcs'
    have hcs:b1.c= .rows m kk f:=hcs'
    rw[hcs] at hold
    simp only at hold
    cases hk:Nat.beq k id with
    |true=>
     rw[hk] at h3
     simp only[aD,ac,Prod.mk.injEq] at h3
     obtain⟨rfl,rfl⟩:=h3
     have hle:=h4 _ (ay.2 rfl)
     rcases hold with⟨c1,c2⟩|⟨g,cap,cur,c1,c2,c3,c4,c5,c6,c7⟩
     ·exact .inl ⟨c1,by omega⟩
     ·exact .inr ⟨g,cap,cur,c1,c2,c3,by omega,c5,fun i hi j hj=>c6 i (by omega) j hj,c7⟩
    |false=>
     rw[hk] at h3
     simp only[aN,ac,Prod.mk.injEq] at h3
     obtain⟨rfl,rfl⟩:=h3
     rw[hcs]
     exact hold
 ·have conv: ∀i,(aM q.1 i).isSome=true->(cx.H i).isSome=true:=fun i hi=>by
   rw[hH]
   rcases hget i with⟨_,e1⟩|⟨b1,b2,rs,e1,e2,_⟩
   ·rw[e1] at hi;cases hi
   ·rw[e1];rfl
  exact hs.c.inj k k' g c c' (conv k h1) (conv k' h2) h3 h4
 ·obtain⟨rs,r1,r2⟩:=hget' t
  exact val _ _ rs r1 r2 (hs.env t)
 ·have hi:(aM q.1 k).isSome=true:=hk
  have:(cx.H k).isSome=true:=by
   rw[hH]
   rcases hget k with⟨_,e1⟩|⟨b1,b2,rs,e1,e2,_⟩
   ·rw[e1] at hi;cases hi
   ·rw[e1];rfl
  rw[hs.H] at this
  exact hs.lt k this
theorem Ok.shr{nt:Nat}{c:Code}{I:St}{x:X}{id n:Nat}{J K:Sm}{r:List (Nat×Nat)}(h:Ok P nt c I x J.st)(hv:Vc (oI id n J r K)):Ok P nt c I x K.st:=by
 replace hv:=hv.out
 unfold oI at hv
 split at hv
 ·rename_i q hq
  split at hv
  ·rename_i ps hps
   have hall:=eT hv
   intro d0 cx a hs Q hQ
   refine h d0 cx a hs Q fun d1 cx1 a1 hs1 ha1=> ?_
   obtain⟨cx1p,hw,hs1p,hk⟩:=ha1.plus hs1
   obtain⟨cx2,hs2,he2,hw2⟩:=hs1p.shr hq fun p hp=>hall p (br _ hp)
   obtain⟨cx3,hs3,he3,hw3⟩:=hs2.le hps fun p hp=>hall p (bq _ hp)
   obtain⟨cx4,e4,hs4,ha4⟩:=hk d1 cx3 _ a1 _ hs3 (.of_ext (he2.trans he3))
   rw[<-hw, <-hw2, <-hw3, <-e4]
   exact hQ d1 cx4 a1 hs4 ha4
  ·cases hv
 ·cases hv
theorem PureC.frozenT{f:FuncId}{args l:List AV}{H:List Blk}(h:PureC P f args (.tup l) H):PureC P f args (.tup (l.map (frz (fun i=>H[i]?)))) []:=by
 intro w R vs hR hl ha
 refine(h w R vs hR hl ha).mono ?_
 rintro e w' ⟨z,cx,rfl,rfl,k1,k2,k3,k4,k5,k6,k7⟩
 obtain⟨cx1,hc1,e2,hs1,hfr⟩:=ii k2 k1 (l.flatMap bF)
 have hz:RepP cx1.w cx1.R (.tup (l.map (frz (fun i=>H[i]?)))) z:=by
  obtain⟨us,rfl,h1,h2⟩: ∃us:Array Value,z= .tuple us∧l.length=us.size∧ ∀(j:Nat) x v,l[j]? =some x->us[j]? =some v->Rep cx x v:=by
   cases k7 with
   |pure h=>cases h with
    |tup hl h=>exact⟨_,rfl,hl,fun j x v h1 h2=> .pure (h j x v h1 h2)⟩
   |tup hl h=>exact⟨_,rfl,hl,h⟩
  refine .tup (by simpa using h1) fun j x v hx hv=> ?_
  rw[au] at hx
  obtain⟨y,hy,rfl⟩:=aa.1 hx
  exact hfr y v (h2 j y v hy hv) fun i hi=>aU.2 ⟨y,aH hy,hi⟩
 refine⟨z,⟨cx1.w,cx1.R,fun _=>none,fun i=>([]:List Blk)[i]?,cx1.B⟩,rfl,e2.symm,rfl,ij hc1,by rw[hs1.ext.B];exact k3,fun g hg=>hs1.ext.R g (k4 g hg),fun g hg=> ?_,k6,.pure hz⟩
 rcases hs1.ext.Rn g hg with h1 |h1
 ·exact k5 g h1
 ·rw[k3] at h1;exact .inr (dl.1 h1)
end
end
end Go.Proofs.Ytdanmboalfmifaa.Rx
namespace Go.Proofs.Ytdanmboalfmifaa.Px
section
open Go.RowKit Go.Proofs.Ytdanmboalfmifaa.Rx
def lN(l:List Int):Nat->Nat->AV:=fun i _=> .int .i64 (l.getD i 0)
def lR(l:List Int):AV:= .row 1 l.length (lN l)
end
end Go.Proofs.Ytdanmboalfmifaa.Px
namespace Go.Proofs.Ytdanmboalfmifaa.Rx
section
open Go.RowKit
theorem rf{α:Type}(a:α):a=a:=rfl
theorem rr(n m:Nat)(f:Nat->Nat->AV): ∀i,i<n-> ∀j,j<m->f i j=f i j:=fun _ _ _ _=>rfl
abbrev RF{α:Type}(a:α)(Z:Prop):Prop:=a=a∧Z
abbrev RR(n m:Nat)(f:Nat->Nat->AV)(Z:Prop):Prop:=(∀i,i<n-> ∀j,j<m->f i j=f i j)∧Z
theorem cj{a b:Prop}(x:a)(y:b):a∧b:=⟨x,y⟩
theorem aL{p q:Prop}(hq:q)(h:p=q:=by kernel_rfl):Vc p:=⟨h.mpr hq⟩
theorem i6(n:Int)(h1: -9223372036854775808<=n:=by omega)(h2:n<=9223372036854775807:=by omega):inK .i64 n:=⟨h1,h2⟩
theorem dt(p:Prop)[Decidable p](h:p:=by first |omega | (simp;omega)| (simp;done)):decide p=true:=fK h
theorem df(p:Prop)[Decidable p](h: ¬p:=by first |omega | (simp;omega)| (simp;done)):decide p=false:=bW h
theorem pv(p:Prop)(h:p:=by first |omega |rfl | (simp;done)| (simp;omega)):p:=h
abbrev aI(n:Int):AV:= .int .i64 n
theorem ap(x y s:Nat)(h:(x+y)*s<=140737488355328:=by omega)(h2:x+y<=140737488355328:=by omega):(0:Nat)=0∧x=x∧(x+y)*s<=140737488355328∧x+y<=140737488355328:=⟨rfl,rfl,h,h2⟩
theorem bi(a b:Int)(h:0<=a:=by omega)(h2:a<b:=by omega):0<=a∧a<b:=⟨h,h2⟩
theorem e1(a b:Int)(h:a=b:=by omega):(a==b)=true:=bz.2 h
theorem e0(a b:Int)(h:a≠b:=by omega):(a==b)=false:=ae.2 h
theorem n1(a b:Int)(h:a≠b:=by omega):(a !=b)=true:=fL.2 h
theorem n0(a b:Int)(h:a=b:=by omega):(a !=b)=false:=cP.2 h
section
variable{P:Program}
def OkL(P:Program)(nt:Nat)(c:Code)(I:St)(x:X)(J:St):Prop:=
 ∃n, ∀(d:Dfs) cx a,SRep cx I a nt-> ∀Q:Exit->Act->World->Prop,(∀(d':Dfs) cx' a', @SRep d' cx' J a' nt->After true d cx d' cx'->Q x.to a' cx'.w)->Code.rounds P c Q n a cx.w
theorem OkL.exit{nt:Nat}{c:Code}{I J:St}{x:X}(h:Ok P nt c I x J)(hx:x≠ .nrm):OkL P nt c I x J:=by
 refine⟨1,fun d cx a hs Q hQ=> ?_⟩
 rw[rounds_succ]
 refine h d cx a hs _ fun d2 cx2 a2 hs2 he2=> ?_
 have:=hQ d2 cx2 a2 hs2 he2
 cases x with
 |nrm=>exact absurd rfl hx
 |ext id=>exact this
 |ret=>exact this
theorem OkL.step{nt:Nat}{c:Code}{I J K:St}{x:X}(h1:Ok P nt c I .nrm K)(h2:OkL P nt c K x J):OkL P nt c I x J:=by
 obtain⟨n,h2⟩:=h2
 refine⟨n+1,fun d cx a hs Q hQ=> ?_⟩
 rw[rounds_succ]
 refine h1 d cx a hs _ fun d2 cx2 a2 hs2 ha2=> ?_
 obtain⟨cx2p,hw,hs2p,hk⟩:=ha2.plus hs2
 show Code.rounds _ _ _ _ _ cx2.w
 rw[<-hw]
 exact h2 d2 cx2p a2 hs2p Q fun d3 cx3 a3 hs3 ha3=>by
  obtain⟨cx4,e4,hs4,ha4⟩:=hk d3 cx3 _ a3 _ hs3 ha3
  rw[<-e4]
  exact hQ d3 cx4 a3 hs4 ha4
theorem OkL.ok{nt:Nat}{c:Code}{I J:St}{x:X}(h:OkL P nt c I x J):Ok P nt (.loop c) I x J:=by
 obtain⟨n,h⟩:=h
 exact fun d cx a hs Q hQ=>wp_loop_rounds n (h d cx a hs Q hQ)
end
end
end Go.Proofs.Ytdanmboalfmifaa.Rx
namespace Go.Proofs.Ytdanmboalfmifaa.Px
section
open Go.RowKit Go.Proofs.Ytdanmboalfmifaa.Rx
def xcS(A B:AV)(k:Nat):Sm:=⟨[(0,A),(1,B),(5,.int .i64 k),(4,.bool false)],[],0⟩
def xfS:Sm:=⟨[(4,.bool false)],[],0⟩
theorem pn{α:Type}{d:α}{a b:List α}(hl:a.length=b.length)(h: ∀i,i<a.length->a.getD i d=b.getD i d):a=b:=by
 apply List.ext_getElem hl
 intro i h1 h2
 have:=h i h1
 simpa [List.getD,h1,h2] using this
theorem pI(a:List Int)(b:List Int){Z:Prop}(z:Z):(RF a.length (RR a.length 1 (fun i j=>aI (a.getD i 0)) (RF b.length (RR b.length 1 (fun i j=>aI (b.getD i 0)) Z)))):=⟨rfl,fun _ _ _ _=>rfl,rfl,fun _ _ _ _=>rfl,z⟩
abbrev vC_(f:FuncId)(k:Nat):=vcC Try.prog false (lS Try.prog f) (lpC Try.prog f k)
abbrev vF_:=o4 Try.prog false
abbrev oL_(f:FuncId)(k:Nat):=Ok Try.prog (lS Try.prog f) (.loop (lpC Try.prog f k))
abbrev pC_:=PureC Try.prog
theorem oR(a b:List Int)(k:Nat)(hl:a.length=b.length)(hk:k<a.length)(hb:a.length<1000000000)(he:(a.getD k 0)=(b.getD k 0)):Vc (vC_ 32 0 (xcS (lR a) (lR b) k) [.bd true,.bd false] .nrm [] (xcS (lR a) (lR b) (k+1))):=aL (cj (dt ((k:Int)<a.length)) (cj (bi k a.length) (cj (bi k b.length) (cj (show(a.getD k 0 !=b.getD k 0)=false from by rw[he];simp) (cj (i6 (k+1)) (pI a b (cj (rf ((k:Int)+1)) (cj (rf false) trivial))))))))
theorem qo(a b:List Int)(k:Nat)(hl:a.length=b.length)(hk:k<a.length)(hb:a.length<1000000000)(he:(a.getD k 0)≠(b.getD k 0)):Vc (vC_ 32 0 (xcS (lR a) (lR b) k) [.bd true,.bd true] .ret [] xfS):=aL (cj (dt ((k:Int)<a.length)) (cj (bi k a.length) (cj (bi k b.length) (cj (fL.2 he) (cj (rf false) trivial)))))
theorem qr(a b:List Int)(k:Nat)(hl:a.length=b.length)(hk: ¬k<a.length)(hk2:k<1000000000):Vc (vC_ 32 0 (xcS (lR a) (lR b) k) [.bd false] (.ext 0) [] (xcS (lR a) (lR b) k)):=aL (cj (df ((k:Int)<a.length)) (pI a b (cj (rf (k:Int)) (cj (rf false) trivial))))
theorem lr(a b:List Int)(hl:a.length=b.length)(hb:a.length<1000000000)(h: ∀i,i<a.length->a.getD i 0=b.getD i 0): ∀j k,k+j=a.length->OkL Try.prog (lS Try.prog 32) (lpC Try.prog 32 0) (xcS (lR a) (lR b) k).st (.ext 0) (xcS (lR a) (lR b) a.length).st
 |0,k,hk=>by
  obtain rfl:k=a.length:=by omega
  exact OkL.exit (Ok.vc (qr a b _ hl (bL _) hb)) (by simp)
 |j+1,k,hk=>OkL.step (Ok.vc (oR a b k hl (by omega) hb (h k (by omega)))) (lr a b hl hb h j (k+1) (by omega))
theorem lq(a b:List Int)(hl:a.length=b.length)(hb:a.length<1000000000): ∀j k,k+j=a.length->(∃i,k<=i∧i<a.length∧a.getD i 0≠b.getD i 0)->OkL Try.prog (lS Try.prog 32) (lpC Try.prog 32 0) (xcS (lR a) (lR b) k).st .ret (xfS).st
 |0,k,hk,h=>by obtain⟨i,h1,h2,_⟩:=h;omega
 |j+1,k,hk,h=>by
  by_cases he:(a.getD k 0)=(b.getD k 0)
  ·obtain⟨i,h1,h2,h3⟩:=h
   have:i≠k:=fun e=>by subst e;exact h3 he
   exact OkL.step (Ok.vc (oR a b k hl (by omega) hb he)) (lq a b hl hb j (k+1) (by omega) ⟨i,by omega,h2,h3⟩)
  ·exact OkL.exit (Ok.vc (qo a b k hl (by omega) hb he)) (by simp)
theorem qp(a b:List Int)(hl: ¬a.length=b.length):Vc (vF_ 32 [lR a,lR b] [.bd true] [] (.bool false) []):=aL (cj (show((a.length:Int) !=(b.length:Int))=true from(fL.2 (by omega))) (cj (rf false) trivial))
theorem pH(a:List Int)(b:List Int){Z:Prop}(z:Z):(RF a.length (RR a.length 1 (fun i j=>aI (a.getD i 0)) (RF b.length (RR b.length 1 (fun i j=>aI (b.getD i 0)) (RF (0:Int) (RF false Z)))))):=⟨rfl,fun _ _ _ _=>rfl,rfl,fun _ _ _ _=>rfl,rfl,rfl,z⟩
theorem qn(a b:List Int)(n:Nat)(hl:a.length=b.length)(h:oL_ 32 0 (xcS (lR a) (lR b) 0).st (.ext 0) (xcS (lR a) (lR b) n).st):Vc (vF_ 32 [lR a,lR b] [.bd false,.lp [] (xcS (lR a) (lR b) 0) (.ext 0) (xcS (lR a) (lR b) n)] [] (.bool true) []):=aL (cj (show((a.length:Int) !=(b.length:Int))=false from(cP.2 (by omega))) (pH a b (cj h (cj (rf true) trivial))))
theorem qq(a b:List Int)(hl:a.length=b.length)(h:oL_ 32 0 (xcS (lR a) (lR b) 0).st .ret (xfS).st):Vc (vF_ 32 [lR a,lR b] [.bd false,.lp [] (xcS (lR a) (lR b) 0) .ret xfS] [] (.bool false) []):=aL (cj (show((a.length:Int) !=(b.length:Int))=false from(cP.2 (by omega))) (pH a b (cj h (cj (rf false) trivial))))
theorem ro(a b:List Int)(hb:a.length<1000000000):pC_ 32 [lR a,lR b] (.bool (decide (a=b))) []:=by
 by_cases hl:a.length=b.length
 ·by_cases h: ∀i,i<a.length->a.getD i 0=b.getD i 0
  ·rw[fK (pn hl h)]
   exact PureC.vc (qn a b _ hl (lr a b hl hb h a.length 0 (by omega)).ok)
  ·rw[bW (fun e=>h fun i _=>by rw[e])]
   refine PureC.vc (qq a b hl (lq a b hl hb a.length 0 (by omega) ?_).ok)
   apply Classical.byContradiction
   intro hn
   exact h fun i hi=>Classical.byContradiction fun he=>hn ⟨i,bK _,hi,he⟩
 ·rw[bW (fun e=>hl (by rw[e]))]
  exact PureC.vc (qp a b hl)
end
end Go.Proofs.Ytdanmboalfmifaa.Px
namespace Go.Proofs.Ytdanmboalfmifaa
section
open Go.RowKit
namespace Wd
def okB(w:Int):Bool:=decide (1<=w)&&decide (w<=16)
def maskV(w n:Int):Int:=if okB w=true then n%2^w.toNat else 0
def rJ(x y:Int):Int:=((x.toNat&&&y.toNat:Nat):Int)
def orI(x y:Int):Int:=((x.toNat|||y.toNat:Nat):Int)
def qW(x y:Int):Int:=((x.toNat^^^y.toNat:Nat):Int)
def rn(op x y:Int):Int:=
 if op=1 then x+y else if op=2 then x-y else if op=3 then rJ x y else if op=4 then orI x y else if op=5 then qW x y
 else if op=6 then x*2^y.toNat else if op=7 then x/2^y.toNat else if op=8 then x*y
 else if op=9 then(if x<y then 1 else 0) else if op=10 then(if x=y then 1 else 0) else 0
def doV(w op a b:Int):Int:=maskV w (rn op (maskV w a) (maskV w b))
theorem n9{w:Int}:okB w=true↔1<=w∧w<=16:=by simp[okB]
theorem n8{w:Int}(h:okB w=true): ∃k:Nat,w=k∧1<=k∧k<=16:=by
 rw[n9] at h;exact⟨w.toNat,by omega,by omega,by omega⟩
theorem kN{k:Nat}(h:k<=16):(2:Int)^k<=65536:=by
 have:(2:Nat)^k<=2^16:=Nat.pow_le_pow_right (by omega) h
 have h2:((2^k:Nat):Int)<=((2^16:Nat):Int):=by exact_mod_cast this
 simpa using h2
theorem jm(k:Nat):(1:Int)<=2^k:=by
 have:1<=2^k:=Nat.one_le_two_pow
 have h2:((1:Nat):Int)<=((2^k:Nat):Int):=by exact_mod_cast this
 simpa using h2
theorem maskV_bd(w n:Int):0<=maskV w n∧maskV w n<65536:=by
 unfold maskV;split
 ·rename_i h
  obtain⟨k,rfl,_,hk⟩:=n8 h
  have h1:=kN hk;have h2:=jm k
  simp only[dE]
  have:=Int.emod_nonneg n (b:=2^k) (by omega);have:=Int.emod_lt_of_pos n (b:=2^k) (by omega);omega
 ·omega
theorem bits_mask(n:Int)(k:Nat)(hk:k<=16):bits .and .i64 n (2^k-1)=n%2^k:=by
 have e:(BitVec.ofInt 64 n&&&BitVec.ofInt 64 (2^k-1)).toNat=(n%2^k).toNat:=by
  have h2:(2:Int)^k<=65536:=kN hk
  have h3:=jm k
  have e1:(BitVec.ofInt 64 ((2:Int)^k-1)).toNat=2^k-1:=by
   have h4:2^k<=65536:=by have:=Nat.pow_le_pow_right (n:=2) (by omega) hk;simpa using this
   have h5:1<=2^k:=Nat.one_le_two_pow
   have:((2:Int)^k-1)=((2^k-1:Nat):Int):=by
    rw[Int.ofNat_sub h5];simp
   rw[this,BitVec.ofInt_natCast,BitVec.toNat_ofNat];omega
  rw[BitVec.toNat_and,e1,Nat.and_two_pow_sub_one_eq_mod,BitVec.toNat_ofInt]
  have h6:(2:Nat)^64=2^k*2^(64-k):=by rw[<-Nat.pow_add];congr 1;omega
  have h7:((2^64:Nat):Int)=2^k*2^(64-k):=by rw[h6];simp
  have h8:(((n%((2^64:Nat):Int)).toNat%2^k:Nat):Int)=n%2^k:=by
   have:=Int.emod_nonneg n (b:=((2^64:Nat):Int)) (by omega)
   rw[Int.natCast_emod,Int.toNat_of_nonneg this,Int.natCast_pow]
   exact Int.emod_emod_of_dvd n ⟨2^(64-k),h7⟩
  omega
 show IntKind.i64.wrap (((BitVec.ofInt 64 n&&&BitVec.ofInt 64 (2^k-1):BitVec 64).toNat:Nat):Int)=_
 have h2:(2:Int)^k<=65536:=kN hk
 have h3:=jm k
 have:=Int.emod_nonneg n (b:=2^k) (by omega);have:=Int.emod_lt_of_pos n (b:=2^k) (by omega)
 rw[e,Int.toNat_of_nonneg (by omega)]
 exact IntWalk.i64_in _ (by omega)
def tI(b:Bool):Int:=if b=true then 1 else 0
end Wd
end
end Go.Proofs.Ytdanmboalfmifaa
namespace Go.Proofs.Ytdanmboalfmifaa.Px
section
open Go.RowKit Go.Proofs.Ytdanmboalfmifaa.Rx
structure Mm where
 nm:ByteArray
 sec:Bool
 n:Nat
instance:Inhabited Mm:=⟨⟨.empty,false,0⟩⟩
structure Pl where
 reg:Bool
 n:Nat
 sec:Bool
 deriving Inhabited
def mmC(m:Mm)(j:Nat):AV:=[.str m.nm,.bool m.sec,.int .i64 m.n].getD j .junk
def plC(p:Pl)(j:Nat):AV:=[.bool p.reg,.int .i64 p.n,.bool p.sec].getD j .junk
def rp(ms:List Mm):AV:= .row 3 ms.length (aY mmC ms)
def nO:List Mm->Nat
 | []=>0
 |m::l=>m.n+nO l
def rg(r0 r1 r2 r3:Int)(i:Nat):Int:=[r0,r1,r2,r3].getD i 0
def qh(r:Nat->Int):Nat->List Pl
 |0=>[]
 |k+1=>qh r k++(if r k=0 then[] else[⟨true,k,r k==2⟩])
def rH(sec:Bool)(at_ k:Nat):List Pl:=(List.range k).map fun i=>⟨false,at_+i,sec⟩
def qt:Nat->List Mm->List Pl
 |_,[]=>[]
 |at_,m::l=>rH m.sec at_ m.n++qt (at_+m.n) l
def rI(e:TypeId)(cs:List AV):Nat×Blk:=(0,⟨0,false,e,.box cs⟩)
def plB(l:List Pl):Blk:=⟨0,false,91,.rows 3 l.length (aY plC l)⟩
def places(r:Nat->Int)(ms:List Mm):List Pl:=qh r 4++qt 0 ms
def h7(cs:List AV)(l:List Pl):List (Nat×Blk):=[rI 33 cs,(1,plB l)]
structure S7 where
 r0:Int
 r1:Int
 r2:Int
 r3:Int
 m:List Int
def bx(e:TypeId)(cs:List AV):Blk:=⟨0,false,e,.box cs⟩
def aP(l:List Int):Blk:=⟨0,false,3,.rows 1 l.length (lN l)⟩
theorem mG{m:List Int}{n i j:Nat}{v:Int}{a:AV}(hi:i<m.length)(ha:a= .int .i64 v):(bif Nat.beq i n then a else lN m i j)=lN (m.set n v) i j:=by
 unfold lN
 subst ha
 by_cases h:i=n
 ·subst h
  simp[List.getD,hi]
 ·have:Nat.beq i n=false:=by
   cases hb:Nat.beq i n with
   |false=>rfl
   |true=>exact absurd (af hb) h
  rw[this]
  simp[List.getD,f7,Ne.symm h]
theorem nT{m:List Int}{n:Nat}{v:Int}: ∀i,i<m.length-> ∀j,j<1->(bif Nat.ble 0 j&&Nat.blt j 1&&Nat.beq i (n+0) then[AV.int .i64 v].getD (j-0) .junk else AV.int .i64 (m.getD i 0))= .int .i64 ((m.set n v).getD i 0):=by
 intro i hi j hj
 obtain rfl:j=0:=by omega
 show(bif Nat.beq i n then AV.int .i64 v else AV.int .i64 (m.getD i 0))=_
 exact mG (m:=m) (i:=i) (j:=0) (n:=n) (v:=v) hi rfl
structure Vl where
 reg:Bool
 n:Int
structure In where
 kind:Int
 op:Int
 d:Int
 a:Vl
 b:Vl
 nm:ByteArray
 tg:Int
structure Lb where
 nm:ByteArray
 at_:Int
structure Pg where
 W:Int
 win:Int
 fuel:Int
 r0:Int
 r1:Int
 r2:Int
 r3:Int
 ms:List Mm
 ls:List Lb
 is:List In
structure S8 where
 r0:Int
 r1:Int
 r2:Int
 r3:Int
 m:List Int
 st:List Int
 pc:Int
structure Ob where
 k:Int
 a:Int
def In0:In:=⟨0,0,0,⟨false,0⟩,⟨false,0⟩,⟨#[]⟩,0⟩
instance:Inhabited In:=⟨In0⟩
instance:Inhabited Lb:=⟨⟨⟨#[]⟩,0⟩⟩
instance:Inhabited Ob:=⟨⟨0,0⟩⟩
def inA(i:In):List AV:=[.int .i64 i.kind,.int .i64 i.op,.int .i64 i.d,.bool i.a.reg,.int .i64 i.a.n,.bool i.b.reg,.int .i64 i.b.n,.str i.nm,.int .i64 i.tg]
def inC(i:In)(j:Nat):AV:=(inA i).getD j .junk
def inR(l:List In):AV:= .row 9 l.length (aY inC l)
def lbC(l:Lb)(j:Nat):AV:=[AV.str l.nm,.int .i64 l.at_].getD j .junk
def lbR(l:List Lb):AV:= .row 2 l.length (aY lbC l)
def pgA(p:Pg):List AV:=[.int .i64 p.W,.int .i64 p.win,.int .i64 p.fuel,.int .i64 p.r0,.int .i64 p.r1,.int .i64 p.r2,.int .i64 p.r3,rp p.ms,lbR p.ls,inR p.is]
def s8A(s:S8)(am ak:AV):List AV:=[.int .i64 s.r0,.int .i64 s.r1,.int .i64 s.r2,.int .i64 s.r3,am,ak,.int .i64 s.pc]
def atI(p:Pg)(pc:Int):In:=if 0<=pc∧pc<p.is.length then p.is.getD pc.toNat default else{In0 with kind:=12}
def S8.reg(s:S8)(n:Int):Int:=if n=0 then s.r0 else if n=1 then s.r1 else if n=2 then s.r2 else s.r3
def S8.set(s:S8)(n v:Int):S8:=⟨if n=0 then v else s.r0,if n=1 then v else s.r1,if n=2 then v else s.r2,if n=3 then v else s.r3,s.m,s.st,s.pc⟩
def vlV(W:Int)(s:S8)(v:Vl):Int:=if v.reg=true then s.reg v.n else Wd.maskV W v.n
def okV(v:Vl):Prop:=v.reg=true->0<=v.n∧v.n<4
def okR(s:S8):Prop:=(0<=s.r0∧s.r0<65536)∧(0<=s.r1∧s.r1<65536)∧(0<=s.r2∧s.r2<65536)∧(0<=s.r3∧s.r3<65536)
def OkI(i:In)(len:Int):Prop:=(1<=i.kind∧i.kind<=12)∧okV i.a∧okV i.b∧(0<=i.d∧i.d<4)∧(0<=i.tg∧i.tg<=len)
structure OkP (p:Pg):Prop where
 ins: ∀i∈p.is,OkI i p.is.length
 len:p.is.length<1000
 ms:p.ms.length<1000
 sum:nO p.ms<=16
structure OkS (c len:Int) (s:S8):Prop where
 reg:okR s
 mem: ∀x∈s.m,0<=x∧x<65536
 c:c=s.m.length
 pc: -1<=s.pc∧s.pc<=len
 st:s.st.length<=100
 stk: ∀x∈s.st, -1<=x∧x<=len
def s8R(s:S8):List AV:=s8A s (lR s.m) (lR s.st)
theorem pp{n:Int}(h0:0<=n)(h1:n<4):n=0∨n=1∨n=2∨n=3:=by omega
theorem nE{p:Pg}{pc:Int}(h0:0<=pc)(h1:pc<p.is.length):atI p pc=p.is.getD pc.toNat default:=aw ⟨h0,h1⟩
theorem jE{p:Pg}{pc:Int}(h: ¬(0<=pc∧pc<p.is.length)):atI p pc={In0 with kind:=12}:=al h
theorem ql:okV ⟨false,0⟩:=fun h=>by cases h
theorem nD{p:Pg}(h:OkP p)(pc:Int):OkI (atI p pc) p.is.length∧((atI p pc).kind≠12->0<=pc∧pc<p.is.length):=by
 by_cases hp:0<=pc∧pc<p.is.length
 ·rw[nE hp.1 hp.2]
  refine⟨h.ins _ ?_,fun _=>hp⟩
  have hlt:pc.toNat<p.is.length:=by omega
  simp[List.getD,hlt]
 ·rw[jE hp]
  exact⟨⟨⟨by show(1:Int)<=12;decide,by show(12:Int)<=12;decide⟩,ql,ql,⟨by show(0:Int)<=0;decide,by show(0:Int)<4;decide⟩,by show(0:Int)<=0;decide,by show(0:Int)<=_;omega⟩,fun hk=>absurd rfl hk⟩
end
end Go.Proofs.Ytdanmboalfmifaa.Px
namespace Go.Proofs.Ytdanmboalfmifaa
section
open Go.RowKit
namespace Wd
end Wd
namespace Wd
end Wd
end
end Go.Proofs.Ytdanmboalfmifaa
namespace Go.Proofs.Ytdanmboalfmifaa.Px
section
open Go.RowKit Go.Proofs.Ytdanmboalfmifaa.Rx
structure En where
 pc:Int
 val:Int
 adr:Int
 frm:Int
 nxt:Int
 dn:Bool
 kn:Bool
 ft:Bool
 deriving DecidableEq
def En0:En:=⟨0,0,0,0,0,false,false,false⟩
instance:Inhabited En:=⟨En0⟩
def enA(e:En):List AV:=[.int .i64 e.pc,.int .i64 e.val,.int .i64 e.adr,.int .i64 e.frm,.int .i64 e.nxt,.bool e.dn,.bool e.kn,.bool e.ft]
def enC(e:En)(j:Nat):AV:=(enA e).getD j .junk
def enR(l:List En):AV:= .row 8 l.length (aY enC l)
def enB(l:List En):Blk:=⟨0,false,35,.rows 8 l.length (aY enC l)⟩
structure Cf where
 s:S8
 b:List En
 r:List Int
 e:Int
def dC(i:In):Bool:=i.kind==1||i.kind==2||i.kind==4
def enI(p:Pg)(l:List En)(k:Nat):In:=atI p (l.getD k default).pc
def dV(p:Pg)(l:List En)(r:Int):Nat->Option (Int×Bool)
 |0=>none
 |k+1=>if dC (enI p l k)=true∧(enI p l k).d=r then some (if(l.getD k default).dn then((l.getD k default).val,true) else(0,false)) else dV p l r k
def cl0(i:Int)(n:Nat):Nat:=(min (max i 0) (n:Int)).toNat
def dH(p:Pg)(s:S8)(l:List En)(i r:Int):Int×Bool:=if 0<=r∧r<4 then(match dV p l r (cl0 i l.length) with |some x=>x |none=>(s.reg r,true)) else(0,false)
def cD(p:Pg)(s:S8)(l:List En)(i:Int)(v:Vl):Int×Bool:=if v.reg then dH p s l i v.n else(Wd.maskV p.W v.n,true)
def nB(p:Pg)(l:List En):Nat->Nat->Bool
 |_,0=>false
 |k,j+1=>((enI p l k).kind==10)||nB p l (k+1) j
def nA(p:Pg)(l:List En)(i:Int):Bool:=nB p l 0 (cl0 i l.length)
theorem iu{i:In}(h:i.kind=1):dC i=true:=by simp[dC,h]
theorem ir{i:In}(h:i.kind=2):dC i=true:=by simp[dC,h]
theorem iq{i:In}(h:i.kind=4):dC i=true:=by simp[dC,h]
def ldF(p:Pg)(l:List En)(a:Int):Nat->Option (Int×Int×Bool)
 |0=>none
 |k+1=>if(enI p l k).kind=3∧(l.getD k default).kn=true∧(l.getD k default).adr=a then some (if(l.getD k default).dn then((l.getD k default).val,(k:Int),true) else(0,0,false)) else ldF p l a k
def ldV(p:Pg)(m:List Int)(l:List En)(i a:Int):Int×Int×Bool:=match ldF p l a (cl0 i l.length) with
 |some x=>x
 |none=>if 0<=a∧a<m.length then(m.getD a.toNat 0, -1,true) else(0, -1,true)
def hzB(p:Pg)(l:List En)(i a:Int)(k:Nat):Prop:=(enI p l k).kind=2∧(l.getD k default).kn=true∧(l.getD k default).adr=a∧(l.getD k default).frm<i
instance(p:Pg)(l:List En)(i a:Int)(k:Nat):Decidable (hzB p l i a k):=inferInstanceAs (Decidable (_∧_))
def hz0(i:Int)(n:Nat):Nat:=(min (max i (-1)) (n:Int)+1).toNat
def qz(p:Pg)(n:Int):Int:=min n (p.is.length:Int)
def reG(p:Pg)(l:List En):Nat->Nat->List Int->Option (List Int)
 |_,0,st=>some st
 |k,j+1,st=>if(enI p l k).kind=8 then(if 4<=st.length then none else reG p l (k+1) j (st++[(l.getD k default).pc+1]))
  else if(enI p l k).kind=9 then(if st.length=0 then none else reG p l (k+1) j (st.take (st.length-1))) else reG p l (k+1) j st
def reV(p:Pg)(st:List Int)(l:List En)(i:Int):Option (List Int):=reG p l 0 (cl0 i l.length) st
theorem mE{l:List Int}{x:Int}{g:Nat->Nat->AV}(hg:g 0 0= .int .i64 x)(i:Nat)(hi:i<l.length+1)(a:AV)(ha:i<l.length->a= .int .i64 (l.getD i 0)):(bif Nat.blt i l.length then a else g (i-l.length) 0)= .int .i64 ((l++[x]).getD i 0):=by
 refine o8 (fun h=> ?_) (fun h=> ?_)
 ·rw[ha h]
  simp[List.getD,a6 h]
 ·obtain rfl:i=l.length:=by omega
  rw[Nat.sub_self,hg]
  simp[List.getD]
def cfA(c:Cf):List AV:=s8R c.s++[enR c.b,lR c.r,.int .i64 c.e]
def Cf0:Cf:=⟨⟨0,0,0,0,[],[],0⟩,[],[],0⟩
def S8.go(s:S8)(pc:Int):S8:={s with pc:=pc}
def oS(l:List Int):Int:=l.getD ((l.length:Int)-1).toNat 0
theorem lY(l:List Int)(n i:Nat)(h:i<n):(l.take n).getD i 0=l.getD i 0:=by
 rw[az,az,a7,aw h]
def opV(p:Pg)(c:Cf)(i:Int):Bool:=if c.e=0∧0<=i∧i<c.b.length then !nA p c.b i else false
def tA(p:Pg)(c:Cf)(i:Int)(x:In):Int×Bool:=cD p c.s c.b i x.a
def tB(p:Pg)(c:Cf)(i:Int)(x:In):Int×Bool:=cD p c.s c.b i x.b
def tD(p:Pg)(c:Cf)(i:Int)(x:In):Int×Bool:=dH p c.s c.b i x.d
def tAB(p:Pg)(c:Cf)(i:Int)(x:In):Bool:=(tA p c i x).2&&(tB p c i x).2
def enX(p:Pg)(c:Cf)(k:Nat):In:=atI p (c.b.getD k default).pc
def adV(p:Pg)(c:Cf)(i:Int)(x:In):Int:=Wd.maskV p.W ((tA p c i x).1+(tB p c i x).1)
def cnK(p:Pg)(c:Cf)(i:Int)(x:In):Bool:=
 if x.kind=1 then tAB p c i x else if x.kind=5 then tAB p c i x else if x.kind=4 then tAB p c i x&&(tD p c i x).2
 else if x.kind=2 then tAB p c i x&&(decide ((c.s.m.length:Int)<=adV p c i x)||(ldV p c.s.m c.b i (adV p c i x)).2.2)
 else if x.kind=3 then(tD p c i x).2 else if x.kind=7 then(tA p c i x).2 else x.kind==9
def cnV(p:Pg)(c:Cf)(i:Int):Bool:=opV p c i&&(!(c.b.getD i.toNat default).dn&&cnK p c i (enX p c i.toNat))
def crE(p:Pg)(e:En)(l:List En):Bool:=(e.dn||(atI p e.pc).kind==10)&&((atI p e.pc).kind !=3||e.kn)
def crV(p:Pg)(c:Cf):Bool:=if c.e=0 then(match c.b with
 | []=>false
 |e::l=>crE p e l) else false
theorem pf{p:Pg}{c:Cf}{i:Int}(h:opV p c i=true): ∃k:Nat,i=(k:Int)∧k<c.b.length:=by
 unfold opV at h
 split at h
 ·exact⟨i.toNat,by omega,by omega⟩
 ·cases h
def Sml(p:Pg)(c:Cf):Prop:= ∀i x,0<=(tA p c i x).1∧(tA p c i x).1<=65535∧0<=(tB p c i x).1∧(tB p c i x).1<=65535
theorem Sml.add{p:Pg}{c:Cf}(h:Sml p c)(i:Int)(x:In): -1000000<=(tA p c i x).1+(tB p c i x).1∧(tA p c i x).1+(tB p c i x).1<=1000000:=by
 have:=h i x;omega
def upE(c:Cf)(k:Nat)(g:En->En):Cf:=⟨c.s,c.b.set k (g (c.b.getD k default)),c.r,c.e⟩
def En.done(e:En):En:={e with dn:=true}
def En.vl(v:Int)(e:En):En:={e with val:=v}
def En.flt(e:En):En:={e with ft:=true}
def En.ad(a:Int)(e:En):En:={e with adr:=a,kn:=true}
def En.ld(v f:Int)(e:En):En:={e with val:=v,frm:=f}
def En.to(t:Int)(e:En):En:={e with nxt:=t}
theorem pu{p:Pg}{c:Cf}{i:Int}(h:cnV p c i=true): ∃k:Nat,i=(k:Int)∧k<c.b.length∧(c.b.getD k default).dn=false∧cnK p c k (enX p c k)=true:=by
 unfold cnV at h
 rw[ai] at h
 obtain⟨k,rfl,hk⟩:=pf h.1
 rw[dE,ai] at h
 exact⟨k,rfl,hk,by simpa using h.2.1,h.2.2⟩
def En.pop(e:En):En:={e with frm:=if 0<=e.frm then e.frm-1 else e.frm}
def kO(l:List En):Nat->List En
 |0=>[]
 |k+1=>kO l k++[(l.getD (k+1) default).pop]
def aq(l:List En):List En:=kO l (l.length-1)
def rtV(p:Pg)(c:Cf):Cf:=
 if(c.b.getD 0 default).ft=true∨(enX p c 0).kind=12 then⟨c.s.go (c.b.getD 0 default).pc,[],[],2⟩
 else if(enX p c 0).kind=11 then⟨c.s.go (c.b.getD 0 default).pc,[],[],1⟩
 else if dC (enX p c 0)=true then⟨c.s.set (enX p c 0).d (c.b.getD 0 default).val,aq c.b,c.r,c.e⟩
 else if(enX p c 0).kind=3 then⟨{c.s with m:=c.s.m.set (c.b.getD 0 default).adr.toNat (c.b.getD 0 default).val},aq c.b,c.r,c.e⟩
 else if(enX p c 0).kind=8 then⟨{c.s with st:=c.s.st++[(c.b.getD 0 default).pc+1]},aq c.b,c.r,c.e⟩
 else if(enX p c 0).kind=9 then⟨{c.s with st:=c.s.st.take (c.s.st.length-1)},aq c.b,c.r,c.e⟩
 else⟨c.s,aq c.b,c.r,c.e⟩
def rtO(p:Pg)(c:Cf):Option Cf:=if crV p c=true then some (rtV p c) else none
structure RtOk (p:Pg) (c:Cf):Prop where
 d:dC (enX p c 0)=true->0<=(enX p c 0).d∧(enX p c 0).d<4
 m:(enX p c 0).kind=3->(c.b.getD 0 default).ft=false->(c.b.getD 0 default).kn=true->0<=(c.b.getD 0 default).adr∧(c.b.getD 0 default).adr<c.s.m.length
 st:(enX p c 0).kind=9->(c.b.getD 0 default).ft=false->(c.b.getD 0 default).dn=true->c.s.st.length≠0
 sl:c.s.st.length<=1000
 ml:c.s.m.length<=1000000
 bl:c.b.length<900000
 pc:0<=(c.b.getD 0 default).pc∧(c.b.getD 0 default).pc<=1000000
theorem fQ(l:List En): ∀k,(kO l k).length=k
 |0=>rfl
 |k+1=>by rw[kO,bg,fQ l k];rfl
theorem eI(l:List En):(aq l).length=l.length-1:=fQ _ _
theorem jZ(l:List En): ∀k i,i<k->(kO l k).getD i default=(l.getD (i+1) default).pop
 |k+1,i,h=>by
  unfold kO
  by_cases hi:i<k
  ·rw[<-jZ l k i hi]
   simp[List.getD,a6 (show i<(kO l k).length by rw[fQ];exact hi)]
  ·obtain rfl:i=k:=by omega
   simp[List.getD,bB,fQ]
theorem dJ(l:List En){i:Nat}(h:i+1<l.length):(aq l).getD i default=(l.getD (i+1) default).pop:=jZ l _ i (by omega)
theorem qi{e:En}(h:0<=e.frm):e.pop={e with frm:=e.frm-1}:=by unfold En.pop;rw[aw h]
theorem qj{e:En}(h: ¬0<=e.frm):e.pop=e:=by unfold En.pop;rw[al h]
theorem kY{p:Pg}{c:Cf}(h:crV p c=true):c.e=0∧0<c.b.length∧((c.b.getD 0 default).dn=true∨(enX p c 0).kind=10)∧((enX p c 0).kind=3->(c.b.getD 0 default).kn=true):=by
 unfold crV at h
 split at h
 ·rename_i h0
  cases hb:c.b with
  |nil=>rw[hb] at h;cases h
  |cons e l=>
   rw[hb] at h
   simp only[crE,ai,eV] at h
   refine⟨h0,by simp, ?_,fun hk=> ?_⟩
   ·rcases h.1 with h1 |h1
    ·exact .inl h1
    ·refine .inr ?_
     unfold enX;rw[hb];simpa using h1
   ·unfold enX at hk;rw[hb] at hk
    rcases h.2 with h1 |h1
    ·exact absurd hk (by simpa using h1)
    ·exact h1
 ·cases h
structure Dr where
 k:Int
 n:Int
 deriving DecidableEq
instance:Inhabited Dr:=⟨⟨0,0⟩⟩
def cfP(c:Cf):AV:= .rptr 10 (fun q=>(cfA c).getD q .junk) 0
structure MOk (p:Pg) (c:Cf):Prop where
 il:p.is.length<1000
 bl:c.b.length<900000
 ml:c.s.m.length<1000000
 sm:Sml p c
 sm': ∀k,Sml p (upE c k En.done)
 st:c.s.st.length<=1000
 bp: ∀e∈c.b, -1<=e.pc∧e.pc<=1000000
 bf: ∀e∈c.b, -1000000<=e.frm∧e.frm<=1000000
 pc: -1<=c.s.pc∧c.s.pc<=1000
 rl:c.r.length<1000
 rt:RtOk p c
structure EnOk (p:Pg) (e:En):Prop where
 pc:0<=e.pc∧e.pc<=p.is.length
 val:0<=e.val∧e.val<65536
 frm: -1<=e.frm∧e.frm<=1000000
 nxt: -1<=e.nxt∧e.nxt<=p.is.length
 adr:0<=e.adr∧e.adr<65536
def rOk(p:Pg)(st:List Int)(b:List En)(k:Nat):Prop:= ∃L,reG p b 0 k st=some L∧L.length≠0
def lOk(p:Pg)(st:List Int)(b:List En)(k:Nat):Prop:= ∃L,reG p b 0 k st=some L∧L.length<4
structure EtOk (p:Pg) (m:Nat) (st:List Int) (b:List En) (k:Nat) (e:En):Prop where
 sto:(atI p e.pc).kind=3->e.kn=true->e.ft=false->e.adr<m
 ret:(atI p e.pc).kind=9->e.dn=true->e.ft=false->rOk p st b k
 cal:(atI p e.pc).kind=8->e.ft=false->lOk p st b k
structure Inv (p:Pg) (c:Cf):Prop where
 reg:okR c.s
 mem: ∀x∈c.s.m,0<=x∧x<65536
 ml:c.s.m.length=nO p.ms
 pc: -1<=c.s.pc∧c.s.pc<=p.is.length
 st:c.s.st.length<=4
 stk: ∀x∈c.s.st,0<=x∧x<=p.is.length
 bl:(c.b.length:Int)<=max p.win 0
 be: ∀e∈c.b,EnOk p e
 rl:c.r.length<=2
 rb: ∀x∈c.r,0<=x∧x<=p.is.length
 et: ∀k,k<c.b.length->EtOk p c.s.m.length c.s.st c.b k (c.b.getD k default)
theorem gR{l:List En}{k:Nat}(h:k<l.length):l.getD k default∈l:=by simp[List.getD,h]
theorem gQ{l:List En}{k:Nat}(h: ¬k<l.length):l.getD k default=En0:=by
 simp[List.getD,cJ (dl.1 h)];rfl
theorem bb{k n:Nat}(h:k<=n):cl0 (k:Int) n=k:=by unfold cl0;omega
theorem dI(p:Pg)(l l':List En): ∀j k k' st,(∀i,i<j->(l.getD (k+i) default).pc=(l'.getD (k'+i) default).pc)->reG p l k j st=reG p l' k' j st
 |0,_,_,_,_=>rfl
 |j+1,k,k',st,h=>by
  have h0:=h 0 (by omega)
  rw[dD,dD] at h0
  have e:enI p l k=enI p l' k':=by unfold enI;rw[h0]
  have hr: ∀i,i<j->(l.getD (k+1+i) default).pc=(l'.getD (k'+1+i) default).pc:=fun i hi=>by
   have:=h (i+1) (by omega)
   rw[show k+1+i=k+(i+1) by omega,show k'+1+i=k'+(i+1) by omega];exact this
  have hR:=fun s=>dI p l l' j (k+1) (k'+1) s hr
  unfold reG
  rw[e,h0,hR,hR,hR]
theorem lh{l:List En}(h: ∀e∈l,0<=e.val∧e.val<65536)(k:Nat):0<=(l.getD k default).val∧(l.getD k default).val<65536:=by
 by_cases hk:k<l.length
 ·exact h _ (gR hk)
 ·rw[gQ hk];exact⟨by decide,by decide⟩
theorem lj{p:Pg}{l:List En}{r:Int}(h: ∀e∈l,0<=e.val∧e.val<65536): ∀k x,dV p l r k=some x->0<=x.1∧x.1<65536
 |0,x,e=>by cases e
 |k+1,x,e=>by
  unfold dV at e
  split at e
  ·cases e
   split
   ·exact lh h k
   ·exact⟨by decide,by decide⟩
  ·exact lj h k x e
theorem o9{s:S8}(h:okR s)(r:Int):0<=s.reg r∧s.reg r<65536:=by
 obtain⟨h0,h1,h2,h3⟩:=h
 unfold S8.reg
 repeat' split
 all_goals assumption
theorem nZ{p:Pg}{s:S8}{l:List En}(hs:okR s)(h: ∀e∈l,0<=e.val∧e.val<65536)(i r:Int):0<=(dH p s l i r).1∧(dH p s l i r).1<65536:=by
 unfold dH
 split
 ·cases e:dV p l r (cl0 i l.length) with
  |some x=>exact lj h _ _ e
  |none=>exact o9 hs r
 ·exact⟨by decide,by decide⟩
theorem lg{p:Pg}{s:S8}{l:List En}(hs:okR s)(h: ∀e∈l,0<=e.val∧e.val<65536)(i:Int)(v:Vl):0<=(cD p s l i v).1∧(cD p s l i v).1<65536:=by
 unfold cD
 split
 ·exact nZ hs h i _
 ·exact Wd.maskV_bd _ _
theorem mr{p:Pg}{c:Cf}(hs:okR c.s)(h: ∀e∈c.b,0<=e.val∧e.val<65536):Sml p c:=fun i x=>by
 have h1:=lg (p:=p) hs h i x.a
 have h2:=lg (p:=p) hs h i x.b
 unfold tA tB
 omega
theorem Inv.val{p:Pg}{c:Cf}(h:Inv p c): ∀e∈c.b,0<=e.val∧e.val<65536:=fun e he=>(h.be e he).val
theorem Inv.sml{p:Pg}{c:Cf}(h:Inv p c):Sml p c:=mr h.reg h.val
theorem Inv.done{p:Pg}{c:Cf}(h:Inv p c)(k:Nat): ∀e∈(upE c k En.done).b,0<=e.val∧e.val<65536:=fun e he=>by
 rcases List.mem_or_eq_of_mem_set he with h1 |h1
 ·exact h.val e h1
 ·rw[h1];exact lh h.val k
theorem Inv.smlD{p:Pg}{c:Cf}(h:Inv p c)(k:Nat):Sml p (upE c k En.done):=mr h.reg (h.done k)
theorem Inv.ok{p:Pg}{c:Cf}(hP:OkP p)(hw:p.win<=1000)(h:Inv p c):MOk p c:=by
 have hl:=hP.len
 have hb:=h.bl
 have hm:c.s.m.length<=16:=by rw[h.ml];exact hP.sum
 have h4:=h.st
 have h2:=h.rl
 refine⟨hl,by omega,by omega,h.sml,h.smlD,by omega,fun e he=> ?_,fun e he=> ?_,by have:=h.pc;omega,by omega, ?_⟩
 ·have:=(h.be e he).pc;omega
 ·have:=(h.be e he).frm;omega
 ·have hx:=(nD hP (c.b.getD 0 default).pc).1
  refine⟨fun _=>hx.2.2.2.1,fun a b d=> ?_,fun a b d=> ?_,by omega,by omega,by omega, ?_⟩
  ·by_cases h0:0<c.b.length
   ·exact⟨(h.be _ (gR h0)).adr.1,(h.et 0 h0).sto a d b⟩
   ·rw[gQ h0] at d;cases d
  ·by_cases h0:0<c.b.length
   ·obtain⟨L,e,hL⟩:=(h.et 0 h0).ret a d b
    cases e;exact hL
   ·rw[gQ h0] at d;cases d
  ·by_cases h0:0<c.b.length
   ·have:=(h.be _ (gR h0)).pc;omega
   ·rw[gQ h0];exact⟨by decide,by decide⟩
def eO(s:S8):List Int:=((([s.r0,s.r1,s.r2,s.r3,(s.m.length:Int)]++s.m)++[(s.st.length:Int)])++s.st)++[s.pc]
def enN(e:En):List Int:=[e.pc,e.val,e.adr,e.frm,e.nxt,Wd.tI e.dn,Wd.tI e.kn,Wd.tI e.ft]
def ciK(c:Cf):Nat->List Int
 |0=>eO c.s++[(c.b.length:Int)]
 |k+1=>ciK c k++enN (c.b.getD k default)
def ciL(c:Cf):List Int:=((ciK c c.b.length++[(c.r.length:Int)])++c.r)++[c.e]
def ciS(c:Cf)(X:List Int)(k:Nat):Sm:=⟨[(1,cfP c),(3,.own 0 0 1 0 X.length),(4,.int .i64 k)],[(0,aP X)],1⟩
theorem d5{A B:List Int}{n i:Nat}{x y:AV}(hn:n=A.length)(hx:i<n->x= .int .i64 (A.getD i 0))(hy:n<=i->y= .int .i64 (B.getD (i-n) 0)):(bif Nat.blt i n then x else y)= .int .i64 ((A++B).getD i 0):=by
 subst hn
 by_cases h:i<A.length
 ·have:Nat.blt i A.length=true:=by rw[aV];exact h
  rw[this,aD,hx h]
  simp[List.getD,a6 h]
 ·have:Nat.blt i A.length=false:=by
   cases hb:Nat.blt i A.length with
   |false=>rfl
   |true=>rw[aV] at hb;omega
  rw[this,aN,hy (by omega)]
  simp[List.getD,bB (Nat.le_of_not_lt h)]
theorem mu{x:Int}{q:Nat}(h:q=0):[AV.int .i64 x].getD ((q+0)*1+0) .junk= .int .i64 ([x].getD q 0):=by subst h;rfl
theorem rB{a b c d e:Int}{i:Nat}(h:i<5):[AV.int .i64 a,.int .i64 b,.int .i64 c,.int .i64 d,.int .i64 e].getD ((i+0)*1+0) .junk= .int .i64 ([a,b,c,d,e].getD i 0):=
 match i,h with |0,_=>rfl |1,_=>rfl |2,_=>rfl |3,_=>rfl |4,_=>rfl
theorem db(s:S8):(eO s).length=s.m.length+s.st.length+7:=by simp[eO];omega
theorem rA(s:S8)(L:List Int)(hL:L=eO s)(hm:s.m.length<1000000)(hst:s.st.length<1000000):Vc (vF_ 52 [.agg (s8R s)] [.fv] [(0,0)] (.own 0 0 1 0 L.length) [aP L]):=aL (cj (pv ((0:Nat)=0∧(5:Nat)=5∧((5:Nat)+s.m.length)*8<=140737488355328∧(5:Nat)+s.m.length<=140737488355328)) (cj (pv ((0:Nat)=0∧(5:Nat)+s.m.length=5+s.m.length∧((5:Nat)+s.m.length+1)*8<=140737488355328∧(5:Nat)+s.m.length+1<=140737488355328)) (cj (pv ((0:Nat)=0∧(5:Nat)+s.m.length+1=5+s.m.length+1∧((5:Nat)+s.m.length+1+s.st.length)*8<=140737488355328∧(5:Nat)+s.m.length+1+s.st.length<=140737488355328)) (cj (pv ((0:Nat)=0∧(5:Nat)+s.m.length+1+s.st.length=5+s.m.length+1+s.st.length∧((5:Nat)+s.m.length+1+s.st.length+1)*8<=140737488355328∧(5:Nat)+s.m.length+1+s.st.length+1<=140737488355328)) (cj (show(5:Nat)+s.m.length+1+s.st.length+1=L.length from by rw[hL,db];omega) (cj (show ∀(i:Nat),i<5+s.m.length+1+s.st.length+1-> ∀(j:Nat),j<1->(bif Nat.blt i ((5:Nat)+s.m.length+1+s.st.length) then bif Nat.blt i ((5:Nat)+s.m.length+1) then bif Nat.blt i ((5:Nat)+s.m.length) then bif Nat.blt i (5:Nat) then List.getD [aI s.r0,aI s.r1,aI s.r2,aI s.r3,aI s.m.length] (i*1+j) AV.junk else aI (s.m.getD (i-5) 0) else List.getD [aI s.st.length] ((i-((5:Nat)+s.m.length)+0)*1+j) AV.junk else aI (s.st.getD (i-((5:Nat)+s.m.length+1)) 0) else List.getD [aI s.pc] ((i-((5:Nat)+s.m.length+1+s.st.length)+0)*1+j) AV.junk)=aI (L.getD i 0) from(fun i hi j hj=>by
 subst hL
 obtain rfl:j=0:=by omega
 exact d5 (A:=((([s.r0,s.r1,s.r2,s.r3,(s.m.length:Int)]++s.m)++[(s.st.length:Int)])++s.st)) (B:=[s.pc]) (by simp;omega) (fun _=>d5 (A:=(([s.r0,s.r1,s.r2,s.r3,(s.m.length:Int)]++s.m)++[(s.st.length:Int)])) (B:=s.st) (by simp;omega) (fun _=>d5 (A:=([s.r0,s.r1,s.r2,s.r3,(s.m.length:Int)]++s.m)) (B:=[(s.st.length:Int)]) (by simp;omega) (fun _=>d5 (A:=[s.r0,s.r1,s.r2,s.r3,(s.m.length:Int)]) (B:=s.m) rfl (fun h=>rB h) (fun _=>rfl)) (fun _=>mu (by omega))) (fun _=>rfl)) (fun _=>mu (by omega)))) (cj (rf (0:Nat)) (cj (show(5:Nat)+s.m.length+1+s.st.length+1=L.length from by rw[hL,db];omega) trivial)))))))) (by kernel_rfl)
theorem qB(s:S8)(hm:s.m.length<1000000)(hst:s.st.length<1000000):pC_ 52 [.agg (s8R s)] (.own 0 0 1 0 (eO s).length) [aP (eO s)]:=PureC.vc (rA s _ rfl hm hst)
theorem mq(b:Bool)(h:b=true):Vc (vF_ 56 [.bool b] [.b true] [] (aI (Wd.tI b)) []):=aL (cj h (cj (show(1:Int)=Wd.tI b from by rw[h];rfl) trivial))
theorem lF(b:Bool)(h:b=false):Vc (vF_ 56 [.bool b] [.b false] [] (aI (Wd.tI b)) []):=aL (cj h (cj (show(0:Int)=Wd.tI b from by rw[h];rfl) trivial))
theorem o5(b:Bool):pC_ 56 [.bool b] (.int .i64 (Wd.tI b)) []:=by
 cases h:b with
 |true=>exact PureC.vc (mq true rfl)
 |false=>exact PureC.vc (lF false rfl)
theorem pU(c:Cf)(X:List Int)(k:Nat):X.length+8=(X++[(c.b.getD k default).pc,(c.b.getD k default).val,(c.b.getD k default).adr,(c.b.getD k default).frm,(c.b.getD k default).nxt,Wd.tI (c.b.getD k default).dn,Wd.tI (c.b.getD k default).kn,Wd.tI (c.b.getD k default).ft]).length:=by rw[bg];rfl
theorem pG(c:Cf){Z:Prop}(z:Z):(RF c.b.length (RR c.b.length 8 (fun i j=>aY enC c.b i j) (RF c.r.length (RR c.r.length 1 (fun i j=>aI (c.r.getD i 0)) (RF c.e (RF (0:Nat) Z)))))):=⟨rfl,fun _ _ _ _=>rfl,rfl,fun _ _ _ _=>rfl,rfl,rfl,z⟩
theorem nJ(c:Cf){Z:Prop}(z:Z):(RF c.s.r0 (RF c.s.r1 (RF c.s.r2 (RF c.s.r3 (RF c.s.m.length (RR c.s.m.length 1 (fun i j=>aI (List.getD c.s.m i 0)) (RF c.s.st.length (RR c.s.st.length 1 (fun i j=>aI (List.getD c.s.st i 0)) (RF c.s.pc Z))))))))):=⟨rfl,rfl,rfl,rfl,rfl,fun _ _ _ _=>rfl,rfl,fun _ _ _ _=>rfl,rfl,z⟩
theorem rF(c:Cf)(X:List Int)(k:Nat)(hk:k<c.b.length)(hb:c.b.length<1000000)(hX:X.length<100000000):Vc (vC_ 33 0 (ciS c X k) [.bd true,.cl [.bool (c.b.getD k default).dn] (aI (Wd.tI (c.b.getD k default).dn)) [],.cl [.bool (c.b.getD k default).kn] (aI (Wd.tI (c.b.getD k default).kn)) [],.cl [.bool (c.b.getD k default).ft] (aI (Wd.tI (c.b.getD k default).ft)) []] .nrm [(0,0)] (ciS c (X++enN (c.b.getD k default)) (k+1))):=aL (cj (dt ((k:Int)<c.b.length)) (cj (bi k c.b.length) (cj (rf ((c.b.getD k default).dn)) (cj (o5 (c.b.getD k default).dn) (cj (rf ((c.b.getD k default).kn)) (cj (o5 (c.b.getD k default).kn) (cj (rf ((c.b.getD k default).ft)) (cj (o5 (c.b.getD k default).ft) (cj (ap X.length 8 8) (cj (i6 (k+1)) (cj (pU c X k) (cj (show ∀(i:Nat),i<X.length+8-> ∀(j:Nat),j<1->(bif Nat.blt i X.length then aI (X.getD i 0) else List.getD [aI (c.b.getD k default).pc,aI (c.b.getD k default).val,aI (c.b.getD k default).adr,aI (c.b.getD k default).frm,aI (c.b.getD k default).nxt,aI (Wd.tI (c.b.getD k default).dn),aI (Wd.tI (c.b.getD k default).kn),aI (Wd.tI (c.b.getD k default).ft)] ((i-X.length+0)*1+j) AV.junk)=aI (List.getD (X++[(c.b.getD k default).pc,(c.b.getD k default).val,(c.b.getD k default).adr,(c.b.getD k default).frm,(c.b.getD k default).nxt,Wd.tI (c.b.getD k default).dn,Wd.tI (c.b.getD k default).kn,Wd.tI (c.b.getD k default).ft]) i (0:Int)) from(fun i hi j hj=>by obtain rfl:j=0:=(by omega);exact d5 (A:=X) (B:=enN (c.b.getD k default)) rfl (fun _=>rfl) (fun h=>by obtain⟨q,rfl⟩: ∃q,i=X.length+q:=⟨i-X.length,by omega⟩;rw[Nat.add_sub_cancel_left];exact(match q,(show q<8 by omega) with |0,_=>rfl |1,_=>rfl |2,_=>rfl |3,_=>rfl |4,_=>rfl |5,_=>rfl |6,_=>rfl |7,_=>rfl)))) (nJ c (pG c (cj (pU c X k) (cj (rf ((k:Int)+1)) trivial))))))))))))))))
theorem rG(c:Cf)(X:List Int)(k:Nat)(hk: ¬k<c.b.length):Vc (vC_ 33 0 (ciS c X k) [.bd false] (.ext 0) [(0,0)] (ciS c X k)):=aL (cj (df ((k:Int)<c.b.length)) (cj (rf X.length) (cj (rr X.length 1 fun i j=>aI (X.getD i 0)) (nJ c (cj (rf c.b.length) (cj (rr c.b.length 8 fun i j=>aY enC c.b i j) (cj (rf c.r.length) (cj (rr c.r.length 1 fun i j=>aI (c.r.getD i 0)) (cj (rf c.e) (cj (rf (0:Nat)) (cj (rf X.length) (cj (rf (k:Int)) trivial))))))))))))
theorem gS(c:Cf): ∀k,(ciK c k).length=(eO c.s).length+1+8*k
 |0=>by rw[ciK,bg];rfl
 |k+1=>by rw[ciK,bg,gS c k];show _+8=_;omega
theorem oB(c:Cf)(hb:c.b.length<1000000)(hm:c.s.m.length<1000000)(hst:c.s.st.length<1000000):oL_ 33 0 (ciS c (ciK c 0) 0).st (.ext 0) (ciS c (ciK c c.b.length) c.b.length).st:=
 Ok.loop (P:=Try.prog) (nt:=lS Try.prog 33) (c:=lpC Try.prog 33 0) (F:=fun k=>ciS c (ciK c k) k) (m:=c.b.length) (x:= .ext 0) (J:=ciS c (ciK c c.b.length) c.b.length) (fun k hk=>Ok.vc (rF c (ciK c k) k hk hb (by rw[gS,db];omega))) (Ok.vc (rG c _ _ (bL _))) (by simp)
theorem cif(c:Cf)(L0 X L:List Int)(n:Nat)(hL:L=((X++[(c.r.length:Int)])++c.r)++[c.e])(h7:pC_ 52 [.agg (s8R c.s)] (.own 0 0 1 0 L0.length) [aP L0])(h:oL_ 33 0 (ciS c (L0++[(c.b.length:Int)]) 0).st (.ext 0) (ciS c X n).st)(hl0:L0.length<100000000)(hX:X.length<100000000)(hr:c.r.length<1000000):Vc (vF_ 33 [.agg (cfA c)] [.fv,.cl [.agg (s8R c.s)] (.own 0 0 1 0 L0.length) [aP L0],.lp [(0,0)] (ciS c (L0++[(c.b.length:Int)]) 0) (.ext 0) (ciS c X n)] [] (lR L) []):=aL (nJ c (cj h7 (cj (ap L0.length 1 8) (cj (pv (L0.length+1=(L0++[(↑c.b.length:Int)]).length)) (cj (show ∀(i:Nat),i<L0.length+1-> ∀(j:Nat),j<1->(bif Nat.blt i L0.length then aI (L0.getD i 0) else List.getD [aI c.b.length] ((i-L0.length+0)*1+j) AV.junk)=aI (List.getD (L0++[(↑c.b.length:Int)]) i (0:Int)) from(fun i hi j hj=>by obtain rfl:j=0:=(by omega);exact d5 (A:=L0) (B:=[(c.b.length:Int)]) (by simp) (fun _=>rfl) (fun h=>mu (by omega)))) (nJ c (pG c (cj (pv (L0.length+1=(L0++[(↑c.b.length:Int)]).length)) (cj (rf (0:Int)) (cj h (cj (ap X.length 1 8) (cj (ap (X.length+1) c.r.length 8) (cj (ap (X.length+1+c.r.length) 1 8) (cj (show X.length+1+c.r.length+1=L.length from by rw[hL];simp;omega) (cj (show ∀(i:Nat),i<X.length+1+c.r.length+1-> ∀(j:Nat),j<1->(bif Nat.blt (i+0) (X.length+1+c.r.length) then bif Nat.blt (i+0) (X.length+1) then bif Nat.blt (i+0) X.length then aI (X.getD (i+0) 0) else List.getD [aI c.r.length] ((i+0-X.length+0)*1+j) AV.junk else aI (c.r.getD (i+0-(X.length+1)) 0) else List.getD [aI c.e] ((i+0-(X.length+1+c.r.length)+0)*1+j) AV.junk)=aI (L.getD i 0) from(fun i hi j hj=>by
 subst hL
 obtain rfl:j=0:=by omega
 exact d5 (A:=((X++[(c.r.length:Int)])++c.r)) (B:=[c.e]) (by simp only[bg,List.length_singleton]) (fun _=>d5 (A:=(X++[(c.r.length:Int)])) (B:=c.r) (by simp only[bg,List.length_singleton]) (fun _=>d5 (A:=X) (B:=[(c.r.length:Int)]) (by simp) (fun _=>rfl) (fun h=>mu (by omega))) (fun _=>rfl)) (fun h=>mu (by omega)))) trivial))))))))))))))) (by kernel_rfl)
theorem lC(c:Cf):(ciL c).length=c.s.m.length+c.s.st.length+10+8*c.b.length+c.r.length:=by
 unfold ciL;rw[bg,bg,bg,gS,db];simp;omega
theorem ciC(c:Cf)(hb:c.b.length<1000000)(hm:c.s.m.length<1000000)(hst:c.s.st.length<1000000)(hr:c.r.length<1000000):pC_ 33 [.agg (cfA c)] (lR (ciL c)) []:=
 PureC.vc (cif c (eO c.s) (ciK c c.b.length) (ciL c) _ rfl (qB c.s hm hst) (oB c hb hm hst) (by rw[db];omega) (by rw[gS,db];omega) hr)
theorem pT(a b:Cf)(A B:List Int)(x:Bool)(ha:pC_ 33 [.agg (cfA a)] (lR A) [])(hb:pC_ 33 [.agg (cfA b)] (lR B) [])(hs:pC_ 32 [lR A,lR B] (.bool x) []):Vc (vF_ 10 [.agg (cfA a),.agg (cfA b)] [.fv,.fv,.cl [.agg (cfA a)] (lR A) [],.cl [.agg (cfA b)] (lR B) [],.cl [lR A,lR B] (.bool x) []] [] (.bool x) []):=aL (cj (rf a.s.r0) (cj (rf a.s.r1) (cj (rf a.s.r2) (cj (rf a.s.r3) (cj (rf a.s.m.length) (cj (rr a.s.m.length 1 fun i j=>aI (List.getD a.s.m i 0)) (cj (rf a.s.st.length) (cj (rr a.s.st.length 1 fun i j=>aI (List.getD a.s.st i 0)) (cj (rf a.s.pc) (cj (rf a.b.length) (cj (rr a.b.length 8 fun i j=>aY enC a.b i j) (cj (rf a.r.length) (cj (rr a.r.length 1 fun i j=>aI (a.r.getD i 0)) (cj (rf a.e) (cj ha (cj (rf b.s.r0) (cj (rf b.s.r1) (cj (rf b.s.r2) (cj (rf b.s.r3) (cj (rf b.s.m.length) (cj (rr b.s.m.length 1 fun i j=>aI (List.getD b.s.m i 0)) (cj (rf b.s.st.length) (cj (rr b.s.st.length 1 fun i j=>aI (List.getD b.s.st i 0)) (cj (rf b.s.pc) (cj (rf b.b.length) (cj (rr b.b.length 8 fun i j=>aY enC b.b i j) (cj (rf b.r.length) (cj (rr b.r.length 1 fun i j=>aI (b.r.getD i 0)) (cj (rf b.e) (cj hb (cj (rf A.length) (cj (rr A.length 1 fun i j=>aI (A.getD i 0)) (cj (rf B.length) (cj (rr B.length 1 fun i j=>aI (B.getD i 0)) (cj hs (cj (rf x) trivial))))))))))))))))))))))))))))))))))))
theorem mD(a b:Cf)(hb:a.b.length<1000000)(hm:a.s.m.length<1000000)(hst:a.s.st.length<1000000)(hr:a.r.length<1000000)(hb':b.b.length<1000000)(hm':b.s.m.length<1000000)(hst':b.s.st.length<1000000)(hr':b.r.length<1000000):pC_ 10 [.agg (cfA a),.agg (cfA b)] (.bool (decide (ciL a=ciL b))) []:=
 PureC.vc (pT a b _ _ _ (ciC a hb hm hst hr) (ciC b hb' hm' hst' hr') (ro _ _ (by rw[lC];omega)))
def x2(x:Int)(s:Nat):Int:=Int.fdiv x (2^s)
def v0:Vl:=⟨false,0⟩
structure M1 where
 p:Int
 s:Int
 r0:Int
 r1:Int
 r2:Int
 r3:Int
def M1.set(m:M1)(k:Nat)(v:Int):M1:=match k with
 |0=>{m with r0:=v}
 |1=>{m with r1:=v}
 |2=>{m with r2:=v}
 |_=>{m with r3:=v}
def shK(k:Nat):Nat:=min (IntKind.u64.wrap (2*(k:Int))).toNat 64
structure Liv (p:Pg) (c:Cf):Prop where
 e:c.e=0∨c.e=1∨c.e=2
 fin: ¬c.e=0->c.b=[]∧c.r=[]
 lst:c.s.pc= -1->c.e=0-> ∃k,c.b.length=k+1∧((enX p c k).kind=11∨(enX p c k).kind=12)
 und: ∀k,k<c.b.length->(c.b.getD k default).dn=false->(enX p c k).kind≠6∧(enX p c k).kind≠8∧(enX p c k).kind≠11∧(enX p c k).kind≠12
end
end Go.Proofs.Ytdanmboalfmifaa.Px
namespace Go.Proofs.Ytdanmboalfmifaa
section
open Go.RowKit
def Ret(v:Value)(w:World)(e:Ending)(w':World):Prop:=e= .returned v∧w=w'
theorem Ret.mk{v v':Value}{w:World}(h:v'=v):Ret v w (.returned v') w:=⟨by rw[h],rfl⟩
theorem Ret.b{X:Value}{a a':Bool}{w:World}(hx:X= .bool a')(h:a'=a):Ret (.bool a) w (.returned X) w:=⟨by rw[hx,h],rfl⟩
theorem qC:(Try.prog.info? 3).map (fun i=>(i.zero,i.size,i.bytes))=some (some (.int .i64 0),1,8):=by kernel_rfl
end
section
namespace Cd
def nrB(n:Int):Bool:=decide (-1<=n)&&decide (n<=253)
def pz(n:Int)(k:Nat):Int:=n%18446744073709551616/2^(8*(7-k))%256
def ni(n:Int):List Int:=(List.range 8).map (pz n)
def pd(n:Int):List Int:=if nrB n=true then[n+1] else 255::ni n
def putL:List Int->List Int
 | []=>[]
 |n::l=>pd n++putL l
def isI(xs:List Int):Prop:= ∀x∈xs, -9223372036854775808<=x∧x<9223372036854775808
theorem l0(n:Int):(ni n).length=8:=by simp[ni]
theorem mI(n:Int):(pd n).length=if nrB n=true then 1 else 9:=by
 unfold pd;split<;>simp[l0]
theorem putL_len_le(l:List Int):(putL l).length<=9*l.length:=by
 induction l with
 |nil=>simp[putL]
 |cons n l ih=>
  have:=mI n
  simp only[putL,bg,d9]
  split at this<;>omega
end Cd
end
section
open Go.RowKit
theorem RetOwn.mk{B:Nat}{t:TypeId}{xs ys:List Value}{n:Nat}{w w':World}{v:Value}(h:w'.ownsRow B t 1 v n ys)(he:ys=xs)(hb:Below B w w'):RetOwn B t xs w (.returned v) w':=by
 subst he
 have:=n5 h
 subst this
 exact⟨v,rfl,h,hb⟩
end
end Go.Proofs.Ytdanmboalfmifaa
namespace Go.Proofs.Ytdanmboalfmifaa.Px
section
open Go.RowKit Go.Proofs.Ytdanmboalfmifaa.Rx
def PartOk(a:AV)(l:List Int):Prop:=(a= .nils∧l=[])∨ ∃g,a= .row 1 l.length g∧ ∀i,i<l.length->g i 0= .int .i64 (l.getD i 0)
theorem PartOk.row(l:List Int):PartOk (.row 1 l.length (lN l)) l:= .inr ⟨_,rfl,fun _ _=>rfl⟩
theorem PartOk.rep{w:World}{R:Nat->Prop}{a:AV}{l:List Int}{v:Value}(h:PartOk a l)(hr:RepP w R a v)(hR: ∀g,R g->g<w.heap.size): ∃A c,v= .slice A l.length c∧Rd w w.heap.size A (l.map (Value.int .i64)):=by
 rcases h with⟨rfl,rfl⟩|⟨g,rfl,hg⟩
 ·cases hr with
  |nils=>exact⟨none,0,rfl,Rd.nil⟩
 ·obtain⟨A,c,e,_,_,h⟩:=hr.ints hR rfl hg
  exact⟨A,c,e,h⟩
theorem n6{args:List AV}{vs:Array Value}{a:AV}(h:args=[a])(hl:args.length=vs.size){w:World}{R:Nat->Prop}(ha: ∀(j:Nat) a v,args[j]? =some a->vs[j]? =some v->RepP w R a v): ∃v,vs= #[v]∧RepP w R a v:=by
 subst h
 obtain⟨vs⟩:=vs
 match vs,hl with
 | [v],_=>exact⟨v,rfl,ha 0 a v rfl rfl⟩
def coK(c:Cf):Nat->List Int
 |0=>[(c.b.length:Int)]
 |k+1=>coK c k++enN (c.b.getD k default)
def coL(c:Cf):List Int:=((coK c c.b.length++[(c.r.length:Int)])++c.r)++[c.e]
theorem ns(c:Cf): ∀k,ciK c k=eO c.s++coK c k
 |0=>rfl
 |k+1=>by rw[ciK,coK,ns c k,f8]
theorem py(c:Cf):ciL c=eO c.s++coL c:=by
 unfold ciL coL;rw[ns];simp only[f8]
def flE(b:List En):List Int:=b.flatMap enN
theorem nq(c:Cf): ∀k,k<=c.b.length->coK c k=(c.b.length:Int)::flE (c.b.take k)
 |0,_=>rfl
 |k+1,h=>by
  have e:c.b.take (k+1)=c.b.take k++[c.b.getD k default]:=by
   rw[List.take_add_one,az,av (by omega)];rfl
  rw[coK,nq c k (by omega),e]
  unfold flE
  simp
theorem pt(c:Cf):coL c=(c.b.length:Int)::(flE c.b++((c.r.length:Int)::(c.r++[c.e]))):=by
 unfold coL
 rw[nq c _ (ax _),List.take_length]
 simp
theorem px(c:Cf):ciL c=c.s.r0::c.s.r1::c.s.r2::c.s.r3::(c.s.m.length:Int)::(c.s.m++((c.s.st.length:Int)::(c.s.st++(c.s.pc::(c.b.length:Int)::(flE c.b++((c.r.length:Int)::(c.r++[c.e]))))))):=by
 rw[py,pt]
 simp[eO]
theorem dz{x:Int}(h1: -1000000<=x)(h2:x<=1000000): -9223372036854775808<=x∧x<9223372036854775808:=by omega
theorem og{p:Pg}{c:Cf}(hP:OkP p)(hw:p.win<=1000)(h:Inv p c)(he:0<=c.e∧c.e<10):Cd.isI (ciL c):=by
 have hl:=hP.len
 have hs:=hP.sum
 obtain⟨h0,h1,h2,h3⟩:=h.reg
 have hml:=h.ml
 have hst:=h.st
 have hpc:=h.pc
 have hbl:=h.bl
 have hrl:=h.rl
 intro x hx
 rw[px] at hx
 simp only[bh,a9,d7,or_false] at hx
 rcases hx with rfl |rfl |rfl |rfl |rfl |hx |rfl |hx |rfl |rfl |hx |rfl |hx |rfl
 ·exact dz (by omega) (by omega)
 ·exact dz (by omega) (by omega)
 ·exact dz (by omega) (by omega)
 ·exact dz (by omega) (by omega)
 ·exact dz (by omega) (by omega)
 ·have:=h.mem x hx;exact dz (by omega) (by omega)
 ·exact dz (by omega) (by omega)
 ·have:=h.stk x hx;exact dz (by omega) (by omega)
 ·exact dz (by omega) (by omega)
 ·exact dz (by omega) (by omega)
 ·obtain⟨e,he,hx⟩:=aU.1 hx
  have hE:=h.be e he
  have e1:=hE.pc
  have e2:=hE.val
  have e3:=hE.frm
  have e4:=hE.nxt
  have e5:=hE.adr
  have ht: ∀b:Bool,0<=Wd.tI b∧Wd.tI b<=1:=fun b=>by cases b<;>decide
  have t1:=ht e.dn
  have t2:=ht e.kn
  have t3:=ht e.ft
  simp only[enN,a9,d7,or_false] at hx
  rcases hx with rfl |rfl |rfl |rfl |rfl |rfl |rfl |rfl<;>exact dz (by omega) (by omega)
 ·exact dz (by omega) (by omega)
 ·have:=h.rb x hx;exact dz (by omega) (by omega)
 ·exact dz (by omega) (by omega)
structure CfS (c:Cf):Prop where
 b:c.b.length<=3
 m:c.s.m.length<=16
 st:c.s.st.length<=4
 r:c.r.length<=2
 i:Cd.isI (ciL c)
theorem CfS.of{p:Pg}{c:Cf}(hP:OkP p)(hw:p.win<=3)(hI:Inv p c)(he:0<=c.e∧c.e<10):CfS c:=
 ⟨by have:=hI.bl;omega,by rw[hI.ml];exact hP.sum,hI.st,hI.rl,og hP (by omega) hI he⟩
theorem CfS.len{c:Cf}(h:CfS c):(Cd.putL (ciL c)).length<1000:=by
 have h2:=Cd.putL_len_le (ciL c)
 rw[lC] at h2
 have:=h.b;have:=h.m;have:=h.st;have:=h.r
 omega
theorem CfS.same{a b:Cf}(h:CfS a)(k:CfS b):pC_ 10 [.agg (cfA a),.agg (cfA b)] (.bool (decide (ciL a=ciL b))) []:=mD a b (by have:=h.b;omega) (by have:=h.m;omega) (by have:=h.st;omega) (by have:=h.r;omega) (by have:=k.b;omega) (by have:=k.m;omega) (by have:=k.st;omega) (by have:=k.r;omega)
def qm(p:Pg):Bool:=p.is.all (fun i=>decide ((1<=i.kind∧i.kind<=12)∧(i.a.reg=true->0<=i.a.n∧i.a.n<4)∧(i.b.reg=true->0<=i.b.n∧i.b.n<4)∧(0<=i.d∧i.d<4)∧(0<=i.tg∧i.tg<=p.is.length)))&&decide (p.is.length<1000)&&decide (p.ms.length<1000)&&decide (nO p.ms<=16)
def vQ(n:Int):Vl:=⟨false,n⟩
theorem oQ{p:Pg}(h:qm p=true):OkP p:=by
 unfold qm at h
 simp only[ai,aA,decide_eq_true_eq] at h
 obtain⟨⟨⟨h1,h2⟩,h3⟩,h4⟩:=h
 refine⟨fun i hi=> ?_,h2,h3,h4⟩
 obtain⟨hk,ha,hb,hd,ht⟩:=h1 i hi
 exact⟨hk,ha,hb,hd,ht⟩
theorem sm0:pC_ 10 [.agg (cfA Cf0),.agg (cfA Cf0)] (.bool true) []:=by
 have h:=mD Cf0 Cf0 (by decide) (by decide) (by decide) (by decide) (by decide) (by decide) (by decide) (by decide)
 rw[fK rfl] at h
 exact h
def ouV(p:Pg)(c:Cf)(k:Nat):En×Option Int×List Ob:=
 if(enX p c k).kind=1 then((c.b.getD k default).done.vl (Wd.doV p.W (enX p c k).op (tA p c k (enX p c k)).1 (tB p c k (enX p c k)).1),none,[])
 else if(enX p c k).kind=4 then((c.b.getD k default).done.vl (if(tA p c k (enX p c k)).1=0 then(tD p c k (enX p c k)).1 else(tB p c k (enX p c k)).1),none,[])
 else if(enX p c k).kind=3 then((c.b.getD k default).done.vl (tD p c k (enX p c k)).1,none,[])
 else if(enX p c k).kind=2 then(if(c.s.m.length:Int)<=adV p c k (enX p c k) then(((c.b.getD k default).done.ad (adV p c k (enX p c k))).flt,none,[])
  else(((c.b.getD k default).done.ad (adV p c k (enX p c k))).ld (ldV p c.s.m c.b k (adV p c k (enX p c k))).1 (ldV p c.s.m c.b k (adV p c k (enX p c k))).2.1,none,[⟨1,adV p c k (enX p c k)⟩]))
 else if(enX p c k).kind=5 then((c.b.getD k default).done,some (if Wd.doV p.W (enX p c k).op (tA p c k (enX p c k)).1 (tB p c k (enX p c k)).1=0 then(c.b.getD k default).pc+1 else(enX p c k).tg),[⟨3,if Wd.doV p.W (enX p c k).op (tA p c k (enX p c k)).1 (tB p c k (enX p c k)).1=0 then(c.b.getD k default).pc+1 else(enX p c k).tg⟩])
 else if(enX p c k).kind=7 then((c.b.getD k default).done,some (qz p (tA p c k (enX p c k)).1),[⟨3,qz p (tA p c k (enX p c k)).1⟩])
 else match reV p c.s.st c.b k with
  |none=>((c.b.getD k default).done.flt,none,[])
  |some L=>if L.length=0 then((c.b.getD k default).done.flt,none,[]) else((c.b.getD k default).done,some (oS L),[⟨3,oS L⟩])
structure Alk (p:Pg) (c d:Cf) (k:Nat):Prop where
 lc:k<c.b.length
 ld:k<d.b.length
 m:d.s.m=c.s.m
 e:d.e=c.e
 en:d.b.getD k default=c.b.getD k default
 rg: ∀r,(dH p c.s c.b k r).2=true->dH p d.s d.b k r=dH p c.s c.b k r
 lo:(enX p c k).kind=2-> ¬(c.s.m.length:Int)<=adV p c k (enX p c k)->(ldV p c.s.m c.b k (adV p c k (enX p c k))).2.2=true->ldV p d.s.m d.b k (adV p c k (enX p c k))=ldV p c.s.m c.b k (adV p c k (enX p c k))
 re:reV p d.s.st d.b k=reV p c.s.st c.b k
 bl:nA p d.b k=nA p c.b k
theorem fP(p:Pg){l l':List En}(r:Int): ∀k,(∀j,j<k->l'.getD j default=l.getD j default)->dV p l' r k=dV p l r k
 |0,_=>rfl
 |k+1,h=>by
  unfold dV enI
  rw[h k (by omega),fP p r k fun j hj=>h j (by omega)]
theorem js(p:Pg){l l':List En}(a:Int): ∀k,(∀j,j<k->l'.getD j default=l.getD j default)->ldF p l' a k=ldF p l a k
 |0,_=>rfl
 |k+1,h=>by
  unfold ldF enI
  rw[h k (by omega),js p a k fun j hj=>h j (by omega)]
theorem jD(p:Pg){l l':List En}: ∀j k,(∀i,k<=i->i<k+j->(l'.getD i default).pc=(l.getD i default).pc)->nB p l' k j=nB p l k j
 |0,_,_=>rfl
 |j+1,k,h=>by
  unfold nB enI
  rw[h k (by omega) (by omega),jD p j (k+1) fun i h1 h2=>h i (by omega) (by omega)]
theorem fJ(l:List En)(k j:Nat)(e:En)(hk:k<l.length):(l.set k e).getD j default=if k=j then e else l.getD j default:=by
 by_cases h:k=j
 ·subst h
  rw[aw rfl];simp[List.getD,hk]
 ·rw[al h];simp[List.getD,f7,h]
theorem iX(p:Pg){l:List En}(r:Int){k:Nat}{e:En}(hk:k<l.length)(hp:e.pc=(l.getD k default).pc)(hd:(l.getD k default).dn=false): ∀i,(∀x,dV p l r i=some x->x.2=true)->dV p (l.set k e) r i=dV p l r i
 |0,_=>rfl
 |i+1,h=>by
  unfold dV at h ⊢
  have e1:enI p (l.set k e) i=enI p l i:=by
   unfold enI
   rw[fJ l k i e hk]
   split
   ·rename_i h1;subst h1;rw[hp]
   ·rfl
  rw[e1]
  by_cases hc:dC (enI p l i)=true∧(enI p l i).d=r
  ·rw[aw hc] at h ⊢
   rw[aw hc,fJ l k i e hk]
   split
   ·rename_i h1
    subst h1
    rw[hd] at h
    cases h _ rfl
   ·rfl
  ·rw[al hc] at h ⊢
   rw[al hc]
   exact iX p r hk hp hd i h
theorem hY(p:Pg){l:List En}(a:Int){k:Nat}{e:En}(hk:k<l.length)(hp:e.pc=(l.getD k default).pc)(hd:(l.getD k default).dn=false)(h3:(enI p l k).kind=3->e.kn=(l.getD k default).kn∧e.adr=(l.getD k default).adr): ∀i,(∀x,ldF p l a i=some x->x.2.2=true)->ldF p (l.set k e) a i=ldF p l a i
 |0,_=>rfl
 |i+1,h=>by
  unfold ldF at h ⊢
  by_cases h1:k=i
  ·subst h1
   have e1:enI p (l.set k e) k=enI p l k:=by unfold enI;rw[fJ l k k e hk,aw rfl,hp]
   have e2:(l.set k e).getD k default=e:=by rw[fJ l k k e hk,aw rfl]
   rw[e1,e2]
   by_cases hc:(enI p l k).kind=3∧(l.getD k default).kn=true∧(l.getD k default).adr=a
   ·rw[aw hc,hd] at h
    cases h _ rfl
   ·rw[al hc] at h ⊢
    rw[al (fun q=>hc ⟨q.1,by rw[<-(h3 q.1).1];exact q.2.1,by rw[<-(h3 q.1).2];exact q.2.2⟩)]
    exact hY p a hk hp hd h3 k h
  ·have e2:(l.set k e).getD i default=l.getD i default:=by rw[fJ l k i e hk,al h1]
   have e1:enI p (l.set k e) i=enI p l i:=by unfold enI;rw[e2]
   rw[e1,e2]
   split
   ·rfl
   ·rename_i hc
    rw[al hc] at h
    exact hY p a hk hp hd h3 i h
theorem Alk.val{p:Pg}{c d:Cf}{k:Nat}(h:Alk p c d k)(v:Vl)(ht:(cD p c.s c.b k v).2=true):cD p d.s d.b k v=cD p c.s c.b k v:=by
 unfold cD at ht ⊢
 split
 ·rename_i hv
  rw[aw hv] at ht
  exact h.rg _ ht
 ·rfl
theorem f6{a b:Bool}(h:(a&&b)=true):a=true∧b=true:=by
 cases a with
 |true=>exact⟨rfl,h⟩
 |false=>cases h
theorem Alk.ouK{p:Pg}{c d:Cf}{k:Nat}(h:Alk p c d k)(hK:cnK p c k (enX p c k)=true):cnK p d k (enX p d k)=true∧ouV p d k=ouV p c k:=by
 have hx:enX p d k=enX p c k:=by unfold enX;rw[h.en]
 rw[hx]
 have hV:=h.val
 have hlo:=h.lo
 unfold cnK at hK ⊢
 unfold ouV
 rw[hx,h.en]
 unfold tAB adV tA tB tD at*
 by_cases k1:(enX p c k).kind=1
 ·simp only[aw k1] at hK ⊢
  obtain⟨h1,h2⟩:=f6 hK
  rw[hV _ h1,hV _ h2,h1,h2]
  exact⟨rfl,rfl⟩
 simp only[al k1] at hK ⊢
 by_cases k5:(enX p c k).kind=5
 ·have k4: ¬(enX p c k).kind=4:=by omega
  have k3: ¬(enX p c k).kind=3:=by omega
  have k2: ¬(enX p c k).kind=2:=by omega
  simp only[aw k5,al k4,al k3,al k2] at hK ⊢
  obtain⟨h1,h2⟩:=f6 hK
  rw[hV _ h1,hV _ h2,h1,h2]
  exact⟨rfl,rfl⟩
 simp only[al k5] at hK ⊢
 by_cases k4:(enX p c k).kind=4
 ·simp only[aw k4] at hK ⊢
  obtain⟨h0,h3⟩:=f6 hK
  obtain⟨h1,h2⟩:=f6 h0
  rw[hV _ h1,hV _ h2,h.rg _ h3,h1,h2,h3]
  exact⟨rfl,rfl⟩
 simp only[al k4] at hK ⊢
 by_cases k2:(enX p c k).kind=2
 ·have k3: ¬(enX p c k).kind=3:=by omega
  simp only[aw k2,al k3] at hK ⊢
  obtain⟨h0,h3⟩:=f6 hK
  obtain⟨h1,h2⟩:=f6 h0
  rw[hV _ h1,hV _ h2,h1,h2,h.m]
  by_cases hm:(c.s.m.length:Int)<=Wd.maskV p.W ((cD p c.s c.b k (enX p c k).a).1+(cD p c.s c.b k (enX p c k).b).1)
  ·simp only[aw hm,fK hm]
   exact⟨by simp,trivial⟩
  ·rw[bW hm,ec] at h3
   have h4:=hlo k2 hm h3
   rw[h.m] at h4
   simp only[al hm,bW hm]
   rw[h4,h3]
   exact⟨rfl,rfl⟩
 simp only[al k2] at hK ⊢
 by_cases k3:(enX p c k).kind=3
 ·simp only[aw k3] at hK ⊢
  rw[h.rg _ hK]
  exact⟨hK,rfl⟩
 simp only[al k3] at hK ⊢
 by_cases k7:(enX p c k).kind=7
 ·simp only[aw k7] at hK ⊢
  rw[hV _ hK]
  exact⟨hK,rfl⟩
 simp only[al k7] at hK ⊢
 rw[h.re]
 exact⟨hK,rfl⟩
theorem Alk.ou{p:Pg}{c d:Cf}{k:Nat}(h:Alk p c d k)(hc:cnV p c k=true):cnV p d k=true∧ouV p d k=ouV p c k:=by
 obtain⟨q,hq,hk,hd,hK⟩:=pu hc
 obtain rfl:k=q:=by omega
 have hop:opV p c k=true:=(f6 hc).1
 have ho:opV p d k=true:=by
  unfold opV at hop ⊢
  rw[h.e,h.bl]
  split at hop
  ·rename_i h1
   rw[aw ⟨h1.1,h1.2.1,by have:=h.ld;omega⟩]
   exact hop
  ·cases hop
 have hn:cnV p d k=(opV p d k&&(!(d.b.getD k default).dn&&cnK p d k (enX p d k))):=by unfold cnV;rw[dE]
 have h1:=h.ouK hK
 rw[hn,ho,h.en,hd,h1.1]
 exact⟨rfl,h1.2⟩
theorem Alk.loc{p:Pg}{c d:Cf}{k:Nat}(lc:k<c.b.length)(ld:k<d.b.length)(hr: ∀n,d.s.reg n=c.s.reg n)(hm:d.s.m=c.s.m)(hst:d.s.st=c.s.st)(he:d.e=c.e)(hb: ∀j,j<k+1->d.b.getD j default=c.b.getD j default):Alk p c d k:=by
 refine⟨lc,ld,hm,he,hb k (by omega),fun r _=> ?_,fun _ _ _=> ?_, ?_, ?_⟩
 ·unfold dH
  rw[bb (by omega),bb (by omega),fP p (l:=c.b) (l':=d.b) r k fun j hj=>hb j (by omega),hr]
 ·unfold ldV
  rw[bb (by omega),bb (by omega),js p (l:=c.b) (l':=d.b) _ k fun j hj=>hb j (by omega),hm]
 ·unfold reV
  rw[bb (by omega),bb (by omega),hst]
  exact dI p _ _ _ _ _ _ fun i hi=>by rw[hb _ (by omega)]
 ·unfold nA
  rw[bb (by omega),bb (by omega)]
  exact jD p _ _ fun i _ hi=>by rw[hb i (by omega)]
theorem Alk.stab{p:Pg}{c:Cf}{k i:Nat}(hki:k<i)(hi:i<c.b.length){e:En}(hp:e.pc=(c.b.getD k default).pc)(hd:(c.b.getD k default).dn=false)(h3:(enX p c k).kind=3->e.kn=(c.b.getD k default).kn∧e.adr=(c.b.getD k default).adr):Alk p c ⟨c.s,c.b.set k e,c.r,c.e⟩ i:=by
 have hk:k<c.b.length:=by omega
 have hpc: ∀j,((c.b.set k e).getD j default).pc=(c.b.getD j default).pc:=fun j=>by
  rw[fJ c.b k j e hk]
  split
  ·rename_i h1;subst h1;exact hp
  ·rfl
 refine⟨hi,by rw[eU];exact hi,rfl,rfl,by rw[fJ c.b k i e hk,al (by omega)],fun r ht=> ?_,fun _ _ ht=> ?_, ?_, ?_⟩
 ·unfold dH at ht ⊢
  rw[eU]
  rw[bb (by omega)] at ht ⊢
  split
  ·rename_i hr
   rw[aw hr] at ht
   rw[iX p r hk hp hd i fun x hx=>by rw[hx] at ht;exact ht]
  ·rfl
 ·unfold ldV at ht ⊢
  rw[eU]
  rw[bb (by omega)] at ht ⊢
  rw[hY p _ hk hp hd h3 i fun x hx=>by rw[hx] at ht;exact ht]
 ·unfold reV
  rw[eU]
  exact dI p _ _ _ _ _ _ fun j _=>hpc _
 ·unfold nA
  rw[eU]
  exact jD p _ _ fun j _ _=>hpc j
structure EC (p:Pg) (c:Cf) (k:Nat):Prop where
 don:(c.b.getD k default).dn=true->((enX p c k).kind<=5∨(enX p c k).kind=7∨(enX p c k).kind=9)->cnK p c k (enX p c k)=true∧(ouV p c k).1=c.b.getD k default∧ ∀t,(ouV p c k).2.1=some t->(c.b.getD k default).nxt=t
 ftn:(c.b.getD k default).ft=true->(enX p c k).kind=3∨(enX p c k).kind=8∨(((enX p c k).kind=2∨(enX p c k).kind=9)∧(c.b.getD k default).dn=true∧(ouV p c k).2.2=[])
 kno:(enX p c k).kind=3->(c.b.getD k default).kn=true->tAB p c k (enX p c k)=true∧(c.b.getD k default).adr=adV p c k (enX p c k)∧(c.b.getD k default).ft=decide ((c.s.m.length:Int)<=adV p c k (enX p c k))
 f3:(enX p c k).kind=3->(c.b.getD k default).kn=false->(c.b.getD k default).ft=false
 cal:(enX p c k).kind=8->(c.b.getD k default).ft=(match reV p c.s.st c.b k with |none=>true |some L=>decide (4<=L.length))
 nx1:(enX p c k).kind<=4∨(enX p c k).kind=10->(c.b.getD k default).nxt=(c.b.getD k default).pc+1
 nx6:(enX p c k).kind=6∨(enX p c k).kind=8->(c.b.getD k default).nxt=(enX p c k).tg
structure Cor (p:Pg) (c:Cf):Prop where
 ent: ∀k,k<c.b.length->EC p c k
 chn: ∀k,k+1<c.b.length->(c.b.getD (k+1) default).pc=(c.b.getD k default).nxt
 lst: ∀k,k+1=c.b.length->c.s.pc=(c.b.getD k default).nxt
structure Alk0 (p:Pg) (c d:Cf) (k:Nat):Prop where
 m:d.s.m=c.s.m
 en:d.b.getD k default=c.b.getD k default
 rg: ∀r,(dH p c.s c.b k r).2=true->dH p d.s d.b k r=dH p c.s c.b k r
 re:reV p d.s.st d.b k=reV p c.s.st c.b k
theorem Alk0.val{p:Pg}{c d:Cf}{k:Nat}(h:Alk0 p c d k)(v:Vl)(ht:(cD p c.s c.b k v).2=true):cD p d.s d.b k v=cD p c.s c.b k v:=by
 unfold cD at ht ⊢
 split
 ·rename_i hv
  rw[aw hv] at ht
  exact h.rg _ ht
 ·rfl
structure Loc (p:Pg) (c d:Cf) (i:Nat):Prop where
 lc:i<c.b.length
 ld:i<d.b.length
 rg: ∀n,d.s.reg n=c.s.reg n
 m:d.s.m=c.s.m
 st:d.s.st=c.s.st
 pre: ∀j,j<i->d.b.getD j default=c.b.getD j default
theorem Loc.val{p:Pg}{c d:Cf}{i:Nat}(h:Loc p c d i)(v:Vl):cD p d.s d.b i v=cD p c.s c.b i v:=by
 unfold cD dH
 rw[bb (ci h.ld),bb (ci h.lc),fP p (l:=c.b) (l':=d.b) v.n i h.pre,h.rg]
theorem Loc.reg{p:Pg}{c d:Cf}{i:Nat}(h:Loc p c d i)(r:Int):dH p d.s d.b i r=dH p c.s c.b i r:=by
 unfold dH
 rw[bb (ci h.ld),bb (ci h.lc),fP p (l:=c.b) (l':=d.b) r i h.pre,h.rg]
theorem Loc.ldv{p:Pg}{c d:Cf}{i:Nat}(h:Loc p c d i)(a:Int):ldV p c.s.m d.b i a=ldV p c.s.m c.b i a:=by
 unfold ldV
 rw[bb (ci h.ld),bb (ci h.lc),js p (l:=c.b) (l':=d.b) a i h.pre]
theorem Loc.rev{p:Pg}{c d:Cf}{i:Nat}(h:Loc p c d i):reV p c.s.st d.b i=reV p c.s.st c.b i:=by
 unfold reV
 rw[bb (ci h.ld),bb (ci h.lc)]
 exact dI p _ _ _ _ _ _ fun j hj=>by rw[h.pre _ (by omega)]
theorem Loc.cnK{p:Pg}{c d:Cf}{i:Nat}(h:Loc p c d i)(x:In):cnK p d i x=cnK p c i x:=by
 unfold Px.cnK tAB adV tA tB tD
 simp only[h.val,h.reg,h.m,h.ldv]
theorem Loc.tAB{p:Pg}{c d:Cf}{i:Nat}(h:Loc p c d i)(x:In):tAB p d i x=tAB p c i x∧adV p d i x=adV p c i x:=by
 unfold Px.tAB adV tA tB
 simp only[h.val]
 exact⟨trivial,trivial⟩
theorem EC.load{p:Pg}{c:Cf}{j:Nat}(h:EC p c j)(hk:(enX p c j).kind=2)(hd:(c.b.getD j default).dn=true):(c.b.getD j default).kn=true∧(c.b.getD j default).adr=adV p c j (enX p c j)∧(¬(c.s.m.length:Int)<=adV p c j (enX p c j)->(c.b.getD j default).frm=(ldV p c.s.m c.b j (adV p c j (enX p c j))).2.1∧(c.b.getD j default).val=(ldV p c.s.m c.b j (adV p c j (enX p c j))).1∧(ldV p c.s.m c.b j (adV p c j (enX p c j))).2.2=true):=by
 obtain⟨h1,h2,_⟩:=h.don hd (by omega)
 have hK:=h1
 unfold cnK at hK
 rw[al (by omega),al (by omega),al (by omega),aw hk] at hK
 unfold ouV at h2
 rw[al (by omega),al (by omega),al (by omega),aw hk] at h2
 by_cases hm:(c.s.m.length:Int)<=adV p c j (enX p c j)
 ·rw[aw hm] at h2
  exact⟨by rw[<-h2];rfl,by rw[<-h2];rfl,fun q=>absurd hm q⟩
 ·rw[al hm] at h2
  refine⟨by rw[<-h2];rfl,by rw[<-h2];rfl,fun _=>⟨by rw[<-h2];rfl,by rw[<-h2];rfl, ?_⟩⟩
  have:=(f6 hK).2
  rw[bW hm,ec] at this
  exact this
theorem EC.adr{p:Pg}{c d:Cf}{k:Nat}(h:EC p c k)(hL:Loc p c d k)(h3:(enX p c k).kind=3)(hn:(c.b.getD k default).kn=false)(hab:tAB p c k (enX p c k)=true){ft:Bool}(hft:ft=decide ((c.s.m.length:Int)<=adV p c k (enX p c k)))(he:d.b.getD k default={c.b.getD k default with adr:=adV p c k (enX p c k),kn:=true,ft:=ft}):EC p d k:=by
 have hx:enX p d k=enX p c k:=by
  unfold enX
  rw[he]
 refine⟨fun hd _=> ?_,fun _=> .inl (by rw[hx];exact h3),fun _ _=> ?_,fun _ hk=> ?_,fun hk=> ?_,fun _=> ?_,fun hk=> ?_⟩
 ·rw[he] at hd
  obtain⟨h1,h2,_⟩:=h.don hd (by omega)
  have ho:ouV p c k=((c.b.getD k default).done.vl (tD p c k (enX p c k)).1,none,[]):=by
   unfold ouV
   rw[al (by omega),al (by omega),aw h3]
  have ho2:ouV p d k=((d.b.getD k default).done.vl (tD p c k (enX p c k)).1,none,[]):=by
   unfold ouV tD
   rw[hx,al (by omega),al (by omega),aw h3,hL.reg]
  rw[ho] at h2
  rw[hx,hL.cnK,ho2,he]
  refine⟨h1, ?_,fun t ht=>by cases ht⟩
  have g1:(c.b.getD k default).dn=true:=hd
  have g2:(tD p c k (enX p c k)).1=(c.b.getD k default).val:=congrArg En.val h2
  rw[g2]
  revert g1
  generalize c.b.getD k default=e0
  intro g1
  obtain⟨x1,x2,x3,x4,x5,x6,x7,x8⟩:=e0
  obtain rfl:x6=true:=g1
  rfl
 ·rw[hx,(hL.tAB _).1,(hL.tAB _).2,hL.m,he]
  exact⟨hab,rfl,hft⟩
 ·rw[he] at hk;cases hk
 ·rw[hx] at hk;omega
 ·rw[he]
  exact h.nx1 (.inl (by omega))
 ·rw[hx] at hk;omega
def jJ(W c len:Int)(i:In)(s:S8):S8×List Ob×Int:=
 if i.kind=1 then((s.set i.d (Wd.doV W i.op (vlV W s i.a) (vlV W s i.b))).go (s.pc+1),[],0)
 else if i.kind=4 then(if vlV W s i.a=0 then s.go (s.pc+1) else(s.set i.d (vlV W s i.b)).go (s.pc+1),[],0)
 else if i.kind=2 then(if Wd.maskV W (vlV W s i.a+vlV W s i.b)<c then((s.set i.d (s.m.getD (Wd.maskV W (vlV W s i.a+vlV W s i.b)).toNat 0)).go (s.pc+1),[⟨1,Wd.maskV W (vlV W s i.a+vlV W s i.b)⟩],0) else(s,[],2))
 else if i.kind=3 then(if Wd.maskV W (vlV W s i.a+vlV W s i.b)<c then({s with m:=s.m.set (Wd.maskV W (vlV W s i.a+vlV W s i.b)).toNat (s.reg i.d),pc:=s.pc+1},[⟨2,Wd.maskV W (vlV W s i.a+vlV W s i.b)⟩],0) else(s,[],2))
 else if i.kind=5 then(if Wd.doV W i.op (vlV W s i.a) (vlV W s i.b)=0 then(s.go (s.pc+1),[⟨3,s.pc+1⟩],0) else(s.go i.tg,[⟨3,i.tg⟩],0))
 else if i.kind=6 then(s.go i.tg,[],0)
 else if i.kind=7 then(s.go (if len<vlV W s i.a then len else vlV W s i.a),[⟨3,if len<vlV W s i.a then len else vlV W s i.a⟩],0)
 else if i.kind=8 then(if 4<=s.st.length then(s,[],2) else({s with st:=s.st++[s.pc+1],pc:=i.tg},[],0))
 else if i.kind=9 then(if s.st.length=0 then(s,[],2) else({s with st:=s.st.take (s.st.length-1),pc:=s.st.getD (s.st.length-1) 0},[⟨3,s.st.getD (s.st.length-1) 0⟩],0))
 else if i.kind=10 then(s.go (s.pc+1),[],0)
 else if i.kind=11 then(s,[],1)
 else(s,[],2)
structure Stp (p:Pg) (c:Cf):Prop where
 e:(rtV p c).e=(jJ p.W c.s.m.length p.is.length (enX p c 0) (c.s.go (c.b.getD 0 default).pc)).2.2
 go:(jJ p.W c.s.m.length p.is.length (enX p c 0) (c.s.go (c.b.getD 0 default).pc)).2.2=0->(jJ p.W c.s.m.length p.is.length (enX p c 0) (c.s.go (c.b.getD 0 default).pc)).1=(rtV p c).s.go (c.b.getD 0 default).nxt
 en:(jJ p.W c.s.m.length p.is.length (enX p c 0) (c.s.go (c.b.getD 0 default).pc)).2.2≠0->(jJ p.W c.s.m.length p.is.length (enX p c 0) (c.s.go (c.b.getD 0 default).pc)).1=c.s.go (c.b.getD 0 default).pc∧(rtV p c).s=c.s.go (c.b.getD 0 default).pc
def pfr(f:Int):Int:=if 0<=f then f-1 else f
structure Gon (p:Pg) (c:Cf) (s2:S8):Prop where
 crt:crV p c=true
 m:s2.m.length=c.s.m.length
 rg: ∀r:Int,0<=r∧r<4->s2.reg r=if dC (enX p c 0)=true∧(enX p c 0).d=r then(c.b.getD 0 default).val else c.s.reg r
 ld: ∀a:Int,0<=a∧a<c.s.m.length->s2.m.getD a.toNat 0=if(enX p c 0).kind=3∧(c.b.getD 0 default).adr=a then(c.b.getD 0 default).val else c.s.m.getD a.toNat 0
 ar:(enX p c 0).kind=3->0<=(c.b.getD 0 default).adr∧(c.b.getD 0 default).adr<c.s.m.length
 st:reG p c.b 0 1 c.s.st=some s2.st
theorem jY(p:Pg)(l:List En)(r:Int): ∀k,k+1<=l.length->dV p l r (k+1)=match dV p (aq l) r k with
  |some x=>some x
  |none=>if dC (enI p l 0)=true∧(enI p l 0).d=r then some (if(l.getD 0 default).dn then((l.getD 0 default).val,true) else(0,false)) else none
 |0,_=>rfl
 |k+1,h=>by
  have e2:(aq l).getD k default=(l.getD (k+1) default).pop:=dJ l (by omega)
  have e1:enI p (aq l) k=enI p l (k+1):=by unfold enI;rw[e2];rfl
  rw[show dV p l r (k+1+1)=if dC (enI p l (k+1))=true∧(enI p l (k+1)).d=r then some (if(l.getD (k+1) default).dn then((l.getD (k+1) default).val,true) else(0,false)) else dV p l r (k+1) from rfl]
  rw[show dV p (aq l) r (k+1)=if dC (enI p (aq l) k)=true∧(enI p (aq l) k).d=r then some (if((aq l).getD k default).dn then(((aq l).getD k default).val,true) else(0,false)) else dV p (aq l) r k from rfl]
  rw[e1,e2]
  by_cases hc:dC (enI p l (k+1))=true∧(enI p l (k+1)).d=r
  ·rw[aw hc,aw hc];rfl
  ·rw[al hc,al hc]
   exact jY p l r k (by omega)
def upL(x:Int×Int×Bool):Int×Int×Bool:=if x.2.2 then(x.1,x.2.1+1,true) else(0,0,false)
theorem jr(p:Pg)(l:List En)(a:Int): ∀k,k+1<=l.length->ldF p l a (k+1)=match ldF p (aq l) a k with
  |some x=>some (upL x)
  |none=>if(enI p l 0).kind=3∧(l.getD 0 default).kn=true∧(l.getD 0 default).adr=a then some (if(l.getD 0 default).dn then((l.getD 0 default).val,0,true) else(0,0,false)) else none
 |0,_=>rfl
 |k+1,h=>by
  have e2:(aq l).getD k default=(l.getD (k+1) default).pop:=dJ l (by omega)
  have e1:enI p (aq l) k=enI p l (k+1):=by unfold enI;rw[e2];rfl
  rw[show ldF p l a (k+1+1)=if(enI p l (k+1)).kind=3∧(l.getD (k+1) default).kn=true∧(l.getD (k+1) default).adr=a then some (if(l.getD (k+1) default).dn then((l.getD (k+1) default).val,((k+1:Nat):Int),true) else(0,0,false)) else ldF p l a (k+1) from rfl]
  rw[show ldF p (aq l) a (k+1)=if(enI p (aq l) k).kind=3∧((aq l).getD k default).kn=true∧((aq l).getD k default).adr=a then some (if((aq l).getD k default).dn then(((aq l).getD k default).val,(k:Int),true) else(0,0,false)) else ldF p (aq l) a k from rfl]
  rw[e1,e2]
  by_cases hc:(enI p l (k+1)).kind=3∧(l.getD (k+1) default).kn=true∧(l.getD (k+1) default).adr=a
  ·rw[aw hc,aw (show(enI p l (k+1)).kind=3∧(l.getD (k+1) default).pop.kn=true∧(l.getD (k+1) default).pop.adr=a from hc)]
   show some (if(l.getD (k+1) default).dn=true then _ else _)=some (upL (if(l.getD (k+1) default).dn=true then((l.getD (k+1) default).val,(k:Int),true) else(0,0,false)))
   cases (l.getD (k+1) default).dn<;>rfl
  ·rw[al hc,al (show ¬((enI p l (k+1)).kind=3∧(l.getD (k+1) default).pop.kn=true∧(l.getD (k+1) default).pop.adr=a) from hc)]
   exact jr p l a k (by omega)
theorem mV(p:Pg)(l:List En)(a:Int): ∀j x,ldF p l a j=some x->0<=x.2.1
 |0,_,q=>by cases q
 |j+1,x,q=>by
  unfold ldF at q
  split at q
  ·rw[<-Option.some.inj q]
   split
   ·show(0:Int)<=(j:Int);omega
   ·exact dq 0
  ·exact mV p l a j x q
theorem Gon.val{p:Pg}{c:Cf}{s2:S8}(h:Gon p c s2){k:Nat}(hk:k+1<c.b.length)(r:Int):dH p s2 (aq c.b) k r=dH p c.s c.b (k+1:Nat) r:=by
 obtain⟨_,_,hdn,_⟩:=kY h.crt
 unfold dH
 rw[bb (by rw[eI];omega),bb (by omega),jY p c.b r k (by omega)]
 split
 ·rename_i hr
  cases dV p (aq c.b) r k with
  |some x=>rfl
  |none=>
   have h2:=h.rg r hr
   show(s2.reg r,true)=match (if dC (enX p c 0)=true∧(enX p c 0).d=r then some (if(c.b.getD 0 default).dn=true then((c.b.getD 0 default).val,true) else(0,false)) else none:Option (Int×Bool)) with |some x=>x |none=>(c.s.reg r,true)
   rw[h2]
   by_cases hc:dC (enX p c 0)=true∧(enX p c 0).d=r
   ·have hd:(c.b.getD 0 default).dn=true:=by
     rcases hdn with q |q
     ·exact q
     ·have:=hc.1
      unfold dC at this
      rw[q] at this
      cases this
    rw[aw hc,aw hc,aw hd]
   ·rw[al hc,al hc]
 ·rfl
theorem Gon.vlf{p:Pg}{c:Cf}{s2:S8}(h:Gon p c s2){k:Nat}(hk:k+1<c.b.length)(v:Vl):cD p s2 (aq c.b) k v=cD p c.s c.b (k+1:Nat) v:=by
 unfold cD
 split
 ·exact h.val hk v.n
 ·rfl
theorem Gon.ldv{p:Pg}{c:Cf}{s2:S8}(h:Gon p c s2){k:Nat}(hk:k+1<c.b.length)(a:Int)(ht:(ldV p c.s.m c.b (k+1:Nat) a).2.2=true):ldV p s2.m (aq c.b) k a=((ldV p c.s.m c.b (k+1:Nat) a).1,pfr (ldV p c.s.m c.b (k+1:Nat) a).2.1,true):=by
 obtain⟨_,_,hdn,hkn⟩:=kY h.crt
 unfold ldV at ht ⊢
 rw[bb (by omega),jr p c.b a k (by omega)] at ht
 rw[bb (by rw[eI];omega),bb (by omega),jr p c.b a k (by omega)]
 cases hq:ldF p (aq c.b) a k with
 |some x=>
  rw[hq] at ht
  obtain⟨v,f,t⟩:=x
  cases t with
  |false=>cases ht
  |true=>
   have hf:=mV p _ _ _ _ hq
   show(v,f,true)=(v,pfr (f+1),true)
   have hf2:(0:Int)<=f:=hf
   unfold pfr
   rw[aw (by omega),Int.add_sub_cancel]
 |none=>
  rw[hq] at ht
  have e0:enI p c.b 0=(enX p c 0):=rfl
  show(if 0<=a∧a<(s2.m.length:Int) then(s2.m.getD a.toNat 0, -1,true) else(0, -1,true):Int×Int×Bool)=_
  rw[h.m]
  by_cases hc:(enX p c 0).kind=3∧(c.b.getD 0 default).kn=true∧(c.b.getD 0 default).adr=a
  ·have hd:(c.b.getD 0 default).dn=true:=by
    rcases hdn with q |q
    ·exact q
    ·omega
   have hr:=h.ar hc.1
   rw[hc.2.2] at hr
   simp only[e0,aw hc,aw hd]
   rw[aw hr,h.ld a hr,aw ⟨hc.1,hc.2.2⟩]
   rfl
  ·simp only[e0,al hc]
   by_cases hr:0<=a∧a<(c.s.m.length:Int)
   ·rw[aw hr,aw hr,h.ld a hr,al (fun q=>hc ⟨q.1,hkn q.1,q.2⟩)]
    rfl
   ·rw[al hr,al hr]
    rfl
theorem Gon.rev{p:Pg}{c:Cf}{s2:S8}(h:Gon p c s2){k:Nat}(hk:k+1<c.b.length):reV p s2.st (aq c.b) k=reV p c.s.st c.b (k+1:Nat):=by
 unfold reV
 rw[bb (by rw[eI];omega),bb (by omega)]
 have h1: ∀st,reG p c.b 0 (k+1) st=match reG p c.b 0 1 st with |none=>none |some M=>reG p c.b 1 k M:=fun st=>by
  rw[show reG p c.b 0 1 st=(if(enI p c.b 0).kind=8 then(if 4<=st.length then none else some (st++[(c.b.getD 0 default).pc+1])) else if(enI p c.b 0).kind=9 then(if st.length=0 then none else some (st.take (st.length-1))) else some st) from rfl]
  rw[show reG p c.b 0 (k+1) st=(if(enI p c.b 0).kind=8 then(if 4<=st.length then none else reG p c.b 1 k (st++[(c.b.getD 0 default).pc+1])) else if(enI p c.b 0).kind=9 then(if st.length=0 then none else reG p c.b 1 k (st.take (st.length-1))) else reG p c.b 1 k st) from rfl]
  split
  ·split<;>rfl
  ·split
   ·split<;>rfl
   ·rfl
 rw[h1,h.st]
 exact dI p _ _ _ _ _ _ fun i hi=>by
  rw[bA,dJ c.b (by omega),Nat.add_comm 1 i]
  rfl
theorem Gon.ou{p:Pg}{c:Cf}{s2:S8}(h:Gon p c s2){k:Nat}(hk:k+1<c.b.length)(r:List Int)(e:Int)(hK:cnK p c (k+1:Nat) (enX p c (k+1))=true):cnK p ⟨s2,aq c.b,r,e⟩ k (enX p c (k+1))=true∧ouV p ⟨s2,aq c.b,r,e⟩ k=((ouV p c (k+1)).1.pop,(ouV p c (k+1)).2.1,(ouV p c (k+1)).2.2):=by
 have e2:(aq c.b).getD k default=(c.b.getD (k+1) default).pop:=dJ c.b hk
 have hx:enX p ⟨s2,aq c.b,r,e⟩ k=enX p c (k+1):=by
  unfold enX
  show atI p ((aq c.b).getD k default).pc=_
  rw[e2]
  rfl
 have hV:=fun v=>h.vlf hk v
 have hR:=fun q=>h.val hk q
 have hL:=fun a=>h.ldv hk a
 have hE:=h.rev hk
 have hm:((s2.m.length:Nat):Int)=(c.s.m.length:Int):=by rw[h.m]
 unfold cnK at hK ⊢
 unfold ouV
 rw[hx]
 unfold tAB adV tA tB tD at*
 simp only[hV,hR,hm,hE,e2]
 by_cases k1:(enX p c (k+1)).kind=1
 ·simp only[aw k1] at hK ⊢
  exact⟨hK,rfl⟩
 simp only[al k1] at hK ⊢
 by_cases k5:(enX p c (k+1)).kind=5
 ·have k4: ¬(enX p c (k+1)).kind=4:=by omega
  have k3: ¬(enX p c (k+1)).kind=3:=by omega
  have k2: ¬(enX p c (k+1)).kind=2:=by omega
  simp only[aw k5,al k4,al k3,al k2] at hK ⊢
  exact⟨hK,rfl⟩
 simp only[al k5] at hK ⊢
 by_cases k4:(enX p c (k+1)).kind=4
 ·simp only[aw k4] at hK ⊢
  exact⟨hK,rfl⟩
 simp only[al k4] at hK ⊢
 by_cases k2:(enX p c (k+1)).kind=2
 ·have k3: ¬(enX p c (k+1)).kind=3:=by omega
  simp only[aw k2,al k3] at hK ⊢
  obtain⟨h0,h3⟩:=f6 hK
  rw[h0]
  by_cases hm:(c.s.m.length:Int)<=Wd.maskV p.W ((cD p c.s c.b (k+1:Nat) (enX p c (k+1)).a).1+(cD p c.s c.b (k+1:Nat) (enX p c (k+1)).b).1)
  ·simp only[aw hm,fK hm]
   exact⟨by simp,rfl⟩
  ·rw[bW hm,ec] at h3
   simp only[al hm,bW hm]
   rw[hL _ h3]
   exact⟨rfl,rfl⟩
 simp only[al k2] at hK ⊢
 by_cases k3:(enX p c (k+1)).kind=3
 ·simp only[aw k3] at hK ⊢
  exact⟨hK,rfl⟩
 simp only[al k3] at hK ⊢
 by_cases k7:(enX p c (k+1)).kind=7
 ·simp only[aw k7] at hK ⊢
  exact⟨hK,rfl⟩
 simp only[al k7] at hK ⊢
 refine⟨hK, ?_⟩
 cases reV p c.s.st c.b (k+1:Nat) with
 |none=>rfl
 |some L=>
  by_cases h0:L.length=0
  ·simp only[aw h0];rfl
  ·simp only[al h0];rfl
theorem EC.pop{p:Pg}{c:Cf}{s2:S8}(h:Gon p c s2){k:Nat}(hk:k+1<c.b.length)(r:List Int)(e:Int)(hE:EC p c (k+1)):EC p ⟨s2,aq c.b,r,e⟩ k:=by
 have e2:(aq c.b).getD k default=(c.b.getD (k+1) default).pop:=dJ c.b hk
 have hx:enX p ⟨s2,aq c.b,r,e⟩ k=enX p c (k+1):=by
  unfold enX
  show atI p ((aq c.b).getD k default).pc=_
  rw[e2]
  rfl
 refine⟨fun hd hkk=> ?_,fun hf=> ?_,fun hkk hn=> ?_,fun hkk hn=> ?_,fun hkk=> ?_,fun hkk=> ?_,fun hkk=> ?_⟩
 ·rw[hx] at hkk ⊢
  have hd:(c.b.getD (k+1) default).dn=true:=by
   have:((aq c.b).getD k default).dn=true:=hd
   rw[e2] at this;exact this
  obtain⟨g1,g2,g3⟩:=hE.don hd hkk
  obtain⟨q1,q2⟩:=h.ou hk r e g1
  rw[q2]
  show _∧(ouV p c (k+1)).1.pop=(aq c.b).getD k default∧ ∀t,(ouV p c (k+1)).2.1=some t->((aq c.b).getD k default).nxt=t
  rw[e2,g2]
  exact⟨q1,rfl,g3⟩
 ·rw[hx]
  have hf:(c.b.getD (k+1) default).ft=true:=by
   have:((aq c.b).getD k default).ft=true:=hf
   rw[e2] at this;exact this
  rcases hE.ftn hf with q |q |⟨q,q1,q2⟩
  ·exact .inl q
  ·exact .inr (.inl q)
  ·refine .inr (.inr ⟨q, ?_, ?_⟩)
   ·show((aq c.b).getD k default).dn=true
    rw[e2];exact q1
   ·rw[(h.ou hk r e (hE.don q1 (by rcases q with q |q<;>omega)).1).2]
    exact q2
 ·rw[hx] at hkk ⊢
  have hn:(c.b.getD (k+1) default).kn=true:=by
   have:((aq c.b).getD k default).kn=true:=hn
   rw[e2] at this;exact this
  obtain⟨g1,g2,g3⟩:=hE.kno hkk hn
  have vA:=h.vlf hk (enX p c (k+1)).a
  have vB:=h.vlf hk (enX p c (k+1)).b
  have hm:((s2.m.length:Nat):Int)=(c.s.m.length:Int):=by rw[h.m]
  unfold tAB adV tA tB at*
  show((cD p s2 (aq c.b) k (enX p c (k+1)).a).2&&(cD p s2 (aq c.b) k (enX p c (k+1)).b).2)=true∧((aq c.b).getD k default).adr=Wd.maskV p.W ((cD p s2 (aq c.b) k (enX p c (k+1)).a).1+(cD p s2 (aq c.b) k (enX p c (k+1)).b).1)∧((aq c.b).getD k default).ft=decide ((s2.m.length:Int)<=Wd.maskV p.W ((cD p s2 (aq c.b) k (enX p c (k+1)).a).1+(cD p s2 (aq c.b) k (enX p c (k+1)).b).1))
  rw[vA,vB,hm,e2]
  exact⟨g1,g2,g3⟩
 ·rw[hx] at hkk
  have hn:(c.b.getD (k+1) default).kn=false:=by
   have:((aq c.b).getD k default).kn=false:=hn
   rw[e2] at this;exact this
  show((aq c.b).getD k default).ft=false
  rw[e2]
  exact hE.f3 hkk hn
 ·rw[hx] at hkk
  show((aq c.b).getD k default).ft=(match reV p s2.st (aq c.b) k with |none=>true |some L=>decide (4<=L.length))
  rw[e2,h.rev hk]
  exact hE.cal hkk
 ·rw[hx] at hkk
  show((aq c.b).getD k default).nxt=((aq c.b).getD k default).pc+1
  rw[e2]
  exact hE.nx1 hkk
 ·rw[hx] at hkk ⊢
  show((aq c.b).getD k default).nxt=_
  rw[e2]
  exact hE.nx6 hkk
theorem qJ(p:Pg)(pc:Int)(h0:0<=pc)(h1:pc<p.is.length):Vc (vF_ 29 [.agg (pgA p), aI pc] [.fz,.bd false,.bd false] [] (.agg (inA (p.is.getD pc.toNat default))) []):=aL (cj (df (pc<0)) (cj (df (pc>=(↑p.is.length:Int))) (cj (bi pc p.is.length) (cj (rf ((p.is.getD (Int.toNat pc) default).kind)) (cj (rf ((p.is.getD (Int.toNat pc) default).op)) (cj (rf ((p.is.getD (Int.toNat pc) default).d)) (cj (rf ((p.is.getD (Int.toNat pc) default).a.reg)) (cj (rf ((p.is.getD (Int.toNat pc) default).a.n)) (cj (rf ((p.is.getD (Int.toNat pc) default).b.reg)) (cj (rf ((p.is.getD (Int.toNat pc) default).b.n)) (cj (rf ((p.is.getD (Int.toNat pc) default).nm)) (cj (rf ((p.is.getD (Int.toNat pc) default).tg)) trivial))))))))))))
theorem pK{Z:Prop}(z:Z):(RF (12:Int) (RF (0:Int) (RF (0:Int) (RF false (RF (0:Int) (RF false (RF (0:Int) (RF (ByteArray.mk (Array.mk [])) (RF (0:Int) Z))))))))):=⟨rfl,rfl,rfl,rfl,rfl,rfl,rfl,rfl,rfl,z⟩
theorem pF(p:Pg)(pc:Int)(h0: ¬0<=pc):Vc (vF_ 29 [.agg (pgA p), aI pc] [.fz,.bd true] [] (.agg (inA {In0 with kind:=12})) []):=aL (cj (dt (pc<0)) (pK trivial))
theorem pE(p:Pg)(pc:Int)(h0:0<=pc)(h1: ¬pc<p.is.length):Vc (vF_ 29 [.agg (pgA p), aI pc] [.fz,.bd false,.bd true] [] (.agg (inA {In0 with kind:=12})) []):=aL (cj (df (pc<0)) (cj (dt (pc>=(↑p.is.length:Int))) (pK trivial)))
theorem atC(p:Pg)(pc:Int):pC_ 29 [.agg (pgA p),.int .i64 pc] (.agg (inA (atI p pc))) []:=by
 by_cases h0:0<=pc
 ·by_cases h1:pc<p.is.length
  ·rw[nE h0 h1];exact PureC.vc (qJ p pc h0 h1)
  ·rw[jE fun h=>h1 h.2];exact PureC.vc (pE p pc h0 h1)
 ·rw[jE fun h=>h0 h.1];exact PureC.vc (pF p pc h0)
end
end Go.Proofs.Ytdanmboalfmifaa.Px
namespace Go.Proofs.Ytdanmboalfmifaa
section
open Go.RowKit
abbrev Part:=Option Addr×Nat×List Int
def Part.v(p:Part):Value:= .slice p.1 p.2.2.length p.2.1
def jF:List Part->List Int
 | []=>[]
 |p::l=>p.2.2++jF l
set_option maxHeartbeats 2000000 in
theorem mb(A:Option Addr)(n c:Nat)(xs:List Int)(w:World)(hn:n=xs.length)(hr:Rd w w.heap.size A (xs.map (Value.int .i64)))(hs:n<=1000000):
  Calls Try.prog 30 #[.slice A n c] w (RetOwn w.heap.size 3 (xs.map (Value.int .i64)) w):=by
 subst hn
 obtain⟨i0,hi0,hz0,hs0,hb0⟩:=info_parts qC
 cases A with
 |none=>
  have hx:xs=[]:=by have:=hr.none_nil;simpa using this
  subst hx
  have he: ∀w:World,(binOp .eql 38 (.slice none 0 c) (.slice none 0 0)).run Try.prog w= .ok (.bool true) w:=fun _=>rfl
  go_enter Try.func30,Try.ntmps30
  go_wp2_with fail
  go_ret
  exact⟨_,rfl,World.ownsRow_nil _ _ _ _,up0 _⟩
 |some ad=>
  have hlit:=mO w 3 _ rfl
  have he: ∀w:World,(binOp .eql 38 (.slice (some ad) xs.length c) (.slice none 0 0)).run Try.prog w= .ok (.bool false) w:=fun _=>rfl
  go_enter Try.func30,Try.ntmps30
  go_wp2_with (at_builtin;refine nN _ rfl (.tmp 5) (.tmp 6) _ rfl w.heap.size 3 i0 _ 8 Try.underlying38 hi0 hz0 hs0 hb0 rfl _ 0 [] rfl hlit (w.alloc (.cells #[] 3)).heap.size (some ad) xs.length c (xs.map (Value.int .i64)) rfl (by simp) (hr.allocT _) (na _ _) (by omega) (by omega) (by simp) ?_;intro v1 w1 hown1 hb1)
  go_ret
  refine⟨_,rfl, ?_,(upA (up0 w) _).trans hb1⟩
  have:=mN hown1
  rwa [iK]
end
end Go.Proofs.Ytdanmboalfmifaa
namespace Go.Proofs.Ytdanmboalfmifaa.Px
section
open Go.RowKit Go.Proofs.Ytdanmboalfmifaa.Rx
theorem kZ{a:AV}{l:List Int}(h:PartOk a l)(hl:l.length<=1000000):pC_ 30 [a] (.own 0 0 1 0 l.length) [aP l]:=
 PureC.ofOwn (k:= .i64) (l:=l) rfl (fun _ _=>rfl) fun w R vs hR hn ha=>by
  obtain⟨v,rfl,hv⟩:=n6 rfl hn ha
  obtain⟨A,c,rfl,hr⟩:=h.rep hv hR
  exact mb A _ c l w rfl hr hl
def eJ(l:List En)(k i j:Nat):AV:=bif Nat.blt i k then enC (l.getD (i+1) default).pop j else enC (l.getD (i+1) default) j
def lpS(l:List En)(n k:Nat):Sm:=⟨[(0,enR l),(2,.bptr 1 0),(3,.nils),(4,.bool false),(5,.own 0 0 8 0 n),(15,.int .i64 n),(16,.int .i64 k)],[(0,⟨0,false,35,.rows 8 n (eJ l k)⟩),(1,⟨0,false,35,.box (enA En0)⟩)],2⟩
theorem jn{a b:Nat}(h:a<b):Nat.blt a b=true:=by rw[aV];exact h
theorem jo{a b:Nat}(h: ¬a<b):Nat.blt a b=false:=by
 cases hb:Nat.blt a b with
 |false=>rfl
 |true=>rw[aV] at hb;exact absurd hb h
theorem n4(l:List En)(k j:Nat):eJ l k k j=enC (l.getD (k+1) default) j:=by
 unfold eJ;rw[jo (bL k)];rfl
theorem lk{l:List En}{n k:Nat}{v:AV}(hv:v= .int .i64 (l.getD (k+1) default).pop.frm): ∀i,i<n-> ∀j,j<8->(bif Nat.ble 3 j&&Nat.blt j (3+1)&&Nat.beq i k then[v].getD (j-3) .junk else eJ l k i j)=eJ l (k+1) i j:=by
 intro i hi j hj
 by_cases hik:i=k
 ·subst hik
  rw[bX]
  unfold eJ
  rw[jo (bL i),jn (cc i)]
  subst hv
  match j,hj with
  |0,_=>rfl
  |1,_=>rfl
  |2,_=>rfl
  |3,_=>rfl
  |4,_=>rfl
  |5,_=>rfl
  |6,_=>rfl
  |7,_=>rfl
 ·have h1:Nat.beq i k=false:=by
   cases hb:Nat.beq i k with
   |false=>rfl
   |true=>exact absurd (af hb) hik
  rw[h1,Bool.and_false]
  show eJ l k i j=_
  unfold eJ
  by_cases hlt:i<k
  ·rw[jn hlt,jn (by omega)]
  ·rw[jo hlt,jo (by omega)]
theorem mJ(l:List En){n:Nat}(hl:l.length=n+1): ∀i,i<n-> ∀j,j<8->eJ l n i j=aY enC (aq l) i j:=by
 intro i hi j hj
 unfold eJ aY
 rw[jn hi,dJ l (by omega)]
 rfl
theorem pV(l:List En)(k:Nat):Option.some (eJ l k (k+0) (3:Nat))=Option.some (aI (l.getD (k+1) default).frm):=(congrArg some (n4 l k 3))
theorem pJ(l:List En)(n:Nat)(k:Nat){Z:Prop}(z:Z):(RR l.length 8 (fun i j=>aY enC l i j) (RF false (RF (0:Nat) (RF n (RF (n:Int) (RF ((k:Int)+1) Z)))))):=⟨fun _ _ _ _=>rfl,rfl,rfl,rfl,rfl,rfl,z⟩
theorem nK(l:List En){Z:Prop}(z:Z):(RF (0:Int) (RF (0:Int) (RF (0:Int) (RF (0:Int) (RF (0:Int) (RF false (RF false (RF false (RF l.length Z))))))))):=⟨rfl,rfl,rfl,rfl,rfl,rfl,rfl,rfl,rfl,z⟩
theorem pj(l:List En)(n k:Nat)(hl:l.length=n+1)(hk:k<n)(hb:l.length<1000000)(hs:(l.getD (k+1) default).frm<0):Vc (vC_ 24 0 (lpS l n k) [.bd true,.lv (aI (l.getD (k+1) default).frm),.bd true] .nrm [(0,0),(1,1)] (lpS l n (k+1))):=aL (cj (dt ((k:Int)<n)) (cj (bi k n) (cj (pV l k) (cj (pv (k+0<n)) (cj (dt ((l.getD (k+1) default).frm<0)) (cj (bi k n) (cj (pv (k+0<n)) (cj (i6 (k+1)) (cj (rf n) (cj (show ∀(i:Nat),i<n-> ∀(j:Nat),j<8->(bif Nat.ble (3:Nat) j&&Nat.blt j (4:Nat)&&Nat.beq i (k+0) then List.getD [aI (l.getD (k+1) default).frm] (j-3) AV.junk else eJ l k i j)=eJ l (k+1) i j from(lk (k:=k) (by rw[qj (by omega)]))) (nK l (pJ l n k trivial))))))))))))
theorem qv(l:List En)(n k:Nat)(hl:l.length=n+1)(hk:k<n)(hb:l.length<1000000)(hs: ¬(l.getD (k+1) default).frm<0)(h64:(l.getD (k+1) default).frm<=1000000):Vc (vC_ 24 0 (lpS l n k) [.bd true,.lv (aI (l.getD (k+1) default).frm),.bd false] .nrm [(0,0),(1,1)] (lpS l n (k+1))):=aL (cj (dt ((k:Int)<n)) (cj (bi k n) (cj (pV l k) (cj (pv (k+0<n)) (cj (df ((l.getD (k+1) default).frm<0)) (cj (i6 ((l.getD (k+1) default).frm-1)) (cj (bi k n) (cj (pv (k+0<n)) (cj (i6 (k+1)) (cj (rf n) (cj (show ∀(i:Nat),i<n-> ∀(j:Nat),j<8->(bif Nat.ble (3:Nat) j&&Nat.blt j (4:Nat)&&Nat.beq i (k+0) then List.getD [aI ((l.getD (k+1) default).frm-1)] (j-3) AV.junk else eJ l k i j)=eJ l (k+1) i j from(lk (k:=k) (by rw[qi (by omega)]))) (nK l (pJ l n k trivial)))))))))))))
theorem pm(l:List En)(n k:Nat)(hk: ¬k<n):Vc (vC_ 24 0 (lpS l n k) [.bd false] (.ext 0) [(0,0),(1,1)] (lpS l n k)):=aL (cj (df ((k:Int)<n)) (cj (rf n) (cj (rr n 8 fun i j=>eJ l k i j) (nK l (cj (rr l.length 8 fun i j=>aY enC l i j) (cj (rf false) (cj (rf (0:Nat)) (cj (rf n) (cj (rf (n:Int)) (cj (rf (k:Int)) trivial))))))))))
theorem ob(l:List En)(n:Nat)(hl:l.length=n+1)(hb:l.length<1000000)(h64: ∀x∈l,x.frm<=1000000):oL_ 24 0 (lpS l n 0).st (.ext 0) (lpS l n n).st:=
 Ok.loop (P:=Try.prog) (nt:=lS Try.prog 24) (c:=lpC Try.prog 24 0) (F:=fun k=>lpS l n k) (m:=n) (x:= .ext 0) (J:=lpS l n n) (fun k hk=>by
  by_cases hs:(l.getD (k+1) default).frm<0
  ·exact Ok.vc (pj l n k hl hk hb hs)
  ·exact Ok.vc (qv l n k hl hk hb hs (h64 _ (gR (by omega))))) (Ok.vc (pm l n n (bL _))) (by simp)
theorem pi(l:List En)(n:Nat)(hl:l.length=n+1)(hb:l.length<1000000)(h:oL_ 24 0 (lpS l n 0).st (.ext 0) (lpS l n n).st):Vc (vF_ 24 [enR l] [.bd false,.lp [(0,1),(1,0)] (lpS l n 0) (.ext 0) (lpS l n n)] [(0,0)] (.tup [.agg (enA (l.getD 0 default)),.own 0 0 8 0 (aq l).length,.bool true]) [enB (aq l)]):=aL (cj (e0 l.length 0) (cj (pv ((0:Int)<=1∧(1:Int)<=l.length∧(l.length:Int)<=l.length)) (cj (pv ((l.length-1)*48<=140737488355328∧l.length-1<=140737488355328)) (cj (pv (l.length-1=n)) (cj (rr (l.length-1) 8 fun i j=>aY enC l (i+1) j) (nK l (cj (rr l.length 8 fun i j=>aY enC l i j) (cj (rf false) (cj (rf (0:Nat)) (cj (pv (l.length-1=n)) (cj (pv ((↑(l.length-1):Int)=(n:Int))) (cj (rf (0:Int)) (cj h (cj (pv ((0:Int)<=0∧(0:Int)<l.length)) (cj (show n=(aq l).length from by rw[eI];omega) (cj (show ∀(i:Nat),i<n-> ∀(j:Nat),j<8->eJ l n i j=aY enC (aq l) i j from(mJ l hl)) (cj (rf ((l.getD 0 default).pc)) (cj (rf ((l.getD 0 default).val)) (cj (rf ((l.getD 0 default).adr)) (cj (rf ((l.getD 0 default).frm)) (cj (rf ((l.getD 0 default).nxt)) (cj (rf ((l.getD 0 default).dn)) (cj (rf ((l.getD 0 default).kn)) (cj (rf ((l.getD 0 default).ft)) (cj (rf (0:Nat)) (cj (show n=(aq l).length from by rw[eI];omega) (cj (rf true) trivial)))))))))))))))))))))))))))
theorem qu(l:List En)(h0:0<l.length)(hb:l.length<1000000)(h64: ∀x∈l,x.frm<=1000000):pC_ 24 [enR l] (.tup [.agg (enA (l.getD 0 default)),.own 0 0 8 0 (aq l).length,.bool true]) [enB (aq l)]:=by
 obtain⟨n,hn⟩: ∃n,l.length=n+1:=⟨l.length-1,by omega⟩
 exact PureC.vc (pi l n hn hb (ob l n hn hb h64))
theorem mW(s:S8)(h1:pC_ 30 [lR s.m] (.own 0 0 1 0 s.m.length) [aP s.m])(h2:pC_ 30 [lR s.st] (.own 0 0 1 0 s.st.length) [aP s.st]):Vc (vF_ 25 [.agg (s8R s)] [.cl [lR s.m] (.own 0 0 1 0 s.m.length) [aP s.m],.cl [lR s.st] (.own 0 0 1 0 s.st.length) [aP s.st]] [(0,2),(1,3)] (.agg (s8A s (.own 0 0 1 0 s.m.length) (.own 1 0 1 0 s.st.length)++[.nils,.nils, aI 0])) [aP s.m,aP s.st]):=aL (cj (rf s.m.length) (cj (rr s.m.length 1 fun i j=>aI (s.m.getD i 0)) (cj h1 (cj (rf s.st.length) (cj (rr s.st.length 1 fun i j=>aI (s.st.getD i 0)) (cj h2 (cj (rf s.m.length) (cj (rr s.m.length 1 fun i j=>aI (s.m.getD i 0)) (cj (rf s.st.length) (cj (rr s.st.length 1 fun i j=>aI (s.st.getD i 0)) (cj (rf s.r0) (cj (rf s.r1) (cj (rf s.r2) (cj (rf s.r3) (cj (rf (0:Nat)) (cj (rf s.m.length) (cj (rf (0:Nat)) (cj (rf s.st.length) (cj (rf s.pc) (cj (rf (0:Int)) trivial))))))))))))))))))))
theorem qy(s:S8)(hm:s.m.length<=1000000)(hs:s.st.length<=1000000):pC_ 25 [.agg (s8R s)] (.agg (s8A s (.own 0 0 1 0 s.m.length) (.own 1 0 1 0 s.st.length)++[.nils,.nils,.int .i64 0])) [aP s.m,aP s.st]:=PureC.vc (mW s (kZ (.row _) hm) (kZ (.row _) hs))
theorem kj(c:Cf)(h:(c.e !=0)=true):Vc (vF_ 27 [.agg (cfA c)] [.fv,.bd true] [] (.bool true) []):=aL (cj h (cj (rf true) trivial))
theorem ja(c:Cf)(h:(c.e !=0)=false):Vc (vF_ 27 [.agg (cfA c)] [.fv,.bd false] [] (.bool false) []):=aL (cj h (cj (rf false) trivial))
structure FrE (p:Pg) (e:En):Prop where
 d:e.dn=false->e.val=0∧e.frm= -1
 a:(e.dn=false∧(atI p e.pc).kind≠3∨(atI p e.pc).kind=3∧e.kn=false)->e.adr=0∧e.kn=false∧e.ft=false
def Frs(p:Pg)(c:Cf):Prop:= ∀e∈c.b,FrE p e
theorem FrE.pop{p:Pg}{e:En}(h:FrE p e):FrE p e.pop:=
 ⟨fun hd=>⟨(h.d hd).1,by show(if 0<=e.frm then e.frm-1 else e.frm)= -1;rw[(h.d hd).2];rfl⟩,h.a⟩
theorem Frs.set{p:Pg}{c:Cf}(h:Frs p c){k:Nat}{e:En}(he:FrE p e): ∀x∈c.b.set k e,FrE p x:=
 fun x hx=>(List.mem_or_eq_of_mem_set hx).elim (h x) fun hx=>hx▸he
structure XOk (p:Pg) (c:Cf):Prop where
 I:Inv p c
 F:Frs p c
structure BOk (p:Pg) (c:Cf):Prop where
 P:OkP p
 x:XOk p c
 w:p.win<=90
theorem BOk.m{p:Pg}{c:Cf}(h:BOk p c):MOk p c:=h.x.I.ok h.P (by have:=h.w;omega)
theorem BOk.bl{p:Pg}{c:Cf}(h:BOk p c):c.b.length<=90:=by
 have h1:=h.x.I.bl
 have h2:=h.w
 omega
theorem BOk.ml{p:Pg}{c:Cf}(h:BOk p c):c.s.m.length<=16:=h.x.I.ml▸h.P.sum
theorem XOk.ok{p:Pg}{c:Cf}(h:XOk p c)(hP:OkP p)(hw:p.win<=90):BOk p c:=⟨hP,h,hw⟩
end
end Go.Proofs.Ytdanmboalfmifaa.Px
