import Derived.Test.YtdanmboalfmifaaMbC
import Derived.Test.YtdanmboalfmifaaMbA
import Derived.WalkKit
set_option linter.unusedVariables false
set_option linter.unusedSimpArgs false
set_option maxRecDepth 100000
namespace Go.Proofs.Ytdanmboalfmifaa.Rx
section
open Go.RowKit
section
variable{P:Program}{T:Nat->Tch}{md:Bool}{call:cJ}{nt:Nat}{ops:Array Oper}{st:St}{D:Nat->DS}
def HpI(T:Nat->Tch)(ops:Array Oper)(st:St)(D:Nat->DS)(listed:Array Bool)(H:Nat->Option Blk):Prop:=
 ∀id,(∃k,k<ops.size∧Up listed k∧fO (T k) id∧(∀j,j<ops.size->Up listed j->fO (T j) id->j<=k)∧H id=(D (k+1)).st.heap id)∨((∀j,j<ops.size->Up listed j-> ¬fO (T j) id)∧H id=st.heap id)
structure EnvI (ops:Array Oper) (st:St) (D:Nat->DS) (listed:Array Bool) (e:Nat->AV):Prop where
 e1: ∀(k:Nat) o t,ops[k]? =some o->o.dst=some t->Up listed k->e t=(D (k+1)).st.env t
 e2: ∀t,(∀(k:Nat) o,ops[k]? =some o->o.dst=some t-> ¬Up listed k)->e t=st.env t
theorem EnvI.put{listed:Array Bool}{e:Nat->AV}(h:EnvI ops st D listed e)(hs:eZ ops (jP ops)=true){i:Nat}{o:Oper}(ho:ops[i]? =some o)(hi:i<listed.size){v:AV}(hv:(D (i+1)).st.env=gx (D i).st.env o.dst v):EnvI ops st D (listed.setIfInBounds i true) (gx e o.dst v):=by
 refine⟨fun k p t hp hd hu=> ?_,fun t hno=> ?_⟩
 ·rcases (dq hi).1 hu with rfl |hu'
  ·rw[ho] at hp;cases hp
   rw[hv,iv hd,iv hd]
  ·by_cases hk:k=i
   ·subst hk
    rw[ho] at hp;cases hp
    rw[hv,iv hd,iv hd]
   ·have:=(fR hs ho hp hd).1
    rw[i7 (this.resolve_left hk)]
    exact h.e1 k p t hp hd hu'
 ·rw[i7 fun hd=>hno i o ho hd ((dq hi).2 (.inl rfl))]
  exact h.e2 t fun k p hp hd hu=>hno k p hp hd ((dq hi).2 (.inr hu))
theorem EnvI.agree{listed:Array Bool}{e:Nat->AV}(h:EnvI ops st D listed e)(hD:SeqD P T md call nt ops st D)(hs:eZ ops (jP ops)=true)(hc:Closed ops listed){i:Nat}(hr:i∈Region.ready .any ops listed){o:Oper}(ho:ops[i]? =some o){t:Tmp}(ht:t∈gJ o ops):e t=(D i).st.env t:=by
 obtain⟨hnu,hi,hc'⟩:=hc.ready hr
 have hi':i<listed.size:=by rw[hc.sz];exact hi
 have uniq: ∀(k k':Nat) p p',ops[k]? =some p->ops[k']? =some p'->p.dst=some t->p'.dst=some t->k=k':=fun k k' p p' h1 h2 h3 h4=>by
  have:=(fR hs h2 h1 h3).1
  exact this.resolve_right fun hn=>hn h4
 by_cases hex: ∃(k:Nat) (p:Oper),ops[k]? =some p∧p.dst=some t
 ·obtain⟨k,p,hp,hd⟩:=hex
  have hk:k<ops.size:=(aN.1 hp).1
  have late: ¬k<i-> ¬Up listed k->e t=(D i).st.env t:=fun h1 h2=>by
   rw[h.e2 t fun k' p' hp' hd' hu=>h2 (uniq k k' p p' hp hp' hd hd'▸hu)]
   have:=hD.env_keep (t:=t) (a:=0) i (by omega) (by omega) fun j o' j1 j2 j3 j4=>by
    have:=uniq k j p o' hp j3 hd j4
    omega
   rw[this,hD.st0]
  rcases (fR hs ho hp hd).2 ht with rfl |⟨h1,h2⟩|⟨h1,h2⟩
  ·exact late (by omega) hnu
  ·have hu:Up listed k:=by
    have:=(hc'.bef hs i ((dq hi').2 (.inl rfl)) k h2)
    rcases (dq hi').1 this with rfl |hu
    ·omega
    ·exact hu
   rw[h.e1 k p t hp hd hu]
   exact(hD.env_keep (t:=t) (a:=k+1) i (by omega) (by omega) fun j o' j1 j2 j3 j4=>by
    have:=uniq k j p o' hp j3 hd j4
    omega).symm
  ·exact late h1 fun hu=>hnu (hc.bef hs k hu i h2)
 ·rw[h.e2 t fun k p hp hd=>absurd ⟨k,p,hp,hd⟩ hex]
  have:=hD.env_keep (t:=t) (a:=0) i (by omega) (by omega) fun j o' j1 j2 j3 j4=>hex ⟨j,o',j3,j4⟩
  rw[this,hD.st0]
theorem rj{o:Oper}{e e':Nat->AV}(h: ∀t∈gJ o ops,e t=e' t): ∀x∈o.op.operands.toList,b9 e x=b9 e' x:=fun x hx=>by
 cases x with
 |tmp t=>exact h t (by
   unfold gJ
   rw[aV]
   exact .inl (List.mem_filterMap.2 ⟨.tmp t,hx,rfl⟩))
 |_=>rfl
theorem qm{o:Oper}{e e':Nat->AV}(h: ∀t∈gJ o ops,e t=e' t){orc:List Orc}:gd ops o e orc=gd ops o e' orc:=by
 unfold gd
 cases hg:o.guard with
 |none=>rfl
 |some p=>
  obtain⟨j,want⟩:=p
  simp only
  cases hd:(ops[j]?).bind (·.dst) with
  |none=>rfl
  |some d=>
   simp only
   rw[h d (by
    unfold gJ
    rw[aV]
    refine .inr ?_
    rw[hg]
    simp only[hd,Option.toList,aH])]
theorem pX{md:Bool}{op:Op}{ρ:Operand->AV}{h:Nat->Option Blk}{next:Nat}{orc:List Orc}{r:Res}(hv:fvO orc=false)(hr:cX P md op ρ h next orc=some r):next<r.next:=by
 cases hb:bxO op orc with
 |true=>
  rw[nU hb] at hr
  obtain⟨b,q1,q2,q3⟩:=p9 h hr
  omega
 |false=>
 rw[pY hv hb] at hr
 cases op with
 |alloc t=>
  obtain⟨z,hz,rfl⟩:=ac.1 hr
  exact cI _
 |box t x=>
  obtain⟨z,hz,rfl⟩:=ac.1 hr
  cases hfz:fzO orc&&z.all es with
  |false=>exact cI _
  |true=>exact cI _
 |makeSlice t x y=>
  unfold ca at hr
  simp only at hr
  split at hr
  ·split at hr
   ·obtain⟨i,hi,hr⟩:=ae.1 hr
    obtain⟨z,hz,hr⟩:=ae.1 hr
    obtain⟨hb,hr⟩:=aD hr
    obtain⟨p,hp,rfl⟩:=ac.1 hr
    exact cI _
   ·cases hr
  ·cases hr
 |buildSlice t len parts=>
  unfold ca at hr
  simp only at hr
  split at hr
  ·obtain⟨s,hs,hr⟩:=ae.1 hr
   obtain⟨hb,hr⟩:=aD hr
   obtain⟨z,hz,hr⟩:=ae.1 hr
   obtain⟨cs,hcs,rfl⟩:=ac.1 hr
   exact cI _
  ·cases hr
 |call c=>
  obtain⟨callee,args,at_⟩:=c
  cases callee with
  |builtin b=>
   cases b with
   |append=>
    have hr:apz P md args at_ ρ h next orc=some r:=hr
    obtain⟨b,q1,q2,q3⟩:=sM h hr
    omega
   |_=>cases hr
  |_=>cases hr
 |_=>cases hr
structure InvD [Dfs] (T:Nat->Tch) (ops:Array Oper) (st:St) (D:Nat->DS) (nt:Nat) (cx0:Cx) (listed:Array Bool) (a:Act) (cx:Cx) (e:Nat->AV) (N:Nat):Prop where
 cl:Closed ops listed
 stab:Stab cx0 cx
 s:SRep cx ⟨e,cx.H,N⟩ a nt
 env:EnvI ops st D listed e
 hp:HpI T ops st D listed cx.H
 bd: ∀k,k<ops.size->Up listed k->(T k).all=true->Bnd (D (k+1))
theorem z8(hD:SeqD P T md call nt ops st D){listed:Array Bool}{H:Nat->Option Blk}(hp:HpI T ops st D listed H){i id:Nat}(hi:i<=ops.size)(h1: ∀k,k<i->fO (T k) id->Up listed k)(h2: ∀k,i<=k->k<ops.size->fO (T k) id-> ¬Up listed k):H id=(D i).st.heap id:=by
 rcases hp id with⟨k,k1,k2,k3,k4,k5⟩|⟨k1,k2⟩
 ·have hk:k<i:=by
   rcases mS k i with h |h
   ·exact h
   ·exact absurd k2 (h2 k h k1 k3)
  rw[k5]
  exact(hD.keepId (a:=k+1) (id:=id) i (by omega) hi fun j j1 j2 hw=>by
   have:=k4 j (by omega) (h1 j j2 hw) hw
   omega).symm
 ·rw[k2, <-hD.st0]
  exact(hD.keepId (a:=0) (id:=id) i (by omega) hi fun j j1 j2 hw=>k1 j (by omega) (h1 j j2 hw) hw).symm
theorem vZ{listed:Array Bool}{H:Nat->Option Blk}{i:Nat}(hi:i<listed.size)(hq: ∀id, ¬fO (T i) id)(hp:HpI T ops st D listed H):HpI T ops st D (listed.setIfInBounds i true) H:=by
 intro id
 have hu: ∀j,Up (listed.setIfInBounds i true) j->fO (T j) id->Up listed j:=fun j hj hw=>by
  rcases (dq hi).1 hj with rfl |hj
  ·exact absurd hw (hq id)
  ·exact hj
 rcases hp id with⟨k,k1,k2,k3,k4,k5⟩|⟨k1,k2⟩
 ·exact .inl ⟨k,k1,(dq hi).2 (.inr k2),k3,fun j j1 j2 j3=>k4 j j1 (hu j j2 j3) j3,k5⟩
 ·exact .inr ⟨fun j j1 j2 j3=>k1 j j1 (hu j j2 j3) j3,k2⟩
theorem pR{listed:Array Bool}{H H':Nat->Option Blk}{i:Nat}(hi:i<listed.size)(hio:i<ops.size)(hlast: ∀id,fO (T i) id-> ∀j,j<ops.size->Up listed j->fO (T j) id->j<=i)(h1: ∀id,fO (T i) id->H' id=(D (i+1)).st.heap id)(h2: ∀id, ¬fO (T i) id->H' id=H id)(hp:HpI T ops st D listed H):HpI T ops st D (listed.setIfInBounds i true) H':=by
 intro id
 by_cases hw:fO (T i) id
 ·refine .inl ⟨i,hio,(dq hi).2 (.inl rfl),hw,fun j j1 j2 j3=> ?_,h1 id hw⟩
  rcases (dq hi).1 j2 with rfl |hu
  ·exact aB _
  ·exact hlast id hw j j1 hu j3
 ·have hu: ∀j,Up (listed.setIfInBounds i true) j->fO (T j) id->Up listed j:=fun j hj hw'=>by
   rcases (dq hi).1 hj with rfl |hj
   ·exact absurd hw' hw
   ·exact hj
  rw[h2 id hw]
  rcases hp id with⟨k,k1,k2,k3,k4,k5⟩|⟨k1,k2⟩
  ·exact .inl ⟨k,k1,(dq hi).2 (.inr k2),k3,fun j j1 j2 j3=>k4 j j1 (hu j j2 j3) j3,k5⟩
  ·exact .inr ⟨fun j j1 j2 j3=>k1 j j1 (hu j j2 j3) j3,k2⟩
theorem InvD.step[Dfs]{cx0 cx:Cx}{listed:Array Bool}{a:Act}{e:Nat->AV}{N:Nat}(hI:InvD T ops st D nt cx0 listed a cx e N)(hD:SeqD P T md call nt ops st D)(hcall:eN P call)(hs:eZ ops (jP ops)=true){i:Nat}(hr:i∈Region.ready .any ops listed)
  {K:Act->World->Prop}{Q:Exit->Act->World->Prop}(hK: ∀cx' a' e' N',InvD T ops st D nt cx0 (listed.setIfInBounds i true) a' cx' e' N'->K a' cx'.w):wpOp P ops Q i K a cx.w:=by
 obtain⟨hnu,hi,hc'⟩:=hI.cl.ready hr
 have hi':i<listed.size:=by rw[hI.cl.sz];exact hi
 obtain⟨o,g,ho,hd,hg,h1,hbef⟩:=hD.at_ hi
 have hag: ∀t∈gJ o ops,(D i).st.env t=e t:=fun t ht=>(hI.env.agree hD hs hI.cl hr ho ht).symm
 have hev:=rj hag
 rw[qm hag] at hg
 have upB: ∀k,k<i->cfl (T i) (T k)=true->Up listed k:=fun k hk hc=>by
  have:=hc'.bef hs i ((dq hi').2 (.inl rfl)) k (hbef k hk hc)
  rcases (dq hi').1 this with rfl |hu
  ·omega
  ·exact hu
 have upA: ∀k,i<k->k<ops.size->cfl (T k) (T i)=true-> ¬Up listed k:=fun k hk hkn hc hu=>by
  obtain⟨_,_,_,_,_,_,hb⟩:=hD.at_ hkn
  exact hnu (hI.cl.bef hs k hu i (hb i hk hc))
 have seen: ∀id,AC (T i) id->cx.H id=(D i).st.heap id:=fun id ht=>z8 hD hI.hp (dY hi) (fun k hk hw=>upB k hk (ra hw ht).2) (fun k hk hkn hw=>by
  by_cases hki:k=i
  ·subst hki;exact hnu
  ·exact upA k (by omega) hkn (ra hw ht).1)
 have hlast: ∀id,fO (T i) id-> ∀j,j<ops.size->Up listed j->fO (T j) id->j<=i:=fun id hw j hj hu hwj=>by
  rcases mS i j with h |h
  ·exact absurd hu (upA j h hj (ra hwj (hw.imp_right .inl)).1)
  ·exact h
 have bdI:(T i).any=true->Bnd (D i):=fun hany=>by
  have hdec:DecidablePred fun k=>(T k).all=true:=fun k=>inferInstance
  rcases vS (fun k=>(T k).all=true) i with⟨k,k1,k2,k3⟩|h0
  ·have hu:Up listed k:=upB k k1 (by unfold cfl;rw[k2,hany];simp)
   refine hD.bnd (a:=k+1) (hI.bd k (by omega) hu k2) i (by omega) (by omega) fun j j1 j2=> ?_
   cases hx:(T j).all with
   |false=>rfl
   |true=>have:=k3 j j2 hx;omega
  ·refine hD.bnd (a:=0) (fun id hid=> ?_) i (by omega) (by omega) fun j _ j2=> ?_
   ·rw[hD.st0] at hid ⊢;exact hD.lt id hid
   ·cases hx:(T j).all with
    |false=>rfl
    |true=>exact absurd hx (h0 j j2)
 unfold wpOp
 rw[ho]
 simp only
 rcases h1 with⟨hgf,hv,_,_,hT,hp⟩|⟨hgt,r,hrr,hpg,hpr,hv,e1,e2,hT⟩
 ·have hw:=eV hg hp hI.s
  rw[hgf] at hw
  rw[hw]
  simp only[fi,if_false]
  refine hK cx _ _ N ⟨hc',hI.stab,hI.s.put (Stab.refl cx) hI.s.c rfl hI.s.lt hd (.pure (.val _)),hI.env.put hs ho hi' hv,vZ hi' (fun id hw=>by rw[hT] at hw;rcases hw with h |h<;>cases h) hI.hp,fun k k1 k2 k3=> ?_⟩
  rcases (dq hi').1 k2 with rfl |hu
  ·rw[hT] at k3;cases k3
  ·exact hI.bd k k1 hu k3
 ·have hw:=eV hg hpg hI.s
  rw[hgt] at hw
  rw[hw]
  simp only[if_true]
  refine .inl ?_
  cases hall:(T i).all with
  |true=>
   have hH:cx.H=(D i).st.heap:=funext fun id=>seen id (.inl hall)
   have hbnd:Bnd (D i):=bdI (by unfold Tch.any;rw[hall];rfl)
   have hrr':evD P md call o.op (b9 e) (D i).st.heap (D i).st.next g.2.1=some r:=kv hev▸hrr
   have hs0:SRep cx ⟨e,(D i).st.heap,(D i).st.next⟩ a nt:=⟨hH,hI.s.c,hI.s.env,hbnd,hI.s.sz,hI.s.df⟩
   have fin: ∀cx' a',SRep cx' ⟨gx e o.dst r.v,r.heap,r.next⟩ a' nt->Stab cx cx'->K a' cx'.w:=fun cx' a' hs' hst'=>by
    have hHe:cx'.H=r.heap:=hs'.H
    refine hK cx' a' _ r.next ⟨hc',hI.stab.trans hst',by rw[hHe];exact hs',hI.env.put hs ho hi' hv,pR hi' hi hlast (fun id _=>by rw[hHe,e1]) (fun id hn=>absurd (.inl hall) hn) hI.hp,fun k k1 k2 k3=> ?_⟩
    rcases (dq hi').1 k2 with rfl |hu
    ·intro id hid
     rw[e2]
     rw[e1] at hid
     exact hs'.lt id hid
    ·exact hI.bd k k1 hu k3
   cases hcl:jc o.op (b9 e) g.2.1 with
   |true=>
    refine qg hcl (by rw[hH];exact hrr') hpr hI.s.c hI.s.env (fun id h5 h6=> ?_) fun cx' z m1 m2 m3 m4 m5=>fin cx' _ (hI.s.put m3 m2 m1 (m5.lt fun id hid=>hbnd id (by rw[<-hH];exact hid)) hd m4) m3
    cases hx:cx.H id with
    |none=>rfl
    |some b=>have:=hbnd id (by rw[<-hH,hx];rfl);omega
   |false=>
    cases hcp:ja o.op (b9 e) g.2.1 with
    |true=>
     refine mH hcp (by rw[hH];exact hrr') hpr hI.s.c hI.s.env fun cx' z m1 m2 m3 m4 m5 m6=>fin cx' _ (hI.s.put m3 m2 m1 (fun id hid=> ?_) hd m4) m3
     rw[m6]
     exact hbnd id (by rw[<-hH, <-m5];exact hid)
    |false=>
     cases hcm:jb o.op (b9 e) g.2.1 with
     |true=>
      refine qe hcm (by rw[hH];exact hrr') hpr hI.s.c hI.s.env (fun id h5 h6=> ?_) fun cx' z m1 m2 m3 m4 m5=>fin cx' _ (hI.s.put m3 m2 m1 (m5.lt fun id hid=>hbnd id (by rw[<-hH];exact hid)) hd m4) m3
      cases hx:cx.H id with
      |none=>rfl
      |some b=>have:=hbnd id (by rw[<-hH,hx];rfl);omega
     |false=>
      unfold evD at hrr'
      rw[hcl,hcp,hcm] at hrr'
      exact mB hcall hrr' hpr hs0 hd fin
  |false=>
   have hall':=hall
   rw[hT] at hall'
   have L:=oO hrr hall'
   rw[<-hT] at L
   have wr_iff: ∀id,fO (T i) id↔id∈(T i).wr:=fun id=>⟨fun h=>h.resolve_left (by rw[hall];simp),.inr⟩
   have notall: ∀k,k<ops.size->Up (listed.setIfInBounds i true) k->(T k).all=true->Bnd (D (k+1)):=fun k k1 k2 k3=>by
    rcases (dq hi').1 k2 with rfl |hu
    ·rw[hall] at k3;cases k3
    ·exact hI.bd k k1 hu k3
   have done: ∀cx' a' r' N',evD P md call o.op (b9 e) cx.H N' g.2.1=some r'->r'.v=r.v->(∀id∈(T i).wr,r'.heap id=r.heap id)->(∀id,id ∉ (T i).wr->r'.heap id=cx.H id)->cx'.H=r'.heap-> ∀M,SRep cx' ⟨gx e o.dst r.v,cx'.H,M⟩ a' nt->Stab cx cx'->K a' cx'.w:=fun cx' a' r' N' _ _ q1 q2 hHe M hs' hst'=>by
    refine hK cx' a' _ M ⟨hc',hI.stab.trans hst',hs',hI.env.put hs ho hi' hv,pR hi' hi hlast (fun id hw=>by rw[hHe,q1 id ((wr_iff id).1 hw),e1]) (fun id hn=>by rw[hHe,q2 id fun hm=>hn ((wr_iff id).2 hm)]) hI.hp,notall⟩
   have rdH: ∀id∈(T i).rd,cx.H id=(D i).st.heap id:=fun id hid=>seen id (.inr (.inr hid))
   have wrH: ∀id∈(T i).wr,cx.H id=(D i).st.heap id:=fun id hid=>seen id (.inr (.inl hid))
   cases hnw:(T i).nw with
   |false=>
    obtain⟨r',k1,k2,k3,k4,_,k6,k7,k8⟩:=L.loc cx.H N (fun h=>by rw[hnw] at h;cases h) rdH wrH
    rw[kv hev] at k1
    have hpr': ∀p∈r'.cs,p:=by rw[k4];exact hpr
    have hlt': ∀id,(r'.heap id).isSome=true->id<N:=fun id hid=>by
     by_cases hm:id∈(T i).wr
     ·rcases L.wrs id hm with h2 |h2
      ·exact hI.s.lt id (by show(cx.H id).isSome=true;rw[wrH id hm];exact h2)
      ·have:=L.nonew hnw
       omega
     ·rw[k8 id hm] at hid
      exact hI.s.lt id hid
    have finz: ∀cx' z,cx'.H=r'.heap->CRep cx'->Stab cx cx'->Rep cx' r'.v z->K (a.put o.dst z) cx'.w:=fun cx' z m1 m2 m3 m4=>by
     have hs':=hI.s.put (next:=N) m3 m2 m1 hlt' hd m4
     rw[k2, <-m1] at hs'
     exact done cx' _ r' N k1 k2 k7 k8 m1 N hs' m3
    cases hcl:jc o.op (b9 e) g.2.1 with
    |true=>
     exfalso
     have hcls:=vV (P:=P) (op:=o.op) (ρ:=b9 e) (orc:=g.2.1) hcl
     rw[hT] at hnw hall
     unfold d7 at hnw hall
     rw[hcls] at hnw hall
     rw[fc hev,hcl] at hnw hall
     simp only[aO] at hnw hall
     cases hf:fj (D i).st.heap (rdD o.op (b9 (D i).st.env)) with
     |true=>rw[hf] at hnw;cases hnw
     |false=>rw[hf] at hall;cases hall
    |false=>
     cases hcp:ja o.op (b9 e) g.2.1 with
     |true=>exact mH hcp k1 hpr' hI.s.c hI.s.env fun cx' z m1 m2 m3 m4 _ _=>finz cx' z m1 m2 m3 m4
     |false=>
      have hcm:jb o.op (b9 e) g.2.1=false:=by
       cases hcm:jb o.op (b9 e) g.2.1 with
       |false=>rfl
       |true=>
        exfalso
        rw[hT] at hnw
        unfold d7 at hnw
        rw[pP (P:=P) hcm,fc hev,hcl,ga hev,hcp,gb hev,hcm] at hnw
        cases hnw
      have hrl:=k1
      unfold evD at hrl
      rw[hcl,hcp,hcm] at hrl
      simp only[bb] at hrl
      by_cases hcc:cV P o.op= .call
      ·exfalso
       rw[hT] at hall
       unfold d7 at hall
       rw[hcc,fc hev,hcl,ga hev,hcp,gb hev,hcm] at hall
       cases hall
      ·exact kt hrl hcc hpr' rfl hI.s.c hI.s.env (by
        cases hx:cx.H N with
        |none=>rfl
        |some b=>exact absurd (hI.s.lt N (by show(cx.H N).isSome=true;rw[hx];rfl)) (b8 _)) fun cx' z m1 m2 m3 m4 _=>finz cx' z m1 m2 m3 m4
   |true=>
    have hany:(T i).any=true:=by unfold Tch.any;rw[hnw];simp
    have hbnd:=bdI hany
    obtain⟨r',k1,k2,k3,k4,k5,_,k7,k8⟩:=L.loc cx.H (D i).st.next (fun _=>rfl) rdH wrH
    rw[kv hev] at k1
    have k5':=k5 hnw
    have hpr': ∀p∈r'.cs,p:=by rw[k4];exact hpr
    have hfree: ∀id,(D i).st.next<=id->id<r.next->cx.H id=none:=fun id h5 h6=>by
     rw[wrH id (L.new id h5 h6)]
     cases hx:(D i).st.heap id with
     |none=>rfl
     |some b=>have:=hbnd id (by rw[hx];rfl);omega
    have hlt': ∀id,(r'.heap id).isSome=true->id<max N r.next:=fun id hid=>by
     by_cases hm:id∈(T i).wr
     ·rcases L.wrs id hm with h2 |h2
      ·have:id<N:=hI.s.lt id (by show(cx.H id).isSome=true;rw[wrH id hm];exact h2)
       omega
      ·omega
     ·rw[k8 id hm] at hid
      have:id<N:=hI.s.lt id hid
      omega
    have finz: ∀cx' z,cx'.H=r'.heap->CRep cx'->Stab cx cx'->Rep cx' r'.v z->K (a.put o.dst z) cx'.w:=fun cx' z m1 m2 m3 m4=>by
     have hs':=hI.s.put (next:=max N r.next) m3 m2 m1 hlt' hd m4
     rw[k2, <-m1] at hs'
     exact done cx' _ r' _ k1 k2 k7 k8 m1 _ hs' m3
    cases hcl:jc o.op (b9 e) g.2.1 with
    |true=>exact qg hcl k1 hpr' hI.s.c hI.s.env (fun id h5 h6=>hfree id h5 (by rw[k5'] at h6;exact h6)) fun cx' z m1 m2 m3 m4 _=>finz cx' z m1 m2 m3 m4
    |false=>
     cases hcp:ja o.op (b9 e) g.2.1 with
     |true=>exact mH hcp k1 hpr' hI.s.c hI.s.env fun cx' z m1 m2 m3 m4 _ _=>finz cx' z m1 m2 m3 m4
     |false=>
      cases hcm:jb o.op (b9 e) g.2.1 with
      |true=>exact qe hcm k1 hpr' hI.s.c hI.s.env (fun id h5 h6=>hfree id h5 (by rw[k5'] at h6;exact h6)) fun cx' z m1 m2 m3 m4 _=>finz cx' z m1 m2 m3 m4
      |false=>
      have hrl:=k1
      unfold evD at hrl
      rw[hcl,hcp,hcm] at hrl
      simp only[bb] at hrl
      by_cases hcc:cV P o.op= .call
      ·exfalso
       rw[hT] at hall
       unfold d7 at hall
       rw[hcc,fc hev,hcl,ga hev,hcp,gb hev,hcm] at hall
       cases hall
      ·refine kt hrl hcc hpr' rfl hI.s.c hI.s.env ?_ fun cx' z m1 m2 m3 m4 _=>finz cx' z m1 m2 m3 m4
       cases hx:cx.H (D i).st.next with
       |none=>rfl
       |some b=>
        exfalso
        have hlt:(D i).st.next<r.next:=by
         cases hcz:cV P o.op with
         |pur=>rw[hT] at hnw;unfold d7 at hnw;rw[hcz] at hnw;cases hnw
         |read=>
          rw[hT] at hnw;unfold d7 at hnw;rw[hcz] at hnw
          simp only at hnw
          cases ha:lL o.op (b9 (D i).st.env) with
          |true=>rw[ha] at hnw;cases hnw
          |false=>rw[ha] at hnw;cases hnw
         |call=>exact absurd hcz hcc
         |make=>
          have hfv:fvO g.2.1=false:=by
           rw[hT] at hnw;unfold d7 at hnw;rw[hcz] at hnw
           simp only at hnw
           cases hx2:fvO g.2.1 with
           |false=>rfl
           |true=>rw[hx2] at hnw;cases hnw
          have h9:=hrr
          unfold evD dL at h9
          rw[hcz] at h9
          exact pX hfv h9
         |write=>
          have hm:(D i).st.next∈(T i).wr:=by
           rw[hT] at hnw hall ⊢
           exact sY hcz hnw hall
          rcases L.wrs _ hm with h2 |h2
          ·have:=hbnd _ h2;omega
          ·exact h2.2
        rw[hfree _ (aB _) hlt] at hx
        cases hx
end
end
section
open Go.RowKit
section
variable{P:Program}
def Cx.drew(cx:Cx):Cx:=⟨{cx.w with drawn:=cx.w.drawn+1},cx.R,cx.φ,cx.H,cx.B⟩
theorem kw(cx:Cx):Stab cx cx.drew:=
 ⟨⟨rfl,fun _ h=>h,fun _ h=> .inl h,rfl,rfl,rfl,aB _,fun _ _ _=>rfl⟩,fun id b h=>⟨b,h,fun _=>⟨rfl,sameShape.rfl' b⟩,fun _=>rfl⟩,fun id b b' h h'=>by
  have h2:cx.H id=some b':=h'
  rw[h] at h2;cases h2;exact aB _⟩
theorem tN{cx:Cx}(hc:CRep cx):CRep cx.drew:=by
 refine⟨fun id b hb=> ?_,hc.inj,hc.rlt,hc.blt⟩
 have h:=hc.hb id b hb
 unfold HB at h ⊢
 split
 ·rename_i cs hcs
  rw[hcs] at h
  obtain⟨g,cur,h1,h2,h3,h4,h5⟩:=h
  refine⟨g,cur,h1,h2,h3,fun j a ha=> ?_,h5⟩
  obtain⟨u,u1,u2,u3⟩:=h4 j a ha
  exact⟨u,u1,u2,u3.stab hc (kw cx)⟩
 ·rename_i m n f hcs
  rw[hcs] at h
  rcases h with h |⟨g,cap,cur,h1,h2,h3,h4,h5,h6,h7⟩
  ·exact .inl h
  ·refine .inr ⟨g,cap,cur,h1,h2,h3,h4,h5,fun i hi j hj=> ?_,h7⟩
   obtain⟨u,u1,u2,u3⟩:=h6 i hi j hj
   exact⟨u,u1,u2,u3.mono (fun _ h=>h) fun _ _=>rfl⟩
theorem tM[Dfs]{cx:Cx}{st:St}{a:Act}{nt:Nat}(hs:SRep cx st a nt):SRep cx.drew st a nt:=
 ⟨hs.H,tN hs.c,fun t=>(hs.env t).stab hs.c (kw cx),hs.lt,hs.sz,hs.df⟩
theorem InvD.any[Dfs]{T:Nat->Tch}{md:Bool}{call:cJ}{nt:Nat}{ops:Array Oper}{st:St}{D:Nat->DS}{cx0:Cx}(hD:SeqD P T md call nt ops st D)(hcall:eN P call)(hs:eZ ops (jP ops)=true)
  {Q:Exit->Act->World->Prop}(hQ: ∀cx' a',SRep cx' (D ops.size).st a' nt->Stab cx0 cx'->Q .normal a' cx'.w):
  ∀(fuel:Nat) {listed:Array Bool} {a:Act} {cx:Cx} {e:Nat->AV} {N:Nat},InvD T ops st D nt cx0 listed a cx e N->(List.range ops.size).countP (fun i=> !(listed.getD i false))<=fuel->wpAny P .any ops Q fuel listed a cx.w:=by
 have fin: ∀{listed:Array Bool} {a:Act} {cx:Cx} {e:Nat->AV} {N:Nat},InvD T ops st D nt cx0 listed a cx e N->Region.ready .any ops listed=[]->Q .normal a cx.w:=by
  intro listed a cx e N hI hr
  have hall:=hI.cl.done hs hr
  have hH:cx.H=(D ops.size).st.heap:=funext fun id=>z8 hD hI.hp (aB _) (fun k hk _=>hall k hk) (fun k h1 h2 _=>by omega)
  have hlt:Bnd (D ops.size):=by
   have hdec:DecidablePred fun k=>(T k).all=true:=fun k=>inferInstance
   rcases vS (fun k=>(T k).all=true) ops.size with⟨k,k1,k2,k3⟩|h0
   ·refine hD.bnd (a:=k+1) (hI.bd k k1 (hall k k1) k2) ops.size (by omega) (aB _) fun j j1 j2=> ?_
    cases hx:(T j).all with
    |false=>rfl
    |true=>have:=k3 j j2 hx;omega
   ·refine hD.bnd (a:=0) (fun id hid=> ?_) ops.size (by omega) (aB _) fun j _ j2=> ?_
    ·rw[hD.st0] at hid ⊢;exact hD.lt id hid
    ·cases hx:(T j).all with
     |false=>rfl
     |true=>exact absurd hx (h0 j j2)
  have he:e=(D ops.size).st.env:=by
   funext t
   by_cases hex: ∃(k:Nat) (p:Oper),ops[k]? =some p∧p.dst=some t
   ·obtain⟨k,p,hp,hd⟩:=hex
    have hk:k<ops.size:=(aN.1 hp).1
    rw[hI.env.e1 k p t hp hd (hall k hk)]
    exact(hD.env_keep (t:=t) (a:=k+1) ops.size (by omega) (aB _) fun j o' j1 j2 j3 j4=>by
     have:=(fR hs j3 hp hd).1
     rcases this with rfl |h5
     ·omega
     ·exact h5 j4).symm
   ·rw[hI.env.e2 t fun k p hp hd=>absurd ⟨k,p,hp,hd⟩ hex]
    have:=hD.env_keep (t:=t) (a:=0) ops.size (by omega) (aB _) fun j o' j1 j2 j3 j4=>hex ⟨j,o',j3,j4⟩
    rw[this,hD.st0]
  refine hQ cx a ⟨hH,hI.s.c, ?_,hlt,hI.s.sz,hI.s.df⟩ hI.stab
  rw[<-he]
  exact hI.s.env
 intro fuel
 induction fuel with
 |zero=>
  intro listed a cx e N hI hcnt
  have hr:Region.ready .any ops listed=[]:=by
   rw[List.eq_nil_iff_forall_not_mem]
   intro i hi
   obtain⟨hnu,hlt,_⟩:=hI.cl.ready hi
   have:=List.countP_eq_zero.1 (Nat.le_zero.1 hcnt) i (cO.2 hlt)
   unfold Up at hnu
   simp at this
   exact hnu (by simpa using this)
  exact⟨hr,fin hI hr⟩
 |succ fuel ih=>
  intro listed a cx e N hI hcnt
  refine⟨fin hI,fun i hi=> ?_⟩
  refine hI.step hD hcall hs hi fun cx' a' e' N' hI'=>ih hI' ?_
  obtain⟨hnu,hlt,_⟩:=hI.cl.ready hi
  have hi':i<listed.size:=by rw[hI.cl.sz];exact hlt
  have hx:= @dq listed i
  have:=wv (p:=fun i=> !(listed.getD i false)) (p':=fun k=> !((listed.setIfInBounds i true).getD k false)) (cO.2 hlt) (by
    unfold Up at hnu
    simp only[fA] at hnu ⊢
    cases hb:listed.getD i false with
    |false=>rfl
    |true=>exact absurd hb hnu) (by
    have:=(hx (k:=i) hi').2 (.inl rfl)
    unfold Up at this
    simp only[this,Bool.not_true]) (fun k hk=>by
    simp only[fA] at hk ⊢
    cases hb:listed.getD k false with
    |false=>rfl
    |true=>
     have:=(hx (k:=k) hi').2 (.inr hb)
     unfold Up at this
     rw[this] at hk;cases hk)
  omega
theorem tO[Dfs]{md:Bool}{call:cJ}(hcall:eN P call){nt:Nat}{ops:Array Oper}{st:St}{orc:List Orc}{q:St×List Orc×List Prop}{cx:Cx}{a:Act}(h:kO P md call nt ops st orc=some q)(hp: ∀p∈q.2.2,p)(hs:SRep cx st a nt){Q:Exit->Act->World->Prop}
  (hQ: ∀cx' a',SRep cx' q.1 a' nt->Stab cx cx'->Q .normal a' cx'.w):P.follows .mixedOrders=true∧wpAny P .any ops Q ops.size (Array.replicate ops.size false) a {cx.w with drawn:=cx.w.drawn+1}:=by
 unfold kO at h
 obtain⟨h1,h2⟩:=aD h
 rw[av] at h1
 obtain⟨q',hq,rfl⟩:=ac.1 h2
 obtain⟨s',ps⟩:=q'
 obtain⟨D,d0,d1,d2⟩:=pt ops.size 0 hq hp
 rw[bg] at d1
 have htr: ∀j,j<ops.size-> ∃t,(D (j+1)).tr=(j,t)::(D j).tr:=fun j hj=>by
  obtain⟨q,hq,_⟩:=d2 j (cc _) (by omega)
  obtain⟨o,g,_,_,_,h3⟩:=jX hq
  rcases h3 with⟨_,_,_,_,e,_⟩|⟨_,r,_,_,_,_,_,e,_⟩
  ·exact⟨_,e⟩
  ·exact⟨_,e⟩
 have hT: ∃T:Nat->Tch, ∀j,j<ops.size->(D (j+1)).tr=(j,T j)::(D j).tr:=
  ⟨fun j=>((D (j+1)).tr.head?.map (·.2)).getD m9,fun j hj=>by
   obtain⟨t,ht⟩:=htr j hj
   have e:((D (j+1)).tr.head?.map (·.2)).getD m9=t:=by rw[ht];rfl
   show(D (j+1)).tr=(j,((D (j+1)).tr.head?.map (·.2)).getD m9)::(D j).tr
   rw[e];exact ht⟩
 obtain⟨T,hT⟩:=hT
 have hD:SeqD P T md call nt ops st D:=⟨by rw[d0],by rw[d0],fun j hj=>d2 j (cc _) (by omega),hT,hs.lt⟩
 refine⟨h1.1, ?_⟩
 have hs':=tM hs
 have hno: ∀k, ¬Up (Array.replicate ops.size false) k:=fun k hk=>by
  unfold Up at hk
  rw[aU,Array.getElem?_replicate] at hk
  split at hk<;>cases hk
 refine InvD.any hD hcall h1.2 (cx0:=cx.drew) (Q:=Q) (fun cx' a' hs2 hst2=> ?_) ops.size (cx:=cx.drew) (e:=st.env) (N:=st.next) ⟨⟨by simp,fun k o _ hu=>absurd hu (hno k)⟩,Stab.refl _, ?_,⟨fun k o t _ _ hu=>absurd hu (hno k),fun t _=>rfl⟩,fun id=> .inr ⟨fun j _ hu=>absurd hu (hno j), ?_⟩,fun k _ hu=>absurd hu (hno k)⟩ ?_
 ·rw[d1] at hs2
  exact hQ cx' a' hs2 ((kw cx).trans hst2)
 ·have:cx.drew.H=st.heap:=hs'.H
  rw[this]
  exact hs'
 ·rw[show cx.drew.H=st.heap from hs'.H]
 ·exact bF List.countP_le_length (by simp)
theorem jN(md:Bool):kz P (kO P md):=by
 intro D0 call hcall nt ops st orc q cx a id h hp hs Q hQ
 obtain⟨h1,h2⟩:=tO hcall h hp hs hQ
 exact wp_region_any h1 h2
end
end
section
open Go.RowKit
structure Vc (p:Prop):Prop where
 out:p
def nh:List Prop->Prop
 | []=>True
 |p::l=>p∧nh l
theorem fM: ∀{l:List Prop},nh l-> ∀p∈l,p
 | [],_,p,hp=>by cases hp
 |q::l,h,p,hp=>by
  rcases bN.1 hp with rfl |hp
  ·exact h.1
  ·exact fM h.2 p hp
def eqX:X->X->Bool
 | .nrm,.nrm=>true
 | .ext i,.ext j=>Nat.beq i j
 | .ret,.ret=>true
 |_,_=>false
theorem CJ{x y:X}(h:eqX x y=true):x=y:=by
 cases x<;>cases y<;>first |rfl |cases h | (unfold eqX at h;rw[aj h])
def loops:Code->List Code
 | .seq a b=>loops a++loops b
 | .cond _ a b=>loops a++loops b
 | .block _ c=>loops c
 | .loop c=>c::loops c
 |_=>[]
section
variable(P:Program)
def CN(f:FuncId):Code:=((P.funcs[f]?).bind (·.body)).getD .skip
def lpC(f:FuncId)(k:Nat):Code:=(loops (CN P f)).getD k .skip
def cN(f:FuncId):Nat:=((P.funcs[f]?).map (·.ntmps)).getD 0
def n6(md:Bool)(f:FuncId)(args:List AV)(orc:List Orc)(ρ:List (Nat×Nat))(res:AV)(H:List Blk):Prop:=
 match mC P (kO P md) md 100 true f args (fun _=>none) 0 orc with
 |some r=>match leS ρ ⟨fun _=>r.v,r.heap,r.next⟩ ⟨[(0,res)],ki H,H.length⟩ with
  |some ps=>nh (r.cs++ps)
  |none=>False
 |none=>False
def rI(md:Bool)(f:FuncId)(args:List AV)(H0:List Blk)(orc:List Orc)(ρ:List (Nat×Nat))(res:AV)(H:List Blk):Prop:=
 match mC P (kO P md) md 100 true f args (fun i=>H0[i]?) H0.length orc with
 |some r=>match leS ρ ⟨fun _=>r.v,r.heap,r.next⟩ ⟨[(0,res)],ki H,H.length⟩ with
  |some ps=>nh (r.cs++ps)
  |none=>False
 |none=>False
def vcC(md:Bool)(nt:Nat)(c:Code)(I:Sm)(orc:List Orc)(x:X)(r:List (Nat×Nat))(J:Sm):Prop:=
 match cy P (kO P md) true md (nW P (mC P (kO P md) md 100 false)) nt c I.st orc with
 |some q=>bif eqX q.1 x then match leS r q.2.1 J with
  |some ps=>nh (q.2.2.2++ps)
  |none=>False
  else False
 |none=>False
end
section
variable{P:Program}
theorem PureC.vc{md:Bool}{f:FuncId}{args:List AV}{orc:List Orc}{ρ:List (Nat×Nat)}{res:AV}{H:List Blk}(h:Vc (n6 P md f args orc ρ res H)):PureC P f args res H:=by
 replace h:=h.out
 unfold n6 at h
 split at h
 ·rename_i r hr
  split at h
  ·rename_i ps hps
   have hall:=fM h
   exact PureC.of (jN md) hr (fun p hp=>hall p (aV.2 (.inl hp))) hps fun p hp=>hall p (aV.2 (.inr hp))
  ·cases h
 ·cases h
theorem MutC.vc{md:Bool}{f:FuncId}{args:List AV}{H0:List Blk}{orc:List Orc}{ρ:List (Nat×Nat)}{res:AV}{H:List Blk}(h:Vc (rI P md f args H0 orc ρ res H)):MutC P f args H0 res H:=by
 replace h:=h.out
 unfold rI at h
 split at h
 ·rename_i r hr
  split at h
  ·rename_i ps hps
   have hall:=fM h
   exact MutC.of (jN md) hr (fun p hp=>hall p (aV.2 (.inl hp))) hps fun p hp=>hall p (aV.2 (.inr hp))
  ·cases h
 ·cases h
theorem rc{md:Bool}(n:Nat):eN P (nW P (mC P (kO P md) md n false)):=qi fun f args h next orc r h1 h2 cx h3 h4 h5 vs h6 h7=>by
 obtain⟨k1,k2⟩:=jM (jN md) n false h1 h2 cx h3 h4 h5 vs h6 h7
 refine⟨k1,k2.mono ?_⟩
 rintro e w' ⟨z,cx',m1,m2,m3,m4,m5,m6,m7⟩
 exact⟨z,cx',m1,m2,m3,m4,m5.2 rfl,m6,m7⟩
theorem Ok.vc{md:Bool}{nt:Nat}{c:Code}{I J:Sm}{orc:List Orc}{x:X}{r:List (Nat×Nat)}(h:Vc (vcC P md nt c I orc x r J)):Ok P nt c I.st x J.st:=by
 replace h:=h.out
 unfold vcC at h
 split at h
 ·rename_i q hq
  obtain⟨hx,h1⟩:eqX q.1 x=true∧(match leS r q.2.1 J with |some ps=>nh (q.2.2.2++ps)|none=>False):=by
   cases hb:eqX q.1 x with
   |true=>rw[hb] at h;exact⟨rfl,h⟩
   |false=>rw[hb] at h;exact h.elim
  split at h1
  ·rename_i ps hps
   have hall:=fM h1
   intro d0 cx a hs Q hQ
   refine bY (jN md) (rc 100) c hq (fun p hp=>hall p (aV.2 (.inl hp))) hs Q fun d1 cx1 a1 hs1 ha1=> ?_
   obtain⟨cx1p,hw,hs1p,hk⟩:=ha1.plus hs1
   obtain⟨cx2,hs2,he2,hw2⟩:=hs1p.le hps fun p hp=>hall p (aV.2 (.inr hp))
   obtain⟨cx3,e3,hs3,ha3⟩:=hk d1 cx2 _ a1 _ hs2 (.of_ext he2)
   rw[CJ hx, <-hw, <-hw2, <-e3]
   exact hQ d1 cx3 a1 hs3 ha3
  ·cases h1
 ·cases h
theorem Ok.loop{nt:Nat}{c:Code}{F:Nat->Sm}{m:Nat}{x:X}{J:Sm}(hr: ∀k,k<m->Ok P nt c (F k).st .nrm (F (k+1)).st)(he:Ok P nt c (F m).st x J.st)(hx:x≠ .nrm):Ok P nt (.loop c) (F 0).st x J.st:=by
 intro d0 cx a hs Q hQ
 have key: ∀n k,k+n=m-> ∀(d1:Dfs) cx1 a1, @SRep d1 cx1 (F k).st a1 nt->(∀(d2:Dfs) cx2 a2, @SRep d2 cx2 J.st a2 nt->After true d1 cx1 d2 cx2->Q x.to a2 cx2.w)->Code.rounds P c Q (n+1) a1 cx1.w:=by
  intro n
  induction n with
  |zero=>
   intro k hk d1 cx1 a1 hs1 hK
   obtain rfl:k=m:=by omega
   rw[rounds_succ]
   refine he d1 cx1 a1 hs1 _ fun d2 cx2 a2 hs2 ha2=> ?_
   have:=hK d2 cx2 a2 hs2 ha2
   cases x with
   |nrm=>exact absurd rfl hx
   |ext id=>exact this
   |ret=>exact this
  |succ n ih=>
   intro k hk d1 cx1 a1 hs1 hK
   rw[rounds_succ]
   refine hr k (by omega) d1 cx1 a1 hs1 _ fun d2 cx2 a2 hs2 ha2=> ?_
   obtain⟨cx2p,hw,hs2p,hk2⟩:=ha2.plus hs2
   show Code.rounds _ _ _ _ _ cx2.w
   rw[<-hw]
   exact ih (k+1) (by omega) d2 cx2p a2 hs2p fun d3 cx3 a3 hs3 ha3=>by
    obtain⟨cx4,e4,hs4,ha4⟩:=hk2 d3 cx3 _ a3 _ hs3 ha3
    rw[<-e4]
    exact hK d3 cx4 a3 hs4 ha4
 exact wp_loop_rounds (m+1) (key m 0 (by omega) d0 cx a hs hQ)
def an{α:Type}[Inhabited α](g:α->Nat->AV)(l:List α):Nat->Nat->AV:=fun i j=>g (l.getD i default) j
theorem ci{α:Type}[Inhabited α]{g:α->Nat->AV}{l l':List α}{i j:Nat}(h:i<l.length):an g (l++l') i j=an g l i j:=by
 unfold an
 rw[au,au,bh h]
theorem qF{α:Type}[Inhabited α]{g:α->Nat->AV}{l l':List α}{i j:Nat}(h: ¬i<l.length):an g (l++l') i j=an g l' (i-l.length) j:=by
 unfold an
 rw[au,au,b7 (bt.1 h)]
theorem cn{α:Type}[Inhabited α]{g:α->Nat->AV}{l:List α}{x:α}{j:Nat}:an g (l++[x]) l.length j=g x j:=by
 rw[qF (b8 _),bT]
 rfl
theorem dK{n i:Nat}{a b c:AV}(h1:i<n->a=c)(h2: ¬i<n->b=c):(bif Nat.blt i n then a else b)=c:=by
 by_cases h:i<n
 ·have:Nat.blt i n=true:=by rw[bw];exact h
  rw[this]
  exact h1 h
 ·have:Nat.blt i n=false:=by
   cases hb:Nat.blt i n with
   |false=>rfl
   |true=>rw[bw] at hb;exact absurd hb h
  rw[this]
  exact h2 h
theorem fu{n:Int}(h1: -9223372036854775808<=n)(h2:n<=9223372036854775807):inK .i64 n:=⟨h1,h2⟩
theorem Ok.cut{nt:Nat}{c d:Code}{I J K:St}{x:X}(h1:Ok P nt c I .nrm J)(h2:Ok P nt d J x K):Ok P nt (.seq c d) I x K:=by
 intro d0 cx a hs Q hQ
 refine wp_seq (h1 d0 cx a hs _ fun d1 cx1 a1 hs1 ha1=> ?_)
 obtain⟨cx1p,hw,hs1p,hk⟩:=ha1.plus hs1
 show Code.wp _ _ _ _ cx1.w
 rw[<-hw]
 exact h2 d1 cx1p a1 hs1p Q fun d2 cx2 a2 hs2 ha2=>by
  obtain⟨cx3,e3,hs3,ha3⟩:=hk d2 cx2 _ a2 _ hs2 ha2
  rw[<-e3]
  exact hQ d2 cx3 a2 hs3 ha3
end
end
section
open Go.RowKit
section
variable{P:Program}
theorem RepP.ints{w:World}{R:Nat->Prop}{k:IntKind}{n:Nat}{f:Nat->Nat->AV}{v:Value}{l:List Int}(h:RepP w R (.row 1 n f) v)(hR: ∀g,R g->g<w.heap.size)(hn:n=l.length)(hf: ∀i,i<n->f i 0= .int k (l.getD i 0)):
  ∃A c,v= .slice A l.length c∧l.length<=c∧c<=maxLen∧Rd w w.heap.size A (l.map (Value.int k)):=by
 subst hn
 cases h with
 |row A cap u hn hc hA h1 hu=>
  refine⟨A,cap,rfl,hn,hc,fun hl=> ?_⟩
  rw[cS] at hl
  obtain⟨g,o,rfl,hg,hcell⟩:=hA (by omega)
  refine⟨⟨g,o,none⟩,rfl,hR g hg,fun j x hx=> ?_⟩
  have hj:j<l.length:=by
   have:=(az.1 hx).1
   simpa using this
  have h2:=hu j hj 0 (by omega)
  rw[hf j hj] at h2
  have h3:u j 0= .int k (l.getD j 0):=by
   generalize u j 0=z at h2
   cases h2;rfl
  have h4:=hcell j hj 0 (by omega)
  rw[h3] at h4
  rw[aG,aE hj,aM,af] at hx
  rw[<-hx,show Addr.add ⟨g,o,none⟩ j=⟨g,o+j,none⟩ from eM g o j]
  rw[show o+(j*1+0)=o+j by omega] at h4
  rw[h4]
  simp[List.getD,hj]
theorem PureC.ofOwn{f:FuncId}{args:List AV}{t:TypeId}{k:IntKind}{l:List Int}{n:Nat}{g:Nat->Nat->AV}(hn:n=l.length)(hg: ∀i,i<n->g i 0= .int k (l.getD i 0))
  (h: ∀(w:World) (R:Nat->Prop) (vs:Array Value),(∀g,R g->g<w.heap.size)->args.length=vs.size->(∀(j:Nat) a v,args[j]? =some a->vs[j]? =some v->RepP w R a v)->Calls P f vs w (RetOwn w.heap.size t (l.map (Value.int k)) w)):
  PureC P f args (.own 0 0 1 0 n) [⟨0,false,t,.rows 1 n g⟩]:=by
 subst hn
 intro w R vs hR hl ha
 refine(h w R vs hR hl ha).mono ?_
 rintro e w' ⟨v,rfl,hown,hb⟩
 have hlen:(l.map (Value.int k)).length=l.length:=cS _
 have hR': ∀g,R g->g<w'.heap.size:=fun g hg=>a8 (hR g hg) hb.size
 rcases hown.2 with⟨rfl,h0⟩|⟨gg,cap,cur,rfl,hge,hh,hnc,hcm,hsz,htk⟩
 ·rw[hlen] at h0
  refine⟨_,⟨w',R,fun _=>none,fun i=>[(⟨0,false,t,.rows 1 l.length g⟩:Blk)][i]?,fun g=>g<w.heap.size⟩,rfl,rfl,rfl,⟨fun id b hb'=> ?_,fun _ _ _ _ _ _ _ h1 _=>(by cases h1),hR',fun g hg=>a8 hg hb.size⟩,rfl,fun _ h=>h,fun _ h=> .inl h,hb, ?_⟩
  ·cases id with
   |zero=>
    simp only[bM,af] at hb'
    subst hb'
    exact .inl ⟨rfl,h0⟩
   |succ i=>simp at hb'
  ·exact .own (b:=⟨0,false,t,.rows 1 l.length g⟩) rfl (aB _) rfl fun _=>⟨l.length,g,rfl,by omega,.inl ⟨rfl,rfl,h0,rfl⟩⟩
 ·rw[hlen] at hnc htk
  have hlt:gg<w'.heap.size:=(aN.1 hh).1
  refine⟨_,⟨w',R,fun i=>if i=0 then some (gg,cap) else none,fun i=>[(⟨0,false,t,.rows 1 l.length g⟩:Blk)][i]?,fun g=>g<w.heap.size⟩,rfl,rfl,rfl,⟨fun id b hb'=> ?_,fun i j _ _ _ _ _ h1 h2=> ?_,hR',fun g hg=>a8 hg hb.size⟩,rfl,fun _ h=>h,fun _ h=> .inl h,hb, ?_⟩
  ·cases id with
   |zero=>
    simp only[bM,af] at hb'
    subst hb'
    refine .inr ⟨gg,cap,cur,rfl,hh,hsz,hnc,hcm,fun i hi j hj=> ?_,bt.2 hge, ?_⟩
    ·obtain rfl:j=0:=by omega
     have h5:cur.toList[i]? =some (.int k (l.getD i 0)):=by
      have:=congrArg (fun(x:List Value)=>x[i]?) htk
      simp only[aG] at this
      rw[a9,ai (by omega)] at this
      rw[this]
      simp[List.getD,hi]
     refine⟨.int k (l.getD i 0), ?_,rfl, ?_⟩
     ·rw[<-bj,show i*1+0=i by omega]
      exact h5
     ·rw[hg i hi]
      exact .int _ _
    ·show ¬R gg
     intro hr
     have:=hR gg hr
     omega
   |succ i=>simp at hb'
  ·simp only at h1 h2
   split at h1
   ·split at h2
    ·omega
    ·cases h2
   ·cases h1
  ·refine .own (b:=⟨0,false,t,.rows 1 l.length g⟩) rfl (aB _) rfl fun _=>⟨l.length,g,rfl,by omega,.inr ⟨gg,cap,rfl, ?_⟩⟩
   rw[hlen]
   simp
end
end
section
open Go.RowKit
section
variable{P:Program}
theorem jf{cx:Cx}(hc:CRep cx):CRep ⟨cx.w,cx.R,fun _=>none,fun i=>([]:List Blk)[i]?,cx.B⟩:=
 ⟨fun id b hb=>(by simp at hb),fun _ _ _ _ _ _ _ h1 _=>(by cases h1),hc.rlt,hc.blt⟩
theorem je{cx:Cx}{H:List Blk}(hc:CRep cx)(hH:cx.H=fun i=>H[i]?)(ids:List Nat): ∃cx1,CRep cx1∧cx1.w=cx.w∧Stab cx cx1∧
  ∀a v,Rep cx a v->(∀id∈cG a,id∈ids)->RepP cx1.w cx1.R (frz (fun i=>H[i]?) a) v:=by
 obtain⟨cx1,e1,hc1,hs1,e2,e3,e4,e5⟩:=dp ids hc
 refine⟨cx1,hc1,e2,hs1,fun a v hr hi=>iC hc1 (fun id b hb=>by rw[e1,hH];exact cH _ _ _ _ hb) (hr.stab hc hs1) fun id hid b g c hb hg=> ?_⟩
 obtain⟨b',hb'⟩:=aC.1 (e5 id (by rw[hb];rfl))
 rw[e3] at hg
 exact e4 id b' g c (hi id hid) hb' hg
theorem PureC.frozen{f:FuncId}{args:List AV}{a:AV}{H:List Blk}(h:PureC P f args a H):PureC P f args (frz (fun i=>H[i]?) a) []:=by
 intro w R vs hR hl ha
 refine(h w R vs hR hl ha).mono ?_
 rintro e w' ⟨z,cx,rfl,rfl,k1,k2,k3,k4,k5,k6,k7⟩
 obtain⟨cx1,hc1,e2,hs1,hfr⟩:=je k2 k1 (cG a)
 refine⟨z,⟨cx1.w,cx1.R,fun _=>none,fun i=>([]:List Blk)[i]?,cx1.B⟩,rfl,e2.symm,rfl,jf hc1,by rw[hs1.ext.B];exact k3,fun g hg=>hs1.ext.R g (k4 g hg),fun g hg=> ?_,k6,.pure (hfr a z k7 fun _ h=>h)⟩
 rcases hs1.ext.Rn g hg with h1 |h1
 ·exact k5 g h1
 ·rw[k3] at h1;exact .inr (bt.1 h1)
theorem PureC.frozen2{f:FuncId}{args:List AV}{a b:AV}{H:List Blk}(h:PureC P f args (.tup [a,b]) H):PureC P f args (.tup [frz (fun i=>H[i]?) a,frz (fun i=>H[i]?) b]) []:=by
 intro w R vs hR hl ha
 refine(h w R vs hR hl ha).mono ?_
 rintro e w' ⟨z,cx,rfl,rfl,k1,k2,k3,k4,k5,k6,k7⟩
 obtain⟨cx1,hc1,e2,hs1,hfr⟩:=je k2 k1 (cG a++cG b)
 have hz:RepP cx1.w cx1.R (.tup [frz (fun i=>H[i]?) a,frz (fun i=>H[i]?) b]) z:=by
  obtain⟨us,rfl,h1,h2⟩: ∃us:Array Value,z= .tuple us∧2=us.size∧ ∀(j:Nat) x v,[a,b][j]? =some x->us[j]? =some v->Rep cx x v:=by
   cases k7 with
   |pure h=>cases h with
    |tup hl h=>exact⟨_,rfl,hl,fun j x v h1 h2=> .pure (h j x v h1 h2)⟩
   |tup hl h=>exact⟨_,rfl,hl,h⟩
  refine .tup h1 fun j x v hx hv=> ?_
  match j,hx with
  |0,hx=>
   simp only[bM,af] at hx
   subst hx
   exact hfr a v (h2 0 a v rfl hv) fun _ h=>b6 _ h
  |1,hx=>
   simp only[dP,bM,af] at hx
   subst hx
   exact hfr b v (h2 1 b v rfl hv) fun _ h=>bW _ h
  |j+2,hx=>simp at hx
 refine⟨z,⟨cx1.w,cx1.R,fun _=>none,fun i=>([]:List Blk)[i]?,cx1.B⟩,rfl,e2.symm,rfl,jf hc1,by rw[hs1.ext.B];exact k3,fun g hg=>hs1.ext.R g (k4 g hg),fun g hg=> ?_,k6,.pure hz⟩
 rcases hs1.ext.Rn g hg with h1 |h1
 ·exact k5 g h1
 ·rw[k3] at h1;exact .inr (bt.1 h1)
theorem RepP.ofRd{w:World}{A:Option Addr}{c:Nat}{k:IntKind}{z:List Int}(hr:Rd w w.heap.size A (z.map (Value.int k)))(hc:z.length<=c)(hm:c<=maxLen):RepP w (fun g=>g<w.heap.size) (.row 1 z.length fun i _=> .int k (z.getD i 0)) (.slice A z.length c):=by
 refine .row A c (fun i _=> .int k (z.getD i 0)) hc hm (fun h=> ?_) (fun _ _ _ _=>rfl) (fun _ _ _ _=> .int _ _)
 obtain⟨ad,rfl,hb,hcell⟩:=hr (by rw[cS];omega)
 obtain⟨g,o,sp⟩:=ad
 have h0:=hcell 0 _ (aE (by rw[cS];omega))
 rw[mQ] at h0
 have hsp:sp=none:=by
  unfold World.cell? at h0
  split at h0
  ·cases sp with
   |none=>rfl
   |some x=>simp at h0
  ·cases h0
 subst hsp
 refine⟨g,o,rfl,hb,fun i hi j hj=> ?_⟩
 have h1:=hcell i (.int k (z.getD i 0)) (by simp[List.getD,hi])
 rw[show Addr.add ⟨g,o,none⟩ i=⟨g,o+i,none⟩ from eM g o i] at h1
 rw[show o+(i*1+j)=o+i by omega]
 exact h1
theorem PureC.lawB{f:FuncId}{args:List AV}{b:Bool}(h:PureC P f args (.bool b) []){W:World}{R:Nat->Prop}{vs:Array Value}(hR: ∀g,R g->g<W.heap.size)(hl:args.length=vs.size)(ha: ∀(j:Nat) a v,args[j]? =some a->vs[j]? =some v->RepP W R a v):Calls P f vs W (RetB (.bool b) W):=by
 refine(h W R vs hR hl ha).mono ?_
 rintro e w' ⟨z,cx,rfl,rfl,_,_,_,_,_,hb,hz⟩
 refine⟨?_,hb⟩
 cases hz with
 |pure h=>cases h;rfl
end
end
section
open Go.RowKit
def s8(id n:Nat):AV->Option (List Prop)
 | .own i _ _ off len=>bif Nat.beq i id then some [off+len<=n] else some []
 | .eptr i _ _ _ _=>bif Nat.beq i id then none else some []
 | .bsl .. =>none
 | .agg _=>none
 | .tup _=>none
 | .clo _ (_::_)=>none
 |_=>some []
def s7(id n:Nat):List AV->Option (List Prop)
 | []=>some []
 |a::l=>(s8 id n a).bind fun p=>(s7 id n l).map (p++ ·)
def AK(id n:Nat):AV->Option (List Prop)
 | .agg cs=>s7 id n cs
 | .clo _ (c::cs)=>s7 id n (c::cs)
 |a=>s8 id n a
def xr(id n:Nat):List (Nat×AV)->Option (List Prop)
 | []=>some []
 |q::l=>(AK id n q.2).bind fun p=>(xr id n l).map (p++ ·)
def qz(id n:Nat)(q:Nat×Blk):Option (Blk×List Prop):=
 match q.2.c with
 | .box cs=>bif Nat.beq q.1 id then none else(s7 id n cs).map fun p=>(q.2,p)
 | .rows m k f=>bif Nat.beq q.1 id then some ({q.2 with c:= .rows m n f},[n<=k]) else some (q.2,[])
def uJ(id n:Nat):List (Nat×Blk)->Option (List (Nat×Blk)×List Prop)
 | []=>some ([],[])
 |q::l=>(qz id n q).bind fun b=>(uJ id n l).map fun r=>((q.1,b.1)::r.1,b.2++r.2)
def xq(id n:Nat)(J:Sm):Option (Sm×List Prop):=
 (uJ id n J.heap).bind fun h=>(xr id n J.env).map fun p=>(⟨J.env,h.1,J.next⟩,h.2++p)
def uB(id n:Nat)(J:Sm)(r:List (Nat×Nat))(K:Sm):Prop:=
 match xq id n J with
 |some q=>match leS r q.1.st K with
  |some ps=>nh (q.2++ps)
  |none=>False
 |none=>False
section
variable{P:Program}
theorem pb{id n:Nat}: ∀{l:List (Nat×Blk)} {l':List (Nat×Blk)} {ps:List Prop},uJ id n l=some (l',ps)->(∀p∈ps,p)-> ∀k,(ba l k=none∧ba l' k=none)∨ ∃b b' qs,ba l k=some b∧ba l' k=some b'∧qz id n (k,b)=some (b',qs)∧ ∀q∈qs,q
 | [],l',ps,h,hp,k=>by
  simp only[uJ,af,Prod.mk.injEq] at h
  obtain⟨rfl,rfl⟩:=h
  exact .inl ⟨rfl,rfl⟩
 | (i,b)::l,l',ps,h,hp,k=>by
  unfold uJ at h
  obtain⟨q,hq,h⟩:=ae.1 h
  obtain⟨r,hr,h⟩:=ac.1 h
  simp only[Prod.mk.injEq] at h
  obtain⟨rfl,rfl⟩:=h
  unfold ba
  cases hk:Nat.beq k i with
  |true=>
   obtain rfl:=aj hk
   exact .inr ⟨b,q.1,q.2,rfl,rfl,hq,fun x hx=>hp x (b6 _ hx)⟩
  |false=>exact pb (by rw[hr]) (fun x hx=>hp x (bW _ hx)) k
theorem pd{id n:Nat}: ∀{l:List (Nat×AV)} {ps:List Prop},xr id n l=some ps->(∀p∈ps,p)-> ∀t, ∃qs,AK id n (g6 .junk l t)=some qs∧ ∀q∈qs,q
 | [],ps,h,hp,t=>⟨[],rfl,fun q hq=>by cases hq⟩
 | (i,a)::l,ps,h,hp,t=>by
  unfold xr at h
  obtain⟨q,hq,h⟩:=ae.1 h
  obtain⟨r,hr,rfl⟩:=ac.1 h
  unfold g6
  cases hk:Nat.beq t i with
  |true=>exact⟨q,hq,fun x hx=>hp x (b6 _ hx)⟩
  |false=>exact pd hr (fun x hx=>hp x (bW _ hx)) t
theorem jv{id n:Nat}: ∀{l:List AV} {ps:List Prop},s7 id n l=some ps->(∀p∈ps,p)-> ∀(j:Nat) a,l[j]? =some a-> ∃qs,s8 id n a=some qs∧ ∀q∈qs,q
 | [],ps,h,hp,j,a,ha=>by simp at ha
 |x::l,ps,h,hp,j,a,ha=>by
  unfold s7 at h
  obtain⟨q,hq,h⟩:=ae.1 h
  obtain⟨r,hr,rfl⟩:=ac.1 h
  cases j with
  |zero=>
   simp only[bM,af] at ha
   subst ha
   exact⟨q,hq,fun x hx=>hp x (b6 _ hx)⟩
  |succ j=>exact jv hr (fun x hx=>hp x (bW _ hx)) j a (by simpa using ha)
theorem SRep.shr[Dfs]{cx:Cx}{J J':Sm}{a:Act}{nt id n:Nat}{ps:List Prop}(hs:SRep cx J.st a nt)(h:xq id n J=some (J',ps))(hp: ∀p∈ps,p): ∃cx',SRep cx' J'.st a nt∧Ext cx cx'∧cx'.w=cx.w:=by
 unfold xq at h
 obtain⟨q,hq,h⟩:=ae.1 h
 obtain⟨pe,he,h⟩:=ac.1 h
 simp only[Prod.mk.injEq] at h
 obtain⟨rfl,rfl⟩:=h
 have hget:=pb (l':=q.1) (ps:=q.2) hq fun p hp'=>hp p (b6 _ hp')
 have hget':=pd he fun p hp'=>hp p (bW _ hp')
 have hH:cx.H=ba J.heap:=hs.H
 have one: ∀(x:AV) (v:Value) (qs:List Prop),s8 id n x=some qs->(∀q∈qs,q)->Rep cx x v->Rep ⟨cx.w,cx.R,cx.φ,ba q.1,cx.B⟩ x v:=by
  intro x v qs hx hqs hr
  cases x with
  |own i g m off len=>
   obtain⟨b,hb,hle,hO⟩:=hr.own_inv
   have ho:=hr.own_one
   rw[hH] at hb
   rcases hget i with⟨h1,_⟩|⟨b1,b2,rs,h1,h2,h3,h4⟩
   ·rw[hb] at h1;cases h1
   ·rw[hb] at h1;cases h1
    have hgen:b2.gen=b.gen:=by
     unfold qz at h3
     split at h3
     ·obtain⟨_,h3⟩:Nat.beq i id=false∧_:=by
       cases hk:Nat.beq i id with
       |true=>rw[hk] at h3;cases h3
       |false=>exact⟨rfl,by rw[hk] at h3;exact h3⟩
      simp only[bb] at h3
      obtain⟨p,_,h3⟩:=ac.1 h3
      cases h3;rfl
     ·cases hk:Nat.beq i id with
      |true=>rw[hk] at h3;simp only[aO,af,Prod.mk.injEq] at h3;rw[<-h3.1]
      |false=>rw[hk] at h3;simp only[bb,af,Prod.mk.injEq] at h3;rw[<-h3.1]
    refine .own h2 (by rw[hgen];exact hle) ho fun e=> ?_
    obtain⟨k,f,k1,k2,k3⟩:=hO (by rw[<-hgen];exact e)
    unfold qz at h3
    simp only[k1] at h3
    simp only[s8] at hx
    cases hk:Nat.beq i id with
    |true=>
     rw[hk] at h3 hx
     simp only[aO,af,Prod.mk.injEq] at h3 hx
     subst hx
     have hlen:=hqs _ (aH.2 rfl)
     exact⟨n,f,by rw[<-h3.1],hlen,k3⟩
    |false=>
     rw[hk] at h3
     simp only[bb,af,Prod.mk.injEq] at h3
     exact⟨k,f,by rw[<-h3.1];exact k1,k2,k3⟩
  |bptr i off=>
   obtain⟨g,cap,b,h1,h2,h3,rfl⟩:=hr.bptr_inv
   rw[hH] at h1
   rcases hget i with⟨h4,_⟩|⟨b1,b2,rs,h4,h5,h6,h7⟩
   ·rw[h1] at h4;cases h4
   ·rw[h1] at h4;cases h4
    refine .bptr h5 ?_ h3
    unfold qz at h6
    split at h6
    ·cases hk:Nat.beq i id with
     |true=>rw[hk] at h6;cases h6
     |false=>
      rw[hk] at h6
      simp only[bb] at h6
      obtain⟨p,_,h6⟩:=ac.1 h6
      cases h6;exact h2
    ·rename_i m kk f hc
     have hc':b.c= .rows m kk f:=hc
     rw[hc'] at h2;cases h2
  |eptr i g m k j=>
   simp only[s8] at hx
   obtain⟨b,hb,hle,hE⟩:=hr.eptr_inv
   have ho:=hr.eptr_ptr
   rw[hH] at hb
   cases hk:Nat.beq i id with
   |true=>rw[hk] at hx;cases hx
   |false=>
    rcases hget i with⟨h1,_⟩|⟨b1,b2,rs,h1,h2,h3,h4⟩
    ·rw[hb] at h1;cases h1
    ·rw[hb] at h1;cases h1
     have e2:b2=b:=by
      unfold qz at h3
      simp only[hk,bb] at h3
      split at h3
      ·obtain⟨p,_,h3⟩:=ac.1 h3
       cases h3;rfl
      ·cases h3;rfl
     subst e2
     exact .eptr h2 hle ho hE
  |bsl i m k=>cases hx
  |agg cs=>cases hx
  |tup cs=>cases hx
  |clo f cs=>
   cases cs with
   |cons c cs=>cases hx
   |nil=>
    obtain⟨vs,rfl,hl,_⟩:=hr.clo_inv
    exact .clo hl fun j a v ha _=>by simp at ha
  |_=>cases hr with |pure h=>exact .pure h
 have val: ∀(x:AV) (v:Value) (qs:List Prop),AK id n x=some qs->(∀q∈qs,q)->Rep cx x v->Rep ⟨cx.w,cx.R,cx.φ,ba q.1,cx.B⟩ x v:=by
  intro x v qs hx hqs hr
  cases x with
  |agg cs=>
   obtain⟨vs,rfl,h1,h2,h3⟩:=hr.agg_inv
   refine .agg h1 h2 fun j y u hy hu=> ?_
   obtain⟨rs,r1,r2⟩:=jv hx hqs j y hy
   exact one y u rs r1 r2 (h3 j y u hy hu)
  |clo f cs=>
   cases cs with
   |nil=>exact one _ _ _ hx hqs hr
   |cons c cs=>
    obtain⟨vs,rfl,hl,h3⟩:=hr.clo_inv
    refine .clo hl fun j y u hy hu=> ?_
    obtain⟨rs,r1,r2⟩:=jv hx hqs j y hy
    exact one y u rs r1 r2 (h3 j y u hy hu)
  |_=>exact one _ _ _ hx hqs hr
 refine⟨⟨cx.w,cx.R,cx.φ,ba q.1,cx.B⟩,⟨rfl,⟨fun k b hb=> ?_,fun k k' g c c' h1 h2 h3 h4=> ?_,hs.c.rlt,hs.c.blt⟩,fun t=> ?_,fun k hk=> ?_,hs.sz,hs.df⟩,⟨rfl,fun _ h=>h,fun _ h=> .inl h,rfl,rfl,rfl,aB _,fun _ _ _=>rfl⟩,rfl⟩
 ·rcases hget k with⟨_,h1⟩|⟨b1,b2,rs,h1,h2,h3,h4⟩
  ·have hb':ba q.1 k=some b:=hb
   rw[h1] at hb';cases hb'
  ·have hb':ba q.1 k=some b:=hb
   rw[h2] at hb';cases hb'
   have hold:=hs.c.hb k b1 (by rw[hH];exact h1)
   unfold qz at h3
   unfold HB at hold ⊢
   split at h3
   ·rename_i cs hcs'
    have hcs:b1.c= .box cs:=hcs'
    cases hk:Nat.beq k id with
    |true=>rw[hk] at h3;cases h3
    |false=>
     rw[hk] at h3
     simp only[bb] at h3
     obtain⟨p,hp1,h3⟩:=ac.1 h3
     simp only[Prod.mk.injEq] at h3
     obtain⟨rfl,rfl⟩:=h3
     rw[hcs] at hold ⊢
     simp only at hold ⊢
     obtain⟨g,cur,c1,c2,c3,c4,c5,c6⟩:=hold
     refine⟨g,cur,c1,c2,c3,fun j x hx=> ?_,c5,c6⟩
     obtain⟨u,u1,u2,u3⟩:=c4 j x hx
     obtain⟨ss,s1,s2⟩:=jv hp1 h4 j x hx
     exact⟨u,u1,u2,one x u ss s1 s2 u3⟩
   ·rename_i m kk f hcs'
    have hcs:b1.c= .rows m kk f:=hcs'
    rw[hcs] at hold
    simp only at hold
    cases hk:Nat.beq k id with
    |true=>
     rw[hk] at h3
     simp only[aO,af,Prod.mk.injEq] at h3
     obtain⟨rfl,rfl⟩:=h3
     have hle:=h4 _ (aH.2 rfl)
     rcases hold with⟨c1,c2⟩|⟨g,cap,cur,c1,c2,c3,c4,c5,c6,c7⟩
     ·exact .inl ⟨c1,by omega⟩
     ·exact .inr ⟨g,cap,cur,c1,c2,c3,by omega,c5,fun i hi j hj=>c6 i (by omega) j hj,c7⟩
    |false=>
     rw[hk] at h3
     simp only[bb,af,Prod.mk.injEq] at h3
     obtain⟨rfl,rfl⟩:=h3
     rw[hcs]
     exact hold
 ·have conv: ∀i,(ba q.1 i).isSome=true->(cx.H i).isSome=true:=fun i hi=>by
   rw[hH]
   rcases hget i with⟨_,e1⟩|⟨b1,b2,rs,e1,e2,_⟩
   ·rw[e1] at hi;cases hi
   ·rw[e1];rfl
  exact hs.c.inj k k' g c c' (conv k h1) (conv k' h2) h3 h4
 ·obtain⟨rs,r1,r2⟩:=hget' t
  exact val _ _ rs r1 r2 (hs.env t)
 ·have hi:(ba q.1 k).isSome=true:=hk
  have:(cx.H k).isSome=true:=by
   rw[hH]
   rcases hget k with⟨_,e1⟩|⟨b1,b2,rs,e1,e2,_⟩
   ·rw[e1] at hi;cases hi
   ·rw[e1];rfl
  rw[hs.H] at this
  exact hs.lt k this
theorem Ok.shr{nt:Nat}{c:Code}{I:St}{x:X}{id n:Nat}{J K:Sm}{r:List (Nat×Nat)}(h:Ok P nt c I x J.st)(hv:Vc (uB id n J r K)):Ok P nt c I x K.st:=by
 replace hv:=hv.out
 unfold uB at hv
 split at hv
 ·rename_i q hq
  split at hv
  ·rename_i ps hps
   have hall:=fM hv
   intro d0 cx a hs Q hQ
   refine h d0 cx a hs Q fun d1 cx1 a1 hs1 ha1=> ?_
   obtain⟨cx1p,hw,hs1p,hk⟩:=ha1.plus hs1
   obtain⟨cx2,hs2,he2,hw2⟩:=hs1p.shr hq fun p hp=>hall p (b6 _ hp)
   obtain⟨cx3,hs3,he3,hw3⟩:=hs2.le hps fun p hp=>hall p (bW _ hp)
   obtain⟨cx4,e4,hs4,ha4⟩:=hk d1 cx3 _ a1 _ hs3 (.of_ext (he2.trans he3))
   rw[<-hw, <-hw2, <-hw3, <-e4]
   exact hQ d1 cx4 a1 hs4 ha4
  ·cases hv
 ·cases hv
theorem PureC.frozenT{f:FuncId}{args l:List AV}{H:List Blk}(h:PureC P f args (.tup l) H):PureC P f args (.tup (l.map (frz (fun i=>H[i]?)))) []:=by
 intro w R vs hR hl ha
 refine(h w R vs hR hl ha).mono ?_
 rintro e w' ⟨z,cx,rfl,rfl,k1,k2,k3,k4,k5,k6,k7⟩
 obtain⟨cx1,hc1,e2,hs1,hfr⟩:=je k2 k1 (l.flatMap cG)
 have hz:RepP cx1.w cx1.R (.tup (l.map (frz (fun i=>H[i]?)))) z:=by
  obtain⟨us,rfl,h1,h2⟩: ∃us:Array Value,z= .tuple us∧l.length=us.size∧ ∀(j:Nat) x v,l[j]? =some x->us[j]? =some v->Rep cx x v:=by
   cases k7 with
   |pure h=>cases h with
    |tup hl h=>exact⟨_,rfl,hl,fun j x v h1 h2=> .pure (h j x v h1 h2)⟩
   |tup hl h=>exact⟨_,rfl,hl,h⟩
  refine .tup (by simpa using h1) fun j x v hx hv=> ?_
  rw[aG] at hx
  obtain⟨y,hy,rfl⟩:=ac.1 hx
  exact hfr y v (h2 j y v hy hv) fun i hi=>bq.2 ⟨y,aT hy,hi⟩
 refine⟨z,⟨cx1.w,cx1.R,fun _=>none,fun i=>([]:List Blk)[i]?,cx1.B⟩,rfl,e2.symm,rfl,jf hc1,by rw[hs1.ext.B];exact k3,fun g hg=>hs1.ext.R g (k4 g hg),fun g hg=> ?_,k6,.pure hz⟩
 rcases hs1.ext.Rn g hg with h1 |h1
 ·exact k5 g h1
 ·rw[k3] at h1;exact .inr (bt.1 h1)
end
end
end Go.Proofs.Ytdanmboalfmifaa.Rx
namespace Go.Proofs.Ytdanmboalfmifaa.Px
section
open Go.RowKit Go.Proofs.Ytdanmboalfmifaa.Rx
def dz(l:List Int):Nat->Nat->AV:=fun i _=> .int .i64 (l.getD i 0)
def EK(l:List Int):Nat->Nat->AV:=fun i _=> .int .u8 (l.getD i 0)
def lR(l:List Int):AV:= .row 1 l.length (dz l)
end
end Go.Proofs.Ytdanmboalfmifaa.Px
namespace Go.Proofs.Ytdanmboalfmifaa.Rx
section
open Go.RowKit
theorem rf{α:Type}(a:α):a=a:=rfl
theorem rr(n m:Nat)(f:Nat->Nat->AV): ∀i,i<n-> ∀j,j<m->f i j=f i j:=fun _ _ _ _=>rfl
abbrev RF{α:Type}(a:α)(Z:Prop):Prop:=a=a∧Z
abbrev RR(n m:Nat)(f:Nat->Nat->AV)(Z:Prop):Prop:=(∀i,i<n-> ∀j,j<m->f i j=f i j)∧Z
theorem cj{a b:Prop}(x:a)(y:b):a∧b:=⟨x,y⟩
theorem al{p q:Prop}(hq:q)(h:p=q:=by kernel_rfl):Vc p:=⟨h.mpr hq⟩
theorem i6(n:Int)(h1: -9223372036854775808<=n:=by omega)(h2:n<=9223372036854775807:=by omega):inK .i64 n:=⟨h1,h2⟩
theorem dt(p:Prop)[Decidable p](h:p:=by first |omega | (simp;omega)| (simp;done)):decide p=true:=bL h
theorem df(p:Prop)[Decidable p](h: ¬p:=by first |omega | (simp;omega)| (simp;done)):decide p=false:=bC h
theorem pv(p:Prop)(h:p:=by first |omega |rfl | (simp;done)| (simp;omega)):p:=h
abbrev aI(n:Int):AV:= .int .i64 n
theorem ap(x y s:Nat)(h:(x+y)*s<=140737488355328:=by omega)(h2:x+y<=140737488355328:=by omega):(0:Nat)=0∧x=x∧(x+y)*s<=140737488355328∧x+y<=140737488355328:=⟨rfl,rfl,h,h2⟩
theorem bi(a b:Int)(h:0<=a:=by omega)(h2:a<b:=by omega):0<=a∧a<b:=⟨h,h2⟩
theorem za(n:Nat):0+n=n:=bg n
theorem lz(k n:Nat)(h:k<n:=by omega):k+0<0+n:=by omega
theorem e1(a b:Int)(h:a=b:=by omega):(a==b)=true:=ax.2 h
theorem e0(a b:Int)(h:a≠b:=by omega):(a==b)=false:=aa.2 h
theorem n1(a b:Int)(h:a≠b:=by omega):(a !=b)=true:=bG.2 h
theorem n0(a b:Int)(h:a=b:=by omega):(a !=b)=false:=aw.2 h
section
variable{P:Program}
def OkL(P:Program)(nt:Nat)(c:Code)(I:St)(x:X)(J:St):Prop:=
 ∃n, ∀(d:Dfs) cx a,SRep cx I a nt-> ∀Q:Exit->Act->World->Prop,(∀(d':Dfs) cx' a', @SRep d' cx' J a' nt->After true d cx d' cx'->Q x.to a' cx'.w)->Code.rounds P c Q n a cx.w
theorem OkL.exit{nt:Nat}{c:Code}{I J:St}{x:X}(h:Ok P nt c I x J)(hx:x≠ .nrm):OkL P nt c I x J:=by
 refine⟨1,fun d cx a hs Q hQ=> ?_⟩
 rw[rounds_succ]
 refine h d cx a hs _ fun d2 cx2 a2 hs2 he2=> ?_
 have:=hQ d2 cx2 a2 hs2 he2
 cases x with
 |nrm=>exact absurd rfl hx
 |ext id=>exact this
 |ret=>exact this
theorem OkL.step{nt:Nat}{c:Code}{I J K:St}{x:X}(h1:Ok P nt c I .nrm K)(h2:OkL P nt c K x J):OkL P nt c I x J:=by
 obtain⟨n,h2⟩:=h2
 refine⟨n+1,fun d cx a hs Q hQ=> ?_⟩
 rw[rounds_succ]
 refine h1 d cx a hs _ fun d2 cx2 a2 hs2 ha2=> ?_
 obtain⟨cx2p,hw,hs2p,hk⟩:=ha2.plus hs2
 show Code.rounds _ _ _ _ _ cx2.w
 rw[<-hw]
 exact h2 d2 cx2p a2 hs2p Q fun d3 cx3 a3 hs3 ha3=>by
  obtain⟨cx4,e4,hs4,ha4⟩:=hk d3 cx3 _ a3 _ hs3 ha3
  rw[<-e4]
  exact hQ d3 cx4 a3 hs4 ha4
theorem OkL.ok{nt:Nat}{c:Code}{I J:St}{x:X}(h:OkL P nt c I x J):Ok P nt (.loop c) I x J:=by
 obtain⟨n,h⟩:=h
 exact fun d cx a hs Q hQ=>wp_loop_rounds n (h d cx a hs Q hQ)
end
end
end Go.Proofs.Ytdanmboalfmifaa.Rx
namespace Go.Proofs.Ytdanmboalfmifaa.Px
section
open Go.RowKit Go.Proofs.Ytdanmboalfmifaa.Rx
def xcS(A B:AV)(k:Nat):Sm:=⟨[(0,A),(1,B),(5,.int .i64 k),(4,.bool false)],[],0⟩
def xfS:Sm:=⟨[(4,.bool false)],[],0⟩
theorem v4{α:Type}{d:α}{a b:List α}(hl:a.length=b.length)(h: ∀i,i<a.length->a.getD i d=b.getD i d):a=b:=by
 apply List.ext_getElem hl
 intro i h1 h2
 have:=h i h1
 simpa [List.getD,h1,h2] using this
theorem C4(a:List Int)(b:List Int){Z:Prop}(z:Z):(RF a.length (RR a.length 1 (fun i j=>aI (a.getD i 0)) (RF b.length (RR b.length 1 (fun i j=>aI (b.getD i 0)) Z)))):=⟨rfl,fun _ _ _ _=>rfl,rfl,fun _ _ _ _=>rfl,z⟩
abbrev vC_(f:FuncId)(k:Nat):=vcC Try.prog false (cN Try.prog f) (lpC Try.prog f k)
abbrev vF_:=n6 Try.prog false
abbrev oL_(f:FuncId)(k:Nat):=Ok Try.prog (cN Try.prog f) (.loop (lpC Try.prog f k))
abbrev pC_:=PureC Try.prog
theorem zY(a b:List Int)(k:Nat)(hl:a.length=b.length)(hk:k<a.length)(hb:a.length<1000000000)(he:(a.getD k 0)=(b.getD k 0)):Vc (vC_ 32 0 (xcS (lR a) (lR b) k) [.bd true,.bd false] .nrm [] (xcS (lR a) (lR b) (k+1))):=al (cj (dt ((k:Int)<a.length)) (cj (bi k a.length) (cj (bi k b.length) (cj (show(a.getD k 0 !=b.getD k 0)=false from by rw[he];simp) (cj (i6 (k+1)) (C4 a b (cj (rf ((k:Int)+1)) (cj (rf false) trivial))))))))
theorem Fp(a b:List Int)(k:Nat)(hl:a.length=b.length)(hk:k<a.length)(hb:a.length<1000000000)(he:(a.getD k 0)≠(b.getD k 0)):Vc (vC_ 32 0 (xcS (lR a) (lR b) k) [.bd true,.bd true] .ret [] xfS):=al (cj (dt ((k:Int)<a.length)) (cj (bi k a.length) (cj (bi k b.length) (cj (bG.2 he) (cj (rf false) trivial)))))
theorem Fs(a b:List Int)(k:Nat)(hl:a.length=b.length)(hk: ¬k<a.length)(hk2:k<1000000000):Vc (vC_ 32 0 (xcS (lR a) (lR b) k) [.bd false] (.ext 0) [] (xcS (lR a) (lR b) k)):=al (cj (df ((k:Int)<a.length)) (C4 a b (cj (rf (k:Int)) (cj (rf false) trivial))))
theorem sc(a b:List Int)(hl:a.length=b.length)(hb:a.length<1000000000)(h: ∀i,i<a.length->a.getD i 0=b.getD i 0): ∀j k,k+j=a.length->OkL Try.prog (cN Try.prog 32) (lpC Try.prog 32 0) (xcS (lR a) (lR b) k).st (.ext 0) (xcS (lR a) (lR b) a.length).st
 |0,k,hk=>by
  obtain rfl:k=a.length:=by omega
  exact OkL.exit (Ok.vc (Fs a b _ hl (b8 _) hb)) (by simp)
 |j+1,k,hk=>OkL.step (Ok.vc (zY a b k hl (by omega) hb (h k (by omega)))) (sc a b hl hb h j (k+1) (by omega))
theorem sb(a b:List Int)(hl:a.length=b.length)(hb:a.length<1000000000): ∀j k,k+j=a.length->(∃i,k<=i∧i<a.length∧a.getD i 0≠b.getD i 0)->OkL Try.prog (cN Try.prog 32) (lpC Try.prog 32 0) (xcS (lR a) (lR b) k).st .ret (xfS).st
 |0,k,hk,h=>by obtain⟨i,h1,h2,_⟩:=h;omega
 |j+1,k,hk,h=>by
  by_cases he:(a.getD k 0)=(b.getD k 0)
  ·obtain⟨i,h1,h2,h3⟩:=h
   have:i≠k:=fun e=>by subst e;exact h3 he
   exact OkL.step (Ok.vc (zY a b k hl (by omega) hb he)) (sb a b hl hb j (k+1) (by omega) ⟨i,by omega,h2,h3⟩)
  ·exact OkL.exit (Ok.vc (Fp a b k hl (by omega) hb he)) (by simp)
theorem Fq(a b:List Int)(hl: ¬a.length=b.length):Vc (vF_ 32 [lR a,lR b] [.bd true] [] (.bool false) []):=al (cj (show((a.length:Int) !=(b.length:Int))=true from(bG.2 (by omega))) (cj (rf false) trivial))
theorem C3(a:List Int)(b:List Int){Z:Prop}(z:Z):(RF a.length (RR a.length 1 (fun i j=>aI (a.getD i 0)) (RF b.length (RR b.length 1 (fun i j=>aI (b.getD i 0)) (RF (0:Int) (RF false Z)))))):=⟨rfl,fun _ _ _ _=>rfl,rfl,fun _ _ _ _=>rfl,rfl,rfl,z⟩
theorem Fo(a b:List Int)(n:Nat)(hl:a.length=b.length)(h:oL_ 32 0 (xcS (lR a) (lR b) 0).st (.ext 0) (xcS (lR a) (lR b) n).st):Vc (vF_ 32 [lR a,lR b] [.bd false,.lp [] (xcS (lR a) (lR b) 0) (.ext 0) (xcS (lR a) (lR b) n)] [] (.bool true) []):=al (cj (show((a.length:Int) !=(b.length:Int))=false from(aw.2 (by omega))) (C3 a b (cj h (cj (rf true) trivial))))
theorem Fr(a b:List Int)(hl:a.length=b.length)(h:oL_ 32 0 (xcS (lR a) (lR b) 0).st .ret (xfS).st):Vc (vF_ 32 [lR a,lR b] [.bd false,.lp [] (xcS (lR a) (lR b) 0) .ret xfS] [] (.bool false) []):=al (cj (show((a.length:Int) !=(b.length:Int))=false from(aw.2 (by omega))) (C3 a b (cj h (cj (rf false) trivial))))
theorem HV(a b:List Int)(hb:a.length<1000000000):pC_ 32 [lR a,lR b] (.bool (decide (a=b))) []:=by
 by_cases hl:a.length=b.length
 ·by_cases h: ∀i,i<a.length->a.getD i 0=b.getD i 0
  ·rw[bL (v4 hl h)]
   exact PureC.vc (Fo a b _ hl (sc a b hl hb h a.length 0 (by omega)).ok)
  ·rw[bC (fun e=>h fun i _=>by rw[e])]
   refine PureC.vc (Fr a b hl (sb a b hl hb a.length 0 (by omega) ?_).ok)
   apply Classical.byContradiction
   intro hn
   exact h fun i hi=>Classical.byContradiction fun he=>hn ⟨i,cc _,hi,he⟩
 ·rw[bC (fun e=>hl (by rw[e]))]
  exact PureC.vc (Fq a b hl)
end
end Go.Proofs.Ytdanmboalfmifaa.Px
namespace Go.Proofs.Ytdanmboalfmifaa
section
open Go.RowKit
namespace Wd
def okB(w:Int):Bool:=decide (1<=w)&&decide (w<=16)
def sizeV(w:Int):Int:=if okB w=true then 2^w.toNat else 0
def maskV(w n:Int):Int:=if okB w=true then n%2^w.toNat else 0
def GU(x y:Int):Int:=((x.toNat&&&y.toNat:Nat):Int)
def orI(x y:Int):Int:=((x.toNat|||y.toNat:Nat):Int)
def DT(x y:Int):Int:=((x.toNat^^^y.toNat:Nat):Int)
def i5(op x y:Int):Int:=
 if op=1 then x+y else if op=2 then x-y else if op=3 then GU x y else if op=4 then orI x y else if op=5 then DT x y
 else if op=6 then x*2^y.toNat else if op=7 then x/2^y.toNat else if op=8 then x*y
 else if op=9 then(if x<y then 1 else 0) else if op=10 then(if x=y then 1 else 0) else 0
def opB(op:Int):Bool:=decide (1<=op)&&decide (op<=10)
def doV(w op a b:Int):Int:=maskV w (i5 op (maskV w a) (maskV w b))
def doB(w op:Int):Bool:=okB w&&opB op
theorem okB_iff{w:Int}:okB w=true↔1<=w∧w<=16:=by simp[okB]
theorem ly{w:Int}(h:okB w=true): ∃k:Nat,w=k∧1<=k∧k<=16:=by
 rw[okB_iff] at h;exact⟨w.toNat,by omega,by omega,by omega⟩
theorem oo{k:Nat}(h:k<=16):(2:Int)^k<=65536:=by
 have:(2:Nat)^k<=2^16:=eF (by omega) h
 have h2:((2^k:Nat):Int)<=((2^16:Nat):Int):=by exact_mod_cast this
 simpa using h2
theorem pow_pos(k:Nat):(1:Int)<=2^k:=by
 have:1<=2^k:=Nat.one_le_two_pow
 have h2:((1:Nat):Int)<=((2^k:Nat):Int):=by exact_mod_cast this
 simpa using h2
theorem maskV_bd(w n:Int):0<=maskV w n∧maskV w n<65536:=by
 unfold maskV;split
 ·rename_i h
  obtain⟨k,rfl,_,hk⟩:=ly h
  have h1:=oo hk;have h2:=pow_pos k
  simp only[aK]
  have:=mX n (b:=2^k) (by omega);have:=jh n (b:=2^k) (by omega);omega
 ·omega
theorem sizeV_bd(w:Int):0<=sizeV w∧sizeV w<=65536:=by
 unfold sizeV;split
 ·rename_i h;obtain⟨k,rfl,_,hk⟩:=ly h;have:=oo hk;have:=pow_pos k;simp only[aK];omega
 ·omega
theorem fb{w n:Int}(h:okB w=true):maskV w n<sizeV w:=by
 unfold maskV sizeV;rw[ai h,ai h]
 exact jh _ (by have:=pow_pos w.toNat;omega)
theorem g5{w n:Int}(h:okB w=true)(h0:0<=n)(h1:n<sizeV w):maskV w n=n:=by
 unfold maskV;unfold sizeV at h1;rw[ai h] at*;exact Int.emod_eq_of_lt h0 h1
theorem bits_mask(n:Int)(k:Nat)(hk:k<=16):bits .and .i64 n (2^k-1)=n%2^k:=by
 have e:(BitVec.ofInt 64 n&&&BitVec.ofInt 64 (2^k-1)).toNat=(n%2^k).toNat:=by
  have h2:(2:Int)^k<=65536:=oo hk
  have h3:=pow_pos k
  have e1:(BitVec.ofInt 64 ((2:Int)^k-1)).toNat=2^k-1:=by
   have h4:2^k<=65536:=by have:=eF (n:=2) (by omega) hk;simpa using this
   have h5:1<=2^k:=Nat.one_le_two_pow
   have:((2:Int)^k-1)=((2^k-1:Nat):Int):=by
    rw[Int.ofNat_sub h5];simp
   rw[this,BitVec.ofInt_natCast,BitVec.toNat_ofNat];omega
  rw[BitVec.toNat_and,e1,Nat.and_two_pow_sub_one_eq_mod,BitVec.toNat_ofInt]
  have h6:(2:Nat)^64=2^k*2^(64-k):=by rw[<-Nat.pow_add];congr 1;omega
  have h7:((2^64:Nat):Int)=2^k*2^(64-k):=by rw[h6];simp
  have h8:(((n%((2^64:Nat):Int)).toNat%2^k:Nat):Int)=n%2^k:=by
   have:=mX n (b:=((2^64:Nat):Int)) (by omega)
   rw[Int.natCast_emod,Int.toNat_of_nonneg this,Int.natCast_pow]
   exact Int.emod_emod_of_dvd n ⟨2^(64-k),h7⟩
  omega
 show IntKind.i64.wrap (((BitVec.ofInt 64 n&&&BitVec.ofInt 64 (2^k-1):BitVec 64).toNat:Nat):Int)=_
 have h2:(2:Int)^k<=65536:=oo hk
 have h3:=pow_pos k
 have:=mX n (b:=2^k) (by omega);have:=jh n (b:=2^k) (by omega)
 rw[e,Int.toNat_of_nonneg (by omega)]
 exact IntWalk.i64_in _ (by omega)
theorem ea{x:Int}(h0:0<=x)(h1:x<65536):(BitVec.ofInt 64 x).toNat=x.toNat:=by
 rw[BitVec.toNat_ofInt];congr 1;exact Int.emod_eq_of_lt h0 (by omega)
theorem wK{x y:Int}(h0:0<=x)(h1:x<65536)(h2:0<=y)(h3:y<65536):bits .and .i64 x y=GU x y:=by
 show IntKind.i64.wrap (((BitVec.ofInt 64 x&&&BitVec.ofInt 64 y:BitVec 64).toNat:Nat):Int)=((x.toNat&&&y.toNat:Nat):Int)
 rw[BitVec.toNat_and,ea h0 h1,ea h2 h3]
 have:=Nat.and_lt_two_pow (n:=16) x.toNat (show y.toNat<2^16 by omega)
 exact IntWalk.i64_in _ (by omega)
theorem y6{x y:Int}(h0:0<=x)(h1:x<65536)(h2:0<=y)(h3:y<65536):bits .or .i64 x y=orI x y:=by
 show IntKind.i64.wrap (((BitVec.ofInt 64 x|||BitVec.ofInt 64 y:BitVec 64).toNat:Nat):Int)=((x.toNat|||y.toNat:Nat):Int)
 rw[BitVec.toNat_or,ea h0 h1,ea h2 h3]
 have:=Nat.or_lt_two_pow (n:=16) (show x.toNat<2^16 by omega) (show y.toNat<2^16 by omega)
 exact IntWalk.i64_in _ (by omega)
theorem wI{x y:Int}(h0:0<=x)(h1:x<65536)(h2:0<=y)(h3:y<65536):bits .xor .i64 x y=DT x y:=by
 show IntKind.i64.wrap (((BitVec.ofInt 64 x^^^BitVec.ofInt 64 y:BitVec 64).toNat:Nat):Int)=((x.toNat^^^y.toNat:Nat):Int)
 rw[BitVec.toNat_xor,ea h0 h1,ea h2 h3]
 have:=Nat.xor_lt_two_pow (n:=16) (show x.toNat<2^16 by omega) (show y.toNat<2^16 by omega)
 exact IntWalk.i64_in _ (by omega)
def te(op x y:Int):Int:=if op=6 then wrap64 (x*2^(min y.toNat 64)) else i5 op x y
def tI(b:Bool):Int:=if b=true then 1 else 0
theorem mul_bd{x y:Int}(h0:0<=x)(h1:x<65536)(h2:0<=y)(h3:y<65536):0<=x*y∧x*y<=4294836225:=by
 have a:=Int.mul_nonneg h0 h2
 have b:x*y<=65535*65535:=Int.mul_le_mul (by omega) (by omega) h2 (by omega)
 omega
theorem rL{x:Int}(h0:0<=x)(h1:x<65536){n:Nat}(hn:16<=n):x/2^n=0:=by
 refine Int.ediv_eq_zero_of_lt h0 ?_
 have:(2:Nat)^16<=2^n:=eF (by omega) hn
 have h2:((2^16:Nat):Int)<=((2^n:Nat):Int):=by exact_mod_cast this
 simp only[Int.natCast_pow] at h2
 have:((2:Nat):Int)^16=65536:=by decide
 have e:(((2:Nat):Int))^n=2^n:=rfl
 omega
theorem xp{x y:Int}(h0:0<=x)(h1:x<65536):x/2^(min y.toNat 64)=x/2^y.toNat:=by
 by_cases h:y.toNat<=64
 ·rw[mW h]
 ·rw[Nat.min_eq_right (by omega),rL h0 h1 (by omega),rL h0 h1 (by omega)]
theorem o4(n:Int)(k:Nat)(hk:k<=16):wrap64 n%2^k=n%2^k:=by
 have h6:(2:Nat)^64=2^k*2^(64-k):=by rw[<-Nat.pow_add];congr 1;omega
 have h7:((2^64:Nat):Int)=2^k*2^(64-k):=by rw[h6];simp
 have h8:((2^64:Nat):Int)=18446744073709551616:=by decide
 obtain⟨q,hq⟩: ∃q,wrap64 n=n+18446744073709551616*q:=⟨-((n+9223372036854775808)/18446744073709551616),by unfold wrap64;omega⟩
 rw[hq, <-h8,h7,Int.mul_assoc]
 exact Int.add_mul_emod_self_left ..
theorem om{x:Int}{k n:Nat}(h:k<=n):(x*2^n)%2^k=0:=by
 have:n=k+(n-k):=by omega
 rw[this,Int.pow_add, <-Int.mul_assoc,Int.mul_comm x,Int.mul_assoc]
 exact Int.mul_emod_right ..
theorem j0(w op x y:Int):maskV w (te op x y)=maskV w (i5 op x y):=by
 unfold te
 split
 ·rename_i h
  subst h
  have e:i5 6 x y=x*2^y.toNat:=by simp[i5]
  rw[e]
  unfold maskV
  split
  ·rename_i h
   obtain⟨k,rfl,_,hk⟩:=ly h
   simp only[aK]
   rw[o4 _ _ hk]
   by_cases h2:y.toNat<=64
   ·rw[mW h2]
   ·rw[om (by omega),om (by omega)]
  ·rfl
 ·rfl
theorem BF{op x y:Int}(h:op<1∨10<op):i5 op x y=0:=by
 simp[i5,show op≠1 by omega,show op≠2 by omega,show op≠3 by omega,show op≠4 by omega,show op≠5 by omega,show op≠6 by omega,show op≠7 by omega,show op≠8 by omega,show op≠9 by omega,show op≠10 by omega]
theorem HC(x y:Int):tI (decide (x<y))=te 9 x y:=by simp[tI,te,i5]
theorem EQ(x y:Int):tI (x==y)=te 10 x y:=by simp[tI,te,i5]
theorem opB_no{op:Int}(h:op<1∨10<op):opB op=false:=by simp[opB];omega
end Wd
end
end Go.Proofs.Ytdanmboalfmifaa
namespace Go.Proofs.Ytdanmboalfmifaa.Px
section
open Go.RowKit Go.Proofs.Ytdanmboalfmifaa.Rx
structure Mm where
 nm:ByteArray
 sec:Bool
 n:Nat
instance:Inhabited Mm:=⟨⟨.empty,false,0⟩⟩
structure Pl where
 reg:Bool
 n:Nat
 sec:Bool
 deriving Inhabited
def mmC(m:Mm)(j:Nat):AV:=[.str m.nm,.bool m.sec,.int .i64 m.n].getD j .junk
def plC(p:Pl)(j:Nat):AV:=[.bool p.reg,.int .i64 p.n,.bool p.sec].getD j .junk
def bn(W r0 r1 r2 r3:Int)(M:AV):List AV:=[.int .i64 W,.junk,.junk,.int .i64 r0,.int .i64 r1,.int .i64 r2,.int .i64 r3,M,.junk,.junk]
def bX(ms:List Mm):AV:= .row 3 ms.length (an mmC ms)
def bU:List Mm->Nat
 | []=>0
 |m::l=>m.n+bU l
def rg(r0 r1 r2 r3:Int)(i:Nat):Int:=[r0,r1,r2,r3].getD i 0
def cv(r:Nat->Int):Nat->List Pl
 |0=>[]
 |k+1=>cv r k++(if r k=0 then[] else[⟨true,k,r k==2⟩])
def gz(sec:Bool)(at_ k:Nat):List Pl:=(List.range k).map fun i=>⟨false,at_+i,sec⟩
def fr:Nat->List Mm->List Pl
 |_,[]=>[]
 |at_,m::l=>gz m.sec at_ m.n++fr (at_+m.n) l
def GN(e:TypeId)(cs:List AV):Nat×Blk:=(0,⟨0,false,e,.box cs⟩)
def plB(l:List Pl):Blk:=⟨0,false,91,.rows 3 l.length (an plC l)⟩
def places(r:Nat->Int)(ms:List Mm):List Pl:=cv r 4++fr 0 ms
theorem nx{ms:List Mm}{k:Nat}(hk:k<ms.length):bU (ms.take (k+1))=bU (ms.take k)+(ms.getD k default).n:=by
 induction ms generalizing k with
 |nil=>simp at hk
 |cons m l ih=>
  cases k with
  |zero=>simp[bU]
  |succ k=>
   have:=ih (k:=k) (by simpa using hk)
   simp only[List.take_succ_cons,bU,this,List.getD_cons_succ]
   omega
theorem js(ms:List Mm)(k:Nat):bU (ms.take k)<=bU ms:=by
 induction ms generalizing k with
 |nil=>simp
 |cons m l ih=>
  cases k with
  |zero=>simp[bU]
  |succ k=>simp only[List.take_succ_cons,bU];have:=ih k;omega
theorem tR(sec:Bool)(at_ k:Nat):gz sec at_ (k+1)=gz sec at_ k++[⟨false,at_+k,sec⟩]:=by simp[gz,List.range_succ]
theorem ij(sec:Bool)(at_ k:Nat):(gz sec at_ k).length=k:=by simp[gz]
theorem tE{ms:List Mm}{k:Nat}{at_:Nat}(hk:k<ms.length):fr at_ (ms.take (k+1))=fr at_ (ms.take k)++gz (ms.getD k default).sec (at_+bU (ms.take k)) (ms.getD k default).n:=by
 induction ms generalizing k at_ with
 |nil=>simp at hk
 |cons m l ih=>
  cases k with
  |zero=>simp[bU,fr]
  |succ k=>
   have:=ih (k:=k) (at_:=at_+m.n) (by simpa using hk)
   simp only[List.take_succ_cons,bU,fr,this,List.getD_cons_succ,cB,cL]
theorem kM(at_:Nat)(ms:List Mm):(fr at_ ms).length=bU ms:=by
 induction ms generalizing at_ with
 |nil=>rfl
 |cons m l ih=>simp only[fr,aJ,ij,ih,bU]
theorem ir{r:Nat->Int}{k:Nat}(h:r k=0):cv r (k+1)=cv r k:=by
 show cv r k++_=_
 rw[ai h,List.append_nil]
theorem jA{r:Nat->Int}{k:Nat}(h: ¬r k=0):cv r (k+1)=cv r k++[⟨true,k,r k==2⟩]:=by
 show cv r k++_=_
 rw[ah h]
theorem iu(r:Nat->Int)(k:Nat):(cv r k).length<=k:=by
 induction k with
 |zero=>simp[cv]
 |succ k ih=>
  simp only[cv,aJ]
  split<;>simp<;>omega
def f7c(cs:List AV)(s:Nat)(k:Nat):Sm:=⟨[(1,.bptr 0 0),(4,.int .i64 k),(3,.int .i64 s)],[GN 33 cs],1⟩
theorem lO(W:Int)(r0:Int)(r1:Int)(r2:Int)(r3:Int)(ms:List Mm){Z:Prop}(z:Z):(RF (W) (RF (r0) (RF (r1) (RF (r2) (RF (r3) (RF (ms.length) (RR (ms.length) (3) (fun i j=>an mmC ms i j) Z))))))):=⟨rfl,rfl,rfl,rfl,rfl,rfl,fun _ _ _ _=>rfl,z⟩
theorem wj(W r0 r1 r2 r3:Int)(ms:List Mm)(s k:Nat)(hk:k<ms.length)(h64:ms.length<4611686018427387904)(hs:s+(ms.getD k default).n<4611686018427387904):Vc (vC_ 58 0 (f7c (bn W r0 r1 r2 r3 (bX ms)) s k) [.b true] .nrm [(0,0)] (f7c (bn W r0 r1 r2 r3 (bX ms)) (s+(ms.getD k default).n) (k+1))):=al (cj (dt ((k:Int)<ms.length)) (cj (pv ((0:Int)<=k∧(k:Int)<ms.length)) (cj (i6 (s+(↑(Mm.n (List.getD ms k default)):Int))) (cj (i6 (k+1)) (lO W r0 r1 r2 r3 ms (cj (pv ((k:Int)+1=(↑(k+1):Int))) (cj (pv ((s:Int)+(↑(Mm.n (List.getD ms k default)):Int)=(↑(s+Mm.n (List.getD ms k default)):Int))) trivial)))))))
theorem yN(W r0 r1 r2 r3:Int)(ms:List Mm)(s:Nat):Vc (vC_ 58 0 (f7c (bn W r0 r1 r2 r3 (bX ms)) s ms.length) [.b false] (.ext 0) [(0,0)] (f7c (bn W r0 r1 r2 r3 (bX ms)) s ms.length)):=al (cj (df ((ms.length:Int)<ms.length)) (cj (rf (W)) (cj (rf (r0)) (cj (rf (r1)) (cj (rf (r2)) (cj (rf (r3)) (cj (rf (ms.length)) (cj (rr (ms.length) (3) fun i j=>an mmC ms i j) (cj (rf ((ms.length:Int))) (cj (rf ((s:Int))) trivial))))))))))
theorem wk(W r0 r1 r2 r3:Int)(ms:List Mm)(h64:ms.length<4611686018427387904)(hs:bU ms<4611686018427387904):oL_ 58 0 (f7c (bn W r0 r1 r2 r3 (bX ms)) 0 0).st (.ext 0) (f7c (bn W r0 r1 r2 r3 (bX ms)) (bU ms) ms.length).st:=by
 have:=Ok.loop (P:=Try.prog) (nt:=cN Try.prog 58) (c:=lpC Try.prog 58 0) (F:=fun k=>f7c (bn W r0 r1 r2 r3 (bX ms)) (bU (ms.take k)) k) (m:=ms.length) (x:= .ext 0) (J:=f7c (bn W r0 r1 r2 r3 (bX ms)) (bU ms) ms.length) (fun k hk=>by
  have h1:=nx hk
  have h2:=js ms (k+1)
  show Ok _ _ _ _ _ (f7c (bn W r0 r1 r2 r3 (bX ms)) (bU (ms.take (k+1))) (k+1)).st
  rw[h1]
  exact Ok.vc (wj W r0 r1 r2 r3 ms _ k hk h64 (by omega))) (by
  show Ok _ _ _ (f7c (bn W r0 r1 r2 r3 (bX ms)) (bU (ms.take ms.length)) ms.length).st _ _
  rw[List.take_length]
  exact Ok.vc (yN W r0 r1 r2 r3 ms _)) (by simp)
 simpa [bU] using this
theorem CH(W r0 r1 r2 r3:Int)(ms:List Mm)(h64:ms.length<4611686018427387904)(hs:bU ms<4611686018427387904):Vc (vF_ 58 [.agg (bn W r0 r1 r2 r3 (bX ms))] [.lp [(0,0)] (f7c (bn W r0 r1 r2 r3 (bX ms)) 0 0) (.ext 0) (f7c (bn W r0 r1 r2 r3 (bX ms)) (bU ms) ms.length)] [] (aI (bU ms)) []):=al (lO W r0 r1 r2 r3 ms (cj (pv ((0:Int)=(0:Nat))) (cj (pv ((0:Int)=(0:Nat))) (cj (wk W r0 r1 r2 r3 ms h64 hs) (cj (rf ((↑(bU ms):Int))) trivial)))))
theorem u7(W r0 r1 r2 r3:Int)(ms:List Mm)(h64:ms.length<4611686018427387904)(hs:bU ms<4611686018427387904):pC_ 58 [.agg (bn W r0 r1 r2 r3 (bX ms))] (.int .i64 (bU ms)) []:=PureC.vc (CH W r0 r1 r2 r3 ms h64 hs)
def h7(cs:List AV)(l:List Pl):List (Nat×Blk):=[GN 33 cs,(1,plB l)]
def BR(l:List Pl):AV:= .own 1 0 3 0 l.length
def f7r(cs:List AV)(k:Nat)(l:List Pl):Sm:=⟨[(1,.bptr 0 0),(4,.int .i64 k),(3,BR l)],h7 cs l,2⟩
def f7o(cs:List AV)(i a:Nat)(l:List Pl):Sm:=⟨[(1,.bptr 0 0),(6,.int .i64 i),(5,.int .i64 a),(3,BR l)],h7 cs l,2⟩
def f7i(cs:List AV)(i k a:Nat)(l:List Pl):Sm:=⟨[(1,.bptr 0 0),(6,.int .i64 i),(5,.int .i64 a),(7,.int .i64 k),(3,BR l)],h7 cs l,2⟩
theorem kD(W:Int)(r0:Int)(r1:Int)(r2:Int)(r3:Int)(ms:List Mm)(l:List Pl){Z:Prop}(z:Z):(RF (W) (RF (r0) (RF (r1) (RF (r2) (RF (r3) (RF (ms.length) (RR (ms.length) (3) (fun i j=>an mmC ms i j) (RF (l.length) (RR (l.length) (3) (fun i j=>an plC l i j) Z))))))))):=⟨rfl,rfl,rfl,rfl,rfl,rfl,fun _ _ _ _=>rfl,rfl,fun _ _ _ _=>rfl,z⟩
theorem yJ(W r0 r1 r2 r3:Int)(ms:List Mm)(l:List Pl)(hz:r0=0):Vc (vC_ 37 0 (f7r (bn W r0 r1 r2 r3 (bX ms)) 0 l) [.b true,.b false] .nrm [(0,0),(1,1)] (f7r (bn W r0 r1 r2 r3 (bX ms)) 1 l)):=al (cj (dt (((0:Nat):Int)<4)) (cj (show(r0 !=(0:Int))=false from by simp[hz]) (cj (i6 ((0:Nat)+1)) (kD W r0 r1 r2 r3 ms l (cj (pv (((0:Nat):Int)+1=(1:Nat))) (cj (rf ((0:Nat))) (cj (rf (l.length)) trivial)))))))
theorem wc(W r0 r1 r2 r3:Int)(ms:List Mm)(l:List Pl)(hz: ¬r0=0)(hl:l.length<1000000):Vc (vC_ 37 0 (f7r (bn W r0 r1 r2 r3 (bX ms)) 0 l) [.b true,.b true] .nrm [(0,0),(1,1)] (f7r (bn W r0 r1 r2 r3 (bX ms)) 1 (l++[⟨true,0,r0==2⟩]))):=al (cj (dt (((0:Nat):Int)<4)) (cj (show(r0 !=(0:Int))=true from by simp[hz]) (cj (pv ((0:Nat)=0∧l.length=l.length∧(l.length+1)*24<=140737488355328∧l.length+1<=140737488355328)) (cj (i6 ((0:Nat)+1)) (lO W r0 r1 r2 r3 ms (cj (pv (l.length+1=List.length (l++[Pl.mk true (0:Nat) (r0==(2:Int))]))) (cj (show ∀(i:Nat),i<l.length+1-> ∀(j:Nat),j<3->(bif Nat.blt i l.length then an plC l i j else List.getD [AV.bool true,AV.int IntKind.i64 ((0:Nat):Int),AV.bool (r0==(2:Int))] ((i-l.length+0)*3+j) AV.junk)=an plC (l++[Pl.mk true (0:Nat) (r0==(2:Int))]) i j from(fun i hi j hj=>dK (fun h=>(ci h).symm) (fun h=>by obtain rfl:i=_:=bK (bI.mp hi) (bt.mp h);rw[cn,bT];match j,hj with |0,_=>rfl |1,_=>rfl |2,_=>rfl))) (cj (pv (((0:Nat):Int)+1=(1:Nat))) (cj (rf ((0:Nat))) (cj (pv (l.length+1=List.length (l++[Pl.mk true (0:Nat) (r0==(2:Int))]))) trivial))))))))))
theorem yI(W r0 r1 r2 r3:Int)(ms:List Mm)(l:List Pl)(hz:r1=0):Vc (vC_ 37 0 (f7r (bn W r0 r1 r2 r3 (bX ms)) 1 l) [.b true,.b false] .nrm [(0,0),(1,1)] (f7r (bn W r0 r1 r2 r3 (bX ms)) 2 l)):=al (cj (dt (((1:Nat):Int)<4)) (cj (show(r1 !=(0:Int))=false from by simp[hz]) (cj (i6 ((1:Nat)+1)) (kD W r0 r1 r2 r3 ms l (cj (pv (((1:Nat):Int)+1=(2:Nat))) (cj (rf ((0:Nat))) (cj (rf (l.length)) trivial)))))))
theorem wb(W r0 r1 r2 r3:Int)(ms:List Mm)(l:List Pl)(hz: ¬r1=0)(hl:l.length<1000000):Vc (vC_ 37 0 (f7r (bn W r0 r1 r2 r3 (bX ms)) 1 l) [.b true,.b true] .nrm [(0,0),(1,1)] (f7r (bn W r0 r1 r2 r3 (bX ms)) 2 (l++[⟨true,1,r1==2⟩]))):=al (cj (dt (((1:Nat):Int)<4)) (cj (show(r1 !=(0:Int))=true from by simp[hz]) (cj (pv ((0:Nat)=0∧l.length=l.length∧(l.length+1)*24<=140737488355328∧l.length+1<=140737488355328)) (cj (i6 ((1:Nat)+1)) (lO W r0 r1 r2 r3 ms (cj (pv (l.length+1=List.length (l++[Pl.mk true (1:Nat) (r1==(2:Int))]))) (cj (show ∀(i:Nat),i<l.length+1-> ∀(j:Nat),j<3->(bif Nat.blt i l.length then an plC l i j else List.getD [AV.bool true,AV.int IntKind.i64 ((1:Nat):Int),AV.bool (r1==(2:Int))] ((i-l.length+0)*3+j) AV.junk)=an plC (l++[Pl.mk true (1:Nat) (r1==(2:Int))]) i j from(fun i hi j hj=>dK (fun h=>(ci h).symm) (fun h=>by obtain rfl:i=_:=bK (bI.mp hi) (bt.mp h);rw[cn,bT];match j,hj with |0,_=>rfl |1,_=>rfl |2,_=>rfl))) (cj (pv (((1:Nat):Int)+1=(2:Nat))) (cj (rf ((0:Nat))) (cj (pv (l.length+1=List.length (l++[Pl.mk true (1:Nat) (r1==(2:Int))]))) trivial))))))))))
theorem yH(W r0 r1 r2 r3:Int)(ms:List Mm)(l:List Pl)(hz:r2=0):Vc (vC_ 37 0 (f7r (bn W r0 r1 r2 r3 (bX ms)) 2 l) [.b true,.b false] .nrm [(0,0),(1,1)] (f7r (bn W r0 r1 r2 r3 (bX ms)) 3 l)):=al (cj (dt (((2:Nat):Int)<4)) (cj (show(r2 !=(0:Int))=false from by simp[hz]) (cj (i6 ((2:Nat)+1)) (kD W r0 r1 r2 r3 ms l (cj (pv (((2:Nat):Int)+1=(3:Nat))) (cj (rf ((0:Nat))) (cj (rf (l.length)) trivial)))))))
theorem wa(W r0 r1 r2 r3:Int)(ms:List Mm)(l:List Pl)(hz: ¬r2=0)(hl:l.length<1000000):Vc (vC_ 37 0 (f7r (bn W r0 r1 r2 r3 (bX ms)) 2 l) [.b true,.b true] .nrm [(0,0),(1,1)] (f7r (bn W r0 r1 r2 r3 (bX ms)) 3 (l++[⟨true,2,r2==2⟩]))):=al (cj (dt (((2:Nat):Int)<4)) (cj (show(r2 !=(0:Int))=true from by simp[hz]) (cj (pv ((0:Nat)=0∧l.length=l.length∧(l.length+1)*24<=140737488355328∧l.length+1<=140737488355328)) (cj (i6 ((2:Nat)+1)) (lO W r0 r1 r2 r3 ms (cj (pv (l.length+1=List.length (l++[Pl.mk true (2:Nat) (r2==(2:Int))]))) (cj (show ∀(i:Nat),i<l.length+1-> ∀(j:Nat),j<3->(bif Nat.blt i l.length then an plC l i j else List.getD [AV.bool true,AV.int IntKind.i64 ((2:Nat):Int),AV.bool (r2==(2:Int))] ((i-l.length+0)*3+j) AV.junk)=an plC (l++[Pl.mk true (2:Nat) (r2==(2:Int))]) i j from(fun i hi j hj=>dK (fun h=>(ci h).symm) (fun h=>by obtain rfl:i=_:=bK (bI.mp hi) (bt.mp h);rw[cn,bT];match j,hj with |0,_=>rfl |1,_=>rfl |2,_=>rfl))) (cj (pv (((2:Nat):Int)+1=(3:Nat))) (cj (rf ((0:Nat))) (cj (pv (l.length+1=List.length (l++[Pl.mk true (2:Nat) (r2==(2:Int))]))) trivial))))))))))
theorem yG(W r0 r1 r2 r3:Int)(ms:List Mm)(l:List Pl)(hz:r3=0):Vc (vC_ 37 0 (f7r (bn W r0 r1 r2 r3 (bX ms)) 3 l) [.b true,.b false] .nrm [(0,0),(1,1)] (f7r (bn W r0 r1 r2 r3 (bX ms)) 4 l)):=al (cj (dt (((3:Nat):Int)<4)) (cj (show(r3 !=(0:Int))=false from by simp[hz]) (cj (i6 ((3:Nat)+1)) (kD W r0 r1 r2 r3 ms l (cj (pv (((3:Nat):Int)+1=(4:Nat))) (cj (rf ((0:Nat))) (cj (rf (l.length)) trivial)))))))
theorem v9(W r0 r1 r2 r3:Int)(ms:List Mm)(l:List Pl)(hz: ¬r3=0)(hl:l.length<1000000):Vc (vC_ 37 0 (f7r (bn W r0 r1 r2 r3 (bX ms)) 3 l) [.b true,.b true] .nrm [(0,0),(1,1)] (f7r (bn W r0 r1 r2 r3 (bX ms)) 4 (l++[⟨true,3,r3==2⟩]))):=al (cj (dt (((3:Nat):Int)<4)) (cj (show(r3 !=(0:Int))=true from by simp[hz]) (cj (pv ((0:Nat)=0∧l.length=l.length∧(l.length+1)*24<=140737488355328∧l.length+1<=140737488355328)) (cj (i6 ((3:Nat)+1)) (lO W r0 r1 r2 r3 ms (cj (pv (l.length+1=List.length (l++[Pl.mk true (3:Nat) (r3==(2:Int))]))) (cj (show ∀(i:Nat),i<l.length+1-> ∀(j:Nat),j<3->(bif Nat.blt i l.length then an plC l i j else List.getD [AV.bool true,AV.int IntKind.i64 ((3:Nat):Int),AV.bool (r3==(2:Int))] ((i-l.length+0)*3+j) AV.junk)=an plC (l++[Pl.mk true (3:Nat) (r3==(2:Int))]) i j from(fun i hi j hj=>dK (fun h=>(ci h).symm) (fun h=>by obtain rfl:i=_:=bK (bI.mp hi) (bt.mp h);rw[cn,bT];match j,hj with |0,_=>rfl |1,_=>rfl |2,_=>rfl))) (cj (pv (((3:Nat):Int)+1=(4:Nat))) (cj (rf ((0:Nat))) (cj (pv (l.length+1=List.length (l++[Pl.mk true (3:Nat) (r3==(2:Int))]))) trivial))))))))))
theorem yK(W r0 r1 r2 r3:Int)(ms:List Mm)(l:List Pl):Vc (vC_ 37 0 (f7r (bn W r0 r1 r2 r3 (bX ms)) 4 l) [] (.ext 0) [(0,0),(1,1)] (f7r (bn W r0 r1 r2 r3 (bX ms)) 4 l)):=al (kD W r0 r1 r2 r3 ms l (cj (rf (((4:Nat):Int))) (cj (rf ((0:Nat))) (cj (rf (l.length)) trivial))))
theorem wd(W r0 r1 r2 r3:Int)(ms:List Mm):oL_ 37 0 (f7r (bn W r0 r1 r2 r3 (bX ms)) 0 []).st (.ext 0) (f7r (bn W r0 r1 r2 r3 (bX ms)) 4 (cv (rg r0 r1 r2 r3) 4)).st:=
 Ok.loop (P:=Try.prog) (nt:=cN Try.prog 37) (c:=lpC Try.prog 37 0) (F:=fun k=>f7r (bn W r0 r1 r2 r3 (bX ms)) k (cv (rg r0 r1 r2 r3) k)) (m:=4) (x:= .ext 0) (J:=f7r (bn W r0 r1 r2 r3 (bX ms)) 4 (cv (rg r0 r1 r2 r3) 4)) (fun k hk=>by
  match k,hk with
  |0,_=>
   by_cases hz:r0=0
   ·have e:cv (rg r0 r1 r2 r3) 1=cv (rg r0 r1 r2 r3) 0:=ir (k:=0) hz
    show Ok _ _ _ _ _ (f7r _ 1 (cv (rg r0 r1 r2 r3) 1)).st
    rw[e]
    exact Ok.vc (yJ W r0 r1 r2 r3 ms _ hz)
   ·have e:cv (rg r0 r1 r2 r3) 1=cv (rg r0 r1 r2 r3) 0++[⟨true,0,r0==2⟩]:=jA (k:=0) hz
    show Ok _ _ _ _ _ (f7r _ 1 (cv (rg r0 r1 r2 r3) 1)).st
    rw[e]
    exact Ok.vc (wc W r0 r1 r2 r3 ms _ hz (by have:=iu (rg r0 r1 r2 r3) 0;omega))
  |1,_=>
   by_cases hz:r1=0
   ·have e:cv (rg r0 r1 r2 r3) 2=cv (rg r0 r1 r2 r3) 1:=ir (k:=1) hz
    show Ok _ _ _ _ _ (f7r _ 2 (cv (rg r0 r1 r2 r3) 2)).st
    rw[e]
    exact Ok.vc (yI W r0 r1 r2 r3 ms _ hz)
   ·have e:cv (rg r0 r1 r2 r3) 2=cv (rg r0 r1 r2 r3) 1++[⟨true,1,r1==2⟩]:=jA (k:=1) hz
    show Ok _ _ _ _ _ (f7r _ 2 (cv (rg r0 r1 r2 r3) 2)).st
    rw[e]
    exact Ok.vc (wb W r0 r1 r2 r3 ms _ hz (by have:=iu (rg r0 r1 r2 r3) 1;omega))
  |2,_=>
   by_cases hz:r2=0
   ·have e:cv (rg r0 r1 r2 r3) 3=cv (rg r0 r1 r2 r3) 2:=ir (k:=2) hz
    show Ok _ _ _ _ _ (f7r _ 3 (cv (rg r0 r1 r2 r3) 3)).st
    rw[e]
    exact Ok.vc (yH W r0 r1 r2 r3 ms _ hz)
   ·have e:cv (rg r0 r1 r2 r3) 3=cv (rg r0 r1 r2 r3) 2++[⟨true,2,r2==2⟩]:=jA (k:=2) hz
    show Ok _ _ _ _ _ (f7r _ 3 (cv (rg r0 r1 r2 r3) 3)).st
    rw[e]
    exact Ok.vc (wa W r0 r1 r2 r3 ms _ hz (by have:=iu (rg r0 r1 r2 r3) 2;omega))
  |3,_=>
   by_cases hz:r3=0
   ·have e:cv (rg r0 r1 r2 r3) 4=cv (rg r0 r1 r2 r3) 3:=ir (k:=3) hz
    show Ok _ _ _ _ _ (f7r _ 4 (cv (rg r0 r1 r2 r3) 4)).st
    rw[e]
    exact Ok.vc (yG W r0 r1 r2 r3 ms _ hz)
   ·have e:cv (rg r0 r1 r2 r3) 4=cv (rg r0 r1 r2 r3) 3++[⟨true,3,r3==2⟩]:=jA (k:=3) hz
    show Ok _ _ _ _ _ (f7r _ 4 (cv (rg r0 r1 r2 r3) 4)).st
    rw[e]
    exact Ok.vc (v9 W r0 r1 r2 r3 ms _ hz (by have:=iu (rg r0 r1 r2 r3) 3;omega))) (Ok.vc (yK W r0 r1 r2 r3 ms _)) (by simp)
theorem wh(W r0 r1 r2 r3:Int)(ms:List Mm)(i k a:Nat)(l:List Pl)(h64:ms.length<4611686018427387904)(hi:i<ms.length)(hl:l.length<1000000000000)(ha:a<4611686018427387904)(hn:k<4611686018427387904)(hk:k<(ms.getD i default).n):Vc (vC_ 37 2 (f7i (bn W r0 r1 r2 r3 (bX ms)) i k a l) [.b true] .nrm [(0,0),(1,1)] (f7i (bn W r0 r1 r2 r3 (bX ms)) i (k+1) (a+1) (l++[⟨false,a,(ms.getD i default).sec⟩]))):=al (cj (pv ((0:Int)<=i∧(i:Int)<ms.length)) (cj (dt ((k:Int)<(↑(Mm.n (List.getD ms i default)):Int))) (cj (pv ((0:Int)<=i∧(i:Int)<ms.length)) (cj (pv ((0:Nat)=0∧l.length=l.length∧(l.length+1)*24<=140737488355328∧l.length+1<=140737488355328)) (cj (i6 (a+1)) (cj (i6 (k+1)) (lO W r0 r1 r2 r3 ms (cj (pv (l.length+1=List.length (l++[Pl.mk false a (Mm.sec (List.getD ms i default))]))) (cj (show ∀(i_1:Nat),i_1<l.length+1-> ∀(j:Nat),j<3->(bif Nat.blt i_1 l.length then an plC l i_1 j else List.getD [AV.bool false,AV.int IntKind.i64 (a:Int),AV.bool (Mm.sec (List.getD ms i default))] ((i_1-l.length+0)*3+j) AV.junk)=an plC (l++[Pl.mk false a (Mm.sec (List.getD ms i default))]) i_1 j from(fun i hi j hj=>dK (fun h=>(ci h).symm) (fun h=>by obtain rfl:i=_:=bK (bI.mp hi) (bt.mp h);rw[cn,bT];match j,hj with |0,_=>rfl |1,_=>rfl |2,_=>rfl))) (cj (rf ((i:Int))) (cj (pv ((a:Int)+1=(↑(a+1):Int))) (cj (pv ((k:Int)+1=(↑(k+1):Int))) (cj (rf ((0:Nat))) (cj (pv (l.length+1=List.length (l++[Pl.mk false a (Mm.sec (List.getD ms i default))]))) trivial))))))))))))))
theorem yM(W r0 r1 r2 r3:Int)(ms:List Mm)(i k a:Nat)(l:List Pl)(h64:ms.length<4611686018427387904)(hi:i<ms.length)(hl:l.length<1000000000000)(ha:a<4611686018427387904)(hn:k<4611686018427387904)(hk:k=(ms.getD i default).n):Vc (vC_ 37 2 (f7i (bn W r0 r1 r2 r3 (bX ms)) i k a l) [.b false] (.ext 4) [(0,0),(1,1)] (f7i (bn W r0 r1 r2 r3 (bX ms)) i k a l)):=al (cj (pv ((0:Int)<=i∧(i:Int)<ms.length)) (cj (df ((k:Int)<(↑(Mm.n (List.getD ms i default)):Int))) (kD W r0 r1 r2 r3 ms l (cj (rf ((i:Int))) (cj (rf ((a:Int))) (cj (rf ((k:Int))) (cj (rf ((0:Nat))) (cj (rf (l.length)) trivial))))))))
theorem wi(W r0 r1 r2 r3:Int)(ms:List Mm)(i a:Nat)(l:List Pl)(h64:ms.length<4611686018427387904)(hi:i<ms.length)(hb:l.length+(ms.getD i default).n<1000000000000)(ha:a+(ms.getD i default).n<4611686018427387904):oL_ 37 2 (f7i (bn W r0 r1 r2 r3 (bX ms)) i 0 a l).st (.ext 4) (f7i (bn W r0 r1 r2 r3 (bX ms)) i (ms.getD i default).n (a+(ms.getD i default).n) (l++gz (ms.getD i default).sec a (ms.getD i default).n)).st:=by
 have:=Ok.loop (P:=Try.prog) (nt:=cN Try.prog 37) (c:=lpC Try.prog 37 2) (F:=fun k=>f7i (bn W r0 r1 r2 r3 (bX ms)) i k (a+k) (l++gz (ms.getD i default).sec a k)) (m:=(ms.getD i default).n) (x:= .ext 4) (J:=f7i (bn W r0 r1 r2 r3 (bX ms)) i (ms.getD i default).n (a+(ms.getD i default).n) (l++gz (ms.getD i default).sec a (ms.getD i default).n)) (fun k hk=>by
  show Ok _ _ _ _ _ (f7i _ i (k+1) (a+(k+1)) (l++gz (ms.getD i default).sec a (k+1))).st
  rw[tR, <-cB]
  exact Ok.vc (wh W r0 r1 r2 r3 ms i k (a+k) _ h64 hi (by simp only[aJ,ij];omega) (by omega) (by omega) hk))
  (Ok.vc (yM W r0 r1 r2 r3 ms i _ _ _ h64 hi (by simp only[aJ,ij];omega) (by omega) (by omega) rfl)) (by simp)
 simpa [gz] using this
theorem we(W r0 r1 r2 r3:Int)(ms:List Mm)(i a:Nat)(l:List Pl)(h64:ms.length<4611686018427387904)(hi:i<ms.length)(hb:l.length+(ms.getD i default).n<1000000000000)(ha:a+(ms.getD i default).n<4611686018427387904):Vc (vC_ 37 1 (f7o (bn W r0 r1 r2 r3 (bX ms)) i a l) [.b true,.lp [(0,0),(1,1)] (f7i (bn W r0 r1 r2 r3 (bX ms)) i 0 a l) (.ext 4) (f7i (bn W r0 r1 r2 r3 (bX ms)) i (ms.getD i default).n (a+(ms.getD i default).n) (l++gz (ms.getD i default).sec a (ms.getD i default).n))] .nrm [(0,0),(1,1)] (f7o (bn W r0 r1 r2 r3 (bX ms)) (i+1) (a+(ms.getD i default).n) (l++gz (ms.getD i default).sec a (ms.getD i default).n))):=al (cj (dt ((i:Int)<ms.length)) (kD W r0 r1 r2 r3 ms l (cj (rf ((i:Int))) (cj (rf ((a:Int))) (cj (pv ((0:Int)=(0:Nat))) (cj (rf ((0:Nat))) (cj (rf (l.length)) (cj (wi W r0 r1 r2 r3 ms i a l h64 hi hb ha) (cj (i6 (i+1)) (cj (rf (W)) (cj (rf (r0)) (cj (rf (r1)) (cj (rf (r2)) (cj (rf (r3)) (cj (rf (ms.length)) (cj (rr (ms.length) (3) fun i j=>an mmC ms i j) (cj (rf (List.length (l++gz (Mm.sec (List.getD ms i default)) a (Mm.n (List.getD ms i default))))) (cj (rr (List.length (l++gz (Mm.sec (List.getD ms i default)) a (Mm.n (List.getD ms i default)))) (3) fun i_1 j=>an plC (l++gz (Mm.sec (List.getD ms i default)) a (Mm.n (List.getD ms i default))) i_1 j) (cj (pv ((i:Int)+1=(↑(i+1):Int))) (cj (rf ((↑(a+Mm.n (List.getD ms i default)):Int))) (cj (rf ((0:Nat))) (cj (rf (List.length (l++gz (Mm.sec (List.getD ms i default)) a (Mm.n (List.getD ms i default))))) trivial))))))))))))))))))))))
theorem yL(W r0 r1 r2 r3:Int)(ms:List Mm)(a:Nat)(l:List Pl):Vc (vC_ 37 1 (f7o (bn W r0 r1 r2 r3 (bX ms)) ms.length a l) [.b false] (.ext 2) [(0,0),(1,1)] (f7o (bn W r0 r1 r2 r3 (bX ms)) ms.length a l)):=al (cj (df ((ms.length:Int)<ms.length)) (kD W r0 r1 r2 r3 ms l (cj (rf ((ms.length:Int))) (cj (rf ((a:Int))) (cj (rf ((0:Nat))) (cj (rf (l.length)) trivial))))))
theorem wg(W r0 r1 r2 r3:Int)(ms:List Mm)(l:List Pl)(h64:ms.length<4611686018427387904)(hb:l.length+bU ms<1000000000000):oL_ 37 1 (f7o (bn W r0 r1 r2 r3 (bX ms)) 0 0 l).st (.ext 2) (f7o (bn W r0 r1 r2 r3 (bX ms)) ms.length (bU ms) (l++fr 0 ms)).st:=by
 have:=Ok.loop (P:=Try.prog) (nt:=cN Try.prog 37) (c:=lpC Try.prog 37 1) (F:=fun k=>f7o (bn W r0 r1 r2 r3 (bX ms)) k (bU (ms.take k)) (l++fr 0 (ms.take k))) (m:=ms.length) (x:= .ext 2) (J:=f7o (bn W r0 r1 r2 r3 (bX ms)) ms.length (bU ms) (l++fr 0 ms)) (fun k hk=>by
  have h1:=nx hk
  have h2:=js ms (k+1)
  show Ok _ _ _ _ _ (f7o _ (k+1) (bU (ms.take (k+1))) (l++fr 0 (ms.take (k+1)))).st
  rw[tE hk,bg, <-cB,h1]
  exact Ok.vc (we W r0 r1 r2 r3 ms k _ _ h64 hk (by simp only[aJ,kM];omega) (by omega)))
  (by
   show Ok _ _ _ (f7o _ ms.length (bU (ms.take ms.length)) (l++fr 0 (ms.take ms.length))).st _ _
   rw[List.take_length]
   exact Ok.vc (yL W r0 r1 r2 r3 ms _ _)) (by simp)
 simpa [bU,fr] using this
theorem CG(W r0 r1 r2 r3:Int)(ms:List Mm)(h64:ms.length<4611686018427387904)(hb:bU ms<100000000000):Vc (vF_ 37 [.agg (bn W r0 r1 r2 r3 (bX ms))] [.lp [(0,0)] (f7r (bn W r0 r1 r2 r3 (bX ms)) 0 []) (.ext 0) (f7r (bn W r0 r1 r2 r3 (bX ms)) 4 (cv (rg r0 r1 r2 r3) 4)),.lp [(0,0),(1,1)] (f7o (bn W r0 r1 r2 r3 (bX ms)) 0 0 (cv (rg r0 r1 r2 r3) 4)) (.ext 2) (f7o (bn W r0 r1 r2 r3 (bX ms)) ms.length (bU ms) ((cv (rg r0 r1 r2 r3) 4)++fr 0 ms))] [(0,1)] (.own 0 0 3 0 (places (rg r0 r1 r2 r3) ms).length) [plB (places (rg r0 r1 r2 r3) ms)]):=al (cj (rf (W)) (cj (rf (r0)) (cj (rf (r1)) (cj (rf (r2)) (cj (rf (r3)) (cj (rf (ms.length)) (cj (rr (ms.length) (3) fun i j=>an mmC ms i j) (cj (rf ((0:Nat))) (cj (pv ((0:Int)=(0:Nat))) (cj (rf ((0:Nat))) (cj (rf ((0:Nat))) (cj (wd W r0 r1 r2 r3 ms) (cj (rf (W)) (cj (rf (r0)) (cj (rf (r1)) (cj (rf (r2)) (cj (rf (r3)) (cj (rf (ms.length)) (cj (rr (ms.length) (3) fun i j=>an mmC ms i j) (cj (rf (List.length (cv (rg r0 r1 r2 r3) (4:Nat)))) (cj (rr (List.length (cv (rg r0 r1 r2 r3) (4:Nat))) (3) fun i j=>an plC (cv (rg r0 r1 r2 r3) (4:Nat)) i j) (cj (pv ((0:Int)=(0:Nat))) (cj (pv ((0:Int)=(0:Nat))) (cj (rf ((0:Nat))) (cj (rf (List.length (cv (rg r0 r1 r2 r3) (4:Nat)))) (cj (show oL_ 37 1 (f7o (bn W r0 r1 r2 r3 (bX ms)) 0 0 (cv (rg r0 r1 r2 r3) 4)).st (.ext 2) (f7o (bn W r0 r1 r2 r3 (bX ms)) ms.length (bU ms) ((cv (rg r0 r1 r2 r3) 4)++fr 0 ms)).st from wg W r0 r1 r2 r3 ms _ h64 (by have:=iu (rg r0 r1 r2 r3) 4;omega)) (cj (pv (List.length (cv (rg r0 r1 r2 r3) (4:Nat)++fr (0:Nat) ms)=List.length (places (rg r0 r1 r2 r3) ms))) (cj (show ∀(i:Nat),i<List.length (cv (rg r0 r1 r2 r3) (4:Nat)++fr (0:Nat) ms)-> ∀(j:Nat),j<3->an plC (cv (rg r0 r1 r2 r3) (4:Nat)++fr (0:Nat) ms) i j=an plC (places (rg r0 r1 r2 r3) ms) i j from fun _ _ _ _=>rfl) (cj (rf ((0:Nat))) (cj (pv (List.length (cv (rg r0 r1 r2 r3) (4:Nat)++fr (0:Nat) ms)=List.length (places (rg r0 r1 r2 r3) ms))) trivial))))))))))))))))))))))))))))))
theorem nB(W r0 r1 r2 r3:Int)(ms:List Mm)(h64:ms.length<4611686018427387904)(hb:bU ms<100000000000):pC_ 37 [.agg (bn W r0 r1 r2 r3 (bX ms))] (.own 0 0 3 0 (places (rg r0 r1 r2 r3) ms).length) [plB (places (rg r0 r1 r2 r3) ms)]:=PureC.vc (CG W r0 r1 r2 r3 ms h64 hb)
structure S7 where
 r0:Int
 r1:Int
 r2:Int
 r3:Int
 m:List Int
def pC(s:S7)(p:Pl)(v:Int):S7:=
 if p.reg=true then(if p.n=0 then{s with r0:=v} else if p.n=1 then{s with r1:=v} else if p.n=2 then{s with r2:=v} else{s with r3:=v}) else{s with m:=s.m.set p.n v}
def ol(W:Int)(pl:List Pl)(l:List Int)(s0:S7):Nat->S7
 |0=>s0
 |k+1=>pC (ol W pl l s0 k) (pl.getD k default) (Wd.maskV W (l.getD k 0))
def oZ(N:Nat):S7:=⟨0,0,0,0,List.replicate N 0⟩
def BO(N:Nat)(p:Pl):Prop:=(p.reg=true->p.n<4)∧(p.reg=false->p.n<N)
def stZ(a:AV):List AV:=[.int .i64 0,.int .i64 0,.int .i64 0,.int .i64 0,a,.nils,.int .i64 0]
def stC(s:S7)(a:AV):List AV:=[.int .i64 s.r0,.int .i64 s.r1,.int .i64 s.r2,.int .i64 s.r3,a,.nils,.int .i64 0]
def bx(e:TypeId)(cs:List AV):Blk:=⟨0,false,e,.box cs⟩
def aZ(l:List Int):Blk:=⟨0,false,3,.rows 1 l.length (dz l)⟩
theorem ve(s:S7)(p:Pl)(v:Int):(pC s p v).m.length=s.m.length:=by
 unfold pC
 repeat' split
 all_goals first |rfl |simp
theorem pB(W:Int)(pl:List Pl)(l:List Int)(s:S7)(k:Nat):(ol W pl l s k).m.length=s.m.length:=by
 induction k with
 |zero=>rfl
 |succ k ih=>rw[ol,ve,ih]
theorem u5{m:List Int}{n i j:Nat}{v:Int}{a:AV}(hi:i<m.length)(ha:a= .int .i64 v):(bif Nat.beq i n then a else dz m i j)=dz (m.set n v) i j:=by
 unfold dz
 subst ha
 by_cases h:i=n
 ·subst h
  simp[List.getD,hi]
 ·have:Nat.beq i n=false:=by
   cases hb:Nat.beq i n with
   |false=>rfl
   |true=>exact absurd (aj hb) h
  rw[this]
  simp[List.getD,cd,Ne.symm h]
theorem fV{m:List Int}{n:Nat}{v:Int}: ∀i,i<m.length-> ∀j,j<1->(bif Nat.ble 0 j&&Nat.blt j 1&&Nat.beq i (n+0) then[AV.int .i64 v].getD (j-0) .junk else AV.int .i64 (m.getD i 0))= .int .i64 ((m.set n v).getD i 0):=by
 intro i hi j hj
 obtain rfl:j=0:=by omega
 show(bif Nat.beq i n then AV.int .i64 v else AV.int .i64 (m.getD i 0))=_
 exact u5 (m:=m) (i:=i) (j:=0) (n:=n) (v:=v) hi rfl
theorem pw{N:Nat}{a:AV}(ha:a= .int .i64 0)(i j:Nat)(hi:i<N):a=dz (List.replicate N 0) i j:=by
 unfold dz
 rw[ha]
 simp[List.getD,hi]
theorem tm(r:Nat->Int)(ms:List Mm): ∀p∈places r ms,BO (bU ms) p:=by
 intro p hp
 rcases aV.1 hp with hp |hp
 ·have key: ∀k,p∈cv r k->p.reg=true∧p.n<k:=by
   intro k
   induction k with
   |zero=>intro h;cases h
   |succ k ih=>
    intro h
    rcases aV.1 h with h |h
    ·have:=ih h;exact⟨this.1,by omega⟩
    ·split at h
     ·cases h
     ·rw[aH] at h
      subst h
      exact⟨rfl,cI k⟩
  have:=key 4 hp
  exact⟨fun _=>this.2,fun h=>by rw[this.1] at h;cases h⟩
 ·have key: ∀(l:List Mm) (at_:Nat),p∈fr at_ l->p.reg=false∧p.n<at_+bU l:=by
   intro l
   induction l with
   |nil=>intro at_ h;cases h
   |cons m l ih=>
    intro at_ h
    rcases aV.1 h with h |h
    ·obtain⟨i,hi,rfl⟩:=cY.1 h
     rw[cO] at hi
     refine⟨rfl, ?_⟩
     show at_+i<_
     simp only[bU];omega
    ·have:=ih _ h
     refine⟨this.1, ?_⟩
     simp only[bU];omega
  have:=key ms 0 hp
  exact⟨fun h=>(by rw[this.1] at h;cases h),fun _=>by omega⟩
theorem nb(r:Nat->Int)(ms:List Mm):(places r ms).length<=4+bU ms:=by
 have:=iu r 4
 have h2:=kM 0 ms
 simp only[places,aJ];omega
theorem v3{pl:List Pl}{k:Nat}(h:k<pl.length):pl.getD k default∈pl:=by
 simp[List.getD,h]
structure Vl where
 reg:Bool
 n:Int
structure In where
 kind:Int
 op:Int
 d:Int
 a:Vl
 b:Vl
 nm:ByteArray
 tg:Int
structure Lb where
 nm:ByteArray
 at_:Int
structure Pg where
 W:Int
 win:Int
 fuel:Int
 r0:Int
 r1:Int
 r2:Int
 r3:Int
 ms:List Mm
 ls:List Lb
 is:List In
structure S8 where
 r0:Int
 r1:Int
 r2:Int
 r3:Int
 m:List Int
 st:List Int
 pc:Int
structure Ob where
 k:Int
 a:Int
def In0:In:=⟨0,0,0,⟨false,0⟩,⟨false,0⟩,⟨#[]⟩,0⟩
instance:Inhabited In:=⟨In0⟩
instance:Inhabited Lb:=⟨⟨⟨#[]⟩,0⟩⟩
instance:Inhabited Ob:=⟨⟨0,0⟩⟩
def inA(i:In):List AV:=[.int .i64 i.kind,.int .i64 i.op,.int .i64 i.d,.bool i.a.reg,.int .i64 i.a.n,.bool i.b.reg,.int .i64 i.b.n,.str i.nm,.int .i64 i.tg]
def inC(i:In)(j:Nat):AV:=(inA i).getD j .junk
def inR(l:List In):AV:= .row 9 l.length (an inC l)
def vlA(v:Vl):List AV:=[.bool v.reg,.int .i64 v.n]
def lbC(l:Lb)(j:Nat):AV:=[AV.str l.nm,.int .i64 l.at_].getD j .junk
def lbR(l:List Lb):AV:= .row 2 l.length (an lbC l)
def obC(o:Ob)(j:Nat):AV:=[AV.int .i64 o.k,.int .i64 o.a].getD j .junk
def obR(l:List Ob):AV:= .row 2 l.length (an obC l)
def pgA(p:Pg):List AV:=[.int .i64 p.W,.int .i64 p.win,.int .i64 p.fuel,.int .i64 p.r0,.int .i64 p.r1,.int .i64 p.r2,.int .i64 p.r3,bX p.ms,lbR p.ls,inR p.is]
def s8A(s:S8)(am ak:AV):List AV:=[.int .i64 s.r0,.int .i64 s.r1,.int .i64 s.r2,.int .i64 s.r3,am,ak,.int .i64 s.pc]
def atI(p:Pg)(pc:Int):In:=if 0<=pc∧pc<p.is.length then p.is.getD pc.toNat default else{In0 with kind:=12}
def S8.reg(s:S8)(n:Int):Int:=if n=0 then s.r0 else if n=1 then s.r1 else if n=2 then s.r2 else s.r3
def S8.set(s:S8)(n v:Int):S8:=⟨if n=0 then v else s.r0,if n=1 then v else s.r1,if n=2 then v else s.r2,if n=3 then v else s.r3,s.m,s.st,s.pc⟩
def vlV(W:Int)(s:S8)(v:Vl):Int:=if v.reg=true then s.reg v.n else Wd.maskV W v.n
def okV(v:Vl):Prop:=v.reg=true->0<=v.n∧v.n<4
def okR(s:S8):Prop:=(0<=s.r0∧s.r0<65536)∧(0<=s.r1∧s.r1<65536)∧(0<=s.r2∧s.r2<65536)∧(0<=s.r3∧s.r3<65536)
def OkI(i:In)(len:Int):Prop:=(1<=i.kind∧i.kind<=12)∧okV i.a∧okV i.b∧(0<=i.d∧i.d<4)∧(0<=i.tg∧i.tg<=len)
structure OkP (p:Pg):Prop where
 ins: ∀i∈p.is,OkI i p.is.length
 len:p.is.length<1000
 ms:p.ms.length<1000
 sum:bU p.ms<=16
structure OkS (c len:Int) (s:S8):Prop where
 reg:okR s
 mem: ∀x∈s.m,0<=x∧x<65536
 c:c=s.m.length
 pc: -1<=s.pc∧s.pc<=len
 st:s.st.length<=100
 stk: ∀x∈s.st, -1<=x∧x<=len
def s8R(s:S8):List AV:=s8A s (lR s.m) (lR s.st)
def s8N(s:S8):List AV:=s8A s (lR s.m) .nils
theorem qS{n:Int}(h0:0<=n)(h1:n<4):n=0∨n=1∨n=2∨n=3:=by omega
theorem ri{p:Pg}{pc:Int}(h0:0<=pc)(h1:pc<p.is.length):atI p pc=p.is.getD pc.toNat default:=ai ⟨h0,h1⟩
theorem jQ{p:Pg}{pc:Int}(h: ¬(0<=pc∧pc<p.is.length)):atI p pc={In0 with kind:=12}:=ah h
theorem j8:okV ⟨false,0⟩:=fun h=>by cases h
theorem ik{p:Pg}(h:OkP p)(pc:Int):OkI (atI p pc) p.is.length∧((atI p pc).kind≠12->0<=pc∧pc<p.is.length):=by
 by_cases hp:0<=pc∧pc<p.is.length
 ·rw[ri hp.1 hp.2]
  refine⟨h.ins _ ?_,fun _=>hp⟩
  have hlt:pc.toNat<p.is.length:=by omega
  simp[List.getD,hlt]
 ·rw[jQ hp]
  exact⟨⟨⟨by show(1:Int)<=12;decide,by show(12:Int)<=12;decide⟩,j8,j8,⟨by show(0:Int)<=0;decide,by show(0:Int)<4;decide⟩,by show(0:Int)<=0;decide,by show(0:Int)<=_;omega⟩,fun hk=>absurd rfl hk⟩
theorem AN{s:S8}(h:okR s)(n:Int){v:Int}(hv:0<=v∧v<65536):okR (s.set n v):=by
 obtain⟨h0,h1,h2,h3⟩:=h
 refine⟨?_, ?_, ?_, ?_⟩<;>(show 0<=(if _ then v else _)∧(if _ then v else _)<65536)<;>split<;>assumption
theorem CL(W op a b:Int):0<=Wd.doV W op a b∧Wd.doV W op a b<65536:=Wd.maskV_bd _ _
theorem B3{m:List Int}(h: ∀x∈m,0<=x∧x<65536)(n:Nat):0<=m.getD n 0∧m.getD n 0<65536:=by
 by_cases hn:n<m.length
 ·exact h _ (by simp[List.getD,hn])
 ·simp[List.getD,dj (bt.1 hn)]
theorem xl{a:Int}{b:Int}(h0:0<=a)(hb:0<b):0<=a.tmod b∧a.tmod b<b:=⟨Int.tmod_nonneg _ h0,Int.tmod_lt_of_pos _ hb⟩
theorem mx0(a:Int):(if a<0 then 0 else a)=max a 0:=by split<;>omega
theorem mnI(a b:Int):(if b<a then b else a)=min a b:=by split<;>omega
end
end Go.Proofs.Ytdanmboalfmifaa.Px
namespace Go.Proofs.Ytdanmboalfmifaa
section
open Go.RowKit
namespace Wd
theorem sizeV_pos{w:Int}(h:okB w=true):2<=sizeV w:=by
 obtain⟨k,rfl,h1,hk⟩:=ly h
 unfold sizeV;rw[ai h,aK]
 have:(2:Nat)^1<=2^k:=eF (by omega) h1
 have h2:((2^1:Nat):Int)<=((2^k:Nat):Int):=by exact_mod_cast this
 simpa using h2
theorem tmod_mask{w n:Int}(h:okB w=true):(n.tmod (sizeV w)+sizeV w)%sizeV w=maskV w n∧ -sizeV w<n.tmod (sizeV w)∧n.tmod (sizeV w)<sizeV w:=by
 have hs:=sizeV_pos h
 have h1:=Int.tmod_lt_of_pos n (b:=sizeV w) (by omega)
 have h2: -sizeV w<n.tmod (sizeV w):=by
  by_cases hn:0<=n
  ·have:=Int.tmod_nonneg (sizeV w) hn;omega
  ·have:=Int.tmod_lt_of_pos (-n) (b:=sizeV w) (by omega)
   rw[Int.neg_tmod] at this;omega
 refine⟨?_,h2,h1⟩
 rw[Int.add_emod_right]
 have e:maskV w n=n%sizeV w:=by unfold maskV sizeV;rw[ai h,ai h]
 rw[e,Int.tmod_eq_emod]
 split
 ·simp
 ·rw[Int.natAbs_of_nonneg (by omega),Int.sub_emod,Int.emod_self,Int.sub_zero,Int.emod_emod,Int.emod_emod]
end Wd
namespace Wd
theorem me{w x:Int}(h:okB w=true)(h1:x<sizeV w)(h0:0<=x):x.toNat<2^w.toNat:=by
 unfold sizeV at h1;rw[ai h] at h1
 have:((2^w.toNat:Nat):Int)=2^w.toNat:=by simp
 omega
theorem mc{w:Int}{m:Nat}(h:okB w=true)(h1:m<2^w.toNat):maskV w (m:Int)=(m:Int):=by
 refine g5 h (by omega) ?_
 unfold sizeV;rw[ai h]
 have:((2^w.toNat:Nat):Int)=2^w.toNat:=by simp
 omega
theorem ref3{w a b:Int}(h:okB w=true):bits .and .i64 (maskV w a) (maskV w b)=doV w 3 a b:=by
 have ha:=maskV_bd w a;have hb:=maskV_bd w b
 rw[wK ha.1 ha.2 hb.1 hb.2];unfold doV;simp only[i5];simp
 refine(mc h ?_).symm
 exact Nat.and_lt_two_pow _ (me h (fb h) hb.1)
theorem ref4{w a b:Int}(h:okB w=true):bits .or .i64 (maskV w a) (maskV w b)=doV w 4 a b:=by
 have ha:=maskV_bd w a;have hb:=maskV_bd w b
 rw[y6 ha.1 ha.2 hb.1 hb.2];unfold doV;simp only[i5];simp
 refine(mc h ?_).symm
 exact Nat.or_lt_two_pow (me h (fb h) ha.1) (me h (fb h) hb.1)
theorem ref5{w a b:Int}(h:okB w=true):bits .xor .i64 (maskV w a) (maskV w b)=doV w 5 a b:=by
 have ha:=maskV_bd w a;have hb:=maskV_bd w b
 rw[wI ha.1 ha.2 hb.1 hb.2];unfold doV;simp only[i5];simp
 refine(mc h ?_).symm
 exact Nat.xor_lt_two_pow (me h (fb h) ha.1) (me h (fb h) hb.1)
theorem do6_far{w a b:Int}(h:w<=maskV w b):doV w 6 a b=0:=by
 unfold doV;simp only[i5];simp
 unfold maskV;split
 ·rename_i ho
  have:=okB_iff.1 ho
  refine om ?_
  unfold maskV at h;rw[ai ho] at h;omega
 ·rfl
theorem do7_far{w a b:Int}(hw:okB w=true)(h:w<=maskV w b):doV w 7 a b=0:=by
 have ha:=maskV_bd w a
 have ho:=okB_iff.1 hw
 have hl:=fb (n:=a) hw
 have e:maskV w a/2^(maskV w b).toNat=0:=by
  refine Int.ediv_eq_zero_of_lt ha.1 ?_
  unfold sizeV at hl;rw[ai hw] at hl
  have:(2:Nat)^w.toNat<=2^(maskV w b).toNat:=eF (by omega) (by omega)
  have h2:((2^w.toNat:Nat):Int)<=((2^(maskV w b).toNat:Nat):Int):=by exact_mod_cast this
  simp at h2;omega
 unfold doV;simp only[i5];simp
 rw[e];simp[maskV]
theorem HA{w a b:Int}(hw:okB w=true):maskV w a/2^(maskV w b).toNat=doV w 7 a b:=by
 have ha:=maskV_bd w a
 have hl:=fb (n:=a) hw
 unfold doV;simp only[i5];simp
 refine(g5 hw ?_ ?_).symm
 ·exact Int.ediv_nonneg ha.1 (by have:=pow_pos (maskV w b).toNat;omega)
 ·have:=Int.ediv_le_self (2^(maskV w b).toNat) ha.1;omega
theorem ref7'{w a b:Int}(hw:okB w=true):maskV w a/2^min (maskV w b).toNat 64=doV w 7 a b:=by
 rw[xp (maskV_bd w a).1 (maskV_bd w a).2];exact HA hw
theorem pI{w:Int}(hw:okB w=true)(b:Bool):maskV w (tI b)=tI b:=by
 have:=sizeV_pos hw
 exact g5 hw (by unfold tI;split<;>omega) (by unfold tI;split<;>omega)
theorem ref6{w a b:Int}:maskV w (wrap64 (maskV w a*2^(min (maskV w b).toNat 64)))=doV w 6 a b:=by
 unfold doV;rw[<-j0];rfl
theorem ref0{w a b op:Int}(h:op<1∨10<op):0=doV w op a b:=by
 unfold doV;rw[BF h];simp[maskV]
theorem ref9{w a b:Int}(hw:okB w=true):tI (decide (maskV w a<maskV w b))=doV w 9 a b:=by
 rw[<-pI hw];unfold doV;rw[HC,j0]
theorem ref10{w a b:Int}(hw:okB w=true):tI (maskV w a==maskV w b)=doV w 10 a b:=by
 rw[<-pI hw];unfold doV;rw[EQ,j0]
end Wd
end
end Go.Proofs.Ytdanmboalfmifaa
namespace Go.Proofs.Ytdanmboalfmifaa.Px
section
open Go.RowKit Go.Proofs.Ytdanmboalfmifaa.Rx
def pgP(p:Pg):AV:= .rptr 10 (fun q=>(pgA p).getD q .junk) 0
theorem r8{w:Int}(h: ¬(1<=w∧w<=16)):Wd.okB w=false:=by
 cases hb:Wd.okB w with
 |false=>rfl
 |true=>exact absurd (Wd.okB_iff.1 hb) h
theorem ju{w:Int}(h: ¬(1<=w∧w<=16)):Wd.sizeV w=0:=by simp[Wd.sizeV,r8 h]
theorem vJ{w n:Int}(h: ¬(1<=w∧w<=16)):Wd.maskV w n=0:=by simp[Wd.maskV,r8 h]
theorem cb{w:Int}(h:1<=w∧w<=16):Wd.okB w=true:=Wd.okB_iff.2 h
theorem DY{k:Nat}(h:1<=k∧k<=16):IntKind.i64.wrap (1*2^min (IntKind.u64.wrap (k:Int)).toNat IntKind.i64.bits)=Wd.sizeV (k:Int):=by
 rcases (by omega:k=1∨k=2∨k=3∨k=4∨k=5∨k=6∨k=7∨k=8∨k=9∨k=10∨k=11∨k=12∨k=13∨k=14∨k=15∨k=16) with rfl |rfl |rfl |rfl |rfl |rfl |rfl |rfl |rfl |rfl |rfl |rfl |rfl |rfl |rfl |rfl<;>decide
theorem sX{a s:Int}(h:0<s)(h1: -s<a):(a+s).tmod s=(a+s)%s:=Int.tmod_eq_emod_of_nonneg (by omega)
theorem AJ(k:Nat)(h:1<=k∧k<=16):Vc (vF_ 67 [aI k] [.bd false,.bd false] [] (aI (Wd.sizeV k)) []):=al (cj (df ((k:Int)<1)) (cj (df ((k:Int)>16)) (cj (show(0:Int)<=IntKind.wrap IntKind.u64 (k:Int) from by rcases (by omega:k=1∨k=2∨k=3∨k=4∨k=5∨k=6∨k=7∨k=8∨k=9∨k=10∨k=11∨k=12∨k=13∨k=14∨k=15∨k=16) with rfl |rfl |rfl |rfl |rfl |rfl |rfl |rfl |rfl |rfl |rfl |rfl |rfl |rfl |rfl |rfl<;>decide) (cj (show IntKind.wrap IntKind.i64 ((1:Int)*2^Min.min (k%(18446744073709551616:Nat)) (64:Nat))=Wd.sizeV (k:Int) from(DY h)) trivial))))
theorem xn(w:Int)(h:w<1):Vc (vF_ 67 [aI w] [.bd true] [] (aI (Wd.sizeV w)) []):=al (cj (dt (w<1)) (cj (show(0:Int)=Wd.sizeV w from(ju (by omega)).symm) trivial))
theorem xo(w:Int)(h:16<w):Vc (vF_ 67 [aI w] [.bd false,.bd true] [] (aI (Wd.sizeV w)) []):=al (cj (df (w<1)) (cj (dt (w>16)) (cj (show(0:Int)=Wd.sizeV w from(ju (by omega)).symm) trivial)))
theorem dJ(w:Int):pC_ 67 [.int .i64 w] (.int .i64 (Wd.sizeV w)) []:=by
 by_cases h1:w<1
 ·exact PureC.vc (xn w h1)
 ·by_cases h2:16<w
  ·exact PureC.vc (xo w h2)
  ·obtain⟨k,rfl⟩: ∃k:Nat,w=(k:Int):=⟨w.toNat,by omega⟩
   exact PureC.vc (AJ k (by omega))
theorem oa(w:Int)(h:1<=w∧w<=16):(Wd.sizeV w==(0:Int))=false:=by have:=Wd.sizeV_pos (cb h);simp;omega
abbrev iP(w:Int):Orc:= .cl [aI w] (aI (Wd.sizeV w)) []
theorem B4(w n:Int)(h:1<=w∧w<=16):Vc (vF_ 49 [aI w, aI n] [iP w,.bd false] [] (aI (Wd.maskV w n)) []):=al (cj (rf w) (cj (dJ w) (cj (oa w h) (cj (show Wd.sizeV w≠0 from by have:=Wd.sizeV_pos (cb h);omega) (cj (show inK IntKind.i64 (Int.tmod n (Wd.sizeV w)+Wd.sizeV w) from by have h1:=Wd.tmod_mask (n:=n) (cb h);have:=Wd.sizeV_bd w;exact fu (by omega) (by omega)) (cj (show Wd.sizeV w≠0 from by have:=Wd.sizeV_pos (cb h);omega) (cj (show Int.tmod (Int.tmod n (Wd.sizeV w)+Wd.sizeV w) (Wd.sizeV w)=Wd.maskV w n from by have h1:=Wd.tmod_mask (n:=n) (cb h);have h2:=Wd.sizeV_pos (cb h);rw[sX (by omega) h1.2.1];exact h1.1) trivial)))))))
theorem B5(w n:Int)(h: ¬(1<=w∧w<=16)):Vc (vF_ 49 [aI w, aI n] [iP w,.bd true] [] (aI (Wd.maskV w n)) []):=al (cj (rf w) (cj (dJ w) (cj (show(Wd.sizeV w==(0:Int))=true from by rw[ju h];rfl) (cj (show(0:Int)=Wd.maskV w n from(vJ h).symm) trivial))))
theorem bu(w n:Int):pC_ 49 [.int .i64 w,.int .i64 n] (.int .i64 (Wd.maskV w n)) []:=by
 by_cases h:1<=w∧w<=16
 ·exact PureC.vc (B4 w n h)
 ·exact PureC.vc (B5 w n h)
theorem qw(b:Bool)(h:b=true):Vc (vF_ 68 [.bool b] [.b true] [] (aI (Wd.tI b)) []):=al (cj h (cj (show(1:Int)=Wd.tI b from by rw[h];rfl) trivial))
theorem o5(b:Bool)(h:b=false):Vc (vF_ 68 [.bool b] [.b false] [] (aI (Wd.tI b)) []):=al (cj h (cj (show(0:Int)=Wd.tI b from by rw[h];rfl) trivial))
theorem rO(b:Bool):pC_ 68 [.bool b] (.int .i64 (Wd.tI b)) []:=by
 cases h:b with
 |true=>exact PureC.vc (qw true rfl)
 |false=>exact PureC.vc (o5 false rfl)
abbrev ka(w:Int)(b:Int):Orc:= .cl [aI w, aI b] (aI (Wd.maskV w b)) []
abbrev kb(w:Int)(a:Int):Orc:= .cl [aI w, aI a] (aI (Wd.maskV w a)) []
theorem II(w a b:Int)(h:1<=w∧w<=16):Vc (vF_ 50 [aI w, aI 1, aI a, aI b] [iP w,.bd false,kb w a,ka w b,.bd true,.cl [aI w, aI ((Wd.maskV w a)+(Wd.maskV w b))] (aI (Wd.maskV w ((Wd.maskV w a)+(Wd.maskV w b)))) []] [] (.tup [aI (Wd.doV w 1 a b),.bool (Wd.doB w 1)]) []):=al (cj (rf w) (cj (dJ w) (cj (oa w h) (cj (rf w) (cj (rf a) (cj (bu w a) (cj (rf w) (cj (rf b) (cj (bu w b) (cj (e1 1 1) (cj (show inK IntKind.i64 (Wd.maskV w a+Wd.maskV w b) from by have h1:=Wd.maskV_bd w a;have h2:=Wd.maskV_bd w b;exact fu (by omega) (by omega)) (cj (rf w) (cj (rf (Wd.maskV w a+Wd.maskV w b)) (cj (bu w ((Wd.maskV w a)+(Wd.maskV w b))) (cj (rf (Wd.doV w (1:Int) a b)) (cj (show true=Wd.doB w (1:Int) from by simp[Wd.doB,cb h,Wd.opB]) trivial))))))))))))))))
theorem IG(w a b:Int)(h:1<=w∧w<=16):Vc (vF_ 50 [aI w, aI 2, aI a, aI b] [iP w,.bd false,kb w a,ka w b,.bd false,.bd true,.cl [aI w, aI ((Wd.maskV w a)-(Wd.maskV w b))] (aI (Wd.maskV w ((Wd.maskV w a)-(Wd.maskV w b)))) []] [] (.tup [aI (Wd.doV w 2 a b),.bool (Wd.doB w 2)]) []):=al (cj (rf w) (cj (dJ w) (cj (oa w h) (cj (rf w) (cj (rf a) (cj (bu w a) (cj (rf w) (cj (rf b) (cj (bu w b) (cj (e0 2 1) (cj (e1 2 2) (cj (show inK IntKind.i64 (Wd.maskV w a-Wd.maskV w b) from by have h1:=Wd.maskV_bd w a;have h2:=Wd.maskV_bd w b;exact fu (by omega) (by omega)) (cj (rf w) (cj (rf (Wd.maskV w a-Wd.maskV w b)) (cj (bu w ((Wd.maskV w a)-(Wd.maskV w b))) (cj (rf (Wd.doV w (2:Int) a b)) (cj (show true=Wd.doB w (2:Int) from by simp[Wd.doB,cb h,Wd.opB]) trivial)))))))))))))))))
theorem IF(w a b:Int)(h:1<=w∧w<=16):Vc (vF_ 50 [aI w, aI 3, aI a, aI b] [iP w,.bd false,kb w a,ka w b,.bd false,.bd false,.bd true] [] (.tup [aI (Wd.doV w 3 a b),.bool (Wd.doB w 3)]) []):=al (cj (rf w) (cj (dJ w) (cj (oa w h) (cj (rf w) (cj (rf a) (cj (bu w a) (cj (rf w) (cj (rf b) (cj (bu w b) (cj (e0 3 1) (cj (e0 3 2) (cj (e1 3 3) (cj (show Go.bits Go.BinOp.and IntKind.i64 (Wd.maskV w a) (Wd.maskV w b)=Wd.doV w (3:Int) a b from(Wd.ref3 (cb h))) (cj (show true=Wd.doB w (3:Int) from by simp[Wd.doB,cb h,Wd.opB]) trivial))))))))))))))
theorem IE(w a b:Int)(h:1<=w∧w<=16):Vc (vF_ 50 [aI w, aI 4, aI a, aI b] [iP w,.bd false,kb w a,ka w b,.bd false,.bd false,.bd false,.bd true] [] (.tup [aI (Wd.doV w 4 a b),.bool (Wd.doB w 4)]) []):=al (cj (rf w) (cj (dJ w) (cj (oa w h) (cj (rf w) (cj (rf a) (cj (bu w a) (cj (rf w) (cj (rf b) (cj (bu w b) (cj (e0 4 1) (cj (e0 4 2) (cj (e0 4 3) (cj (e1 4 4) (cj (show Go.bits Go.BinOp.or IntKind.i64 (Wd.maskV w a) (Wd.maskV w b)=Wd.doV w (4:Int) a b from(Wd.ref4 (cb h))) (cj (show true=Wd.doB w (4:Int) from by simp[Wd.doB,cb h,Wd.opB]) trivial)))))))))))))))
theorem ID(w a b:Int)(h:1<=w∧w<=16):Vc (vF_ 50 [aI w, aI 5, aI a, aI b] [iP w,.bd false,kb w a,ka w b,.bd false,.bd false,.bd false,.bd false,.bd true] [] (.tup [aI (Wd.doV w 5 a b),.bool (Wd.doB w 5)]) []):=al (cj (rf w) (cj (dJ w) (cj (oa w h) (cj (rf w) (cj (rf a) (cj (bu w a) (cj (rf w) (cj (rf b) (cj (bu w b) (cj (e0 5 1) (cj (e0 5 2) (cj (e0 5 3) (cj (e0 5 4) (cj (e1 5 5) (cj (show Go.bits Go.BinOp.xor IntKind.i64 (Wd.maskV w a) (Wd.maskV w b)=Wd.doV w (5:Int) a b from(Wd.ref5 (cb h))) (cj (show true=Wd.doB w (5:Int) from by simp[Wd.doB,cb h,Wd.opB]) trivial))))))))))))))))
theorem uE{x:Int}(h0:0<=x)(h1:x<65536):IntKind.u64.wrap x=x:=by
 rw[IntKind.wrap_u64];omega
theorem nu(x:Int):0<=IntKind.u64.wrap x:=by rw[IntKind.wrap_u64];omega
theorem Gn(w a b:Int)(h:1<=w∧w<=16)(hf:w<=Wd.maskV w b):Vc (vF_ 50 [aI w, aI 6, aI a, aI b] [iP w,.bd false,kb w a,ka w b,.bd false,.bd false,.bd false,.bd false,.bd false,.bd true,.bd true] [] (.tup [aI (Wd.doV w 6 a b),.bool (Wd.doB w 6)]) []):=al (cj (rf w) (cj (dJ w) (cj (show(Wd.sizeV w==(0:Int))=false from by have:=Wd.sizeV_pos (cb h);simp;omega) (cj (rf w) (cj (rf a) (cj (bu w a) (cj (rf w) (cj (rf b) (cj (bu w b) (cj (e0 6 1) (cj (e0 6 2) (cj (e0 6 3) (cj (e0 6 4) (cj (e0 6 5) (cj (e1 6 6) (cj (dt (Wd.maskV w b>=w)) (cj (show(0:Int)=Wd.doV w (6:Int) a b from(Wd.do6_far hf).symm) (cj (show true=Wd.doB w (6:Int) from by simp[Wd.doB,cb h,Wd.opB]) trivial))))))))))))))))))
theorem IC(w a b:Int)(h:1<=w∧w<=16)(hf: ¬w<=Wd.maskV w b):Vc (vF_ 50 [aI w, aI 6, aI a, aI b] [iP w,.bd false,kb w a,ka w b,.bd false,.bd false,.bd false,.bd false,.bd false,.bd true,.bd false,.cl [aI w, aI (IntKind.i64.wrap ((Wd.maskV w a)*2^min (IntKind.u64.wrap (Wd.maskV w b)).toNat IntKind.i64.bits))] (aI (Wd.maskV w (IntKind.i64.wrap ((Wd.maskV w a)*2^min (IntKind.u64.wrap (Wd.maskV w b)).toNat IntKind.i64.bits)))) []] [] (.tup [aI (Wd.doV w 6 a b),.bool (Wd.doB w 6)]) []):=al (cj (rf w) (cj (dJ w) (cj (show(Wd.sizeV w==(0:Int))=false from by have:=Wd.sizeV_pos (cb h);simp;omega) (cj (rf w) (cj (rf a) (cj (bu w a) (cj (rf w) (cj (rf b) (cj (bu w b) (cj (e0 6 1) (cj (e0 6 2) (cj (e0 6 3) (cj (e0 6 4) (cj (e0 6 5) (cj (e1 6 6) (cj (df (Wd.maskV w b>=w)) (cj (show(0:Int)<=IntKind.wrap IntKind.u64 (Wd.maskV w b) from(nu _)) (cj (rf w) (cj (rf (IntKind.wrap IntKind.i64 (Wd.maskV w a*2^Min.min (Int.toNat (IntKind.wrap IntKind.u64 (Wd.maskV w b))) (64:Nat)))) (cj (bu w (IntKind.i64.wrap ((Wd.maskV w a)*2^min (IntKind.u64.wrap (Wd.maskV w b)).toNat IntKind.i64.bits))) (cj (show Wd.maskV w (IntKind.wrap IntKind.i64 (Wd.maskV w a*2^Min.min (Int.toNat (IntKind.wrap IntKind.u64 (Wd.maskV w b))) (64:Nat)))=Wd.doV w (6:Int) a b from by have h1:=Wd.maskV_bd w a;have h2:=Wd.maskV_bd w b;rw[uE h2.1 h2.2];have e:=Wd.ref6 (w:=w) (a:=a) (b:=b);rw[IntWalk.i64_left];exact e) (cj (show true=Wd.doB w (6:Int) from by simp[Wd.doB,cb h,Wd.opB]) trivial))))))))))))))))))))))
theorem Gm(w a b:Int)(h:1<=w∧w<=16)(hf:w<=Wd.maskV w b):Vc (vF_ 50 [aI w, aI 7, aI a, aI b] [iP w,.bd false,kb w a,ka w b,.bd false,.bd false,.bd false,.bd false,.bd false,.bd false,.bd true,.bd true] [] (.tup [aI (Wd.doV w 7 a b),.bool (Wd.doB w 7)]) []):=al (cj (rf w) (cj (dJ w) (cj (show(Wd.sizeV w==(0:Int))=false from by have:=Wd.sizeV_pos (cb h);simp;omega) (cj (rf w) (cj (rf a) (cj (bu w a) (cj (rf w) (cj (rf b) (cj (bu w b) (cj (e0 7 1) (cj (e0 7 2) (cj (e0 7 3) (cj (e0 7 4) (cj (e0 7 5) (cj (e0 7 6) (cj (e1 7 7) (cj (dt (Wd.maskV w b>=w)) (cj (show(0:Int)=Wd.doV w (7:Int) a b from(Wd.do7_far (cb h) hf).symm) (cj (show true=Wd.doB w (7:Int) from by simp[Wd.doB,cb h,Wd.opB]) trivial)))))))))))))))))))
theorem IB(w a b:Int)(h:1<=w∧w<=16)(hf: ¬w<=Wd.maskV w b):Vc (vF_ 50 [aI w, aI 7, aI a, aI b] [iP w,.bd false,kb w a,ka w b,.bd false,.bd false,.bd false,.bd false,.bd false,.bd false,.bd true,.bd false] [] (.tup [aI (Wd.doV w 7 a b),.bool (Wd.doB w 7)]) []):=al (cj (rf w) (cj (dJ w) (cj (show(Wd.sizeV w==(0:Int))=false from by have:=Wd.sizeV_pos (cb h);simp;omega) (cj (rf w) (cj (rf a) (cj (bu w a) (cj (rf w) (cj (rf b) (cj (bu w b) (cj (e0 7 1) (cj (e0 7 2) (cj (e0 7 3) (cj (e0 7 4) (cj (e0 7 5) (cj (e0 7 6) (cj (e1 7 7) (cj (df (Wd.maskV w b>=w)) (cj (show(0:Int)<=IntKind.wrap IntKind.u64 (Wd.maskV w b) from(nu _)) (cj (show Int.fdiv (Wd.maskV w a) ((2:Int)^Min.min (Int.toNat (IntKind.wrap IntKind.u64 (Wd.maskV w b))) (64:Nat))=Wd.doV w (7:Int) a b from by have h1:=Wd.maskV_bd w a;have h2:=Wd.maskV_bd w b;rw[uE h2.1 h2.2,Int.fdiv_eq_ediv_of_nonneg _ (by have:=Wd.pow_pos (min (Wd.maskV w b).toNat 64);omega)];exact Wd.ref7' (cb h)) (cj (show true=Wd.doB w (7:Int) from by simp[Wd.doB,cb h,Wd.opB]) trivial))))))))))))))))))))
theorem IA(w a b:Int)(h:1<=w∧w<=16):Vc (vF_ 50 [aI w, aI 8, aI a, aI b] [iP w,.bd false,kb w a,ka w b,.bd false,.bd false,.bd false,.bd false,.bd false,.bd false,.bd false,.bd true,.cl [aI w, aI ((Wd.maskV w a)*(Wd.maskV w b))] (aI (Wd.maskV w ((Wd.maskV w a)*(Wd.maskV w b)))) []] [] (.tup [aI (Wd.doV w 8 a b),.bool (Wd.doB w 8)]) []):=al (cj (rf w) (cj (dJ w) (cj (oa w h) (cj (rf w) (cj (rf a) (cj (bu w a) (cj (rf w) (cj (rf b) (cj (bu w b) (cj (e0 8 1) (cj (e0 8 2) (cj (e0 8 3) (cj (e0 8 4) (cj (e0 8 5) (cj (e0 8 6) (cj (e0 8 7) (cj (e1 8 8) (cj (show inK IntKind.i64 (Wd.maskV w a*Wd.maskV w b) from by have h1:=Wd.maskV_bd w a;have h2:=Wd.maskV_bd w b;have h3:=Wd.mul_bd h1.1 h1.2 h2.1 h2.2;exact fu (by omega) (by omega)) (cj (rf w) (cj (rf (Wd.maskV w a*Wd.maskV w b)) (cj (bu w ((Wd.maskV w a)*(Wd.maskV w b))) (cj (rf (Wd.doV w (8:Int) a b)) (cj (show true=Wd.doB w (8:Int) from by simp[Wd.doB,cb h,Wd.opB]) trivial)))))))))))))))))))))))
theorem Iz(w a b:Int)(h:1<=w∧w<=16):Vc (vF_ 50 [aI w, aI 9, aI a, aI b] [iP w,.bd false,kb w a,ka w b,.bd false,.bd false,.bd false,.bd false,.bd false,.bd false,.bd false,.bd false,.bd true,.cl [.bool (decide ((Wd.maskV w a)<(Wd.maskV w b)))] (aI (Wd.tI (decide ((Wd.maskV w a)<(Wd.maskV w b))))) []] [] (.tup [aI (Wd.doV w 9 a b),.bool (Wd.doB w 9)]) []):=al (cj (rf w) (cj (dJ w) (cj (oa w h) (cj (rf w) (cj (rf a) (cj (bu w a) (cj (rf w) (cj (rf b) (cj (bu w b) (cj (e0 9 1) (cj (e0 9 2) (cj (e0 9 3) (cj (e0 9 4) (cj (e0 9 5) (cj (e0 9 6) (cj (e0 9 7) (cj (e0 9 8) (cj (e1 9 9) (cj (rf (decide (Wd.maskV w a<Wd.maskV w b))) (cj (show pC_ 68 [.bool (decide ((Wd.maskV w a)<(Wd.maskV w b)))] (aI (Wd.tI (decide ((Wd.maskV w a)<(Wd.maskV w b))))) [] from rO _) (cj (show Wd.tI (decide (Wd.maskV w a<Wd.maskV w b))=Wd.doV w (9:Int) a b from(Wd.ref9 (cb h))) (cj (show true=Wd.doB w (9:Int) from by simp[Wd.doB,cb h,Wd.opB]) trivial))))))))))))))))))))))
theorem Gp(w a b:Int)(h:1<=w∧w<=16):Vc (vF_ 50 [aI w, aI 10, aI a, aI b] [iP w,.bd false,kb w a,ka w b,.bd false,.bd false,.bd false,.bd false,.bd false,.bd false,.bd false,.bd false,.bd false,.bd true,.cl [.bool ((Wd.maskV w a)==(Wd.maskV w b))] (aI (Wd.tI ((Wd.maskV w a)==(Wd.maskV w b)))) []] [] (.tup [aI (Wd.doV w 10 a b),.bool (Wd.doB w 10)]) []):=al (cj (rf w) (cj (dJ w) (cj (oa w h) (cj (rf w) (cj (rf a) (cj (bu w a) (cj (rf w) (cj (rf b) (cj (bu w b) (cj (e0 10 1) (cj (e0 10 2) (cj (e0 10 3) (cj (e0 10 4) (cj (e0 10 5) (cj (e0 10 6) (cj (e0 10 7) (cj (e0 10 8) (cj (e0 10 9) (cj (e1 10 10) (cj (rf (Wd.maskV w a==Wd.maskV w b)) (cj (show pC_ 68 [.bool ((Wd.maskV w a)==(Wd.maskV w b))] (aI (Wd.tI ((Wd.maskV w a)==(Wd.maskV w b)))) [] from rO _) (cj (show Wd.tI (Wd.maskV w a==Wd.maskV w b)=Wd.doV w (10:Int) a b from(Wd.ref10 (cb h))) (cj (show true=Wd.doB w (10:Int) from by simp[Wd.doB,cb h,Wd.opB]) trivial)))))))))))))))))))))))
theorem IJ(w o a b:Int)(h:1<=w∧w<=16)(ho:o<1∨10<o):Vc (vF_ 50 [aI w, aI o, aI a, aI b] [iP w,.bd false,kb w a,ka w b,.bd false,.bd false,.bd false,.bd false,.bd false,.bd false,.bd false,.bd false,.bd false,.bd false] [] (.tup [aI (Wd.doV w o a b),.bool (Wd.doB w o)]) []):=al (cj (rf w) (cj (dJ w) (cj (show(Wd.sizeV w==(0:Int))=false from by have:=Wd.sizeV_pos (cb h);simp;omega) (cj (rf w) (cj (rf a) (cj (bu w a) (cj (rf w) (cj (rf b) (cj (bu w b) (cj (show(o==(1:Int))=false from(aa.2 (by omega))) (cj (show(o==(2:Int))=false from(aa.2 (by omega))) (cj (show(o==(3:Int))=false from(aa.2 (by omega))) (cj (show(o==(4:Int))=false from(aa.2 (by omega))) (cj (show(o==(5:Int))=false from(aa.2 (by omega))) (cj (show(o==(6:Int))=false from(aa.2 (by omega))) (cj (show(o==(7:Int))=false from(aa.2 (by omega))) (cj (show(o==(8:Int))=false from(aa.2 (by omega))) (cj (show(o==(9:Int))=false from(aa.2 (by omega))) (cj (show(o==(10:Int))=false from(aa.2 (by omega))) (cj (show(0:Int)=Wd.doV w o a b from(Wd.ref0 ho)) (cj (show false=Wd.doB w o from by simp[Wd.doB,Wd.opB_no ho]) trivial)))))))))))))))))))))
theorem Iy(w o a b:Int)(h: ¬(1<=w∧w<=16)):Vc (vF_ 50 [aI w, aI o, aI a, aI b] [iP w,.bd true] [] (.tup [aI (Wd.doV w o a b),.bool (Wd.doB w o)]) []):=al (cj (rf w) (cj (dJ w) (cj (show(Wd.sizeV w==(0:Int))=true from by rw[ju h];rfl) (cj (show(0:Int)=Wd.doV w o a b from by simp[Wd.doV,Wd.maskV,r8 h]) (cj (show false=Wd.doB w o from by simp[Wd.doB,r8 h]) trivial)))))
theorem BE(w o a b:Int):pC_ 50 [.int .i64 w,.int .i64 o,.int .i64 a,.int .i64 b] (.tup [.int .i64 (Wd.doV w o a b),.bool (Wd.doB w o)]) []:=by
 by_cases h:1<=w∧w<=16
 ·rcases (by omega:o=1∨o=2∨o=3∨o=4∨o=5∨o=6∨o=7∨o=8∨o=9∨o=10∨(o<1∨10<o)) with rfl |rfl |rfl |rfl |rfl |rfl |rfl |rfl |rfl |rfl |ho
  ·exact PureC.vc (II w a b h)
  ·exact PureC.vc (IG w a b h)
  ·exact PureC.vc (IF w a b h)
  ·exact PureC.vc (IE w a b h)
  ·exact PureC.vc (ID w a b h)
  ·by_cases hf:w<=Wd.maskV w b
   ·exact PureC.vc (Gn w a b h hf)
   ·exact PureC.vc (IC w a b h hf)
  ·by_cases hf:w<=Wd.maskV w b
   ·exact PureC.vc (Gm w a b h hf)
   ·exact PureC.vc (IB w a b h hf)
  ·exact PureC.vc (IA w a b h)
  ·exact PureC.vc (Iz w a b h)
  ·exact PureC.vc (Gp w a b h)
  ·exact PureC.vc (IJ w o a b h ho)
 ·exact PureC.vc (Iy w o a b h)
theorem BG(p:Pg)(pc:Int)(h0:0<=pc)(h1:pc<p.is.length):Vc (vF_ 41 [.agg (pgA p), aI pc] [.fz,.bd false,.bd false] [] (.agg (inA (p.is.getD pc.toNat default))) []):=al (cj (df (pc<0)) (cj (df (pc>=(↑p.is.length:Int))) (cj (bi pc p.is.length) (cj (rf ((p.is.getD (Int.toNat pc) default).kind)) (cj (rf ((p.is.getD (Int.toNat pc) default).op)) (cj (rf ((p.is.getD (Int.toNat pc) default).d)) (cj (rf ((p.is.getD (Int.toNat pc) default).a.reg)) (cj (rf ((p.is.getD (Int.toNat pc) default).a.n)) (cj (rf ((p.is.getD (Int.toNat pc) default).b.reg)) (cj (rf ((p.is.getD (Int.toNat pc) default).b.n)) (cj (rf ((p.is.getD (Int.toNat pc) default).nm)) (cj (rf ((p.is.getD (Int.toNat pc) default).tg)) trivial))))))))))))
theorem DO{Z:Prop}(z:Z):(RF (12:Int) (RF (0:Int) (RF (0:Int) (RF false (RF (0:Int) (RF false (RF (0:Int) (RF (ByteArray.mk (Array.mk [])) (RF (0:Int) Z))))))))):=⟨rfl,rfl,rfl,rfl,rfl,rfl,rfl,rfl,rfl,z⟩
theorem xV(p:Pg)(pc:Int)(h0: ¬0<=pc):Vc (vF_ 41 [.agg (pgA p), aI pc] [.fz,.bd true] [] (.agg (inA {In0 with kind:=12})) []):=al (cj (dt (pc<0)) (DO trivial))
theorem xU(p:Pg)(pc:Int)(h0:0<=pc)(h1: ¬pc<p.is.length):Vc (vF_ 41 [.agg (pgA p), aI pc] [.fz,.bd false,.bd true] [] (.agg (inA {In0 with kind:=12})) []):=al (cj (df (pc<0)) (cj (dt (pc>=(↑p.is.length:Int))) (DO trivial)))
theorem bv(p:Pg)(pc:Int):pC_ 41 [.agg (pgA p),.int .i64 pc] (.agg (inA (atI p pc))) []:=by
 by_cases h0:0<=pc
 ·by_cases h1:pc<p.is.length
  ·rw[ri h0 h1];exact PureC.vc (BG p pc h0 h1)
  ·rw[jQ fun h=>h1 h.2];exact PureC.vc (xU p pc h0 h1)
 ·rw[jQ fun h=>h0 h.1];exact PureC.vc (xV p pc h0)
structure En where
 pc:Int
 val:Int
 adr:Int
 frm:Int
 nxt:Int
 dn:Bool
 kn:Bool
 ft:Bool
 deriving DecidableEq
def En0:En:=⟨0,0,0,0,0,false,false,false⟩
instance:Inhabited En:=⟨En0⟩
def enA(e:En):List AV:=[.int .i64 e.pc,.int .i64 e.val,.int .i64 e.adr,.int .i64 e.frm,.int .i64 e.nxt,.bool e.dn,.bool e.kn,.bool e.ft]
def enC(e:En)(j:Nat):AV:=(enA e).getD j .junk
def enR(l:List En):AV:= .row 8 l.length (an enC l)
def enB(l:List En):Blk:=⟨0,false,35,.rows 8 l.length (an enC l)⟩
def enO(l:List En):AV:= .own 0 0 8 0 l.length
structure Cf where
 s:S8
 b:List En
 r:List Int
 e:Int
def rgA(s:S8):List AV:=[.int .i64 s.r0,.int .i64 s.r1,.int .i64 s.r2,.int .i64 s.r3]
def rgP(s:S8):AV:= .rptr 4 (fun q=>(rgA s).getD q .junk) 0
def dl(i:In):Bool:=i.kind==1||i.kind==2||i.kind==4
def enI(p:Pg)(l:List En)(k:Nat):In:=atI p (l.getD k default).pc
def eB(p:Pg)(l:List En)(r:Int):Nat->Option (Int×Bool)
 |0=>none
 |k+1=>if dl (enI p l k)=true∧(enI p l k).d=r then some (if(l.getD k default).dn then((l.getD k default).val,true) else(0,false)) else eB p l r k
def cl0(i:Int)(n:Nat):Nat:=(min (max i 0) (n:Int)).toNat
def c8(p:Pg)(s:S8)(l:List En)(i r:Int):Int×Bool:=if 0<=r∧r<4 then(match eB p l r (cl0 i l.length) with |some x=>x |none=>(s.reg r,true)) else(0,false)
def cC(p:Pg)(s:S8)(l:List En)(i:Int)(v:Vl):Int×Bool:=if v.reg then c8 p s l i v.n else(Wd.maskV p.W v.n,true)
def nf(p:Pg)(l:List En):Nat->Nat->Bool
 |_,0=>false
 |k,j+1=>((enI p l k).kind==10)||nf p l (k+1) j
def mL(p:Pg)(l:List En)(i:Int):Bool:=nf p l 0 (cl0 i l.length)
def rgS(p:Pg)(s:S8)(l:List En)(r i:Int):Sm:=⟨[(5,pgP p),(6,rgP s),(2,enR l),(4,.int .i64 r),(12,.int .i64 i),(10,.int .i64 0),(11,.bool false)],[],0⟩
def vbS(a b:Nat)(x:Int×Bool):Sm:=⟨[(a,.int .i64 x.1),(b,.bool x.2)],[],0⟩
def bkS(p:Pg)(l:List En)(i:Int)(k:Nat):Sm:=⟨[(3,pgP p),(1,enR l),(2,.int .i64 i),(7,.int .i64 k),(6,.bool false)],[],0⟩
def bS(a:Nat)(x:Bool):Sm:=⟨[(a,.bool x)],[],0⟩
theorem fg{i:In}(h:i.kind=1):dl i=true:=by simp[dl,h]
theorem fe{i:In}(h:i.kind=2):dl i=true:=by simp[dl,h]
theorem fd{i:In}(h:i.kind=4):dl i=true:=by simp[dl,h]
theorem wA(i:Int)(n:Nat):(if(n:Int)<(if i<0 then 0 else i) then(n:Int) else(if i<0 then 0 else i))=(cl0 i n:Int):=by
 unfold cl0;rw[mx0,mnI];omega
theorem jg(i:Int)(n:Nat):cl0 i n<=n:=by unfold cl0;omega
theorem sg(k:Nat):((k+1:Nat):Int)-1=(k:Int):=by omega
theorem Gj(i:In)(h:i.kind=1):Vc (vF_ 71 [.agg (inA i)] [.fz,.bd true] [] (.tup [aI i.d,.bool true]) []):=al (cj (show(i.kind==(1:Int))=true from by rw[h];decide) (cj (rf i.d) (cj (rf true) trivial)))
theorem Gi(i:In)(h:i.kind=2):Vc (vF_ 71 [.agg (inA i)] [.fz,.bd false,.bd true] [] (.tup [aI i.d,.bool true]) []):=al (cj (show(i.kind==(1:Int))=false from by rw[h];decide) (cj (show(i.kind==(2:Int))=true from by rw[h];decide) (cj (rf i.d) (cj (rf true) trivial))))
theorem Gh(i:In)(h:i.kind=4):Vc (vF_ 71 [.agg (inA i)] [.fz,.bd false,.bd false,.bd true] [] (.tup [aI i.d,.bool true]) []):=al (cj (show(i.kind==(1:Int))=false from by rw[h];decide) (cj (show(i.kind==(2:Int))=false from by rw[h];decide) (cj (show(i.kind==(4:Int))=true from by rw[h];decide) (cj (rf i.d) (cj (rf true) trivial)))))
theorem Gk(i:In)(h1:i.kind≠1)(h2:i.kind≠2)(h4:i.kind≠4):Vc (vF_ 71 [.agg (inA i)] [.fz,.bd false,.bd false,.bd false] [] (.tup [aI 0,.bool false]) []):=al (cj (aa.2 h1) (cj (aa.2 h2) (cj (aa.2 h4) (cj (rf (0:Int)) (cj (rf false) trivial)))))
theorem qY(i:In)(h:dl i=true):pC_ 71 [.agg (inA i)] (.tup [.int .i64 i.d,.bool true]) []:=by
 by_cases h1:i.kind=1
 ·exact PureC.vc (Gj i h1)
 ·by_cases h2:i.kind=2
  ·exact PureC.vc (Gi i h2)
  ·by_cases h4:i.kind=4
   ·exact PureC.vc (Gh i h4)
   ·exfalso;simp[dl,h1,h2,h4] at h
theorem CK(i:In)(h:dl i=false):pC_ 71 [.agg (inA i)] (.tup [.int .i64 0,.bool false]) []:=
 PureC.vc (Gk i (fun e=>by rw[fg e] at h;cases h) (fun e=>by rw[fe e] at h;cases h) (fun e=>by rw[fd e] at h;cases h))
theorem Dn(l:List En)(r:Int)(k:Nat){Z:Prop}(z:Z):(RR l.length 8 (fun i j=>an enC l i j) (RF r (RF ((k:Int)-1) (RF (0:Int) (RF false Z))))):=⟨fun _ _ _ _=>rfl,rfl,rfl,rfl,rfl,z⟩
theorem nZ(p:Pg)(s:S8)(l:List En){Z:Prop}(z:Z):(RF p.ls.length (RR p.ls.length 2 (fun i j=>an lbC p.ls i j) (RF p.is.length (RR p.is.length 9 (fun i j=>an inC p.is i j) (RF s.r0 (RF s.r1 (RF s.r2 (RF s.r3 (RF l.length Z))))))))):=⟨rfl,fun _ _ _ _=>rfl,rfl,fun _ _ _ _=>rfl,rfl,rfl,rfl,rfl,rfl,z⟩
theorem fE(p:Pg){Z:Prop}(z:Z):(RF p.W (RF p.win (RF p.fuel (RF p.r0 (RF p.r1 (RF p.r2 (RF p.r3 (RF p.ms.length (RR p.ms.length 3 (fun i j=>an mmC p.ms i j) Z))))))))):=⟨rfl,rfl,rfl,rfl,rfl,rfl,rfl,rfl,fun _ _ _ _=>rfl,z⟩
theorem wY(p:Pg)(l:List En)(k:Nat){Z:Prop}(z:Z):(RF ((enI p l k).kind) (RF ((enI p l k).op) (RF ((enI p l k).d) (RF ((enI p l k).a.reg) (RF ((enI p l k).a.n) (RF ((enI p l k).b.reg) (RF ((enI p l k).b.n) (RF ((enI p l k).nm) (RF ((enI p l k).tg) Z))))))))):=⟨rfl,rfl,rfl,rfl,rfl,rfl,rfl,rfl,rfl,z⟩
theorem sU(p:Pg)(l:List En)(k:Nat){Z:Prop}(z:Z):(RF p.ls.length (RR p.ls.length 2 (fun i j=>an lbC p.ls i j) (RF p.is.length (RR p.is.length 9 (fun i j=>an inC p.is i j) (RF ((l.getD k default).pc) Z))))):=⟨rfl,fun _ _ _ _=>rfl,rfl,fun _ _ _ _=>rfl,rfl,z⟩
abbrev tt(p:Pg)(l:List En)(k:Nat):Orc:= .cl [.agg (pgA p), aI (l.getD k default).pc] (.agg (inA (enI p l k))) []
theorem EO(p:Pg)(s:S8)(l:List En)(r:Int)(k:Nat)(hk:k<l.length)(hb:l.length<1000000)(h:dl (enI p l k)=false):Vc (vC_ 70 0 (rgS p s l r k) [.bd true,tt p l k,.cl [.agg (inA (enI p l k))] (.tup [aI 0,.bool false]) []] .nrm [] (rgS p s l r ((k:Int)-1))):=al (cj (dt ((k:Int)>=0)) (cj (bi k l.length) (fE p (sU p l k (cj (bv p (l.getD k default).pc) (wY p l k (cj (CK (enI p l k) h) (cj (i6 (k-1)) (fE p (nZ p s l (Dn l r k trivial)))))))))))
abbrev BX(p:Pg)(l:List En)(k:Nat):Orc:= .cl [.agg (inA (enI p l k))] (.tup [aI (enI p l k).d,.bool true]) []
theorem EN(p:Pg)(s:S8)(l:List En)(r:Int)(k:Nat)(hk:k<l.length)(hb:l.length<1000000)(h:dl (enI p l k)=true)(hd: ¬(enI p l k).d=r):Vc (vC_ 70 0 (rgS p s l r k) [.bd true,tt p l k,BX p l k,.bd false] .nrm [] (rgS p s l r ((k:Int)-1))):=al (cj (dt ((k:Int)>=0)) (cj (bi k l.length) (fE p (sU p l k (cj (bv p (l.getD k default).pc) (wY p l k (cj (qY (enI p l k) h) (cj (aa.2 hd) (cj (i6 (k-1)) (fE p (nZ p s l (Dn l r k trivial))))))))))))
theorem Hy(p:Pg)(s:S8)(l:List En)(r:Int)(k:Nat)(hk:k<l.length)(hb:l.length<1000000)(h:dl (enI p l k)=true)(hd:(enI p l k).d=r)(hn:(l.getD k default).dn=true):Vc (vC_ 70 0 (rgS p s l r k) [.bd true,tt p l k,BX p l k,.bd true,.lv (.bool true)] .ret [] (vbS 10 11 ((l.getD k default).val,true))):=al (cj (dt ((k:Int)>=0)) (cj (bi k l.length) (fE p (sU p l k (cj (bv p (l.getD k default).pc) (wY p l k (cj (qY (enI p l k) h) (cj (ax.2 hd) (cj (bi k l.length) (cj (congrArg (fun b=>some (AV.bool b)) hn) (cj (bi k l.length) (cj (rf ((l.getD k default).val)) (cj (rf true) trivial)))))))))))))
theorem Hx(p:Pg)(s:S8)(l:List En)(r:Int)(k:Nat)(hk:k<l.length)(hb:l.length<1000000)(h:dl (enI p l k)=true)(hd:(enI p l k).d=r)(hn:(l.getD k default).dn=false):Vc (vC_ 70 0 (rgS p s l r k) [.bd true,tt p l k,BX p l k,.bd true,.lv (.bool false)] .ret [] (vbS 10 11 (0,false))):=al (cj (dt ((k:Int)>=0)) (cj (bi k l.length) (fE p (sU p l k (cj (bv p (l.getD k default).pc) (wY p l k (cj (qY (enI p l k) h) (cj (ax.2 hd) (cj (bi k l.length) (cj (congrArg (fun b=>some (AV.bool b)) hn) (cj (rf (0:Int)) (cj (rf false) trivial))))))))))))
theorem Bp(p:Pg)(s:S8)(l:List En)(r:Int):Vc (vC_ 70 0 (rgS p s l r (-1)) [.b false] (.ext 0) [] (rgS p s l r (-1))):=al (cj (df ((-1:Int)>=0)) (fE p (nZ p s l (cj (rr l.length 8 fun i j=>an enC l i j) (cj (rf r) (cj (rf (-1:Int)) (cj (rf (0:Int)) (cj (rf false) trivial))))))))
theorem og(p:Pg)(s:S8)(l:List En)(r:Int)(hb:l.length<1000000)(x:Int×Bool): ∀k,k<=l.length->eB p l r k=some x->OkL Try.prog (cN Try.prog 70) (lpC Try.prog 70 0) (rgS p s l r ((k:Int)-1)).st .ret (vbS 10 11 x).st
 |0,_,h=>by cases h
 |k+1,hk,h=>by
  rw[sg]
  unfold eB at h
  cases hd:dl (enI p l k) with
  |false=>
   rw[ah (by rw[hd];simp)] at h
   exact OkL.step (Ok.vc (EO p s l r k (by omega) hb hd)) (og p s l r hb x k (by omega) h)
  |true=>
   by_cases hr:(enI p l k).d=r
   ·rw[ai ⟨hd,hr⟩] at h
    cases hn:(l.getD k default).dn with
    |true=>
     rw[ai hn,af] at h
     subst h
     exact OkL.exit (Ok.vc (Hy p s l r k (by omega) hb hd hr hn)) (by simp)
    |false=>
     rw[ah (by rw[hn];simp),af] at h
     subst h
     exact OkL.exit (Ok.vc (Hx p s l r k (by omega) hb hd hr hn)) (by simp)
   ·rw[ah fun e=>hr e.2] at h
    exact OkL.step (Ok.vc (EN p s l r k (by omega) hb hd hr)) (og p s l r hb x k (by omega) h)
theorem oe(p:Pg)(s:S8)(l:List En)(r:Int)(hb:l.length<1000000): ∀k,k<=l.length->eB p l r k=none->OkL Try.prog (cN Try.prog 70) (lpC Try.prog 70 0) (rgS p s l r ((k:Int)-1)).st (.ext 0) (rgS p s l r (-1)).st
 |0,_,_=>OkL.exit (Ok.vc (Bp p s l r)) (by simp)
 |k+1,hk,h=>by
  rw[sg]
  unfold eB at h
  cases hd:dl (enI p l k) with
  |false=>
   rw[ah (by rw[hd];simp)] at h
   exact OkL.step (Ok.vc (EO p s l r k (by omega) hb hd)) (oe p s l r hb k (by omega) h)
  |true=>
   by_cases hr:(enI p l k).d=r
   ·rw[ai ⟨hd,hr⟩] at h;cases h
   ·rw[ah fun e=>hr e.2] at h
    exact OkL.step (Ok.vc (EN p s l r k (by omega) hb hd hr)) (oe p s l r hb k (by omega) h)
theorem uN(l:List En)(i:Int)(n:Nat)(hE:(if(l.length:Int)<(if i<0 then 0 else i) then(l.length:Int) else(if i<0 then 0 else i))=(n:Int)):(if(l.length:Int)<if i<0 then(0:Int) else i then(l.length:Int) else if i<0 then(0:Int) else i)-1=(n:Int)-1:=by rw[hE]
theorem EP(p:Pg)(s:S8)(l:List En)(i r:Int)(n:Nat)(x:Int×Bool)(hE:(if(l.length:Int)<(if i<0 then 0 else i) then(l.length:Int) else(if i<0 then 0 else i))=(n:Int))(hn:n<1000000)(h0:0<=r)(h3:r<4)(h:oL_ 70 0 (rgS p s l r ((n:Int)-1)).st .ret (vbS 10 11 x).st):Vc (vF_ 70 [.agg (pgA p),.agg (rgA s),enR l, aI i, aI r] [.fz,.fz,.bd false,.bd false,.lp [] (rgS p s l r ((n:Int)-1)) .ret (vbS 10 11 x)] [] (.tup [aI x.1,.bool x.2]) []):=al (cj (df (r<0)) (cj (df (r>3)) (cj (show inK IntKind.i64 ((if(l.length:Int)<if i<0 then(0:Int) else i then(l.length:Int) else if i<0 then(0:Int) else i)-1) from by rw[hE];exact fu (by omega) (by omega)) (fE p (nZ p s l (cj (rr l.length 8 fun i j=>an enC l i j) (cj (rf r) (cj (uN l i n hE) (cj (rf (0:Int)) (cj (rf false) (cj h (cj (rf (Prod.fst x)) (cj (rf (Prod.snd x)) trivial)))))))))))))
theorem xA(l:List En)(i:Int)(n:Nat)(hE:(if(l.length:Int)<(if i<0 then 0 else i) then(l.length:Int) else(if i<0 then 0 else i))=(n:Int))(hn:n<1000000):inK IntKind.i64 ((if(l.length:Int)<if i<0 then(0:Int) else i then(l.length:Int) else if i<0 then(0:Int) else i)-1):=by rw[hE];exact fu (by omega) (by omega)
theorem Bt(p:Pg)(s:S8)(l:List En)(i:Int)(n:Nat)(hE:(if(l.length:Int)<(if i<0 then 0 else i) then(l.length:Int) else(if i<0 then 0 else i))=(n:Int))(hn:n<1000000)(h:oL_ 70 0 (rgS p s l 0 ((n:Int)-1)).st (.ext 0) (rgS p s l 0 (-1)).st):Vc (vF_ 70 [.agg (pgA p),.agg (rgA s),enR l, aI i, aI 0] [.fz,.fz,.bd false,.bd false,.lp [] (rgS p s l 0 ((n:Int)-1)) (.ext 0) (rgS p s l 0 (-1))] [] (.tup [aI s.r0,.bool true]) []):=al (cj (df ((0:Int)<0)) (cj (df ((0:Int)>3)) (cj (xA l i n hE hn) (fE p (nZ p s l (cj (rr l.length 8 fun i j=>an enC l i j) (cj (rf (0:Int)) (cj (uN l i n hE) (cj (rf (0:Int)) (cj (rf false) (cj h (cj (rf s.r0) (cj (rf true) trivial)))))))))))))
theorem Bs(p:Pg)(s:S8)(l:List En)(i:Int)(n:Nat)(hE:(if(l.length:Int)<(if i<0 then 0 else i) then(l.length:Int) else(if i<0 then 0 else i))=(n:Int))(hn:n<1000000)(h:oL_ 70 0 (rgS p s l 1 ((n:Int)-1)).st (.ext 0) (rgS p s l 1 (-1)).st):Vc (vF_ 70 [.agg (pgA p),.agg (rgA s),enR l, aI i, aI 1] [.fz,.fz,.bd false,.bd false,.lp [] (rgS p s l 1 ((n:Int)-1)) (.ext 0) (rgS p s l 1 (-1))] [] (.tup [aI s.r1,.bool true]) []):=al (cj (df ((1:Int)<0)) (cj (df ((1:Int)>3)) (cj (xA l i n hE hn) (fE p (nZ p s l (cj (rr l.length 8 fun i j=>an enC l i j) (cj (rf (1:Int)) (cj (uN l i n hE) (cj (rf (0:Int)) (cj (rf false) (cj h (cj (rf s.r1) (cj (rf true) trivial)))))))))))))
theorem Br(p:Pg)(s:S8)(l:List En)(i:Int)(n:Nat)(hE:(if(l.length:Int)<(if i<0 then 0 else i) then(l.length:Int) else(if i<0 then 0 else i))=(n:Int))(hn:n<1000000)(h:oL_ 70 0 (rgS p s l 2 ((n:Int)-1)).st (.ext 0) (rgS p s l 2 (-1)).st):Vc (vF_ 70 [.agg (pgA p),.agg (rgA s),enR l, aI i, aI 2] [.fz,.fz,.bd false,.bd false,.lp [] (rgS p s l 2 ((n:Int)-1)) (.ext 0) (rgS p s l 2 (-1))] [] (.tup [aI s.r2,.bool true]) []):=al (cj (df ((2:Int)<0)) (cj (df ((2:Int)>3)) (cj (xA l i n hE hn) (fE p (nZ p s l (cj (rr l.length 8 fun i j=>an enC l i j) (cj (rf (2:Int)) (cj (uN l i n hE) (cj (rf (0:Int)) (cj (rf false) (cj h (cj (rf s.r2) (cj (rf true) trivial)))))))))))))
theorem Bq(p:Pg)(s:S8)(l:List En)(i:Int)(n:Nat)(hE:(if(l.length:Int)<(if i<0 then 0 else i) then(l.length:Int) else(if i<0 then 0 else i))=(n:Int))(hn:n<1000000)(h:oL_ 70 0 (rgS p s l 3 ((n:Int)-1)).st (.ext 0) (rgS p s l 3 (-1)).st):Vc (vF_ 70 [.agg (pgA p),.agg (rgA s),enR l, aI i, aI 3] [.fz,.fz,.bd false,.bd false,.lp [] (rgS p s l 3 ((n:Int)-1)) (.ext 0) (rgS p s l 3 (-1))] [] (.tup [aI s.r3,.bool true]) []):=al (cj (df ((3:Int)<0)) (cj (df ((3:Int)>3)) (cj (xA l i n hE hn) (fE p (nZ p s l (cj (rr l.length 8 fun i j=>an enC l i j) (cj (rf (3:Int)) (cj (uN l i n hE) (cj (rf (0:Int)) (cj (rf false) (cj h (cj (rf s.r3) (cj (rf true) trivial)))))))))))))
theorem Bu(p:Pg)(s:S8)(l:List En)(i r:Int)(h:r<0):Vc (vF_ 70 [.agg (pgA p),.agg (rgA s),enR l, aI i, aI r] [.fz,.fz,.bd true] [] (.tup [aI 0,.bool false]) []):=al (cj (dt (r<0)) (cj (rf (0:Int)) (cj (rf false) trivial)))
theorem Bv(p:Pg)(s:S8)(l:List En)(i r:Int)(h:3<r):Vc (vF_ 70 [.agg (pgA p),.agg (rgA s),enR l, aI i, aI r] [.fz,.fz,.bd false,.bd true] [] (.tup [aI 0,.bool false]) []):=al (cj (df (r<0)) (cj (dt (r>3)) (cj (rf (0:Int)) (cj (rf false) trivial))))
theorem uY(p:Pg)(s:S8)(l:List En)(i r:Int)(hb:l.length<1000000):pC_ 70 [.agg (pgA p),.agg (rgA s),enR l,.int .i64 i,.int .i64 r] (.tup [.int .i64 (c8 p s l i r).1,.bool (c8 p s l i r).2]) []:=by
 have hE:=wA i l.length
 have hle:=jg i l.length
 unfold c8
 by_cases hr:0<=r∧r<4
 ·rw[ai hr]
  cases h:eB p l r (cl0 i l.length) with
  |some x=>exact PureC.vc (EP p s l i r _ x hE (by omega) hr.1 hr.2 (og p s l r hb x _ hle h).ok)
  |none=>
   have hl:=(oe p s l r hb _ hle h).ok
   obtain⟨h0,h1⟩:=hr
   rcases qS h0 h1 with rfl |rfl |rfl |rfl
   ·exact PureC.vc (Bt p s l i _ hE (by omega) hl)
   ·exact PureC.vc (Bs p s l i _ hE (by omega) hl)
   ·exact PureC.vc (Br p s l i _ hE (by omega) hl)
   ·exact PureC.vc (Bq p s l i _ hE (by omega) hl)
 ·rw[ah hr]
  by_cases h0:r<0
  ·exact PureC.vc (Bu p s l i r h0)
  ·exact PureC.vc (Bv p s l i r (by omega))
theorem DV(p:Pg)(s:S8)(l:List En)(i n:Int)(hb:l.length<1000000):Vc (vF_ 62 [.agg (pgA p),.agg (rgA s),enR l, aI i,.agg [.bool true, aI n]] [.fz,.fz,.fz,.cl [.agg (pgA p),.agg (rgA s),enR l, aI i, aI n] (.tup [aI (c8 p s l i n).1,.bool (c8 p s l i n).2]) []] [] (.tup [aI (c8 p s l i n).1,.bool (c8 p s l i n).2]) []):=al (fE p (nZ p s l (cj (rr l.length 8 fun i j=>an enC l i j) (cj (rf i) (cj (rf n) (cj (uY p s l i n hb) (cj (rf (Prod.fst (c8 p s l i n))) (cj (rf (Prod.snd (c8 p s l i n))) trivial))))))))
theorem DW(p:Pg)(s:S8)(l:List En)(i n:Int):Vc (vF_ 62 [.agg (pgA p),.agg (rgA s),enR l, aI i,.agg [.bool false, aI n]] [.fz,.fz,.fz,.cl [aI p.W, aI n] (aI (Wd.maskV p.W n)) []] [] (.tup [aI (Wd.maskV p.W n),.bool true]) []):=al (cj (rf p.W) (cj (rf n) (cj (bu p.W n) (cj (rf (Wd.maskV p.W n)) (cj (rf true) trivial)))))
theorem pj(p:Pg)(s:S8)(l:List En)(i:Int)(v:Vl)(hb:l.length<1000000):pC_ 62 [.agg (pgA p),.agg (rgA s),enR l,.int .i64 i,.agg (vlA v)] (.tup [.int .i64 (cC p s l i v).1,.bool (cC p s l i v).2]) []:=by
 obtain⟨b,n⟩:=v
 cases b with
 |true=>exact PureC.vc (DV p s l i n hb)
 |false=>exact PureC.vc (DW p s l i n)
theorem Af(p:Pg)(l:List En)(i:Int)(k:Nat)(hk:(k:Int)<i)(hl:k<l.length)(hb:l.length<1000000)(h:((enI p l k).kind==10)=false):Vc (vC_ 69 0 (bkS p l i k) [.bd true,.bd true,tt p l k,.bd false] .nrm [] (bkS p l i (k+1))):=al (cj (dt ((k:Int)<i)) (cj (dt ((k:Int)<l.length)) (cj (bi k l.length) (fE p (sU p l k (cj (bv p (l.getD k default).pc) (cj h (cj (i6 (k+1)) (fE p (cj (rf p.ls.length) (cj (rr p.ls.length 2 fun i j=>an lbC p.ls i j) (cj (rf p.is.length) (cj (rr p.is.length 9 fun i j=>an inC p.is i j) (cj (rf l.length) (cj (rr l.length 8 fun i j=>an enC l i j) (cj (rf i) (cj (rf ((k:Int)+1)) (cj (rf false) trivial))))))))))))))))))
theorem CT(p:Pg)(l:List En)(i:Int)(k:Nat)(hk:(k:Int)<i)(hl:k<l.length)(hb:l.length<1000000)(h:((enI p l k).kind==10)=true):Vc (vC_ 69 0 (bkS p l i k) [.bd true,.bd true,tt p l k,.bd true] .ret [] (bS 6 true)):=al (cj (dt ((k:Int)<i)) (cj (dt ((k:Int)<l.length)) (cj (bi k l.length) (fE p (sU p l k (cj (bv p (l.getD k default).pc) (cj h (cj (rf true) trivial))))))))
theorem Dm(p:Pg)(l:List En)(i:Int)(k:Nat){Z:Prop}(z:Z):(RF p.ls.length (RR p.ls.length 2 (fun i j=>an lbC p.ls i j) (RF p.is.length (RR p.is.length 9 (fun i j=>an inC p.is i j) (RF l.length (RR l.length 8 (fun i j=>an enC l i j) (RF i (RF (k:Int) (RF false Z))))))))):=⟨rfl,fun _ _ _ _=>rfl,rfl,fun _ _ _ _=>rfl,rfl,fun _ _ _ _=>rfl,rfl,rfl,rfl,z⟩
theorem GR(p:Pg)(l:List En)(i:Int)(k:Nat)(hk: ¬(k:Int)<i):Vc (vC_ 69 0 (bkS p l i k) [.bd false] (.ext 0) [] (bkS p l i k)):=al (cj (df ((k:Int)<i)) (fE p (Dm p l i k trivial)))
theorem Jd(p:Pg)(l:List En)(i:Int)(k:Nat)(hk:(k:Int)<i)(hl: ¬k<l.length):Vc (vC_ 69 0 (bkS p l i k) [.bd true,.bd false] (.ext 0) [] (bkS p l i k)):=al (cj (dt ((k:Int)<i)) (cj (df ((k:Int)<l.length)) (fE p (Dm p l i k trivial))))
theorem oQ{i:Int}{n k:Nat}(h:k<cl0 i n):(k:Int)<i∧k<n:=by unfold cl0 at h;omega
theorem sL(i:Int)(n:Nat): ¬((cl0 i n:Nat):Int)<i∨ ¬cl0 i n<n:=by unfold cl0;omega
theorem GQ(p:Pg)(l:List En)(i:Int)(hb:l.length<1000000): ∀j k,k+j=cl0 i l.length->nf p l k j=true->OkL Try.prog (cN Try.prog 69) (lpC Try.prog 69 0) (bkS p l i k).st .ret (bS 6 true).st
 |0,k,_,h=>by cases h
 |j+1,k,hk,h=>by
  have hl:=oQ (i:=i) (n:=l.length) (k:=k) (by omega)
  cases hc:((enI p l k).kind==10) with
  |true=>exact OkL.exit (Ok.vc (CT p l i k hl.1 hl.2 hb hc)) (by simp)
  |false=>
   unfold nf at h
   rw[hc,cZ] at h
   exact OkL.step (Ok.vc (Af p l i k hl.1 hl.2 hb hc)) (GQ p l i hb j (k+1) (by omega) h)
theorem GS(p:Pg)(l:List En)(i:Int)(hb:l.length<1000000): ∀j k,k+j=cl0 i l.length->nf p l k j=false->OkL Try.prog (cN Try.prog 69) (lpC Try.prog 69 0) (bkS p l i k).st (.ext 0) (bkS p l i (cl0 i l.length)).st
 |0,k,hk,h=>by
  obtain rfl:k=cl0 i l.length:=by omega
  rcases sL i l.length with h1 |h1
  ·exact OkL.exit (Ok.vc (GR p l i _ h1)) (by simp)
  ·by_cases h2:((cl0 i l.length:Nat):Int)<i
   ·exact OkL.exit (Ok.vc (Jd p l i _ h2 h1)) (by simp)
   ·exact OkL.exit (Ok.vc (GR p l i _ h2)) (by simp)
 |j+1,k,hk,h=>by
  have hl:=oQ (i:=i) (n:=l.length) (k:=k) (by omega)
  unfold nf at h
  rw[Bool.or_eq_false_iff] at h
  exact OkL.step (Ok.vc (Af p l i k hl.1 hl.2 hb h.1)) (GS p l i hb j (k+1) (by omega) h.2)
theorem Dl(p:Pg)(l:List En)(i:Int){Z:Prop}(z:Z):(RF p.ls.length (RR p.ls.length 2 (fun i j=>an lbC p.ls i j) (RF p.is.length (RR p.is.length 9 (fun i j=>an inC p.is i j) (RF l.length (RR l.length 8 (fun i j=>an enC l i j) (RF i (RF (0:Int) (RF false Z))))))))):=⟨rfl,fun _ _ _ _=>rfl,rfl,fun _ _ _ _=>rfl,rfl,fun _ _ _ _=>rfl,rfl,rfl,rfl,z⟩
theorem GO(p:Pg)(l:List En)(i:Int)(h:oL_ 69 0 (bkS p l i 0).st .ret (bS 6 true).st):Vc (vF_ 69 [.agg (pgA p),enR l, aI i] [.fz,.lp [] (bkS p l i 0) .ret (bS 6 true)] [] (.bool true) []):=al (fE p (Dl p l i (cj h (cj (rf true) trivial))))
theorem GP(p:Pg)(l:List En)(i:Int)(n:Nat)(h:oL_ 69 0 (bkS p l i 0).st (.ext 0) (bkS p l i n).st):Vc (vF_ 69 [.agg (pgA p),enR l, aI i] [.fz,.lp [] (bkS p l i 0) (.ext 0) (bkS p l i n)] [] (.bool false) []):=al (fE p (Dl p l i (cj h (cj (rf false) trivial))))
theorem E0(p:Pg)(l:List En)(i:Int)(hb:l.length<1000000):pC_ 69 [.agg (pgA p),enR l,.int .i64 i] (.bool (mL p l i)) []:=by
 unfold mL
 cases h:nf p l 0 (cl0 i l.length) with
 |true=>exact PureC.vc (GO p l i (GQ p l i hb _ 0 (by omega) h).ok)
 |false=>exact PureC.vc (GP p l i _ (GS p l i hb _ 0 (by omega) h).ok)
end
end Go.Proofs.Ytdanmboalfmifaa.Px
