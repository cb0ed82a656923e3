import Derived.Test.YtlfldlnohmobmaaMaC
import Derived.Test.YtlfldlnohmobmaaMaA
import Derived.WalkKit
set_option linter.unusedVariables false
set_option linter.unusedSimpArgs false
set_option maxRecDepth 100000
namespace Go.Proofs.Ytlfldlnohmobmaa.Rx
section
open Go.RowKit
section
variable{P:Program}{T:Nat->Tch}{md:Bool}{call:bR}{nt:Nat}{ops:Array Oper}{st:St}{D:Nat->DS}
def HpI(T:Nat->Tch)(ops:Array Oper)(st:St)(D:Nat->DS)(listed:Array Bool)(H:Nat->Option Blk):Prop:=
 ∀id,(∃k,k<ops.size∧Up listed k∧eJ (T k) id∧(∀j,j<ops.size->Up listed j->eJ (T j) id->j<=k)∧H id=(D (k+1)).st.heap id)∨((∀j,j<ops.size->Up listed j-> ¬eJ (T j) id)∧H id=st.heap id)
structure EnvI (ops:Array Oper) (st:St) (D:Nat->DS) (listed:Array Bool) (e:Nat->AV):Prop where
 e1: ∀(k:Nat) o t,ops[k]? =some o->o.dst=some t->Up listed k->e t=(D (k+1)).st.env t
 e2: ∀t,(∀(k:Nat) o,ops[k]? =some o->o.dst=some t-> ¬Up listed k)->e t=st.env t
theorem EnvI.put{listed:Array Bool}{e:Nat->AV}(h:EnvI ops st D listed e)(hs:dX ops (g6 ops)=true){i:Nat}{o:Oper}(ho:ops[i]? =some o)(hi:i<listed.size){v:AV}(hv:(D (i+1)).st.env=fg (D i).st.env o.dst v):EnvI ops st D (listed.setIfInBounds i true) (fg e o.dst v):=by
 refine⟨fun k p t hp hd hu=> ?_,fun t hno=> ?_⟩
 ·rcases (cy hi).1 hu with rfl |hu'
  ·rw[ho] at hp;cases hp
   rw[hv,fR hd,fR hd]
  ·by_cases hk:k=i
   ·subst hk
    rw[ho] at hp;cases hp
    rw[hv,fR hd,fR hd]
   ·have:=(eM hs ho hp hd).1
    rw[gv (this.resolve_left hk)]
    exact h.e1 k p t hp hd hu'
 ·rw[gv fun hd=>hno i o ho hd ((cy hi).2 (.inl rfl))]
  exact h.e2 t fun k p hp hd hu=>hno k p hp hd ((cy hi).2 (.inr hu))
theorem EnvI.agree{listed:Array Bool}{e:Nat->AV}(h:EnvI ops st D listed e)(hD:SeqD P T md call nt ops st D)(hs:dX ops (g6 ops)=true)(hc:Closed ops listed){i:Nat}(hr:i∈Region.ready .any ops listed){o:Oper}(ho:ops[i]? =some o){t:Tmp}(ht:t∈fq o ops):e t=(D i).st.env t:=by
 obtain⟨hnu,hi,hc'⟩:=hc.ready hr
 have hi':i<listed.size:=by rw[hc.sz];exact hi
 have uniq: ∀(k k':Nat) p p',ops[k]? =some p->ops[k']? =some p'->p.dst=some t->p'.dst=some t->k=k':=fun k k' p p' h1 h2 h3 h4=>by
  have:=(eM hs h2 h1 h3).1
  exact this.resolve_right fun hn=>hn h4
 by_cases hex: ∃(k:Nat) (p:Oper),ops[k]? =some p∧p.dst=some t
 ·obtain⟨k,p,hp,hd⟩:=hex
  have hk:k<ops.size:=(aD.1 hp).1
  have late: ¬k<i-> ¬Up listed k->e t=(D i).st.env t:=fun h1 h2=>by
   rw[h.e2 t fun k' p' hp' hd' hu=>h2 (uniq k k' p p' hp hp' hd hd'▸hu)]
   have:=hD.env_keep (t:=t) (a:=0) i (by omega) (by omega) fun j o' j1 j2 j3 j4=>by
    have:=uniq k j p o' hp j3 hd j4
    omega
   rw[this,hD.st0]
  rcases (eM hs ho hp hd).2 ht with rfl |⟨h1,h2⟩|⟨h1,h2⟩
  ·exact late (by omega) hnu
  ·have hu:Up listed k:=by
    have:=(hc'.bef hs i ((cy hi').2 (.inl rfl)) k h2)
    rcases (cy hi').1 this with rfl |hu
    ·omega
    ·exact hu
   rw[h.e1 k p t hp hd hu]
   exact(hD.env_keep (t:=t) (a:=k+1) i (by omega) (by omega) fun j o' j1 j2 j3 j4=>by
    have:=uniq k j p o' hp j3 hd j4
    omega).symm
  ·exact late h1 fun hu=>hnu (hc.bef hs k hu i h2)
 ·rw[h.e2 t fun k p hp hd=>absurd ⟨k,p,hp,hd⟩ hex]
  have:=hD.env_keep (t:=t) (a:=0) i (by omega) (by omega) fun j o' j1 j2 j3 j4=>hex ⟨j,o',j3,j4⟩
  rw[this,hD.st0]
theorem ou{o:Oper}{e e':Nat->AV}(h: ∀t∈fq o ops,e t=e' t): ∀x∈o.op.operands.toList,bA e x=bA e' x:=fun x hx=>by
 cases x with
 |tmp t=>exact h t (by
   unfold fq
   rw[bb]
   exact .inl (List.mem_filterMap.2 ⟨.tmp t,hx,rfl⟩))
 |_=>rfl
theorem nL{o:Oper}{e e':Nat->AV}(h: ∀t∈fq o ops,e t=e' t){orc:List Orc}:eV ops o e orc=eV ops o e' orc:=by
 unfold eV
 cases hg:o.guard with
 |none=>rfl
 |some p=>
  obtain⟨j,want⟩:=p
  simp only
  cases hd:(ops[j]?).bind (·.dst) with
  |none=>rfl
  |some d=>
   simp only
   rw[h d (by
    unfold fq
    rw[bb]
    refine .inr ?_
    rw[hg]
    simp only[hd,Option.toList,aA])]
theorem nq{md:Bool}{op:Op}{ρ:Operand->AV}{h:Nat->Option Blk}{next:Nat}{orc:List Orc}{r:Res}(hv:fvO orc=false)(hr:ce P md op ρ h next orc=some r):next<r.next:=by
 cases hb:bxO op orc with
 |true=>
  rw[lx hb] at hr
  obtain⟨b,q1,q2,q3⟩:=ny h hr
  omega
 |false=>
 rw[ns hv hb] at hr
 cases op with
 |alloc t=>
  obtain⟨z,hz,rfl⟩:=ab.1 hr
  exact dH _
 |box t x=>
  obtain⟨z,hz,rfl⟩:=ab.1 hr
  cases hfz:fzO orc&&z.all dg with
  |false=>exact dH _
  |true=>exact dH _
 |makeSlice t x y=>
  unfold bF at hr
  simp only at hr
  split at hr
  ·split at hr
   ·obtain⟨i,hi,hr⟩:=ae.1 hr
    obtain⟨z,hz,hr⟩:=ae.1 hr
    obtain⟨hb,hr⟩:=ay hr
    obtain⟨p,hp,rfl⟩:=ab.1 hr
    exact dH _
   ·cases hr
  ·cases hr
 |buildSlice t len parts=>
  unfold bF at hr
  simp only at hr
  split at hr
  ·obtain⟨s,hs,hr⟩:=ae.1 hr
   obtain⟨hb,hr⟩:=ay hr
   obtain⟨z,hz,hr⟩:=ae.1 hr
   obtain⟨cs,hcs,rfl⟩:=ab.1 hr
   exact dH _
  ·cases hr
 |call c=>
  obtain⟨callee,args,at_⟩:=c
  cases callee with
  |builtin b=>
   cases b with
   |append=>
    have hr:apz P md args at_ ρ h next orc=some r:=hr
    obtain⟨b,q1,q2,q3⟩:=o0 h hr
    omega
   |_=>cases hr
  |_=>cases hr
 |_=>cases hr
structure InvD [Dfs] (T:Nat->Tch) (ops:Array Oper) (st:St) (D:Nat->DS) (nt:Nat) (cx0:Cx) (listed:Array Bool) (a:Act) (cx:Cx) (e:Nat->AV) (N:Nat):Prop where
 cl:Closed ops listed
 stab:Stab cx0 cx
 s:SRep cx ⟨e,cx.H,N⟩ a nt
 env:EnvI ops st D listed e
 hp:HpI T ops st D listed cx.H
 bd: ∀k,k<ops.size->Up listed k->(T k).all=true->Bnd (D (k+1))
theorem vF(hD:SeqD P T md call nt ops st D){listed:Array Bool}{H:Nat->Option Blk}(hp:HpI T ops st D listed H){i id:Nat}(hi:i<=ops.size)(h1: ∀k,k<i->eJ (T k) id->Up listed k)(h2: ∀k,i<=k->k<ops.size->eJ (T k) id-> ¬Up listed k):H id=(D i).st.heap id:=by
 rcases hp id with⟨k,k1,k2,k3,k4,k5⟩|⟨k1,k2⟩
 ·have hk:k<i:=by
   rcases kG k i with h |h
   ·exact h
   ·exact absurd k2 (h2 k h k1 k3)
  rw[k5]
  exact(hD.keepId (a:=k+1) (id:=id) i (by omega) hi fun j j1 j2 hw=>by
   have:=k4 j (by omega) (h1 j j2 hw) hw
   omega).symm
 ·rw[k2, <-hD.st0]
  exact(hD.keepId (a:=0) (id:=id) i (by omega) hi fun j j1 j2 hw=>k1 j (by omega) (h1 j j2 hw) hw).symm
theorem rZ{listed:Array Bool}{H:Nat->Option Blk}{i:Nat}(hi:i<listed.size)(hq: ∀id, ¬eJ (T i) id)(hp:HpI T ops st D listed H):HpI T ops st D (listed.setIfInBounds i true) H:=by
 intro id
 have hu: ∀j,Up (listed.setIfInBounds i true) j->eJ (T j) id->Up listed j:=fun j hj hw=>by
  rcases (cy hi).1 hj with rfl |hj
  ·exact absurd hw (hq id)
  ·exact hj
 rcases hp id with⟨k,k1,k2,k3,k4,k5⟩|⟨k1,k2⟩
 ·exact .inl ⟨k,k1,(cy hi).2 (.inr k2),k3,fun j j1 j2 j3=>k4 j j1 (hu j j2 j3) j3,k5⟩
 ·exact .inr ⟨fun j j1 j2 j3=>k1 j j1 (hu j j2 j3) j3,k2⟩
theorem ni{listed:Array Bool}{H H':Nat->Option Blk}{i:Nat}(hi:i<listed.size)(hio:i<ops.size)(hlast: ∀id,eJ (T i) id-> ∀j,j<ops.size->Up listed j->eJ (T j) id->j<=i)(h1: ∀id,eJ (T i) id->H' id=(D (i+1)).st.heap id)(h2: ∀id, ¬eJ (T i) id->H' id=H id)(hp:HpI T ops st D listed H):HpI T ops st D (listed.setIfInBounds i true) H':=by
 intro id
 by_cases hw:eJ (T i) id
 ·refine .inl ⟨i,hio,(cy hi).2 (.inl rfl),hw,fun j j1 j2 j3=> ?_,h1 id hw⟩
  rcases (cy hi).1 j2 with rfl |hu
  ·exact ax _
  ·exact hlast id hw j j1 hu j3
 ·have hu: ∀j,Up (listed.setIfInBounds i true) j->eJ (T j) id->Up listed j:=fun j hj hw'=>by
   rcases (cy hi).1 hj with rfl |hj
   ·exact absurd hw' hw
   ·exact hj
  rw[h2 id hw]
  rcases hp id with⟨k,k1,k2,k3,k4,k5⟩|⟨k1,k2⟩
  ·exact .inl ⟨k,k1,(cy hi).2 (.inr k2),k3,fun j j1 j2 j3=>k4 j j1 (hu j j2 j3) j3,k5⟩
  ·exact .inr ⟨fun j j1 j2 j3=>k1 j j1 (hu j j2 j3) j3,k2⟩
theorem InvD.step[Dfs]{cx0 cx:Cx}{listed:Array Bool}{a:Act}{e:Nat->AV}{N:Nat}(hI:InvD T ops st D nt cx0 listed a cx e N)(hD:SeqD P T md call nt ops st D)(hcall:dF P call)(hs:dX ops (g6 ops)=true){i:Nat}(hr:i∈Region.ready .any ops listed)
  {K:Act->World->Prop}{Q:Exit->Act->World->Prop}(hK: ∀cx' a' e' N',InvD T ops st D nt cx0 (listed.setIfInBounds i true) a' cx' e' N'->K a' cx'.w):wpOp P ops Q i K a cx.w:=by
 obtain⟨hnu,hi,hc'⟩:=hI.cl.ready hr
 have hi':i<listed.size:=by rw[hI.cl.sz];exact hi
 obtain⟨o,g,ho,hd,hg,h1,hbef⟩:=hD.at_ hi
 have hag: ∀t∈fq o ops,(D i).st.env t=e t:=fun t ht=>(hI.env.agree hD hs hI.cl hr ho ht).symm
 have hev:=ou hag
 rw[nL hag] at hg
 have upB: ∀k,k<i->cfl (T i) (T k)=true->Up listed k:=fun k hk hc=>by
  have:=hc'.bef hs i ((cy hi').2 (.inl rfl)) k (hbef k hk hc)
  rcases (cy hi').1 this with rfl |hu
  ·omega
  ·exact hu
 have upA: ∀k,i<k->k<ops.size->cfl (T k) (T i)=true-> ¬Up listed k:=fun k hk hkn hc hu=>by
  obtain⟨_,_,_,_,_,_,hb⟩:=hD.at_ hkn
  exact hnu (hI.cl.bef hs k hu i (hb i hk hc))
 have seen: ∀id,wo (T i) id->cx.H id=(D i).st.heap id:=fun id ht=>vF hD hI.hp (Nat.le_of_lt hi) (fun k hk hw=>upB k hk (oo hw ht).2) (fun k hk hkn hw=>by
  by_cases hki:k=i
  ·subst hki;exact hnu
  ·exact upA k (by omega) hkn (oo hw ht).1)
 have hlast: ∀id,eJ (T i) id-> ∀j,j<ops.size->Up listed j->eJ (T j) id->j<=i:=fun id hw j hj hu hwj=>by
  rcases kG i j with h |h
  ·exact absurd hu (upA j h hj (oo hwj (hw.imp_right .inl)).1)
  ·exact h
 have bdI:(T i).any=true->Bnd (D i):=fun hany=>by
  have hdec:DecidablePred fun k=>(T k).all=true:=fun k=>inferInstance
  rcases rS (fun k=>(T k).all=true) i with⟨k,k1,k2,k3⟩|h0
  ·have hu:Up listed k:=upB k k1 (by unfold cfl;rw[k2,hany];simp)
   refine hD.bnd (a:=k+1) (hI.bd k (by omega) hu k2) i (by omega) (by omega) fun j j1 j2=> ?_
   cases hx:(T j).all with
   |false=>rfl
   |true=>have:=k3 j j2 hx;omega
  ·refine hD.bnd (a:=0) (fun id hid=> ?_) i (by omega) (by omega) fun j _ j2=> ?_
   ·rw[hD.st0] at hid ⊢;exact hD.lt id hid
   ·cases hx:(T j).all with
    |false=>rfl
    |true=>exact absurd hx (h0 j j2)
 unfold wpOp
 rw[ho]
 simp only
 rcases h1 with⟨hgf,hv,_,_,hT,hp⟩|⟨hgt,r,hrr,hpg,hpr,hv,e1,e2,hT⟩
 ·have hw:=dM hg hp hI.s
  rw[hgf] at hw
  rw[hw]
  simp only[eb,if_false]
  refine hK cx _ _ N ⟨hc',hI.stab,hI.s.put (Stab.refl cx) hI.s.c rfl hI.s.lt hd (.pure (.val _)),hI.env.put hs ho hi' hv,rZ hi' (fun id hw=>by rw[hT] at hw;rcases hw with h |h<;>cases h) hI.hp,fun k k1 k2 k3=> ?_⟩
  rcases (cy hi').1 k2 with rfl |hu
  ·rw[hT] at k3;cases k3
  ·exact hI.bd k k1 hu k3
 ·have hw:=dM hg hpg hI.s
  rw[hgt] at hw
  rw[hw]
  simp only[if_true]
  refine .inl ?_
  cases hall:(T i).all with
  |true=>
   have hH:cx.H=(D i).st.heap:=funext fun id=>seen id (.inl hall)
   have hbnd:Bnd (D i):=bdI (by unfold Tch.any;rw[hall];rfl)
   have hrr':evD P md call o.op (bA e) (D i).st.heap (D i).st.next g.2.1=some r:=iF hev▸hrr
   have hs0:SRep cx ⟨e,(D i).st.heap,(D i).st.next⟩ a nt:=⟨hH,hI.s.c,hI.s.env,hbnd,hI.s.sz,hI.s.df⟩
   have fin: ∀cx' a',SRep cx' ⟨fg e o.dst r.v,r.heap,r.next⟩ a' nt->Stab cx cx'->K a' cx'.w:=fun cx' a' hs' hst'=>by
    have hHe:cx'.H=r.heap:=hs'.H
    refine hK cx' a' _ r.next ⟨hc',hI.stab.trans hst',by rw[hHe];exact hs',hI.env.put hs ho hi' hv,ni hi' hi hlast (fun id _=>by rw[hHe,e1]) (fun id hn=>absurd (.inl hall) hn) hI.hp,fun k k1 k2 k3=> ?_⟩
    rcases (cy hi').1 k2 with rfl |hu
    ·intro id hid
     rw[e2]
     rw[e1] at hid
     exact hs'.lt id hid
    ·exact hI.bd k k1 hu k3
   cases hcl:gA o.op (bA e) g.2.1 with
   |true=>
    refine nG hcl (by rw[hH];exact hrr') hpr hI.s.c hI.s.env (fun id h5 h6=> ?_) fun cx' z m1 m2 m3 m4 m5=>fin cx' _ (hI.s.put m3 m2 m1 (m5.lt fun id hid=>hbnd id (by rw[<-hH];exact hid)) hd m4) m3
    cases hx:cx.H id with
    |none=>rfl
    |some b=>have:=hbnd id (by rw[<-hH,hx];rfl);omega
   |false=>
    cases hcp:gy o.op (bA e) g.2.1 with
    |true=>
     refine ky hcp (by rw[hH];exact hrr') hpr hI.s.c hI.s.env fun cx' z m1 m2 m3 m4 m5 m6=>fin cx' _ (hI.s.put m3 m2 m1 (fun id hid=> ?_) hd m4) m3
     rw[m6]
     exact hbnd id (by rw[<-hH, <-m5];exact hid)
    |false=>
     cases hcm:gz o.op (bA e) g.2.1 with
     |true=>
      refine nE hcm (by rw[hH];exact hrr') hpr hI.s.c hI.s.env (fun id h5 h6=> ?_) fun cx' z m1 m2 m3 m4 m5=>fin cx' _ (hI.s.put m3 m2 m1 (m5.lt fun id hid=>hbnd id (by rw[<-hH];exact hid)) hd m4) m3
      cases hx:cx.H id with
      |none=>rfl
      |some b=>have:=hbnd id (by rw[<-hH,hx];rfl);omega
     |false=>
      unfold evD at hrr'
      rw[hcl,hcp,hcm] at hrr'
      exact kr hcall hrr' hpr hs0 hd fin
  |false=>
   have hall':=hall
   rw[hT] at hall'
   have L:=mb hrr hall'
   rw[<-hT] at L
   have wr_iff: ∀id,eJ (T i) id↔id∈(T i).wr:=fun id=>⟨fun h=>h.resolve_left (by rw[hall];simp),.inr⟩
   have notall: ∀k,k<ops.size->Up (listed.setIfInBounds i true) k->(T k).all=true->Bnd (D (k+1)):=fun k k1 k2 k3=>by
    rcases (cy hi').1 k2 with rfl |hu
    ·rw[hall] at k3;cases k3
    ·exact hI.bd k k1 hu k3
   have done: ∀cx' a' r' N',evD P md call o.op (bA e) cx.H N' g.2.1=some r'->r'.v=r.v->(∀id∈(T i).wr,r'.heap id=r.heap id)->(∀id,id ∉ (T i).wr->r'.heap id=cx.H id)->cx'.H=r'.heap-> ∀M,SRep cx' ⟨fg e o.dst r.v,cx'.H,M⟩ a' nt->Stab cx cx'->K a' cx'.w:=fun cx' a' r' N' _ _ q1 q2 hHe M hs' hst'=>by
    refine hK cx' a' _ M ⟨hc',hI.stab.trans hst',hs',hI.env.put hs ho hi' hv,ni hi' hi hlast (fun id hw=>by rw[hHe,q1 id ((wr_iff id).1 hw),e1]) (fun id hn=>by rw[hHe,q2 id fun hm=>hn ((wr_iff id).2 hm)]) hI.hp,notall⟩
   have rdH: ∀id∈(T i).rd,cx.H id=(D i).st.heap id:=fun id hid=>seen id (.inr (.inr hid))
   have wrH: ∀id∈(T i).wr,cx.H id=(D i).st.heap id:=fun id hid=>seen id (.inr (.inl hid))
   cases hnw:(T i).nw with
   |false=>
    obtain⟨r',k1,k2,k3,k4,_,k6,k7,k8⟩:=L.loc cx.H N (fun h=>by rw[hnw] at h;cases h) rdH wrH
    rw[iF hev] at k1
    have hpr': ∀p∈r'.cs,p:=by rw[k4];exact hpr
    have hlt': ∀id,(r'.heap id).isSome=true->id<N:=fun id hid=>by
     by_cases hm:id∈(T i).wr
     ·rcases L.wrs id hm with h2 |h2
      ·exact hI.s.lt id (by show(cx.H id).isSome=true;rw[wrH id hm];exact h2)
      ·have:=L.nonew hnw
       omega
     ·rw[k8 id hm] at hid
      exact hI.s.lt id hid
    have finz: ∀cx' z,cx'.H=r'.heap->CRep cx'->Stab cx cx'->Rep cx' r'.v z->K (a.put o.dst z) cx'.w:=fun cx' z m1 m2 m3 m4=>by
     have hs':=hI.s.put (next:=N) m3 m2 m1 hlt' hd m4
     rw[k2, <-m1] at hs'
     exact done cx' _ r' N k1 k2 k7 k8 m1 N hs' m3
    cases hcl:gA o.op (bA e) g.2.1 with
    |true=>
     exfalso
     have hcls:=rV (P:=P) (op:=o.op) (ρ:=bA e) (orc:=g.2.1) hcl
     rw[hT] at hnw hall
     unfold db at hnw hall
     rw[hcls] at hnw hall
     rw[d7 hev,hcl] at hnw hall
     simp only[aK] at hnw hall
     cases hf:ee (D i).st.heap (rdD o.op (bA (D i).st.env)) with
     |true=>rw[hf] at hnw;cases hnw
     |false=>rw[hf] at hall;cases hall
    |false=>
     cases hcp:gy o.op (bA e) g.2.1 with
     |true=>exact ky hcp k1 hpr' hI.s.c hI.s.env fun cx' z m1 m2 m3 m4 _ _=>finz cx' z m1 m2 m3 m4
     |false=>
      have hcm:gz o.op (bA e) g.2.1=false:=by
       cases hcm:gz o.op (bA e) g.2.1 with
       |false=>rfl
       |true=>
        exfalso
        rw[hT] at hnw
        unfold db at hnw
        rw[nh (P:=P) hcm,d7 hev,hcl,eT hev,hcp,eU hev,hcm] at hnw
        cases hnw
      have hrl:=k1
      unfold evD at hrl
      rw[hcl,hcp,hcm] at hrl
      simp only[aW] at hrl
      by_cases hcc:cb P o.op= .call
      ·exfalso
       rw[hT] at hall
       unfold db at hall
       rw[hcc,d7 hev,hcl,eT hev,hcp,eU hev,hcm] at hall
       cases hall
      ·exact iD hrl hcc hpr' rfl hI.s.c hI.s.env (by
        cases hx:cx.H N with
        |none=>rfl
        |some b=>exact absurd (hI.s.lt N (by show(cx.H N).isSome=true;rw[hx];rfl)) (dN _)) fun cx' z m1 m2 m3 m4 _=>finz cx' z m1 m2 m3 m4
   |true=>
    have hany:(T i).any=true:=by unfold Tch.any;rw[hnw];simp
    have hbnd:=bdI hany
    obtain⟨r',k1,k2,k3,k4,k5,_,k7,k8⟩:=L.loc cx.H (D i).st.next (fun _=>rfl) rdH wrH
    rw[iF hev] at k1
    have k5':=k5 hnw
    have hpr': ∀p∈r'.cs,p:=by rw[k4];exact hpr
    have hfree: ∀id,(D i).st.next<=id->id<r.next->cx.H id=none:=fun id h5 h6=>by
     rw[wrH id (L.new id h5 h6)]
     cases hx:(D i).st.heap id with
     |none=>rfl
     |some b=>have:=hbnd id (by rw[hx];rfl);omega
    have hlt': ∀id,(r'.heap id).isSome=true->id<max N r.next:=fun id hid=>by
     by_cases hm:id∈(T i).wr
     ·rcases L.wrs id hm with h2 |h2
      ·have:id<N:=hI.s.lt id (by show(cx.H id).isSome=true;rw[wrH id hm];exact h2)
       omega
      ·omega
     ·rw[k8 id hm] at hid
      have:id<N:=hI.s.lt id hid
      omega
    have finz: ∀cx' z,cx'.H=r'.heap->CRep cx'->Stab cx cx'->Rep cx' r'.v z->K (a.put o.dst z) cx'.w:=fun cx' z m1 m2 m3 m4=>by
     have hs':=hI.s.put (next:=max N r.next) m3 m2 m1 hlt' hd m4
     rw[k2, <-m1] at hs'
     exact done cx' _ r' _ k1 k2 k7 k8 m1 _ hs' m3
    cases hcl:gA o.op (bA e) g.2.1 with
    |true=>exact nG hcl k1 hpr' hI.s.c hI.s.env (fun id h5 h6=>hfree id h5 (by rw[k5'] at h6;exact h6)) fun cx' z m1 m2 m3 m4 _=>finz cx' z m1 m2 m3 m4
    |false=>
     cases hcp:gy o.op (bA e) g.2.1 with
     |true=>exact ky hcp k1 hpr' hI.s.c hI.s.env fun cx' z m1 m2 m3 m4 _ _=>finz cx' z m1 m2 m3 m4
     |false=>
      cases hcm:gz o.op (bA e) g.2.1 with
      |true=>exact nE hcm k1 hpr' hI.s.c hI.s.env (fun id h5 h6=>hfree id h5 (by rw[k5'] at h6;exact h6)) fun cx' z m1 m2 m3 m4 _=>finz cx' z m1 m2 m3 m4
      |false=>
      have hrl:=k1
      unfold evD at hrl
      rw[hcl,hcp,hcm] at hrl
      simp only[aW] at hrl
      by_cases hcc:cb P o.op= .call
      ·exfalso
       rw[hT] at hall
       unfold db at hall
       rw[hcc,d7 hev,hcl,eT hev,hcp,eU hev,hcm] at hall
       cases hall
      ·refine iD hrl hcc hpr' rfl hI.s.c hI.s.env ?_ fun cx' z m1 m2 m3 m4 _=>finz cx' z m1 m2 m3 m4
       cases hx:cx.H (D i).st.next with
       |none=>rfl
       |some b=>
        exfalso
        have hlt:(D i).st.next<r.next:=by
         cases hcz:cb P o.op with
         |pur=>rw[hT] at hnw;unfold db at hnw;rw[hcz] at hnw;cases hnw
         |read=>
          rw[hT] at hnw;unfold db at hnw;rw[hcz] at hnw
          simp only at hnw
          cases ha:ju o.op (bA (D i).st.env) with
          |true=>rw[ha] at hnw;cases hnw
          |false=>rw[ha] at hnw;cases hnw
         |call=>exact absurd hcz hcc
         |make=>
          have hfv:fvO g.2.1=false:=by
           rw[hT] at hnw;unfold db at hnw;rw[hcz] at hnw
           simp only at hnw
           cases hx2:fvO g.2.1 with
           |false=>rfl
           |true=>rw[hx2] at hnw;cases hnw
          have h9:=hrr
          unfold evD cN at h9
          rw[hcz] at h9
          exact nq hfv h9
         |write=>
          have hm:(D i).st.next∈(T i).wr:=by
           rw[hT] at hnw hall ⊢
           exact o7 hcz hnw hall
          rcases L.wrs _ hm with h2 |h2
          ·have:=hbnd _ h2;omega
          ·exact h2.2
        rw[hfree _ (ax _) hlt] at hx
        cases hx
end
end
section
open Go.RowKit
section
variable{P:Program}
def Cx.drew(cx:Cx):Cx:=⟨{cx.w with drawn:=cx.w.drawn+1},cx.R,cx.φ,cx.H,cx.B⟩
theorem iG(cx:Cx):Stab cx cx.drew:=
 ⟨⟨rfl,fun _ h=>h,fun _ h=> .inl h,rfl,rfl,rfl,ax _,fun _ _ _=>rfl⟩,fun id b h=>⟨b,h,fun _=>⟨rfl,sameShape.rfl' b⟩,fun _=>rfl⟩,fun id b b' h h'=>by
  have h2:cx.H id=some b':=h'
  rw[h] at h2;cases h2;exact ax _⟩
theorem pL{cx:Cx}(hc:CRep cx):CRep cx.drew:=by
 refine⟨fun id b hb=> ?_,hc.inj,hc.rlt,hc.blt⟩
 have h:=hc.hb id b hb
 unfold HB at h ⊢
 split
 ·rename_i cs hcs
  rw[hcs] at h
  obtain⟨g,cur,h1,h2,h3,h4,h5⟩:=h
  refine⟨g,cur,h1,h2,h3,fun j a ha=> ?_,h5⟩
  obtain⟨u,u1,u2,u3⟩:=h4 j a ha
  exact⟨u,u1,u2,u3.stab hc (iG cx)⟩
 ·rename_i m n f hcs
  rw[hcs] at h
  rcases h with h |⟨g,cap,cur,h1,h2,h3,h4,h5,h6,h7⟩
  ·exact .inl h
  ·refine .inr ⟨g,cap,cur,h1,h2,h3,h4,h5,fun i hi j hj=> ?_,h7⟩
   obtain⟨u,u1,u2,u3⟩:=h6 i hi j hj
   exact⟨u,u1,u2,u3.mono (fun _ h=>h) fun _ _=>rfl⟩
theorem pK[Dfs]{cx:Cx}{st:St}{a:Act}{nt:Nat}(hs:SRep cx st a nt):SRep cx.drew st a nt:=
 ⟨hs.H,pL hs.c,fun t=>(hs.env t).stab hs.c (iG cx),hs.lt,hs.sz,hs.df⟩
theorem InvD.any[Dfs]{T:Nat->Tch}{md:Bool}{call:bR}{nt:Nat}{ops:Array Oper}{st:St}{D:Nat->DS}{cx0:Cx}(hD:SeqD P T md call nt ops st D)(hcall:dF P call)(hs:dX ops (g6 ops)=true)
  {Q:Exit->Act->World->Prop}(hQ: ∀cx' a',SRep cx' (D ops.size).st a' nt->Stab cx0 cx'->Q .normal a' cx'.w):
  ∀(fuel:Nat) {listed:Array Bool} {a:Act} {cx:Cx} {e:Nat->AV} {N:Nat},InvD T ops st D nt cx0 listed a cx e N->(List.range ops.size).countP (fun i=> !(listed.getD i false))<=fuel->wpAny P .any ops Q fuel listed a cx.w:=by
 have fin: ∀{listed:Array Bool} {a:Act} {cx:Cx} {e:Nat->AV} {N:Nat},InvD T ops st D nt cx0 listed a cx e N->Region.ready .any ops listed=[]->Q .normal a cx.w:=by
  intro listed a cx e N hI hr
  have hall:=hI.cl.done hs hr
  have hH:cx.H=(D ops.size).st.heap:=funext fun id=>vF hD hI.hp (ax _) (fun k hk _=>hall k hk) (fun k h1 h2 _=>by omega)
  have hlt:Bnd (D ops.size):=by
   have hdec:DecidablePred fun k=>(T k).all=true:=fun k=>inferInstance
   rcases rS (fun k=>(T k).all=true) ops.size with⟨k,k1,k2,k3⟩|h0
   ·refine hD.bnd (a:=k+1) (hI.bd k k1 (hall k k1) k2) ops.size (by omega) (ax _) fun j j1 j2=> ?_
    cases hx:(T j).all with
    |false=>rfl
    |true=>have:=k3 j j2 hx;omega
   ·refine hD.bnd (a:=0) (fun id hid=> ?_) ops.size (by omega) (ax _) fun j _ j2=> ?_
    ·rw[hD.st0] at hid ⊢;exact hD.lt id hid
    ·cases hx:(T j).all with
     |false=>rfl
     |true=>exact absurd hx (h0 j j2)
  have he:e=(D ops.size).st.env:=by
   funext t
   by_cases hex: ∃(k:Nat) (p:Oper),ops[k]? =some p∧p.dst=some t
   ·obtain⟨k,p,hp,hd⟩:=hex
    have hk:k<ops.size:=(aD.1 hp).1
    rw[hI.env.e1 k p t hp hd (hall k hk)]
    exact(hD.env_keep (t:=t) (a:=k+1) ops.size (by omega) (ax _) fun j o' j1 j2 j3 j4=>by
     have:=(eM hs j3 hp hd).1
     rcases this with rfl |h5
     ·omega
     ·exact h5 j4).symm
   ·rw[hI.env.e2 t fun k p hp hd=>absurd ⟨k,p,hp,hd⟩ hex]
    have:=hD.env_keep (t:=t) (a:=0) ops.size (by omega) (ax _) fun j o' j1 j2 j3 j4=>hex ⟨j,o',j3,j4⟩
    rw[this,hD.st0]
  refine hQ cx a ⟨hH,hI.s.c, ?_,hlt,hI.s.sz,hI.s.df⟩ hI.stab
  rw[<-he]
  exact hI.s.env
 intro fuel
 induction fuel with
 |zero=>
  intro listed a cx e N hI hcnt
  have hr:Region.ready .any ops listed=[]:=by
   rw[List.eq_nil_iff_forall_not_mem]
   intro i hi
   obtain⟨hnu,hlt,_⟩:=hI.cl.ready hi
   have:=List.countP_eq_zero.1 (Nat.le_zero.1 hcnt) i (co.2 hlt)
   unfold Up at hnu
   simp at this
   exact hnu (by simpa using this)
  exact⟨hr,fin hI hr⟩
 |succ fuel ih=>
  intro listed a cx e N hI hcnt
  refine⟨fin hI,fun i hi=> ?_⟩
  refine hI.step hD hcall hs hi fun cx' a' e' N' hI'=>ih hI' ?_
  obtain⟨hnu,hlt,_⟩:=hI.cl.ready hi
  have hi':i<listed.size:=by rw[hI.cl.sz];exact hlt
  have hx:= @cy listed i
  have:=sk (p:=fun i=> !(listed.getD i false)) (p':=fun k=> !((listed.setIfInBounds i true).getD k false)) (co.2 hlt) (by
    unfold Up at hnu
    simp only[eu] at hnu ⊢
    cases hb:listed.getD i false with
    |false=>rfl
    |true=>exact absurd hb hnu) (by
    have:=(hx (k:=i) hi').2 (.inl rfl)
    unfold Up at this
    simp only[this,Bool.not_true]) (fun k hk=>by
    simp only[eu] at hk ⊢
    cases hb:listed.getD k false with
    |false=>rfl
    |true=>
     have:=(hx (k:=k) hi').2 (.inr hb)
     unfold Up at this
     rw[this] at hk;cases hk)
  omega
theorem ly[Dfs]{md:Bool}{call:bR}(hcall:dF P call){nt:Nat}{ops:Array Oper}{st:St}{orc:List Orc}{q:St×List Orc×List Prop}{cx:Cx}{a:Act}(h:eF P md call nt ops st orc=some q)(hp: ∀p∈q.2.2,p)(hs:SRep cx st a nt){Q:Exit->Act->World->Prop}
  (hQ: ∀cx' a',SRep cx' q.1 a' nt->Stab cx cx'->Q .normal a' cx'.w):P.follows .mixedOrders=true∧wpAny P .any ops Q ops.size (Array.replicate ops.size false) a {cx.w with drawn:=cx.w.drawn+1}:=by
 unfold eF at h
 obtain⟨h1,h2⟩:=ay h
 rw[al] at h1
 obtain⟨q',hq,rfl⟩:=ab.1 h2
 obtain⟨s',ps⟩:=q'
 obtain⟨D,d0,d1,d2⟩:=mO ops.size 0 hq hp
 rw[bn] at d1
 have htr: ∀j,j<ops.size-> ∃t,(D (j+1)).tr=(j,t)::(D j).tr:=fun j hj=>by
  obtain⟨q,hq,_⟩:=d2 j (aY _) (by omega)
  obtain⟨o,g,_,_,_,h3⟩:=ia hq
  rcases h3 with⟨_,_,_,_,e,_⟩|⟨_,r,_,_,_,_,_,e,_⟩
  ·exact⟨_,e⟩
  ·exact⟨_,e⟩
 have hT: ∃T:Nat->Tch, ∀j,j<ops.size->(D (j+1)).tr=(j,T j)::(D j).tr:=
  ⟨fun j=>((D (j+1)).tr.head?.map (·.2)).getD kM,fun j hj=>by
   obtain⟨t,ht⟩:=htr j hj
   have e:((D (j+1)).tr.head?.map (·.2)).getD kM=t:=by rw[ht];rfl
   show(D (j+1)).tr=(j,((D (j+1)).tr.head?.map (·.2)).getD kM)::(D j).tr
   rw[e];exact ht⟩
 obtain⟨T,hT⟩:=hT
 have hD:SeqD P T md call nt ops st D:=⟨by rw[d0],by rw[d0],fun j hj=>d2 j (aY _) (by omega),hT,hs.lt⟩
 refine⟨h1.1, ?_⟩
 have hs':=pK hs
 have hno: ∀k, ¬Up (Array.replicate ops.size false) k:=fun k hk=>by
  unfold Up at hk
  rw[aO,Array.getElem?_replicate] at hk
  split at hk<;>cases hk
 refine InvD.any hD hcall h1.2 (cx0:=cx.drew) (Q:=Q) (fun cx' a' hs2 hst2=> ?_) ops.size (cx:=cx.drew) (e:=st.env) (N:=st.next) ⟨⟨by simp,fun k o _ hu=>absurd hu (hno k)⟩,Stab.refl _, ?_,⟨fun k o t _ _ hu=>absurd hu (hno k),fun t _=>rfl⟩,fun id=> .inr ⟨fun j _ hu=>absurd hu (hno j), ?_⟩,fun k _ hu=>absurd hu (hno k)⟩ ?_
 ·rw[d1] at hs2
  exact hQ cx' a' hs2 ((iG cx).trans hst2)
 ·have:cx.drew.H=st.heap:=hs'.H
  rw[this]
  exact hs'
 ·rw[show cx.drew.H=st.heap from hs'.H]
 ·exact er List.countP_le_length (by simp)
theorem ku(md:Bool):iJ P (eF P md):=by
 intro D0 call hcall nt ops st orc q cx a id h hp hs Q hQ
 obtain⟨h1,h2⟩:=ly hcall h hp hs hQ
 exact wp_region_any h1 h2
end
end
section
open Go.RowKit
structure Vc (p:Prop):Prop where
 out:p
def mj:List Prop->Prop
 | []=>True
 |p::l=>p∧mj l
theorem fP: ∀{l:List Prop},mj l-> ∀p∈l,p
 | [],_,p,hp=>by cases hp
 |q::l,h,p,hp=>by
  rcases bE.1 hp with rfl |hp
  ·exact h.1
  ·exact fP h.2 p hp
def eqX:X->X->Bool
 | .nrm,.nrm=>true
 | .ext i,.ext j=>Nat.beq i j
 | .ret,.ret=>true
 |_,_=>false
theorem ol{x y:X}(h:eqX x y=true):x=y:=by
 cases x<;>cases y<;>first |rfl |cases h | (unfold eqX at h;rw[ai h])
def loops:Code->List Code
 | .seq a b=>loops a++loops b
 | .cond _ a b=>loops a++loops b
 | .block _ c=>loops c
 | .loop c=>c::loops c
 |_=>[]
section
variable(P:Program)
def sq(f:FuncId):Code:=((P.funcs[f]?).bind (·.body)).getD .skip
def lpC(f:FuncId)(k:Nat):Code:=(loops (sq P f)).getD k .skip
def cF(f:FuncId):Nat:=((P.funcs[f]?).map (·.ntmps)).getD 0
def wl(md:Bool)(f:FuncId)(args:List AV)(orc:List Orc)(ρ:List (Nat×Nat))(res:AV)(H:List Blk):Prop:=
 match jd P (eF P md) md 100 true f args (fun _=>none) 0 orc with
 |some r=>match leS ρ ⟨fun _=>r.v,r.heap,r.next⟩ ⟨[(0,res)],jc H,H.length⟩ with
  |some ps=>mj (r.cs++ps)
  |none=>False
 |none=>False
def vcC(md:Bool)(nt:Nat)(c:Code)(I:Sm)(orc:List Orc)(x:X)(r:List (Nat×Nat))(J:Sm):Prop:=
 match bt P (eF P md) true md (iV P (jd P (eF P md) md 100 false)) nt c I.st orc with
 |some q=>bif eqX q.1 x then match leS r q.2.1 J with
  |some ps=>mj (q.2.2.2++ps)
  |none=>False
  else False
 |none=>False
end
section
variable{P:Program}
theorem PureC.vc{md:Bool}{f:FuncId}{args:List AV}{orc:List Orc}{ρ:List (Nat×Nat)}{res:AV}{H:List Blk}(h:Vc (wl P md f args orc ρ res H)):PureC P f args res H:=by
 replace h:=h.out
 unfold wl at h
 split at h
 ·rename_i r hr
  split at h
  ·rename_i ps hps
   have hall:=fP h
   exact PureC.of (ku md) hr (fun p hp=>hall p (bb.2 (.inl hp))) hps fun p hp=>hall p (bb.2 (.inr hp))
  ·cases h
 ·cases h
theorem gE{md:Bool}(n:Nat):dF P (iV P (jd P (eF P md) md n false)):=nI fun f args h next orc r h1 h2 cx h3 h4 h5 vs h6 h7=>by
 obtain⟨k1,k2⟩:=gZ (ku md) n false h1 h2 cx h3 h4 h5 vs h6 h7
 refine⟨k1,k2.mono ?_⟩
 rintro e w' ⟨z,cx',m1,m2,m3,m4,m5,m6,m7⟩
 exact⟨z,cx',m1,m2,m3,m4,m5.2 rfl,m6,m7⟩
theorem Ok.vc{md:Bool}{nt:Nat}{c:Code}{I J:Sm}{orc:List Orc}{x:X}{r:List (Nat×Nat)}(h:Vc (vcC P md nt c I orc x r J)):Ok P nt c I.st x J.st:=by
 replace h:=h.out
 unfold vcC at h
 split at h
 ·rename_i q hq
  obtain⟨hx,h1⟩:eqX q.1 x=true∧(match leS r q.2.1 J with |some ps=>mj (q.2.2.2++ps)|none=>False):=by
   cases hb:eqX q.1 x with
   |true=>rw[hb] at h;exact⟨rfl,h⟩
   |false=>rw[hb] at h;exact h.elim
  split at h1
  ·rename_i ps hps
   have hall:=fP h1
   intro d0 cx a hs Q hQ
   refine bB (ku md) (gE 100) c hq (fun p hp=>hall p (bb.2 (.inl hp))) hs Q fun d1 cx1 a1 hs1 ha1=> ?_
   obtain⟨cx1p,hw,hs1p,hk⟩:=ha1.plus hs1
   obtain⟨cx2,hs2,he2,hw2⟩:=hs1p.le hps fun p hp=>hall p (bb.2 (.inr hp))
   obtain⟨cx3,e3,hs3,ha3⟩:=hk d1 cx2 _ a1 _ hs2 (.of_ext he2)
   rw[ol hx, <-hw, <-hw2, <-e3]
   exact hQ d1 cx3 a1 hs3 ha3
  ·cases h1
 ·cases h
theorem Ok.loop{nt:Nat}{c:Code}{F:Nat->Sm}{m:Nat}{x:X}{J:Sm}(hr: ∀k,k<m->Ok P nt c (F k).st .nrm (F (k+1)).st)(he:Ok P nt c (F m).st x J.st)(hx:x≠ .nrm):Ok P nt (.loop c) (F 0).st x J.st:=by
 intro d0 cx a hs Q hQ
 have key: ∀n k,k+n=m-> ∀(d1:Dfs) cx1 a1, @SRep d1 cx1 (F k).st a1 nt->(∀(d2:Dfs) cx2 a2, @SRep d2 cx2 J.st a2 nt->After true d1 cx1 d2 cx2->Q x.to a2 cx2.w)->Code.rounds P c Q (n+1) a1 cx1.w:=by
  intro n
  induction n with
  |zero=>
   intro k hk d1 cx1 a1 hs1 hK
   obtain rfl:k=m:=by omega
   rw[rounds_succ]
   refine he d1 cx1 a1 hs1 _ fun d2 cx2 a2 hs2 ha2=> ?_
   have:=hK d2 cx2 a2 hs2 ha2
   cases x with
   |nrm=>exact absurd rfl hx
   |ext id=>exact this
   |ret=>exact this
  |succ n ih=>
   intro k hk d1 cx1 a1 hs1 hK
   rw[rounds_succ]
   refine hr k (by omega) d1 cx1 a1 hs1 _ fun d2 cx2 a2 hs2 ha2=> ?_
   obtain⟨cx2p,hw,hs2p,hk2⟩:=ha2.plus hs2
   show Code.rounds _ _ _ _ _ cx2.w
   rw[<-hw]
   exact ih (k+1) (by omega) d2 cx2p a2 hs2p fun d3 cx3 a3 hs3 ha3=>by
    obtain⟨cx4,e4,hs4,ha4⟩:=hk2 d3 cx3 _ a3 _ hs3 ha3
    rw[<-e4]
    exact hK d3 cx4 a3 hs4 ha4
 exact wp_loop_rounds (m+1) (key m 0 (by omega) d0 cx a hs hQ)
def au{α:Type}[Inhabited α](g:α->Nat->AV)(l:List α):Nat->Nat->AV:=fun i j=>g (l.getD i default) j
theorem dB{α:Type}[Inhabited α]{g:α->Nat->AV}{l l':List α}{i j:Nat}(h:i<l.length):au g (l++l') i j=au g l i j:=by
 unfold au
 rw[aq,aq,bj h]
theorem n4{α:Type}[Inhabited α]{g:α->Nat->AV}{l l':List α}{i j:Nat}(h: ¬i<l.length):au g (l++l') i j=au g l' (i-l.length) j:=by
 unfold au
 rw[aq,aq,cu (bX.1 h)]
theorem dC{α:Type}[Inhabited α]{g:α->Nat->AV}{l:List α}{x:α}{j:Nat}:au g (l++[x]) l.length j=g x j:=by
 rw[n4 (dN _),cX]
 rfl
theorem fF{n i:Nat}{a b c:AV}(h1:i<n->a=c)(h2: ¬i<n->b=c):(bif Nat.blt i n then a else b)=c:=by
 by_cases h:i<n
 ·have:Nat.blt i n=true:=by rw[bc];exact h
  rw[this]
  exact h1 h
 ·have:Nat.blt i n=false:=by
   cases hb:Nat.blt i n with
   |false=>rfl
   |true=>rw[bc] at hb;exact absurd hb h
  rw[this]
  exact h2 h
theorem rX{n:Int}(h1: -9223372036854775808<=n)(h2:n<=9223372036854775807):inK .i64 n:=⟨h1,h2⟩
theorem Ok.cut{nt:Nat}{c d:Code}{I J K:St}{x:X}(h1:Ok P nt c I .nrm J)(h2:Ok P nt d J x K):Ok P nt (.seq c d) I x K:=by
 intro d0 cx a hs Q hQ
 refine wp_seq (h1 d0 cx a hs _ fun d1 cx1 a1 hs1 ha1=> ?_)
 obtain⟨cx1p,hw,hs1p,hk⟩:=ha1.plus hs1
 show Code.wp _ _ _ _ cx1.w
 rw[<-hw]
 exact h2 d1 cx1p a1 hs1p Q fun d2 cx2 a2 hs2 ha2=>by
  obtain⟨cx3,e3,hs3,ha3⟩:=hk d2 cx2 _ a2 _ hs2 ha2
  rw[<-e3]
  exact hQ d2 cx3 a2 hs3 ha3
end
end
section
open Go.RowKit
section
variable{P:Program}
theorem RepP.ints{w:World}{R:Nat->Prop}{k:IntKind}{n:Nat}{f:Nat->Nat->AV}{v:Value}{l:List Int}(h:RepP w R (.row 1 n f) v)(hR: ∀g,R g->g<w.heap.size)(hn:n=l.length)(hf: ∀i,i<n->f i 0= .int k (l.getD i 0)):
  ∃A c,v= .slice A l.length c∧l.length<=c∧c<=maxLen∧Rd w w.heap.size A (l.map (Value.int k)):=by
 subst hn
 cases h with
 |row A cap u hn hc hA h1 hu=>
  refine⟨A,cap,rfl,hn,hc,fun hl=> ?_⟩
  rw[cB] at hl
  obtain⟨g,o,rfl,hg,hcell⟩:=hA (by omega)
  refine⟨⟨g,o,none⟩,rfl,hR g hg,fun j x hx=> ?_⟩
  have hj:j<l.length:=by
   have:=(av.1 hx).1
   simpa using this
  have h2:=hu j hj 0 (by omega)
  rw[hf j hj] at h2
  have h3:u j 0= .int k (l.getD j 0):=by
   generalize u j 0=z at h2
   cases h2;rfl
  have h4:=hcell j hj 0 (by omega)
  rw[h3] at h4
  rw[aB,az hj,aH,ah] at hx
  rw[<-hx,show Addr.add ⟨g,o,none⟩ j=⟨g,o+j,none⟩ from dL g o j]
  rw[show o+(j*1+0)=o+j by omega] at h4
  rw[h4]
  simp[List.getD,hj]
theorem PureC.ofOwn{f:FuncId}{args:List AV}{t:TypeId}{k:IntKind}{l:List Int}{n:Nat}{g:Nat->Nat->AV}(hn:n=l.length)(hg: ∀i,i<n->g i 0= .int k (l.getD i 0))
  (h: ∀(w:World) (R:Nat->Prop) (vs:Array Value),(∀g,R g->g<w.heap.size)->args.length=vs.size->(∀(j:Nat) a v,args[j]? =some a->vs[j]? =some v->RepP w R a v)->Calls P f vs w (RetOwn w.heap.size t (l.map (Value.int k)) w)):
  PureC P f args (.own 0 0 1 0 n) [⟨0,false,t,.rows 1 n g⟩]:=by
 subst hn
 intro w R vs hR hl ha
 refine(h w R vs hR hl ha).mono ?_
 rintro e w' ⟨v,rfl,hown,hb⟩
 have hlen:(l.map (Value.int k)).length=l.length:=cB _
 have hR': ∀g,R g->g<w'.heap.size:=fun g hg=>aT (hR g hg) hb.size
 rcases hown.2 with⟨rfl,h0⟩|⟨gg,cap,cur,rfl,hge,hh,hnc,hcm,hsz,htk⟩
 ·rw[hlen] at h0
  refine⟨_,⟨w',R,fun _=>none,fun i=>[(⟨0,false,t,.rows 1 l.length g⟩:Blk)][i]?,fun g=>g<w.heap.size⟩,rfl,rfl,rfl,⟨fun id b hb'=> ?_,fun _ _ _ _ _ _ _ h1 _=>(by cases h1),hR',fun g hg=>aT hg hb.size⟩,rfl,fun _ h=>h,fun _ h=> .inl h,hb, ?_⟩
  ·cases id with
   |zero=>
    simp only[ba,ah] at hb'
    subst hb'
    exact .inl ⟨rfl,h0⟩
   |succ i=>simp at hb'
  ·exact .own (b:=⟨0,false,t,.rows 1 l.length g⟩) rfl (ax _) rfl fun _=>⟨l.length,g,rfl,by omega,.inl ⟨rfl,rfl,h0,rfl⟩⟩
 ·rw[hlen] at hnc htk
  have hlt:gg<w'.heap.size:=(aD.1 hh).1
  refine⟨_,⟨w',R,fun i=>if i=0 then some (gg,cap) else none,fun i=>[(⟨0,false,t,.rows 1 l.length g⟩:Blk)][i]?,fun g=>g<w.heap.size⟩,rfl,rfl,rfl,⟨fun id b hb'=> ?_,fun i j _ _ _ _ _ h1 h2=> ?_,hR',fun g hg=>aT hg hb.size⟩,rfl,fun _ h=>h,fun _ h=> .inl h,hb, ?_⟩
  ·cases id with
   |zero=>
    simp only[ba,ah] at hb'
    subst hb'
    refine .inr ⟨gg,cap,cur,rfl,hh,hsz,hnc,hcm,fun i hi j hj=> ?_,bX.2 hge, ?_⟩
    ·obtain rfl:j=0:=by omega
     have h5:cur.toList[i]? =some (.int k (l.getD i 0)):=by
      have:=congrArg (fun(x:List Value)=>x[i]?) htk
      simp only[aB] at this
      rw[aU,ao (by omega)] at this
      rw[this]
      simp[List.getD,hi]
     refine⟨.int k (l.getD i 0), ?_,rfl, ?_⟩
     ·rw[<-aZ,show i*1+0=i by omega]
      exact h5
     ·rw[hg i hi]
      exact .int _ _
    ·show ¬R gg
     intro hr
     have:=hR gg hr
     omega
   |succ i=>simp at hb'
  ·simp only at h1 h2
   split at h1
   ·split at h2
    ·omega
    ·cases h2
   ·cases h1
  ·refine .own (b:=⟨0,false,t,.rows 1 l.length g⟩) rfl (ax _) rfl fun _=>⟨l.length,g,rfl,by omega,.inr ⟨gg,cap,rfl, ?_⟩⟩
   rw[hlen]
   simp
end
end
section
open Go.RowKit
section
variable{P:Program}
theorem kj{cx:Cx}(hc:CRep cx):CRep ⟨cx.w,cx.R,fun _=>none,fun i=>([]:List Blk)[i]?,cx.B⟩:=
 ⟨fun id b hb=>(by simp at hb),fun _ _ _ _ _ _ _ h1 _=>(by cases h1),hc.rlt,hc.blt⟩
theorem kg{cx:Cx}{H:List Blk}(hc:CRep cx)(hH:cx.H=fun i=>H[i]?)(ids:List Nat): ∃cx1,CRep cx1∧cx1.w=cx.w∧Stab cx cx1∧
  ∀a v,Rep cx a v->(∀id∈b7 a,id∈ids)->RepP cx1.w cx1.R (frz (fun i=>H[i]?) a) v:=by
 obtain⟨cx1,e1,hc1,hs1,e2,e3,e4,e5⟩:=cw ids hc
 refine⟨cx1,hc1,e2,hs1,fun a v hr hi=>fW hc1 (fun id b hb=>by rw[e1,hH];exact bW _ _ _ _ hb) (hr.stab hc hs1) fun id hid b g c hb hg=> ?_⟩
 obtain⟨b',hb'⟩:=aw.1 (e5 id (by rw[hb];rfl))
 rw[e3] at hg
 exact e4 id b' g c (hi id hid) hb' hg
theorem PureC.frozen{f:FuncId}{args:List AV}{a:AV}{H:List Blk}(h:PureC P f args a H):PureC P f args (frz (fun i=>H[i]?) a) []:=by
 intro w R vs hR hl ha
 refine(h w R vs hR hl ha).mono ?_
 rintro e w' ⟨z,cx,rfl,rfl,k1,k2,k3,k4,k5,k6,k7⟩
 obtain⟨cx1,hc1,e2,hs1,hfr⟩:=kg k2 k1 (b7 a)
 refine⟨z,⟨cx1.w,cx1.R,fun _=>none,fun i=>([]:List Blk)[i]?,cx1.B⟩,rfl,e2.symm,rfl,kj hc1,by rw[hs1.ext.B];exact k3,fun g hg=>hs1.ext.R g (k4 g hg),fun g hg=> ?_,k6,.pure (hfr a z k7 fun _ h=>h)⟩
 rcases hs1.ext.Rn g hg with h1 |h1
 ·exact k5 g h1
 ·rw[k3] at h1;exact .inr (bX.1 h1)
theorem RepP.ofRd{w:World}{A:Option Addr}{c:Nat}{k:IntKind}{z:List Int}(hr:Rd w w.heap.size A (z.map (Value.int k)))(hc:z.length<=c)(hm:c<=maxLen):RepP w (fun g=>g<w.heap.size) (.row 1 z.length fun i _=> .int k (z.getD i 0)) (.slice A z.length c):=by
 refine .row A c (fun i _=> .int k (z.getD i 0)) hc hm (fun h=> ?_) (fun _ _ _ _=>rfl) (fun _ _ _ _=> .int _ _)
 obtain⟨ad,rfl,hb,hcell⟩:=hr (by rw[cB];omega)
 obtain⟨g,o,sp⟩:=ad
 have h0:=hcell 0 _ (az (by rw[cB];omega))
 rw[kE] at h0
 have hsp:sp=none:=by
  unfold World.cell? at h0
  split at h0
  ·cases sp with
   |none=>rfl
   |some x=>simp at h0
  ·cases h0
 subst hsp
 refine⟨g,o,rfl,hb,fun i hi j hj=> ?_⟩
 have h1:=hcell i (.int k (z.getD i 0)) (by simp[List.getD,hi])
 rw[show Addr.add ⟨g,o,none⟩ i=⟨g,o+i,none⟩ from dL g o i] at h1
 rw[show o+(i*1+j)=o+i by omega]
 exact h1
theorem PureC.lawB{f:FuncId}{args:List AV}{b:Bool}(h:PureC P f args (.bool b) []){W:World}{R:Nat->Prop}{vs:Array Value}(hR: ∀g,R g->g<W.heap.size)(hl:args.length=vs.size)(ha: ∀(j:Nat) a v,args[j]? =some a->vs[j]? =some v->RepP W R a v):Calls P f vs W (RetB (.bool b) W):=by
 refine(h W R vs hR hl ha).mono ?_
 rintro e w' ⟨z,cx,rfl,rfl,_,_,_,_,_,hb,hz⟩
 refine⟨?_,hb⟩
 cases hz with
 |pure h=>cases h;rfl
end
end
section
open Go.RowKit
def pf(id n:Nat):AV->Option (List Prop)
 | .own i _ _ off len=>bif Nat.beq i id then some [off+len<=n] else some []
 | .eptr i _ _ _ _=>bif Nat.beq i id then none else some []
 | .bsl .. =>none
 | .agg _=>none
 | .tup _=>none
 | .clo _ (_::_)=>none
 |_=>some []
def pd(id n:Nat):List AV->Option (List Prop)
 | []=>some []
 |a::l=>(pf id n a).bind fun p=>(pd id n l).map (p++ ·)
def wz(id n:Nat):AV->Option (List Prop)
 | .agg cs=>pd id n cs
 | .clo _ (c::cs)=>pd id n (c::cs)
 |a=>pf id n a
def tH(id n:Nat):List (Nat×AV)->Option (List Prop)
 | []=>some []
 |q::l=>(wz id n q.2).bind fun p=>(tH id n l).map (p++ ·)
def nT(id n:Nat)(q:Nat×Blk):Option (Blk×List Prop):=
 match q.2.c with
 | .box cs=>bif Nat.beq q.1 id then none else(pd id n cs).map fun p=>(q.2,p)
 | .rows m k f=>bif Nat.beq q.1 id then some ({q.2 with c:= .rows m n f},[n<=k]) else some (q.2,[])
def qK(id n:Nat):List (Nat×Blk)->Option (List (Nat×Blk)×List Prop)
 | []=>some ([],[])
 |q::l=>(nT id n q).bind fun b=>(qK id n l).map fun r=>((q.1,b.1)::r.1,b.2++r.2)
def wA(id n:Nat)(J:Sm):Option (Sm×List Prop):=
 (qK id n J.heap).bind fun h=>(tH id n J.env).map fun p=>(⟨J.env,h.1,J.next⟩,h.2++p)
def qw(id n:Nat)(J:Sm)(r:List (Nat×Nat))(K:Sm):Prop:=
 match wA id n J with
 |some q=>match leS r q.1.st K with
  |some ps=>mj (q.2++ps)
  |none=>False
 |none=>False
section
variable{P:Program}
theorem mB{id n:Nat}: ∀{l:List (Nat×Blk)} {l':List (Nat×Blk)} {ps:List Prop},qK id n l=some (l',ps)->(∀p∈ps,p)-> ∀k,(aS l k=none∧aS l' k=none)∨ ∃b b' qs,aS l k=some b∧aS l' k=some b'∧nT id n (k,b)=some (b',qs)∧ ∀q∈qs,q
 | [],l',ps,h,hp,k=>by
  simp only[qK,ah,Prod.mk.injEq] at h
  obtain⟨rfl,rfl⟩:=h
  exact .inl ⟨rfl,rfl⟩
 | (i,b)::l,l',ps,h,hp,k=>by
  unfold qK at h
  obtain⟨q,hq,h⟩:=ae.1 h
  obtain⟨r,hr,h⟩:=ab.1 h
  simp only[Prod.mk.injEq] at h
  obtain⟨rfl,rfl⟩:=h
  unfold aS
  cases hk:Nat.beq k i with
  |true=>
   obtain rfl:=ai hk
   exact .inr ⟨b,q.1,q.2,rfl,rfl,hq,fun x hx=>hp x (b8 _ hx)⟩
  |false=>exact mB (by rw[hr]) (fun x hx=>hp x (bS _ hx)) k
theorem mC{id n:Nat}: ∀{l:List (Nat×AV)} {ps:List Prop},tH id n l=some ps->(∀p∈ps,p)-> ∀t, ∃qs,wz id n (gc .junk l t)=some qs∧ ∀q∈qs,q
 | [],ps,h,hp,t=>⟨[],rfl,fun q hq=>by cases hq⟩
 | (i,a)::l,ps,h,hp,t=>by
  unfold tH at h
  obtain⟨q,hq,h⟩:=ae.1 h
  obtain⟨r,hr,rfl⟩:=ab.1 h
  unfold gc
  cases hk:Nat.beq t i with
  |true=>exact⟨q,hq,fun x hx=>hp x (b8 _ hx)⟩
  |false=>exact mC hr (fun x hx=>hp x (bS _ hx)) t
theorem gK{id n:Nat}: ∀{l:List AV} {ps:List Prop},pd id n l=some ps->(∀p∈ps,p)-> ∀(j:Nat) a,l[j]? =some a-> ∃qs,pf id n a=some qs∧ ∀q∈qs,q
 | [],ps,h,hp,j,a,ha=>by simp at ha
 |x::l,ps,h,hp,j,a,ha=>by
  unfold pd at h
  obtain⟨q,hq,h⟩:=ae.1 h
  obtain⟨r,hr,rfl⟩:=ab.1 h
  cases j with
  |zero=>
   simp only[ba,ah] at ha
   subst ha
   exact⟨q,hq,fun x hx=>hp x (b8 _ hx)⟩
  |succ j=>exact gK hr (fun x hx=>hp x (bS _ hx)) j a (by simpa using ha)
theorem SRep.shr[Dfs]{cx:Cx}{J J':Sm}{a:Act}{nt id n:Nat}{ps:List Prop}(hs:SRep cx J.st a nt)(h:wA id n J=some (J',ps))(hp: ∀p∈ps,p): ∃cx',SRep cx' J'.st a nt∧Ext cx cx'∧cx'.w=cx.w:=by
 unfold wA at h
 obtain⟨q,hq,h⟩:=ae.1 h
 obtain⟨pe,he,h⟩:=ab.1 h
 simp only[Prod.mk.injEq] at h
 obtain⟨rfl,rfl⟩:=h
 have hget:=mB (l':=q.1) (ps:=q.2) hq fun p hp'=>hp p (b8 _ hp')
 have hget':=mC he fun p hp'=>hp p (bS _ hp')
 have hH:cx.H=aS J.heap:=hs.H
 have one: ∀(x:AV) (v:Value) (qs:List Prop),pf id n x=some qs->(∀q∈qs,q)->Rep cx x v->Rep ⟨cx.w,cx.R,cx.φ,aS q.1,cx.B⟩ x v:=by
  intro x v qs hx hqs hr
  cases x with
  |own i g m off len=>
   obtain⟨b,hb,hle,hO⟩:=hr.own_inv
   have ho:=hr.own_one
   rw[hH] at hb
   rcases hget i with⟨h1,_⟩|⟨b1,b2,rs,h1,h2,h3,h4⟩
   ·rw[hb] at h1;cases h1
   ·rw[hb] at h1;cases h1
    have hgen:b2.gen=b.gen:=by
     unfold nT at h3
     split at h3
     ·obtain⟨_,h3⟩:Nat.beq i id=false∧_:=by
       cases hk:Nat.beq i id with
       |true=>rw[hk] at h3;cases h3
       |false=>exact⟨rfl,by rw[hk] at h3;exact h3⟩
      simp only[aW] at h3
      obtain⟨p,_,h3⟩:=ab.1 h3
      cases h3;rfl
     ·cases hk:Nat.beq i id with
      |true=>rw[hk] at h3;simp only[aK,ah,Prod.mk.injEq] at h3;rw[<-h3.1]
      |false=>rw[hk] at h3;simp only[aW,ah,Prod.mk.injEq] at h3;rw[<-h3.1]
    refine .own h2 (by rw[hgen];exact hle) ho fun e=> ?_
    obtain⟨k,f,k1,k2,k3⟩:=hO (by rw[<-hgen];exact e)
    unfold nT at h3
    simp only[k1] at h3
    simp only[pf] at hx
    cases hk:Nat.beq i id with
    |true=>
     rw[hk] at h3 hx
     simp only[aK,ah,Prod.mk.injEq] at h3 hx
     subst hx
     have hlen:=hqs _ (aA.2 rfl)
     exact⟨n,f,by rw[<-h3.1],hlen,k3⟩
    |false=>
     rw[hk] at h3
     simp only[aW,ah,Prod.mk.injEq] at h3
     exact⟨k,f,by rw[<-h3.1];exact k1,k2,k3⟩
  |bptr i off=>
   obtain⟨g,cap,b,h1,h2,h3,rfl⟩:=hr.bptr_inv
   rw[hH] at h1
   rcases hget i with⟨h4,_⟩|⟨b1,b2,rs,h4,h5,h6,h7⟩
   ·rw[h1] at h4;cases h4
   ·rw[h1] at h4;cases h4
    refine .bptr h5 ?_ h3
    unfold nT at h6
    split at h6
    ·cases hk:Nat.beq i id with
     |true=>rw[hk] at h6;cases h6
     |false=>
      rw[hk] at h6
      simp only[aW] at h6
      obtain⟨p,_,h6⟩:=ab.1 h6
      cases h6;exact h2
    ·rename_i m kk f hc
     have hc':b.c= .rows m kk f:=hc
     rw[hc'] at h2;cases h2
  |eptr i g m k j=>
   simp only[pf] at hx
   obtain⟨b,hb,hle,hE⟩:=hr.eptr_inv
   have ho:=hr.eptr_ptr
   rw[hH] at hb
   cases hk:Nat.beq i id with
   |true=>rw[hk] at hx;cases hx
   |false=>
    rcases hget i with⟨h1,_⟩|⟨b1,b2,rs,h1,h2,h3,h4⟩
    ·rw[hb] at h1;cases h1
    ·rw[hb] at h1;cases h1
     have e2:b2=b:=by
      unfold nT at h3
      simp only[hk,aW] at h3
      split at h3
      ·obtain⟨p,_,h3⟩:=ab.1 h3
       cases h3;rfl
      ·cases h3;rfl
     subst e2
     exact .eptr h2 hle ho hE
  |bsl i m k=>cases hx
  |agg cs=>cases hx
  |tup cs=>cases hx
  |clo f cs=>
   cases cs with
   |cons c cs=>cases hx
   |nil=>
    obtain⟨vs,rfl,hl,_⟩:=hr.clo_inv
    exact .clo hl fun j a v ha _=>by simp at ha
  |_=>cases hr with |pure h=>exact .pure h
 have val: ∀(x:AV) (v:Value) (qs:List Prop),wz id n x=some qs->(∀q∈qs,q)->Rep cx x v->Rep ⟨cx.w,cx.R,cx.φ,aS q.1,cx.B⟩ x v:=by
  intro x v qs hx hqs hr
  cases x with
  |agg cs=>
   obtain⟨vs,rfl,h1,h2,h3⟩:=hr.agg_inv
   refine .agg h1 h2 fun j y u hy hu=> ?_
   obtain⟨rs,r1,r2⟩:=gK hx hqs j y hy
   exact one y u rs r1 r2 (h3 j y u hy hu)
  |clo f cs=>
   cases cs with
   |nil=>exact one _ _ _ hx hqs hr
   |cons c cs=>
    obtain⟨vs,rfl,hl,h3⟩:=hr.clo_inv
    refine .clo hl fun j y u hy hu=> ?_
    obtain⟨rs,r1,r2⟩:=gK hx hqs j y hy
    exact one y u rs r1 r2 (h3 j y u hy hu)
  |_=>exact one _ _ _ hx hqs hr
 refine⟨⟨cx.w,cx.R,cx.φ,aS q.1,cx.B⟩,⟨rfl,⟨fun k b hb=> ?_,fun k k' g c c' h1 h2 h3 h4=> ?_,hs.c.rlt,hs.c.blt⟩,fun t=> ?_,fun k hk=> ?_,hs.sz,hs.df⟩,⟨rfl,fun _ h=>h,fun _ h=> .inl h,rfl,rfl,rfl,ax _,fun _ _ _=>rfl⟩,rfl⟩
 ·rcases hget k with⟨_,h1⟩|⟨b1,b2,rs,h1,h2,h3,h4⟩
  ·have hb':aS q.1 k=some b:=hb
   rw[h1] at hb';cases hb'
  ·have hb':aS q.1 k=some b:=hb
   rw[h2] at hb';cases hb'
   have hold:=hs.c.hb k b1 (by rw[hH];exact h1)
   unfold nT at h3
   unfold HB at hold ⊢
   split at h3
   ·rename_i cs hcs'
    have hcs:b1.c= .box cs:=hcs'
    cases hk:Nat.beq k id with
    |true=>rw[hk] at h3;cases h3
    |false=>
     rw[hk] at h3
     simp only[aW] at h3
     obtain⟨p,hp1,h3⟩:=ab.1 h3
     simp only[Prod.mk.injEq] at h3
     obtain⟨rfl,rfl⟩:=h3
     rw[hcs] at hold ⊢
     simp only at hold ⊢
     obtain⟨g,cur,c1,c2,c3,c4,c5,c6⟩:=hold
     refine⟨g,cur,c1,c2,c3,fun j x hx=> ?_,c5,c6⟩
     obtain⟨u,u1,u2,u3⟩:=c4 j x hx
     obtain⟨ss,s1,s2⟩:=gK hp1 h4 j x hx
     exact⟨u,u1,u2,one x u ss s1 s2 u3⟩
   ·rename_i m kk f hcs'
    have hcs:b1.c= .rows m kk f:=hcs'
    rw[hcs] at hold
    simp only at hold
    cases hk:Nat.beq k id with
    |true=>
     rw[hk] at h3
     simp only[aK,ah,Prod.mk.injEq] at h3
     obtain⟨rfl,rfl⟩:=h3
     have hle:=h4 _ (aA.2 rfl)
     rcases hold with⟨c1,c2⟩|⟨g,cap,cur,c1,c2,c3,c4,c5,c6,c7⟩
     ·exact .inl ⟨c1,by omega⟩
     ·exact .inr ⟨g,cap,cur,c1,c2,c3,by omega,c5,fun i hi j hj=>c6 i (by omega) j hj,c7⟩
    |false=>
     rw[hk] at h3
     simp only[aW,ah,Prod.mk.injEq] at h3
     obtain⟨rfl,rfl⟩:=h3
     rw[hcs]
     exact hold
 ·have conv: ∀i,(aS q.1 i).isSome=true->(cx.H i).isSome=true:=fun i hi=>by
   rw[hH]
   rcases hget i with⟨_,e1⟩|⟨b1,b2,rs,e1,e2,_⟩
   ·rw[e1] at hi;cases hi
   ·rw[e1];rfl
  exact hs.c.inj k k' g c c' (conv k h1) (conv k' h2) h3 h4
 ·obtain⟨rs,r1,r2⟩:=hget' t
  exact val _ _ rs r1 r2 (hs.env t)
 ·have hi:(aS q.1 k).isSome=true:=hk
  have:(cx.H k).isSome=true:=by
   rw[hH]
   rcases hget k with⟨_,e1⟩|⟨b1,b2,rs,e1,e2,_⟩
   ·rw[e1] at hi;cases hi
   ·rw[e1];rfl
  rw[hs.H] at this
  exact hs.lt k this
theorem Ok.shr{nt:Nat}{c:Code}{I:St}{x:X}{id n:Nat}{J K:Sm}{r:List (Nat×Nat)}(h:Ok P nt c I x J.st)(hv:Vc (qw id n J r K)):Ok P nt c I x K.st:=by
 replace hv:=hv.out
 unfold qw at hv
 split at hv
 ·rename_i q hq
  split at hv
  ·rename_i ps hps
   have hall:=fP hv
   intro d0 cx a hs Q hQ
   refine h d0 cx a hs Q fun d1 cx1 a1 hs1 ha1=> ?_
   obtain⟨cx1p,hw,hs1p,hk⟩:=ha1.plus hs1
   obtain⟨cx2,hs2,he2,hw2⟩:=hs1p.shr hq fun p hp=>hall p (b8 _ hp)
   obtain⟨cx3,hs3,he3,hw3⟩:=hs2.le hps fun p hp=>hall p (bS _ hp)
   obtain⟨cx4,e4,hs4,ha4⟩:=hk d1 cx3 _ a1 _ hs3 (.of_ext (he2.trans he3))
   rw[<-hw, <-hw2, <-hw3, <-e4]
   exact hQ d1 cx4 a1 hs4 ha4
  ·cases hv
 ·cases hv
theorem PureC.frozenT{f:FuncId}{args l:List AV}{H:List Blk}(h:PureC P f args (.tup l) H):PureC P f args (.tup (l.map (frz (fun i=>H[i]?)))) []:=by
 intro w R vs hR hl ha
 refine(h w R vs hR hl ha).mono ?_
 rintro e w' ⟨z,cx,rfl,rfl,k1,k2,k3,k4,k5,k6,k7⟩
 obtain⟨cx1,hc1,e2,hs1,hfr⟩:=kg k2 k1 (l.flatMap b7)
 have hz:RepP cx1.w cx1.R (.tup (l.map (frz (fun i=>H[i]?)))) z:=by
  obtain⟨us,rfl,h1,h2⟩: ∃us:Array Value,z= .tuple us∧l.length=us.size∧ ∀(j:Nat) x v,l[j]? =some x->us[j]? =some v->Rep cx x v:=by
   cases k7 with
   |pure h=>cases h with
    |tup hl h=>exact⟨_,rfl,hl,fun j x v h1 h2=> .pure (h j x v h1 h2)⟩
   |tup hl h=>exact⟨_,rfl,hl,h⟩
  refine .tup (by simpa using h1) fun j x v hx hv=> ?_
  rw[aB] at hx
  obtain⟨y,hy,rfl⟩:=ab.1 hx
  exact hfr y v (h2 j y v hy hv) fun i hi=>a9.2 ⟨y,aJ hy,hi⟩
 refine⟨z,⟨cx1.w,cx1.R,fun _=>none,fun i=>([]:List Blk)[i]?,cx1.B⟩,rfl,e2.symm,rfl,kj hc1,by rw[hs1.ext.B];exact k3,fun g hg=>hs1.ext.R g (k4 g hg),fun g hg=> ?_,k6,.pure hz⟩
 rcases hs1.ext.Rn g hg with h1 |h1
 ·exact k5 g h1
 ·rw[k3] at h1;exact .inr (bX.1 h1)
end
end
end Go.Proofs.Ytlfldlnohmobmaa.Rx
namespace Go.Proofs.Ytlfldlnohmobmaa.Px
section
open Go.RowKit Go.Proofs.Ytlfldlnohmobmaa.Rx
def dD(l:List Int):Nat->Nat->AV:=fun i _=> .int .i64 (l.getD i 0)
def lR(l:List Int):AV:= .row 1 l.length (dD l)
end
end Go.Proofs.Ytlfldlnohmobmaa.Px
namespace Go.Proofs.Ytlfldlnohmobmaa.Rx
section
open Go.RowKit
theorem rf{α:Type}(a:α):a=a:=rfl
theorem rr(n m:Nat)(f:Nat->Nat->AV): ∀i,i<n-> ∀j,j<m->f i j=f i j:=fun _ _ _ _=>rfl
abbrev RF{α:Type}(a:α)(Z:Prop):Prop:=a=a∧Z
abbrev RR(n m:Nat)(f:Nat->Nat->AV)(Z:Prop):Prop:=(∀i,i<n-> ∀j,j<m->f i j=f i j)∧Z
theorem cj{a b:Prop}(x:a)(y:b):a∧b:=⟨x,y⟩
theorem ar{p q:Prop}(hq:q)(h:p=q:=by kernel_rfl):Vc p:=⟨h.mpr hq⟩
theorem i6(n:Int)(h1: -9223372036854775808<=n:=by omega)(h2:n<=9223372036854775807:=by omega):inK .i64 n:=⟨h1,h2⟩
theorem dt(p:Prop)[Decidable p](h:p:=by first |omega | (simp;omega)| (simp;done)):decide p=true:=cO h
theorem df(p:Prop)[Decidable p](h: ¬p:=by first |omega | (simp;omega)| (simp;done)):decide p=false:=dQ h
theorem pv(p:Prop)(h:p:=by first |omega |rfl | (simp;done)| (simp;omega)):p:=h
theorem bq(p:Prop)(h:p:=by first |rfl |exact af.2 (by omega)|exact aG.2 (by omega)|exact kA.2 (by omega)|exact bw.2 (by omega)| (simp;done)| (simp;omega)):p:=h
abbrev aI(n:Int):AV:= .int .i64 n
theorem ap(x y s:Nat)(h:(x+y)*s<=140737488355328:=by omega)(h2:x+y<=140737488355328:=by omega):(0:Nat)=0∧x=x∧(x+y)*s<=140737488355328∧x+y<=140737488355328:=⟨rfl,rfl,h,h2⟩
theorem bi(a b:Int)(h:0<=a:=by omega)(h2:a<b:=by omega):0<=a∧a<b:=⟨h,h2⟩
theorem za(n:Nat):0+n=n:=bn n
theorem e1(a b:Int)(h:a=b:=by omega):(a==b)=true:=aG.2 h
theorem e0(a b:Int)(h:a≠b:=by omega):(a==b)=false:=af.2 h
theorem n1(a b:Int)(h:a≠b:=by omega):(a !=b)=true:=kA.2 h
theorem n0(a b:Int)(h:a=b:=by omega):(a !=b)=false:=bw.2 h
section
variable{P:Program}
def OkL(P:Program)(nt:Nat)(c:Code)(I:St)(x:X)(J:St):Prop:=
 ∃n, ∀(d:Dfs) cx a,SRep cx I a nt-> ∀Q:Exit->Act->World->Prop,(∀(d':Dfs) cx' a', @SRep d' cx' J a' nt->After true d cx d' cx'->Q x.to a' cx'.w)->Code.rounds P c Q n a cx.w
theorem OkL.exit{nt:Nat}{c:Code}{I J:St}{x:X}(h:Ok P nt c I x J)(hx:x≠ .nrm):OkL P nt c I x J:=by
 refine⟨1,fun d cx a hs Q hQ=> ?_⟩
 rw[rounds_succ]
 refine h d cx a hs _ fun d2 cx2 a2 hs2 he2=> ?_
 have:=hQ d2 cx2 a2 hs2 he2
 cases x with
 |nrm=>exact absurd rfl hx
 |ext id=>exact this
 |ret=>exact this
theorem OkL.step{nt:Nat}{c:Code}{I J K:St}{x:X}(h1:Ok P nt c I .nrm K)(h2:OkL P nt c K x J):OkL P nt c I x J:=by
 obtain⟨n,h2⟩:=h2
 refine⟨n+1,fun d cx a hs Q hQ=> ?_⟩
 rw[rounds_succ]
 refine h1 d cx a hs _ fun d2 cx2 a2 hs2 ha2=> ?_
 obtain⟨cx2p,hw,hs2p,hk⟩:=ha2.plus hs2
 show Code.rounds _ _ _ _ _ cx2.w
 rw[<-hw]
 exact h2 d2 cx2p a2 hs2p Q fun d3 cx3 a3 hs3 ha3=>by
  obtain⟨cx4,e4,hs4,ha4⟩:=hk d3 cx3 _ a3 _ hs3 ha3
  rw[<-e4]
  exact hQ d3 cx4 a3 hs4 ha4
theorem OkL.ok{nt:Nat}{c:Code}{I J:St}{x:X}(h:OkL P nt c I x J):Ok P nt (.loop c) I x J:=by
 obtain⟨n,h⟩:=h
 exact fun d cx a hs Q hQ=>wp_loop_rounds n (h d cx a hs Q hQ)
end
end
end Go.Proofs.Ytlfldlnohmobmaa.Rx
namespace Go.Proofs.Ytlfldlnohmobmaa.Px
section
open Go.RowKit Go.Proofs.Ytlfldlnohmobmaa.Rx
end
end Go.Proofs.Ytlfldlnohmobmaa.Px
namespace Go.Proofs.Ytlfldlnohmobmaa
section
open Go.RowKit
namespace Wd
def okB(w:Int):Bool:=decide (1<=w)&&decide (w<=16)
def sizeV(w:Int):Int:=if okB w=true then 2^w.toNat else 0
def maskV(w n:Int):Int:=if okB w=true then n%2^w.toNat else 0
def B3(x y:Int):Int:=((x.toNat&&&y.toNat:Nat):Int)
def orI(x y:Int):Int:=((x.toNat|||y.toNat:Nat):Int)
def zg(x y:Int):Int:=((x.toNat^^^y.toNat:Nat):Int)
def ij(op x y:Int):Int:=
 if op=1 then x+y else if op=2 then x-y else if op=3 then B3 x y else if op=4 then orI x y else if op=5 then zg x y
 else if op=6 then x*2^y.toNat else if op=7 then x/2^y.toNat else if op=8 then x*y
 else if op=9 then(if x<y then 1 else 0) else if op=10 then(if x=y then 1 else 0) else 0
def opB(op:Int):Bool:=decide (1<=op)&&decide (op<=10)
def doV(w op a b:Int):Int:=maskV w (ij op (maskV w a) (maskV w b))
def doB(w op:Int):Bool:=okB w&&opB op
theorem okB_iff{w:Int}:okB w=true↔1<=w∧w<=16:=by simp[okB]
theorem jo{w:Int}(h:okB w=true): ∃k:Nat,w=k∧1<=k∧k<=16:=by
 rw[okB_iff] at h;exact⟨w.toNat,by omega,by omega,by omega⟩
theorem lO{k:Nat}(h:k<=16):(2:Int)^k<=65536:=by
 have:(2:Nat)^k<=2^16:=fj (by omega) h
 have h2:((2^k:Nat):Int)<=((2^16:Nat):Int):=by exact_mod_cast this
 simpa using h2
theorem pow_pos(k:Nat):(1:Int)<=2^k:=by
 have:1<=2^k:=Nat.one_le_two_pow
 have h2:((1:Nat):Int)<=((2^k:Nat):Int):=by exact_mod_cast this
 simpa using h2
theorem maskV_bd(w n:Int):0<=maskV w n∧maskV w n<65536:=by
 unfold maskV;split
 ·rename_i h
  obtain⟨k,rfl,_,hk⟩:=jo h
  have h1:=lO hk;have h2:=pow_pos k
  simp only[aE]
  have:=Int.emod_nonneg n (b:=2^k) (by omega);have:=Int.emod_lt_of_pos n (b:=2^k) (by omega);omega
 ·omega
theorem sizeV_bd(w:Int):0<=sizeV w∧sizeV w<=65536:=by
 unfold sizeV;split
 ·rename_i h;obtain⟨k,rfl,_,hk⟩:=jo h;have:=lO hk;have:=pow_pos k;simp only[aE];omega
 ·omega
theorem d6{w n:Int}(h:okB w=true):maskV w n<sizeV w:=by
 unfold maskV sizeV;rw[ao h,ao h]
 exact Int.emod_lt_of_pos _ (by have:=pow_pos w.toNat;omega)
theorem maskV_of_lt{w n:Int}(h:okB w=true)(h0:0<=n)(h1:n<sizeV w):maskV w n=n:=by
 unfold maskV;unfold sizeV at h1;rw[ao h] at*;exact Int.emod_eq_of_lt h0 h1
theorem maskV_idem(w n:Int):maskV w (maskV w n)=maskV w n:=by
 by_cases h:okB w=true
 ·exact maskV_of_lt h (maskV_bd w n).1 (d6 h)
 ·simp[maskV,h]
theorem bits_mask(n:Int)(k:Nat)(hk:k<=16):bits .and .i64 n (2^k-1)=n%2^k:=by
 have e:(BitVec.ofInt 64 n&&&BitVec.ofInt 64 (2^k-1)).toNat=(n%2^k).toNat:=by
  have h2:(2:Int)^k<=65536:=lO hk
  have h3:=pow_pos k
  have e1:(BitVec.ofInt 64 ((2:Int)^k-1)).toNat=2^k-1:=by
   have h4:2^k<=65536:=by have:=fj (n:=2) (by omega) hk;simpa using this
   have h5:1<=2^k:=Nat.one_le_two_pow
   have:((2:Int)^k-1)=((2^k-1:Nat):Int):=by
    rw[Int.ofNat_sub h5];simp
   rw[this,BitVec.ofInt_natCast,BitVec.toNat_ofNat];omega
  rw[BitVec.toNat_and,e1,Nat.and_two_pow_sub_one_eq_mod,BitVec.toNat_ofInt]
  have h6:(2:Nat)^64=2^k*2^(64-k):=by rw[<-Nat.pow_add];congr 1;omega
  have h7:((2^64:Nat):Int)=2^k*2^(64-k):=by rw[h6];simp
  have h8:(((n%((2^64:Nat):Int)).toNat%2^k:Nat):Int)=n%2^k:=by
   have:=Int.emod_nonneg n (b:=((2^64:Nat):Int)) (by omega)
   rw[Int.natCast_emod,Int.toNat_of_nonneg this,Int.natCast_pow]
   exact Int.emod_emod_of_dvd n ⟨2^(64-k),h7⟩
  omega
 show IntKind.i64.wrap (((BitVec.ofInt 64 n&&&BitVec.ofInt 64 (2^k-1):BitVec 64).toNat:Nat):Int)=_
 have h2:(2:Int)^k<=65536:=lO hk
 have h3:=pow_pos k
 have:=Int.emod_nonneg n (b:=2^k) (by omega);have:=Int.emod_lt_of_pos n (b:=2^k) (by omega)
 rw[e,Int.toNat_of_nonneg (by omega)]
 exact IntWalk.i64_in _ (by omega)
theorem de{x:Int}(h0:0<=x)(h1:x<65536):(BitVec.ofInt 64 x).toNat=x.toNat:=by
 rw[BitVec.toNat_ofInt];congr 1;exact Int.emod_eq_of_lt h0 (by omega)
theorem sJ{x y:Int}(h0:0<=x)(h1:x<65536)(h2:0<=y)(h3:y<65536):bits .and .i64 x y=B3 x y:=by
 show IntKind.i64.wrap (((BitVec.ofInt 64 x&&&BitVec.ofInt 64 y:BitVec 64).toNat:Nat):Int)=((x.toNat&&&y.toNat:Nat):Int)
 rw[BitVec.toNat_and,de h0 h1,de h2 h3]
 have:=Nat.and_lt_two_pow (n:=16) x.toNat (show y.toNat<2^16 by omega)
 exact IntWalk.i64_in _ (by omega)
theorem uO{x y:Int}(h0:0<=x)(h1:x<65536)(h2:0<=y)(h3:y<65536):bits .or .i64 x y=orI x y:=by
 show IntKind.i64.wrap (((BitVec.ofInt 64 x|||BitVec.ofInt 64 y:BitVec 64).toNat:Nat):Int)=((x.toNat|||y.toNat:Nat):Int)
 rw[BitVec.toNat_or,de h0 h1,de h2 h3]
 have:=Nat.or_lt_two_pow (n:=16) (show x.toNat<2^16 by omega) (show y.toNat<2^16 by omega)
 exact IntWalk.i64_in _ (by omega)
theorem sI{x y:Int}(h0:0<=x)(h1:x<65536)(h2:0<=y)(h3:y<65536):bits .xor .i64 x y=zg x y:=by
 show IntKind.i64.wrap (((BitVec.ofInt 64 x^^^BitVec.ofInt 64 y:BitVec 64).toNat:Nat):Int)=((x.toNat^^^y.toNat:Nat):Int)
 rw[BitVec.toNat_xor,de h0 h1,de h2 h3]
 have:=Nat.xor_lt_two_pow (n:=16) (show x.toNat<2^16 by omega) (show y.toNat<2^16 by omega)
 exact IntWalk.i64_in _ (by omega)
def po(op x y:Int):Int:=if op=6 then wrap64 (x*2^(min y.toNat 64)) else ij op x y
def tI(b:Bool):Int:=if b=true then 1 else 0
theorem mul_bd{x y:Int}(h0:0<=x)(h1:x<65536)(h2:0<=y)(h3:y<65536):0<=x*y∧x*y<=4294836225:=by
 have a:=Int.mul_nonneg h0 h2
 have b:x*y<=65535*65535:=Int.mul_le_mul (by omega) (by omega) h2 (by omega)
 omega
theorem ox{x:Int}(h0:0<=x)(h1:x<65536){n:Nat}(hn:16<=n):x/2^n=0:=by
 refine Int.ediv_eq_zero_of_lt h0 ?_
 have:(2:Nat)^16<=2^n:=fj (by omega) hn
 have h2:((2^16:Nat):Int)<=((2^n:Nat):Int):=by exact_mod_cast this
 simp only[Int.natCast_pow] at h2
 have:((2:Nat):Int)^16=65536:=by decide
 have e:(((2:Nat):Int))^n=2^n:=rfl
 omega
theorem tG{x y:Int}(h0:0<=x)(h1:x<65536):x/2^(min y.toNat 64)=x/2^y.toNat:=by
 by_cases h:y.toNat<=64
 ·rw[Nat.min_eq_left h]
 ·rw[Nat.min_eq_right (by omega),ox h0 h1 (by omega),ox h0 h1 (by omega)]
theorem mw(n:Int)(k:Nat)(hk:k<=16):wrap64 n%2^k=n%2^k:=by
 have h6:(2:Nat)^64=2^k*2^(64-k):=by rw[<-Nat.pow_add];congr 1;omega
 have h7:((2^64:Nat):Int)=2^k*2^(64-k):=by rw[h6];simp
 have h8:((2^64:Nat):Int)=18446744073709551616:=by decide
 obtain⟨q,hq⟩: ∃q,wrap64 n=n+18446744073709551616*q:=⟨-((n+9223372036854775808)/18446744073709551616),by unfold wrap64;omega⟩
 rw[hq, <-h8,h7,Int.mul_assoc]
 exact Int.add_mul_emod_self_left ..
theorem oA{x:Int}{k n:Nat}(h:k<=n):(x*2^n)%2^k=0:=by
 have:n=k+(n-k):=by omega
 rw[this,Int.pow_add, <-Int.mul_assoc,Int.mul_comm x,Int.mul_assoc]
 exact Int.mul_emod_right ..
theorem ii(w op x y:Int):maskV w (po op x y)=maskV w (ij op x y):=by
 unfold po
 split
 ·rename_i h
  subst h
  have e:ij 6 x y=x*2^y.toNat:=by simp[ij]
  rw[e]
  unfold maskV
  split
  ·rename_i h
   obtain⟨k,rfl,_,hk⟩:=jo h
   simp only[aE]
   rw[mw _ _ hk]
   by_cases h2:y.toNat<=64
   ·rw[Nat.min_eq_left h2]
   ·rw[oA (by omega),oA (by omega)]
  ·rfl
 ·rfl
theorem wI{op x y:Int}(h:op<1∨10<op):ij op x y=0:=by
 simp[ij,show op≠1 by omega,show op≠2 by omega,show op≠3 by omega,show op≠4 by omega,show op≠5 by omega,show op≠6 by omega,show op≠7 by omega,show op≠8 by omega,show op≠9 by omega,show op≠10 by omega]
theorem CH(x y:Int):tI (decide (x<y))=po 9 x y:=by simp[tI,po,ij]
theorem zY(x y:Int):tI (x==y)=po 10 x y:=by simp[tI,po,ij]
theorem opB_no{op:Int}(h:op<1∨10<op):opB op=false:=by simp[opB];omega
end Wd
end
end Go.Proofs.Ytlfldlnohmobmaa
namespace Go.Proofs.Ytlfldlnohmobmaa.Px
section
open Go.RowKit Go.Proofs.Ytlfldlnohmobmaa.Rx
structure Mm where
 nm:ByteArray
 sec:Bool
 n:Nat
instance:Inhabited Mm:=⟨⟨.empty,false,0⟩⟩
structure Pl where
 reg:Bool
 n:Nat
 sec:Bool
 deriving Inhabited
def mmC(m:Mm)(j:Nat):AV:=[.str m.nm,.bool m.sec,.int .i64 m.n].getD j .junk
def gi(W r0 r1 r2 r3:Int)(M:AV):List AV:=[.int .i64 W,.junk,.junk,.int .i64 r0,.int .i64 r1,.int .i64 r2,.int .i64 r3,M,.junk,.junk]
def i9(ms:List Mm):AV:= .row 3 ms.length (au mmC ms)
def aQ:List Mm->Nat
 | []=>0
 |m::l=>m.n+aQ l
def rg(r0 r1 r2 r3:Int)(i:Nat):Int:=[r0,r1,r2,r3].getD i 0
def zX(r:Nat->Int):Nat->List Pl
 |0=>[]
 |k+1=>zX r k++(if r k=0 then[] else[⟨true,k,r k==2⟩])
def Dj(sec:Bool)(at_ k:Nat):List Pl:=(List.range k).map fun i=>⟨false,at_+i,sec⟩
def AW:Nat->List Mm->List Pl
 |_,[]=>[]
 |at_,m::l=>Dj m.sec at_ m.n++AW (at_+m.n) l
def places(r:Nat->Int)(ms:List Mm):List Pl:=zX r 4++AW 0 ms
theorem o8{ms:List Mm}{k:Nat}(hk:k<ms.length):aQ (ms.take (k+1))=aQ (ms.take k)+(ms.getD k default).n:=by
 induction ms generalizing k with
 |nil=>simp at hk
 |cons m l ih=>
  cases k with
  |zero=>simp[aQ]
  |succ k=>
   have:=ih (k:=k) (by simpa using hk)
   simp only[List.take_succ_cons,aQ,this,List.getD_cons_succ]
   omega
theorem lG(ms:List Mm)(k:Nat):aQ (ms.take k)<=aQ ms:=by
 induction ms generalizing k with
 |nil=>simp
 |cons m l ih=>
  cases k with
  |zero=>simp[aQ]
  |succ k=>simp only[List.take_succ_cons,aQ];have:=ih k;omega
structure S7 where
 r0:Int
 r1:Int
 r2:Int
 r3:Int
 m:List Int
def stZ(a:AV):List AV:=[.int .i64 0,.int .i64 0,.int .i64 0,.int .i64 0,a,.nils,.int .i64 0]
def bx(e:TypeId)(cs:List AV):Blk:=⟨0,false,e,.box cs⟩
def gd(l:List Int):Blk:=⟨0,false,3,.rows 1 l.length (dD l)⟩
theorem qU{m:List Int}{n i j:Nat}{v:Int}{a:AV}(hi:i<m.length)(ha:a= .int .i64 v):(bif Nat.beq i n then a else dD m i j)=dD (m.set n v) i j:=by
 unfold dD
 subst ha
 by_cases h:i=n
 ·subst h
  simp[List.getD,hi]
 ·have:Nat.beq i n=false:=by
   cases hb:Nat.beq i n with
   |false=>rfl
   |true=>exact absurd (ai hb) h
  rw[this]
  simp[List.getD,cD,Ne.symm h]
theorem tL{m:List Int}{n:Nat}{v:Int}: ∀i,i<m.length-> ∀j,j<1->(bif Nat.ble 0 j&&Nat.blt j 1&&Nat.beq i (n+0) then[AV.int .i64 v].getD (j-0) .junk else AV.int .i64 (m.getD i 0))= .int .i64 ((m.set n v).getD i 0):=by
 intro i hi j hj
 obtain rfl:j=0:=by omega
 show(bif Nat.beq i n then AV.int .i64 v else AV.int .i64 (m.getD i 0))=_
 exact qU (m:=m) (i:=i) (j:=0) (n:=n) (v:=v) hi rfl
structure Vl where
 reg:Bool
 n:Int
structure In where
 kind:Int
 op:Int
 d:Int
 a:Vl
 b:Vl
 nm:ByteArray
 tg:Int
structure Lb where
 nm:ByteArray
 at_:Int
structure Pg where
 W:Int
 win:Int
 fuel:Int
 r0:Int
 r1:Int
 r2:Int
 r3:Int
 ms:List Mm
 ls:List Lb
 is:List In
structure S8 where
 r0:Int
 r1:Int
 r2:Int
 r3:Int
 m:List Int
 st:List Int
 pc:Int
structure Ob where
 k:Int
 a:Int
def In0:In:=⟨0,0,0,⟨false,0⟩,⟨false,0⟩,⟨#[]⟩,0⟩
instance:Inhabited In:=⟨In0⟩
instance:Inhabited Lb:=⟨⟨⟨#[]⟩,0⟩⟩
instance:Inhabited Ob:=⟨⟨0,0⟩⟩
def inA(i:In):List AV:=[.int .i64 i.kind,.int .i64 i.op,.int .i64 i.d,.bool i.a.reg,.int .i64 i.a.n,.bool i.b.reg,.int .i64 i.b.n,.str i.nm,.int .i64 i.tg]
def inC(i:In)(j:Nat):AV:=(inA i).getD j .junk
def inR(l:List In):AV:= .row 9 l.length (au inC l)
def vlA(v:Vl):List AV:=[.bool v.reg,.int .i64 v.n]
def lbC(l:Lb)(j:Nat):AV:=[AV.str l.nm,.int .i64 l.at_].getD j .junk
def lbR(l:List Lb):AV:= .row 2 l.length (au lbC l)
def obC(o:Ob)(j:Nat):AV:=[AV.int .i64 o.k,.int .i64 o.a].getD j .junk
def obR(l:List Ob):AV:= .row 2 l.length (au obC l)
def pgA(p:Pg):List AV:=[.int .i64 p.W,.int .i64 p.win,.int .i64 p.fuel,.int .i64 p.r0,.int .i64 p.r1,.int .i64 p.r2,.int .i64 p.r3,i9 p.ms,lbR p.ls,inR p.is]
def s8A(s:S8)(am ak:AV):List AV:=[.int .i64 s.r0,.int .i64 s.r1,.int .i64 s.r2,.int .i64 s.r3,am,ak,.int .i64 s.pc]
def atI(p:Pg)(pc:Int):In:=if 0<=pc∧pc<p.is.length then p.is.getD pc.toNat default else{In0 with kind:=12}
def S8.reg(s:S8)(n:Int):Int:=if n=0 then s.r0 else if n=1 then s.r1 else if n=2 then s.r2 else s.r3
def S8.set(s:S8)(n v:Int):S8:=⟨if n=0 then v else s.r0,if n=1 then v else s.r1,if n=2 then v else s.r2,if n=3 then v else s.r3,s.m,s.st,s.pc⟩
def vlV(W:Int)(s:S8)(v:Vl):Int:=if v.reg=true then s.reg v.n else Wd.maskV W v.n
def okV(v:Vl):Prop:=v.reg=true->0<=v.n∧v.n<4
def okR(s:S8):Prop:=(0<=s.r0∧s.r0<65536)∧(0<=s.r1∧s.r1<65536)∧(0<=s.r2∧s.r2<65536)∧(0<=s.r3∧s.r3<65536)
def OkI(i:In)(len:Int):Prop:=(1<=i.kind∧i.kind<=12)∧okV i.a∧okV i.b∧(0<=i.d∧i.d<4)∧(0<=i.tg∧i.tg<=len)
structure OkP (p:Pg):Prop where
 ins: ∀i∈p.is,OkI i p.is.length
 len:p.is.length<1000
 ms:p.ms.length<1000
 sum:aQ p.ms<=16
structure OkS (c len:Int) (s:S8):Prop where
 reg:okR s
 mem: ∀x∈s.m,0<=x∧x<65536
 c:c=s.m.length
 pc: -1<=s.pc∧s.pc<=len
 st:s.st.length<=100
 stk: ∀x∈s.st, -1<=x∧x<=len
def s8R(s:S8):List AV:=s8A s (lR s.m) (lR s.st)
theorem ki{n:Int}(h0:0<=n)(h1:n<4):n=0∨n=1∨n=2∨n=3:=by omega
theorem S8.reg_bd{s:S8}(h:okR s)(n:Int):0<=s.reg n∧s.reg n<65536:=by
 obtain⟨h0,h1,h2,h3⟩:=h
 unfold S8.reg
 repeat' split
 all_goals assumption
theorem lF{W:Int}{s:S8}(h:okR s)(v:Vl):0<=vlV W s v∧vlV W s v<65536:=by
 unfold vlV
 split
 ·exact S8.reg_bd h _
 ·exact Wd.maskV_bd _ _
theorem ot{p:Pg}{pc:Int}(h0:0<=pc)(h1:pc<p.is.length):atI p pc=p.is.getD pc.toNat default:=ao ⟨h0,h1⟩
theorem g7{p:Pg}{pc:Int}(h: ¬(0<=pc∧pc<p.is.length)):atI p pc={In0 with kind:=12}:=aj h
theorem AC:okV ⟨false,0⟩:=fun h=>by cases h
theorem fO{p:Pg}(h:OkP p)(pc:Int):OkI (atI p pc) p.is.length∧((atI p pc).kind≠12->0<=pc∧pc<p.is.length):=by
 by_cases hp:0<=pc∧pc<p.is.length
 ·rw[ot hp.1 hp.2]
  refine⟨h.ins _ ?_,fun _=>hp⟩
  have hlt:pc.toNat<p.is.length:=by omega
  simp[List.getD,hlt]
 ·rw[g7 hp]
  exact⟨⟨⟨by show(1:Int)<=12;decide,by show(12:Int)<=12;decide⟩,AC,AC,⟨by show(0:Int)<=0;decide,by show(0:Int)<4;decide⟩,by show(0:Int)<=0;decide,by show(0:Int)<=_;omega⟩,fun hk=>absurd rfl hk⟩
theorem wB{s:S8}(h:okR s)(n:Int){v:Int}(hv:0<=v∧v<65536):okR (s.set n v):=by
 obtain⟨h0,h1,h2,h3⟩:=h
 refine⟨?_, ?_, ?_, ?_⟩<;>(show 0<=(if _ then v else _)∧(if _ then v else _)<65536)<;>split<;>assumption
theorem xB(W op a b:Int):0<=Wd.doV W op a b∧Wd.doV W op a b<65536:=Wd.maskV_bd _ _
theorem w4{m:List Int}(h: ∀x∈m,0<=x∧x<65536)(n:Nat):0<=m.getD n 0∧m.getD n 0<65536:=by
 by_cases hn:n<m.length
 ·exact h _ (by simp[List.getD,hn])
 ·simp[List.getD,dw (bX.1 hn)]
end
end Go.Proofs.Ytlfldlnohmobmaa.Px
namespace Go.Proofs.Ytlfldlnohmobmaa
section
open Go.RowKit
namespace Wd
theorem sizeV_pos{w:Int}(h:okB w=true):2<=sizeV w:=by
 obtain⟨k,rfl,h1,hk⟩:=jo h
 unfold sizeV;rw[ao h,aE]
 have:(2:Nat)^1<=2^k:=fj (by omega) h1
 have h2:((2^1:Nat):Int)<=((2^k:Nat):Int):=by exact_mod_cast this
 simpa using h2
end Wd
namespace Wd
theorem jR{w x:Int}(h:okB w=true)(h1:x<sizeV w)(h0:0<=x):x.toNat<2^w.toNat:=by
 unfold sizeV at h1;rw[ao h] at h1
 have:((2^w.toNat:Nat):Int)=2^w.toNat:=by simp
 omega
theorem jQ{w:Int}{m:Nat}(h:okB w=true)(h1:m<2^w.toNat):maskV w (m:Int)=(m:Int):=by
 refine maskV_of_lt h (by omega) ?_
 unfold sizeV;rw[ao h]
 have:((2^w.toNat:Nat):Int)=2^w.toNat:=by simp
 omega
theorem ref3{w a b:Int}(h:okB w=true):bits .and .i64 (maskV w a) (maskV w b)=doV w 3 a b:=by
 have ha:=maskV_bd w a;have hb:=maskV_bd w b
 rw[sJ ha.1 ha.2 hb.1 hb.2];unfold doV;simp only[ij];simp
 refine(jQ h ?_).symm
 exact Nat.and_lt_two_pow _ (jR h (d6 h) hb.1)
theorem ref4{w a b:Int}(h:okB w=true):bits .or .i64 (maskV w a) (maskV w b)=doV w 4 a b:=by
 have ha:=maskV_bd w a;have hb:=maskV_bd w b
 rw[uO ha.1 ha.2 hb.1 hb.2];unfold doV;simp only[ij];simp
 refine(jQ h ?_).symm
 exact Nat.or_lt_two_pow (jR h (d6 h) ha.1) (jR h (d6 h) hb.1)
theorem ref5{w a b:Int}(h:okB w=true):bits .xor .i64 (maskV w a) (maskV w b)=doV w 5 a b:=by
 have ha:=maskV_bd w a;have hb:=maskV_bd w b
 rw[sI ha.1 ha.2 hb.1 hb.2];unfold doV;simp only[ij];simp
 refine(jQ h ?_).symm
 exact Nat.xor_lt_two_pow (jR h (d6 h) ha.1) (jR h (d6 h) hb.1)
theorem CG{w a b:Int}(hw:okB w=true):maskV w a/2^(maskV w b).toNat=doV w 7 a b:=by
 have ha:=maskV_bd w a
 have hl:=d6 (n:=a) hw
 unfold doV;simp only[ij];simp
 refine(maskV_of_lt hw ?_ ?_).symm
 ·exact Int.ediv_nonneg ha.1 (by have:=pow_pos (maskV w b).toNat;omega)
 ·have:=Int.ediv_le_self (2^(maskV w b).toNat) ha.1;omega
theorem ref7'{w a b:Int}(hw:okB w=true):maskV w a/2^min (maskV w b).toNat 64=doV w 7 a b:=by
 rw[tG (maskV_bd w a).1 (maskV_bd w a).2];exact CG hw
theorem mask_one{w:Int}(hw:okB w=true)(b:Bool):maskV w (tI b)=tI b:=by
 have:=sizeV_pos hw
 exact maskV_of_lt hw (by unfold tI;split<;>omega) (by unfold tI;split<;>omega)
theorem ref6{w a b:Int}:maskV w (wrap64 (maskV w a*2^(min (maskV w b).toNat 64)))=doV w 6 a b:=by
 unfold doV;rw[<-ii];rfl
theorem ref1{w a b:Int}:maskV w (maskV w a+maskV w b)=doV w 1 a b:=rfl
theorem ref2{w a b:Int}:maskV w (maskV w a-maskV w b)=doV w 2 a b:=rfl
theorem ref0{w a b op:Int}(h:op<1∨10<op):0=doV w op a b:=by
 unfold doV;rw[wI h];simp[maskV]
theorem ref9{w a b:Int}(hw:okB w=true):tI (decide (maskV w a<maskV w b))=doV w 9 a b:=by
 rw[<-mask_one hw];unfold doV;rw[CH,ii]
theorem ref10{w a b:Int}(hw:okB w=true):tI (maskV w a==maskV w b)=doV w 10 a b:=by
 rw[<-mask_one hw];unfold doV;rw[zY,ii]
end Wd
end
end Go.Proofs.Ytlfldlnohmobmaa
namespace Go.Proofs.Ytlfldlnohmobmaa.Px
section
open Go.RowKit Go.Proofs.Ytlfldlnohmobmaa.Rx
def pgP(p:Pg):AV:= .rptr 10 (fun q=>(pgA p).getD q .junk) 0
theorem rp{w:Int}(h: ¬(1<=w∧w<=16)):Wd.okB w=false:=by
 cases hb:Wd.okB w with
 |false=>rfl
 |true=>exact absurd (Wd.okB_iff.1 hb) h
theorem rL{w n:Int}(h: ¬(1<=w∧w<=16)):Wd.maskV w n=0:=by simp[Wd.maskV,rp h]
theorem bM{w:Int}(h:1<=w∧w<=16):Wd.okB w=true:=Wd.okB_iff.2 h
abbrev vC_(f:FuncId)(k:Nat):=vcC Try.prog false (cF Try.prog f) (lpC Try.prog f k)
abbrev vF_:=wl Try.prog false
abbrev oL_(f:FuncId)(k:Nat):=Ok Try.prog (cF Try.prog f) (.loop (lpC Try.prog f k))
abbrev pC_:=PureC Try.prog
theorem wJ(p:Pg)(pc:Int)(h0:0<=pc)(h1:pc<p.is.length):Vc (vF_ 13 [.agg (pgA p), aI pc] [.fz,.bd false,.bd false] [] (.agg (inA (p.is.getD pc.toNat default))) []):=ar (cj (df (pc<0)) (cj (df (pc>=(↑p.is.length:Int))) (cj (bi pc p.is.length) (cj (rf ((p.is.getD (Int.toNat pc) default).kind)) (cj (rf ((p.is.getD (Int.toNat pc) default).op)) (cj (rf ((p.is.getD (Int.toNat pc) default).d)) (cj (rf ((p.is.getD (Int.toNat pc) default).a.reg)) (cj (rf ((p.is.getD (Int.toNat pc) default).a.n)) (cj (rf ((p.is.getD (Int.toNat pc) default).b.reg)) (cj (rf ((p.is.getD (Int.toNat pc) default).b.n)) (cj (rf ((p.is.getD (Int.toNat pc) default).nm)) (cj (rf ((p.is.getD (Int.toNat pc) default).tg)) trivial))))))))))))
theorem y7{Z:Prop}(z:Z):(RF (12:Int) (RF (0:Int) (RF (0:Int) (RF false (RF (0:Int) (RF false (RF (0:Int) (RF (ByteArray.mk (Array.mk [])) (RF (0:Int) Z))))))))):=⟨rfl,rfl,rfl,rfl,rfl,rfl,rfl,rfl,rfl,z⟩
theorem tW(p:Pg)(pc:Int)(h0: ¬0<=pc):Vc (vF_ 13 [.agg (pgA p), aI pc] [.fz,.bd true] [] (.agg (inA {In0 with kind:=12})) []):=ar (cj (dt (pc<0)) (y7 trivial))
theorem tV(p:Pg)(pc:Int)(h0:0<=pc)(h1: ¬pc<p.is.length):Vc (vF_ 13 [.agg (pgA p), aI pc] [.fz,.bd false,.bd true] [] (.agg (inA {In0 with kind:=12})) []):=ar (cj (df (pc<0)) (cj (dt (pc>=(↑p.is.length:Int))) (y7 trivial)))
theorem ed(p:Pg)(pc:Int):pC_ 13 [.agg (pgA p),.int .i64 pc] (.agg (inA (atI p pc))) []:=by
 by_cases h0:0<=pc
 ·by_cases h1:pc<p.is.length
  ·rw[ot h0 h1];exact PureC.vc (wJ p pc h0 h1)
  ·rw[g7 fun h=>h1 h.2];exact PureC.vc (tV p pc h0 h1)
 ·rw[g7 fun h=>h0 h.1];exact PureC.vc (tW p pc h0)
structure En where
 pc:Int
 val:Int
 adr:Int
 frm:Int
 nxt:Int
 dn:Bool
 kn:Bool
 ft:Bool
 deriving DecidableEq
def En0:En:=⟨0,0,0,0,0,false,false,false⟩
instance:Inhabited En:=⟨En0⟩
def enA(e:En):List AV:=[.int .i64 e.pc,.int .i64 e.val,.int .i64 e.adr,.int .i64 e.frm,.int .i64 e.nxt,.bool e.dn,.bool e.kn,.bool e.ft]
def enC(e:En)(j:Nat):AV:=(enA e).getD j .junk
def enR(l:List En):AV:= .row 8 l.length (au enC l)
def enB(l:List En):Blk:=⟨0,false,47,.rows 8 l.length (au enC l)⟩
structure Cf where
 s:S8
 b:List En
 r:List Int
 e:Int
def rgA(s:S8):List AV:=[.int .i64 s.r0,.int .i64 s.r1,.int .i64 s.r2,.int .i64 s.r3]
def rgP(s:S8):AV:= .rptr 4 (fun q=>(rgA s).getD q .junk) 0
def eX(i:In):Bool:=i.kind==1||i.kind==2||i.kind==4
def enI(p:Pg)(l:List En)(k:Nat):In:=atI p (l.getD k default).pc
def gu(p:Pg)(l:List En)(r:Int):Nat->Option (Int×Bool)
 |0=>none
 |k+1=>if eX (enI p l k)=true∧(enI p l k).d=r then some (if(l.getD k default).dn then((l.getD k default).val,true) else(0,false)) else gu p l r k
def cl0(i:Int)(n:Nat):Nat:=(min (max i 0) (n:Int)).toNat
def b9(p:Pg)(s:S8)(l:List En)(i r:Int):Int×Bool:=if 0<=r∧r<4 then(match gu p l r (cl0 i l.length) with |some x=>x |none=>(s.reg r,true)) else(0,false)
def cd(p:Pg)(s:S8)(l:List En)(i:Int)(v:Vl):Int×Bool:=if v.reg then b9 p s l i v.n else(Wd.maskV p.W v.n,true)
def kV(p:Pg)(l:List En):Nat->Nat->Bool
 |_,0=>false
 |k,j+1=>((enI p l k).kind==10)||kV p l (k+1) j
def nJ(p:Pg)(l:List En)(i:Int):Bool:=kV p l 0 (cl0 i l.length)
def vbS(a b:Nat)(x:Int×Bool):Sm:=⟨[(a,.int .i64 x.1),(b,.bool x.2)],[],0⟩
theorem xA{i:In}(h:i.kind=1):eX i=true:=by simp[eX,h]
theorem xz{i:In}(h:i.kind=2):eX i=true:=by simp[eX,h]
theorem xy{i:In}(h:i.kind=4):eX i=true:=by simp[eX,h]
theorem fN(i:Int)(n:Nat):cl0 i n<=n:=by unfold cl0;omega
theorem sx{i:Int}{n k:Nat}(h:k<cl0 i n):(k:Int)<i∧k<n:=by unfold cl0 at h;omega
theorem uJ(i:Int)(n:Nat): ¬((cl0 i n:Nat):Int)<i∨ ¬cl0 i n<n:=by unfold cl0;omega
def ldF(p:Pg)(l:List En)(a:Int):Nat->Option (Int×Int×Bool)
 |0=>none
 |k+1=>if(enI p l k).kind=3∧(l.getD k default).kn=true∧(l.getD k default).adr=a then some (if(l.getD k default).dn then((l.getD k default).val,(k:Int),true) else(0,0,false)) else ldF p l a k
def ldV(p:Pg)(m:List Int)(l:List En)(i a:Int):Int×Int×Bool:=match ldF p l a (cl0 i l.length) with
 |some x=>x
 |none=>if 0<=a∧a<m.length then(m.getD a.toNat 0, -1,true) else(0, -1,true)
def hzB(p:Pg)(l:List En)(i a:Int)(k:Nat):Prop:=(enI p l k).kind=2∧(l.getD k default).kn=true∧(l.getD k default).adr=a∧(l.getD k default).frm<i
instance(p:Pg)(l:List En)(i a:Int)(k:Nat):Decidable (hzB p l i a k):=inferInstanceAs (Decidable (_∧_))
def hzG(p:Pg)(l:List En)(i a:Int):Nat->Nat->Option Nat
 |_,0=>none
 |k,j+1=>if hzB p l i a k then some k else hzG p l i a (k+1) j
def hz0(i:Int)(n:Nat):Nat:=(min (max i (-1)) (n:Int)+1).toNat
def hzV(p:Pg)(l:List En)(i a:Int):Int×Bool:=match hzG p l i a (hz0 i l.length) (l.length-hz0 i l.length) with
 |some k=>((k:Int),true)
 |none=>(0,false)
def cQ(l:List Int)(pc:Int):List Int:=(l++[pc]).drop (l.length-1)
def jb(p:Pg)(n:Int):Int:=min n (p.is.length:Int)
def reG(p:Pg)(l:List En):Nat->Nat->List Int->Option (List Int)
 |_,0,st=>some st
 |k,j+1,st=>if(enI p l k).kind=8 then(if 4<=st.length then none else reG p l (k+1) j (st++[(l.getD k default).pc+1]))
  else if(enI p l k).kind=9 then(if st.length=0 then none else reG p l (k+1) j (st.take (st.length-1))) else reG p l (k+1) j st
def reV(p:Pg)(st:List Int)(l:List En)(i:Int):Option (List Int):=reG p l 0 (cl0 i l.length) st
def reS(p:Pg)(l:List En)(i:Int)(L:List Int)(N:Nat)(g:Nat->Nat->AV)(k:Nat):Sm:=⟨[(4,pgP p),(2,enR l),(3,.int .i64 i),(10,.own 0 0 1 0 L.length),(11,.int .i64 k),(8,.nils),(9,.bool false)],[(0,⟨0,false,3,.rows 1 N g⟩)],1⟩
def nS:Sm:=⟨[(8,.nils),(9,.bool false)],[],0⟩
theorem oz(l:List Int):(if(((0+l.length+1:Nat)):Int)-2<0 then 0 else((0+l.length+1:Nat):Int)-2)=((l.length-1:Nat):Int):=by split<;>omega
theorem jL(l:List Int):Int.toNat (if(((0+l.length+1:Nat)):Int)-2<0 then 0 else((0+l.length+1:Nat):Int)-2)=l.length-1:=by rw[oz,aE]
theorem mT(l:List Int)(pc:Int):(cQ l pc).length=l.length+1-(l.length-1):=by unfold cQ;rw[List.length_drop,aV];rfl
theorem gO{l:List Int}{x:Int}{g:Nat->Nat->AV}(hg:g 0 0= .int .i64 x)(i:Nat)(hi:i<l.length+1)(a:AV)(ha:i<l.length->a= .int .i64 (l.getD i 0)):(bif Nat.blt i l.length then a else g (i-l.length) 0)= .int .i64 ((l++[x]).getD i 0):=by
 refine fF (fun h=> ?_) (fun h=> ?_)
 ·rw[ha h]
  simp[List.getD,bj h]
 ·obtain rfl:i=l.length:=by omega
  rw[cX,hg]
  simp[List.getD]
theorem pE(l:List Int)(n i:Nat):(l.drop n).getD i 0=l.getD (i+n) 0:=by
 rw[aq,aq,ct,Nat.add_comm]
theorem rc(l:List Int)(pc:Int){g:Nat->Nat->AV}(hg:g 0 0= .int .i64 pc){E:Nat}(hE:E=l.length-1){i:Nat}(hi:i+E<l.length+1):(bif Nat.blt (i+E) (0+l.length) then(bif Nat.blt (i+E) 0 then AV.junk else .int .i64 (l.getD (i+E-0) 0)) else g (i+E-(0+l.length)) 0)= .int .i64 ((cQ l pc).getD i 0):=by
 subst hE
 unfold cQ
 rw[pE,bn]
 exact gO hg _ hi _ fun _=>rfl
theorem t9(l:List Int)(pc:Int)(hb:l.length<1000000):Vc (vF_ 15 [lR l, aI pc] [] [] (lR (cQ l pc)) []):=ar (cj (ap 0 l.length 8) (cj (ap (0+l.length) 1 8) (cj (i6 ((↑((0:Nat)+l.length+1):Int)-2)) (cj (show((0:Int)<=if(↑((0:Nat)+l.length+1):Int)-2<0 then(0:Int) else(↑((0:Nat)+l.length+1):Int)-2)∧(if(↑((0:Nat)+l.length+1):Int)-2<0 then(0:Int) else(↑((0:Nat)+l.length+1):Int)-2)<(↑((0:Nat)+l.length+1):Int)∧(↑((0:Nat)+l.length+1):Int)<=(↑((0:Nat)+l.length+1):Int) from by rw[oz];omega) (cj (show(0:Nat)+l.length+1-Int.toNat (if(↑((0:Nat)+l.length+1):Int)-2<0 then(0:Int) else(↑((0:Nat)+l.length+1):Int)-2)=(cQ l pc).length from by rw[jL,mT,bn]) (cj (show ∀(i:Nat),i<0+l.length+1-Int.toNat (if(↑((0:Nat)+l.length+1):Int)-2<0 then(0:Int) else(↑((0:Nat)+l.length+1):Int)-2)-> ∀(j:Nat),j<1->(bif Nat.blt (i+((0:Nat)+Int.toNat (if(↑((0:Nat)+l.length+1):Int)-2<0 then(0:Int) else(↑((0:Nat)+l.length+1):Int)-2))) ((0:Nat)+l.length) then aI (l.getD (i+((0:Nat)+Int.toNat (if(↑((0:Nat)+l.length+1):Int)-2<0 then(0:Int) else(↑((0:Nat)+l.length+1):Int)-2))-0) (0:Int)) else List.getD [aI pc] ((i+((0:Nat)+Int.toNat (if(↑((0:Nat)+l.length+1):Int)-2<0 then(0:Int) else(↑((0:Nat)+l.length+1):Int)-2))-((0:Nat)+l.length)+0)*1+j) AV.junk)=aI (List.getD (cQ l pc) i 0) from(fun i hi j hj=>by obtain rfl:j=0:=(by omega);exact rc l pc (g:=fun a b=>[AV.int .i64 pc].getD ((a+0)*1+b) .junk) rfl (by rw[jL,bn]) (by rw[jL] at hi ⊢;omega))) trivial))))))
theorem nZ(l:List Int)(pc:Int)(hb:l.length<1000000):pC_ 15 [lR l,.int .i64 pc] (lR (cQ l pc)) []:=PureC.vc (t9 l pc hb)
theorem tc(p:Pg)(l:List En)(i:Int){Z:Prop}(z:Z):(RF p.ms.length (RR p.ms.length 3 (fun i j=>au mmC p.ms i j) (RF p.ls.length (RR p.ls.length 2 (fun i j=>au lbC p.ls i j) (RF p.is.length (RR p.is.length 9 (fun i j=>au inC p.is i j) (RF l.length (RR l.length 8 (fun i j=>au enC l i j) (RF i Z))))))))):=⟨rfl,fun _ _ _ _=>rfl,rfl,fun _ _ _ _=>rfl,rfl,fun _ _ _ _=>rfl,rfl,fun _ _ _ _=>rfl,rfl,z⟩
theorem s9(p:Pg)(N:Nat)(g:Nat->Nat->AV){Z:Prop}(z:Z):(RF N (RR N 1 (fun i j=>g i j) (RF p.W (RF p.win (RF p.fuel (RF p.r0 (RF p.r1 (RF p.r2 (RF p.r3 Z))))))))):=⟨rfl,fun _ _ _ _=>rfl,rfl,rfl,rfl,rfl,rfl,rfl,rfl,z⟩
theorem qg(p:Pg)(l:List En)(k:Nat){Z:Prop}(z:Z):(RF p.ls.length (RR p.ls.length 2 (fun i j=>au lbC p.ls i j) (RF p.is.length (RR p.is.length 9 (fun i j=>au inC p.is i j) (RF ((l.getD k default).pc) Z))))):=⟨rfl,fun _ _ _ _=>rfl,rfl,fun _ _ _ _=>rfl,rfl,z⟩
theorem o4(p:Pg){Z:Prop}(z:Z):(RF p.W (RF p.win (RF p.fuel (RF p.r0 (RF p.r1 (RF p.r2 (RF p.r3 (RF p.ms.length (RR p.ms.length 3 (fun i j=>au mmC p.ms i j) Z))))))))):=⟨rfl,rfl,rfl,rfl,rfl,rfl,rfl,rfl,fun _ _ _ _=>rfl,z⟩
abbrev rB(p:Pg)(l:List En)(k:Nat):Orc:= .cl [.agg (pgA p), aI (l.getD k default).pc] (.agg (inA (enI p l k))) []
theorem zZ(p:Pg)(l:List En)(i:Int)(L:List Int)(N:Nat)(g:Nat->Nat->AV)(k:Nat)(hk:(k:Int)<i)(hl:k<l.length)(hb:l.length<1000000)(hL:L.length<=1000000)(hLN:L.length<=N)(h8: ¬(enI p l k).kind=8)(h9: ¬(enI p l k).kind=9):Vc (vC_ 14 0 (reS p l i L N g k) [.bd true,.bd true,rB p l k,.bd false,.bd false] .nrm [(0,0)] (reS p l i L N g (k+1))):=ar (cj (dt ((k:Int)<i)) (cj (dt ((k:Int)<l.length)) (cj (bi k l.length) (o4 p (qg p l k (cj (ed p (l.getD k default).pc) (cj (af.2 h8) (cj (af.2 h9) (cj (i6 (k+1)) (s9 p N g (tc p l i (cj (rf (0:Nat)) (cj (rf L.length) (cj (rf ((k:Int)+1)) (cj (rf false) trivial)))))))))))))))
theorem z9(p:Pg)(l:List En)(i:Int)(L:List Int)(N:Nat)(g:Nat->Nat->AV)(k:Nat)(hk:(k:Int)<i)(hl:k<l.length)(hb:l.length<1000000)(hL:L.length<=1000000)(hLN:L.length<=N)(h8:(enI p l k).kind=8)(h4:4<=L.length):Vc (vC_ 14 0 (reS p l i L N g k) [.bd true,.bd true,rB p l k,.bd true,.bd true] .ret [] nS):=ar (cj (dt ((k:Int)<i)) (cj (dt ((k:Int)<l.length)) (cj (bi k l.length) (o4 p (qg p l k (cj (ed p (l.getD k default).pc) (cj (aG.2 h8) (cj (dt ((L.length:Int)>=4)) (cj (rf false) trivial)))))))))
theorem Aa(p:Pg)(l:List En)(i:Int)(L:List Int)(N:Nat)(g:Nat->Nat->AV)(k:Nat)(hk:(k:Int)<i)(hl:k<l.length)(hb:l.length<1000000)(hL:L.length<=1000000)(hLN:L.length<=N)(h8:(enI p l k).kind=8)(h4: ¬4<=L.length)(hp: -1<=(l.getD k default).pc∧(l.getD k default).pc<=1000000):Vc (vC_ 14 0 (reS p l i L N g k) [.bd true,.bd true,rB p l k,.bd true,.bd false,.sh] .nrm [(0,0)] (reS p l i (L++[(l.getD k default).pc+1]) (L.length+1) (fun a b=>bif Nat.blt a L.length then g a b else[AV.int .i64 ((l.getD k default).pc+1)].getD ((a-L.length)*1+b) .junk) (k+1))):=ar (cj (dt ((k:Int)<i)) (cj (dt ((k:Int)<l.length)) (cj (bi k l.length) (o4 p (qg p l k (cj (ed p (l.getD k default).pc) (cj (aG.2 h8) (cj (df ((L.length:Int)>=4)) (cj (bi k l.length) (cj (i6 ((l.getD k default).pc+1)) (cj (ap L.length 1 8) (cj (i6 (k+1)) (cj (rf (L.length+1)) (cj (rr (L.length+1) 1 fun i j=>bif Nat.blt i L.length then g i j else List.getD [aI ((l.getD k default).pc+1)] ((i-L.length)*1+j) AV.junk) (o4 p (cj (rf p.ls.length) (cj (rr p.ls.length 2 fun i j=>au lbC p.ls i j) (cj (rf p.is.length) (cj (rr p.is.length 9 fun i j=>au inC p.is i j) (cj (rf l.length) (cj (rr l.length 8 fun i j=>au enC l i j) (cj (rf i) (cj (rf (0:Nat)) (cj (pv (L.length+1=(L++[(l.getD k default).pc+1]).length)) (cj (rf ((k:Int)+1)) (cj (rf false) trivial))))))))))))))))))))))))))
theorem z7(p:Pg)(l:List En)(i:Int)(L:List Int)(N:Nat)(g:Nat->Nat->AV)(k:Nat)(hk:(k:Int)<i)(hl:k<l.length)(hb:l.length<1000000)(hL:L.length<=1000000)(hLN:L.length<=N)(h8: ¬(enI p l k).kind=8)(h9:(enI p l k).kind=9)(h4:L.length=0):Vc (vC_ 14 0 (reS p l i L N g k) [.bd true,.bd true,rB p l k,.bd false,.bd true,.bd true] .ret [] nS):=ar (cj (dt ((k:Int)<i)) (cj (dt ((k:Int)<l.length)) (cj (bi k l.length) (o4 p (qg p l k (cj (ed p (l.getD k default).pc) (cj (af.2 h8) (cj (aG.2 h9) (cj (e1 L.length 0) (cj (rf false) trivial))))))))))
theorem z8(p:Pg)(l:List En)(i:Int)(L:List Int)(N:Nat)(g:Nat->Nat->AV)(k:Nat)(hk:(k:Int)<i)(hl:k<l.length)(hb:l.length<1000000)(hL:L.length<=1000000)(hLN:L.length<=N)(h8: ¬(enI p l k).kind=8)(h9:(enI p l k).kind=9)(h4: ¬L.length=0):Vc (vC_ 14 0 (reS p l i L N g k) [.bd true,.bd true,rB p l k,.bd false,.bd true,.bd false] .nrm [(0,0)] (reS p l i (L.take (L.length-1)) N g (k+1))):=ar (cj (dt ((k:Int)<i)) (cj (dt ((k:Int)<l.length)) (cj (bi k l.length) (o4 p (qg p l k (cj (ed p (l.getD k default).pc) (cj (af.2 h8) (cj (aG.2 h9) (cj (e0 L.length 0) (cj (i6 (L.length-1)) (cj (pv ((0:Int)<=L.length-1∧(L.length:Int)-1<=L.length)) (cj (i6 (k+1)) (s9 p N g (tc p l i (cj (rf (0:Nat)) (cj (pv (Int.toNat ((L.length:Int)-1)=(List.take (L.length-1) L).length)) (cj (rf ((k:Int)+1)) (cj (rf false) trivial))))))))))))))))))
theorem yN(L:List Int)(k:Nat){Z:Prop}(z:Z):(RF (0:Nat) (RF L.length (RF (k:Int) (RF false Z)))):=⟨rfl,rfl,rfl,rfl,z⟩
theorem z6(p:Pg)(l:List En)(i:Int)(L:List Int)(N:Nat)(g:Nat->Nat->AV)(k:Nat)(hk: ¬(k:Int)<i):Vc (vC_ 14 0 (reS p l i L N g k) [.bd false] (.ext 0) [(0,0)] (reS p l i L N g k)):=ar (cj (df ((k:Int)<i)) (s9 p N g (tc p l i (yN L k trivial))))
theorem CI(p:Pg)(l:List En)(i:Int)(L:List Int)(N:Nat)(g:Nat->Nat->AV)(k:Nat)(hk:(k:Int)<i)(hl: ¬k<l.length):Vc (vC_ 14 0 (reS p l i L N g k) [.bd true,.bd false] (.ext 0) [(0,0)] (reS p l i L N g k)):=ar (cj (dt ((k:Int)<i)) (cj (df ((k:Int)<l.length)) (s9 p N g (tc p l i (yN L k trivial)))))
def gOk(L:List Int)(N:Nat)(g:Nat->Nat->AV):Prop:=L.length<=N∧ ∀a,a<L.length->g a 0= .int .i64 (L.getD a 0)
theorem nk{L:List Int}{N:Nat}{g:Nat->Nat->AV}(h:gOk L N g)(x:Int):gOk (L++[x]) (L.length+1) (fun a b=>bif Nat.blt a L.length then g a b else[AV.int .i64 x].getD ((a-L.length)*1+b) .junk):=by
 refine⟨by simp,fun a ha=> ?_⟩
 rw[aV] at ha
 exact gO (g:=fun a b=>[AV.int .i64 x].getD (a*1+b) .junk) rfl a ha _ (h.2 a)
theorem nj{L:List Int}{N:Nat}{g:Nat->Nat->AV}(h:gOk L N g)(n:Nat):gOk (L.take n) N g:=by
 refine⟨by have:=h.1;rw[aP];omega,fun a ha=> ?_⟩
 rw[aP] at ha
 rw[h.2 a (by omega),aq,aq,aU,ao (by omega)]
theorem vr{l:List En}(h: ∀e∈l, -1<=e.pc∧e.pc<=1000000){k:Nat}(hk:k<l.length): -1<=(l.getD k default).pc∧(l.getD k default).pc<=1000000:=h _ (by simp[List.getD,hk])
theorem jl(p:Pg)(l:List En)(i:Int)(hb:l.length<1000000)(hpc: ∀e∈l, -1<=e.pc∧e.pc<=1000000): ∀j k L N g,k+j=cl0 i l.length->gOk L N g->L.length+j<=1000000->reG p l k j L=none->OkL Try.prog (cF Try.prog 14) (lpC Try.prog 14 0) (reS p l i L N g k).st .ret (nS).st
 |0,k,L,N,g,_,_,_,h=>by cases h
 |j+1,k,L,N,g,hk,hg,hL,h=>by
  have hl:=sx (i:=i) (n:=l.length) (k:=k) (by omega)
  unfold reG at h
  by_cases h8:(enI p l k).kind=8
  ·rw[ao h8] at h
   by_cases h4:4<=L.length
   ·exact OkL.exit (Ok.vc (z9 p l i L N g k hl.1 hl.2 hb (by omega) hg.1 h8 h4)) (by simp)
   ·rw[aj h4] at h
    exact OkL.step (Ok.vc (Aa p l i L N g k hl.1 hl.2 hb (by omega) hg.1 h8 h4 (vr hpc hl.2))) (jl p l i hb hpc j (k+1) _ _ _ (by omega) (nk hg _) (by rw[aV,eH];omega) h)
  ·rw[aj h8] at h
   by_cases h9:(enI p l k).kind=9
   ·rw[ao h9] at h
    by_cases h4:L.length=0
    ·exact OkL.exit (Ok.vc (z7 p l i L N g k hl.1 hl.2 hb (by omega) hg.1 h8 h9 h4)) (by simp)
    ·rw[aj h4] at h
     exact OkL.step (Ok.vc (z8 p l i L N g k hl.1 hl.2 hb (by omega) hg.1 h8 h9 h4)) (jl p l i hb hpc j (k+1) _ _ _ (by omega) (nj hg _) (by rw[aP];omega) h)
   ·rw[aj h9] at h
    exact OkL.step (Ok.vc (zZ p l i L N g k hl.1 hl.2 hb (by omega) hg.1 h8 h9)) (jl p l i hb hpc j (k+1) _ _ _ (by omega) hg (by omega) h)
theorem jk(p:Pg)(l:List En)(i:Int)(L':List Int)(hb:l.length<1000000)(hpc: ∀e∈l, -1<=e.pc∧e.pc<=1000000): ∀j k L N g,k+j=cl0 i l.length->gOk L N g->L.length+j<=1000000->reG p l k j L=some L'-> ∃N' g',gOk L' N' g'∧L'.length<=1000000∧OkL Try.prog (cF Try.prog 14) (lpC Try.prog 14 0) (reS p l i L N g k).st (.ext 0) (reS p l i L' N' g' (cl0 i l.length)).st
 |0,k,L,N,g,hk,hg,hL,h=>by
  obtain rfl:L=L':=Option.some.inj h
  obtain rfl:k=cl0 i l.length:=by omega
  refine⟨N,g,hg,by omega, ?_⟩
  rcases uJ i l.length with h1 |h1
  ·exact OkL.exit (Ok.vc (z6 p l i _ N g _ h1)) (by simp)
  ·by_cases h2:((cl0 i l.length:Nat):Int)<i
   ·exact OkL.exit (Ok.vc (CI p l i _ N g _ h2 h1)) (by simp)
   ·exact OkL.exit (Ok.vc (z6 p l i _ N g _ h2)) (by simp)
 |j+1,k,L,N,g,hk,hg,hL,h=>by
  have hl:=sx (i:=i) (n:=l.length) (k:=k) (by omega)
  unfold reG at h
  by_cases h8:(enI p l k).kind=8
  ·rw[ao h8] at h
   by_cases h4:4<=L.length
   ·rw[ao h4] at h;cases h
   ·rw[aj h4] at h
    obtain⟨N',g',q1,q2,q3⟩:=jk p l i L' hb hpc j (k+1) _ _ _ (by omega) (nk hg _) (by rw[aV,eH];omega) h
    exact⟨N',g',q1,q2,OkL.step (Ok.vc (Aa p l i L N g k hl.1 hl.2 hb (by omega) hg.1 h8 h4 (vr hpc hl.2))) q3⟩
  ·rw[aj h8] at h
   by_cases h9:(enI p l k).kind=9
   ·rw[ao h9] at h
    by_cases h4:L.length=0
    ·rw[ao h4] at h;cases h
    ·rw[aj h4] at h
     obtain⟨N',g',q1,q2,q3⟩:=jk p l i L' hb hpc j (k+1) _ _ _ (by omega) (nj hg _) (by rw[aP];omega) h
     exact⟨N',g',q1,q2,OkL.step (Ok.vc (z8 p l i L N g k hl.1 hl.2 hb (by omega) hg.1 h8 h9 h4)) q3⟩
   ·rw[aj h9] at h
    obtain⟨N',g',q1,q2,q3⟩:=jk p l i L' hb hpc j (k+1) _ _ _ (by omega) hg (by omega) h
    exact⟨N',g',q1,q2,OkL.step (Ok.vc (zZ p l i L N g k hl.1 hl.2 hb (by omega) hg.1 h8 h9)) q3⟩
theorem yM(p:Pg)(l:List En)(i:Int){Z:Prop}(z:Z):(RR p.ms.length 3 (fun i j=>au mmC p.ms i j) (RF p.ls.length (RR p.ls.length 2 (fun i j=>au lbC p.ls i j) (RF p.is.length (RR p.is.length 9 (fun i j=>au inC p.is i j) (RF l.length (RR l.length 8 (fun i j=>au enC l i j) (RF i (RF (0:Nat) Z))))))))):=⟨fun _ _ _ _=>rfl,rfl,fun _ _ _ _=>rfl,rfl,fun _ _ _ _=>rfl,rfl,fun _ _ _ _=>rfl,rfl,rfl,z⟩
theorem yL(p:Pg)(st:List Int){Z:Prop}(z:Z):(RR (0+st.length) 1 (fun i j=>aI (st.getD i 0)) (RF p.W (RF p.win (RF p.fuel (RF p.r0 (RF p.r1 (RF p.r2 (RF p.r3 (RF p.ms.length Z))))))))):=⟨fun _ _ _ _=>rfl,rfl,rfl,rfl,rfl,rfl,rfl,rfl,rfl,z⟩
theorem wF(p:Pg)(st:List Int)(l:List En)(i:Int)(hst:st.length<=1000000)(h:oL_ 14 0 (reS p l i st st.length (dD st) 0).st .ret (nS).st):Vc (vF_ 14 [.agg (pgA p),lR st,enR l, aI i] [.fz,.lp [(0,1)] (reS p l i st st.length (dD st) 0) .ret nS] [] (.tup [.nils,.bool false]) []):=ar (cj (ap 0 st.length 8) (cj (za st.length) (yL p st (yM p l i (cj (za st.length) (cj (rf (0:Int)) (cj (rf false) (cj h (cj (rf false) trivial)))))))))
theorem wE(p:Pg)(st:List Int)(l:List En)(i:Int)(L:List Int)(N:Nat)(g:Nat->Nat->AV)(n:Nat)(hst:st.length<=1000000)(hg: ∀a,a<L.length->g a 0= aI (L.getD a 0))(h:oL_ 14 0 (reS p l i st st.length (dD st) 0).st (.ext 0) (reS p l i L N g n).st):Vc (vF_ 14 [.agg (pgA p),lR st,enR l, aI i] [.fz,.lp [(0,1)] (reS p l i st st.length (dD st) 0) (.ext 0) (reS p l i L N g n)] [] (.tup [lR L,.bool true]) []):=ar (cj (ap 0 st.length 8) (cj (za st.length) (yL p st (yM p l i (cj (za st.length) (cj (rf (0:Int)) (cj (rf false) (cj h (cj (rf L.length) (cj (show ∀(i:Nat),i<L.length-> ∀(j:Nat),j<1->g (i+0) j=aI (L.getD i 0) from(fun i hi j hj=>by obtain rfl:j=0:=(by omega);exact hg i hi)) (cj (rf true) trivial)))))))))))
theorem qS(p:Pg)(st:List Int)(l:List En)(i:Int)(L:List Int)(hb:l.length<900000)(hst:st.length<=1000)(hpc: ∀e∈l, -1<=e.pc∧e.pc<=1000000)(h:reV p st l i=some L):pC_ 14 [.agg (pgA p),lR st,enR l,.int .i64 i] (.tup [lR L,.bool true]) []:=by
 have hle:=fN i l.length
 obtain⟨N',g',q1,q2,q3⟩:=jk p l i L (by omega) hpc _ 0 st st.length (dD st) (by omega) ⟨ax _,fun a _=>rfl⟩ (by omega) h
 exact PureC.vc (wE p st l i L N' g' _ (by omega) q1.2 q3.ok)
theorem qR(p:Pg)(st:List Int)(l:List En)(i:Int)(hb:l.length<900000)(hst:st.length<=1000)(hpc: ∀e∈l, -1<=e.pc∧e.pc<=1000000)(h:reV p st l i=none):pC_ 14 [.agg (pgA p),lR st,enR l,.int .i64 i] (.tup [.nils,.bool false]) []:=by
 have hle:=fN i l.length
 exact PureC.vc (wF p st l i (by omega) (jl p l i (by omega) hpc _ 0 st st.length (dD st) (by omega) ⟨ax _,fun a _=>rfl⟩ (by omega) h).ok)
def cfA(c:Cf):List AV:=s8R c.s++[enR c.b,lR c.r,.int .i64 c.e]
def Cf0:Cf:=⟨⟨0,0,0,0,[],[],0⟩,[],[],0⟩
def gsV(p:Pg)(c:Cf):Int:=
 if c.e≠0∨c.s.pc= -1∨p.win<=(c.b.length:Int) then 0
 else if(atI p c.s.pc).kind=5 then 2 else if(atI p c.s.pc).kind=7 then(p.is.length:Int)+1 else if(atI p c.s.pc).kind=9∧c.r.length=0 then(p.is.length:Int)+1 else 1
def S8.go(s:S8)(pc:Int):S8:={s with pc:=pc}
def bo(l:List Int):Int:=l.getD ((l.length:Int)-1).toNat 0
def ftB(p:Pg)(c:Cf):Bool:=match reV p c.s.st c.b c.b.length with
 |none=>true
 |some L=>decide (4<=L.length)
def ftE(p:Pg)(c:Cf)(g:Int):En:=
 if(atI p c.s.pc).kind=5 then⟨c.s.pc,0,0, -1,if g=1 then(atI p c.s.pc).tg else c.s.pc+1,false,false,false⟩
 else if(atI p c.s.pc).kind=6 then⟨c.s.pc,0,0, -1,(atI p c.s.pc).tg,true,false,false⟩
 else if(atI p c.s.pc).kind=7 then⟨c.s.pc,0,0, -1,g,false,false,false⟩
 else if(atI p c.s.pc).kind=9 then⟨c.s.pc,0,0, -1,if c.r.length=0 then g else bo c.r,false,false,false⟩
 else if(atI p c.s.pc).kind=8 then⟨c.s.pc,0,0, -1,(atI p c.s.pc).tg,true,false,ftB p c⟩
 else if(atI p c.s.pc).kind=11∨(atI p c.s.pc).kind=12 then⟨c.s.pc,0,0, -1, -1,true,false,false⟩
 else⟨c.s.pc,0,0, -1,c.s.pc+1,false,false,false⟩
def ftR(p:Pg)(c:Cf):List Int:=if(atI p c.s.pc).kind=9 then c.r.take ((c.r.length:Int)-1).toNat else if(atI p c.s.pc).kind=8 then cQ c.r (c.s.pc+1) else c.r
def ftD(p:Pg)(c:Cf)(g:Int):Cf:=⟨c.s.go (ftE p c g).nxt,c.b++[ftE p c g],ftR p c,c.e⟩
def ocA(o:Option Cf):List AV:=match o with
 |some c=>[.agg (cfA c),.bool true]
 |none=>[.agg (cfA Cf0),.bool false]
theorem zN(l:List En)(e:En){g:Nat->Nat->AV}(hg: ∀j,j<8->g 0 j=enC e j): ∀i,i<l.length+1-> ∀j,j<8->(bif Nat.blt i l.length then au enC l i j else g (i-l.length) j)=au enC (l++[e]) i j:=fun i hi j hj=>
 fF (fun h=>(dB h).symm) (fun h=>by
  obtain rfl:i=l.length:=by omega
  rw[dC,cX,hg j hj])
theorem pD(l:List Int)(n i:Nat)(h:i<n):(l.take n).getD i 0=l.getD i 0:=by
 rw[aq,aq,aU,ao h]
theorem mi(b:List En)(e:En)(L:List AV)(h: ∀j,j<8->L.getD j .junk=enC e j): ∀i,i<0+b.length+1-> ∀j,j<8->(bif Nat.blt (i+0) (0+b.length) then bif Nat.blt (i+0) 0 then AV.junk else au enC b (i+0-0) j else L.getD ((i+0-(0+b.length)+0)*8+j) .junk)=au enC (b++[e]) i j:=by
 intro i hi j hj
 simp only[bn,es,Nat.sub_zero] at hi ⊢
 exact zN b e (g:=fun a j=>L.getD (a*8+j) .junk) (fun j hj=>by simp only[Nat.zero_mul,bn];exact h j hj) i hi j hj
theorem CZ(p:Pg)(c:Cf)(hl:p.is.length<1000)(hb:c.b.length<1000000)(h0: ¬c.e=0):Vc (vF_ 12 [.agg (pgA p),.agg (cfA c)] [.fv,.fv,.bd true] [] (aI 0) []):=ar (cj (kA.2 h0) (cj (rf (0:Int)) trivial))
theorem CX(p:Pg)(c:Cf)(hl:p.is.length<1000)(hb:c.b.length<1000000)(h0:c.e=0)(h1:c.s.pc= -1):Vc (vF_ 12 [.agg (pgA p),.agg (cfA c)] [.fv,.fv,.bd false,.bd true] [] (aI 0) []):=ar (cj (bw.2 h0) (cj (aG.2 h1) (cj (rf (0:Int)) trivial)))
theorem CW(p:Pg)(c:Cf)(hl:p.is.length<1000)(hb:c.b.length<1000000)(h0:c.e=0)(h1: ¬c.s.pc= -1)(hw:p.win<=(c.b.length:Int)):Vc (vF_ 12 [.agg (pgA p),.agg (cfA c)] [.fv,.fv,.bd false,.bd false,.bd true] [] (aI 0) []):=ar (cj (bw.2 h0) (cj (af.2 h1) (cj (dt ((↑c.b.length:Int)>=p.win)) (cj (rf (0:Int)) trivial))))
theorem fp(p:Pg)(c:Cf){Z:Prop}(z:Z):(RF p.ls.length (RR p.ls.length 2 (fun i j=>au lbC p.ls i j) (RF p.is.length (RR p.is.length 9 (fun i j=>au inC p.is i j) (RF c.s.pc Z))))):=⟨rfl,fun _ _ _ _=>rfl,rfl,fun _ _ _ _=>rfl,rfl,z⟩
theorem cM(p:Pg){Z:Prop}(z:Z):(RF p.W (RF p.win (RF p.fuel (RF p.r0 (RF p.r1 (RF p.r2 (RF p.r3 (RF p.ms.length (RR p.ms.length 3 (fun i j=>au mmC p.ms i j) Z))))))))):=⟨rfl,rfl,rfl,rfl,rfl,rfl,rfl,rfl,fun _ _ _ _=>rfl,z⟩
abbrev fH(p:Pg)(c:Cf):Orc:= .cl [.agg (pgA p), aI c.s.pc] (.agg (inA (atI p c.s.pc))) []
theorem C2(p:Pg)(c:Cf)(hl:p.is.length<1000)(hb:c.b.length<1000000)(h0:c.e=0)(h1: ¬c.s.pc= -1)(hw: ¬p.win<=(c.b.length:Int))(k5:(atI p c.s.pc).kind=5):Vc (vF_ 12 [.agg (pgA p),.agg (cfA c)] [.fv,.fv,.bd false,.bd false,.bd false,fH p c,.bd true] [] (aI 2) []):=ar (cj (bw.2 h0) (cj (af.2 h1) (cj (df ((↑c.b.length:Int)>=p.win)) (cM p (fp p c (cj (ed p c.s.pc) (cj (aG.2 k5) (cj (rf (2:Int)) trivial))))))))
theorem C1(p:Pg)(c:Cf)(hl:p.is.length<1000)(hb:c.b.length<1000000)(h0:c.e=0)(h1: ¬c.s.pc= -1)(hw: ¬p.win<=(c.b.length:Int))(k5: ¬(atI p c.s.pc).kind=5)(k7:(atI p c.s.pc).kind=7):Vc (vF_ 12 [.agg (pgA p),.agg (cfA c)] [.fv,.fv,.bd false,.bd false,.bd false,fH p c,.bd false,.bd true] [] (aI (p.is.length+1)) []):=ar (cj (bw.2 h0) (cj (af.2 h1) (cj (df ((↑c.b.length:Int)>=p.win)) (cM p (fp p c (cj (ed p c.s.pc) (cj (af.2 k5) (cj (aG.2 k7) (cj (i6 (p.is.length+1)) (cj (rf ((↑p.is.length:Int)+1)) trivial))))))))))
theorem C0(p:Pg)(c:Cf)(hl:p.is.length<1000)(hb:c.b.length<1000000)(h0:c.e=0)(h1: ¬c.s.pc= -1)(hw: ¬p.win<=(c.b.length:Int))(k5: ¬(atI p c.s.pc).kind=5)(k7: ¬(atI p c.s.pc).kind=7)(k9:(atI p c.s.pc).kind=9)(hr:c.r.length=0):Vc (vF_ 12 [.agg (pgA p),.agg (cfA c)] [.fv,.fv,.bd false,.bd false,.bd false,fH p c,.bd false,.bd false,.bd true,.bd true] [] (aI (p.is.length+1)) []):=ar (cj (bw.2 h0) (cj (af.2 h1) (cj (df ((↑c.b.length:Int)>=p.win)) (cM p (fp p c (cj (ed p c.s.pc) (cj (af.2 k5) (cj (af.2 k7) (cj (aG.2 k9) (cj (e1 c.r.length 0) (cj (i6 (p.is.length+1)) (cj (rf ((↑p.is.length:Int)+1)) trivial))))))))))))
theorem Bq(p:Pg)(c:Cf)(hl:p.is.length<1000)(hb:c.b.length<1000000)(h0:c.e=0)(h1: ¬c.s.pc= -1)(hw: ¬p.win<=(c.b.length:Int))(k5: ¬(atI p c.s.pc).kind=5)(k7: ¬(atI p c.s.pc).kind=7)(k9:(atI p c.s.pc).kind=9)(hr: ¬c.r.length=0):Vc (vF_ 12 [.agg (pgA p),.agg (cfA c)] [.fv,.fv,.bd false,.bd false,.bd false,fH p c,.bd false,.bd false,.bd true,.bd false] [] (aI 1) []):=ar (cj (bw.2 h0) (cj (af.2 h1) (cj (df ((↑c.b.length:Int)>=p.win)) (cM p (fp p c (cj (ed p c.s.pc) (cj (af.2 k5) (cj (af.2 k7) (cj (aG.2 k9) (cj (e0 c.r.length 0) (cj (rf (1:Int)) trivial)))))))))))
theorem CY(p:Pg)(c:Cf)(hl:p.is.length<1000)(hb:c.b.length<1000000)(h0:c.e=0)(h1: ¬c.s.pc= -1)(hw: ¬p.win<=(c.b.length:Int))(k5: ¬(atI p c.s.pc).kind=5)(k7: ¬(atI p c.s.pc).kind=7)(k9: ¬(atI p c.s.pc).kind=9):Vc (vF_ 12 [.agg (pgA p),.agg (cfA c)] [.fv,.fv,.bd false,.bd false,.bd false,fH p c,.bd false,.bd false,.bd false] [] (aI 1) []):=ar (cj (bw.2 h0) (cj (af.2 h1) (cj (df ((↑c.b.length:Int)>=p.win)) (cM p (fp p c (cj (ed p c.s.pc) (cj (af.2 k5) (cj (af.2 k7) (cj (af.2 k9) (cj (rf (1:Int)) trivial))))))))))
theorem ig(p:Pg)(c:Cf)(hl:p.is.length<1000)(hb:c.b.length<1000000):pC_ 12 [.agg (pgA p),.agg (cfA c)] (.int .i64 (gsV p c)) []:=by
 unfold gsV
 by_cases h0:c.e=0
 ·by_cases h1:c.s.pc= -1
  ·rw[ao (.inr (.inl h1))];exact PureC.vc (CX p c hl hb h0 h1)
  ·by_cases hw:p.win<=(c.b.length:Int)
   ·rw[ao (.inr (.inr hw))];exact PureC.vc (CW p c hl hb h0 h1 hw)
   ·rw[aj (by rintro(h |h |h);exact h h0;exact h1 h;exact hw h)]
    by_cases k5:(atI p c.s.pc).kind=5
    ·rw[ao k5];exact PureC.vc (C2 p c hl hb h0 h1 hw k5)
    ·rw[aj k5]
     by_cases k7:(atI p c.s.pc).kind=7
     ·rw[ao k7];exact PureC.vc (C1 p c hl hb h0 h1 hw k5 k7)
     ·rw[aj k7]
      by_cases k9:(atI p c.s.pc).kind=9
      ·by_cases hr:c.r.length=0
       ·rw[ao ⟨k9,hr⟩];exact PureC.vc (C0 p c hl hb h0 h1 hw k5 k7 k9 hr)
       ·rw[aj fun e=>hr e.2];exact PureC.vc (Bq p c hl hb h0 h1 hw k5 k7 k9 hr)
      ·rw[aj fun e=>k9 e.1];exact PureC.vc (CY p c hl hb h0 h1 hw k5 k7 k9)
 ·rw[ao (.inl h0)];exact PureC.vc (CZ p c hl hb h0)
theorem yK{Z:Prop}(z:Z):(RF (0:Int) (RF (0:Int) (RF (0:Int) (RF (0:Int) (RF (0:Nat) (RF (0:Nat) (RF (0:Int) (RF (0:Nat) (RF (0:Nat) Z))))))))):=⟨rfl,rfl,rfl,rfl,rfl,rfl,rfl,rfl,rfl,z⟩
theorem xu(p:Pg)(c:Cf)(g:Int)(hl:p.is.length<1000)(hb:c.b.length<1000000)(hg:g<0):Vc (vF_ 7 [.agg (pgA p),.agg (cfA c), aI g] [.fv,.bd true] [] (.tup [.agg (cfA Cf0),.bool false]) []):=ar (cj (dt (g<0)) (yK (cj (rf (0:Int)) (cj (rf false) trivial))))
theorem hZ(c:Cf){Z:Prop}(z:Z):(RR c.s.m.length 1 (fun i j=>aI (List.getD c.s.m i 0)) (RF c.s.st.length (RR c.s.st.length 1 (fun i j=>aI (List.getD c.s.st i 0)) (RF c.s.pc (RF c.b.length (RR c.b.length 8 (fun i j=>au enC c.b i j) (RF c.r.length (RR c.r.length 1 (fun i j=>aI (c.r.getD i 0)) (RF c.e Z))))))))):=⟨fun _ _ _ _=>rfl,rfl,fun _ _ _ _=>rfl,rfl,rfl,fun _ _ _ _=>rfl,rfl,fun _ _ _ _=>rfl,rfl,z⟩
theorem hX(p:Pg)(c:Cf){Z:Prop}(z:Z):(RF p.ls.length (RR p.ls.length 2 (fun i j=>au lbC p.ls i j) (RF p.is.length (RR p.is.length 9 (fun i j=>au inC p.is i j) (RF c.s.r0 (RF c.s.r1 (RF c.s.r2 (RF c.s.r3 (RF c.s.m.length Z))))))))):=⟨rfl,fun _ _ _ _=>rfl,rfl,fun _ _ _ _=>rfl,rfl,rfl,rfl,rfl,rfl,z⟩
abbrev im(p:Pg)(c:Cf):Orc:= .cl [.agg (pgA p),.agg (cfA c)] (aI (gsV p c)) []
theorem xt(p:Pg)(c:Cf)(g:Int)(hl:p.is.length<1000)(hb:c.b.length<1000000)(h0:0<=g)(hg:gsV p c<=g):Vc (vF_ 7 [.agg (pgA p),.agg (cfA c), aI g] [.fv,.bd false,im p c,.bd true] [] (.tup [.agg (cfA Cf0),.bool false]) []):=ar (cj (df (g<0)) (cM p (hX p c (hZ c (cj (ig p c hl hb) (cj (dt (g>=gsV p c)) (yK (cj (rf (0:Int)) (cj (rf false) trivial)))))))))
theorem mu(c:Cf){Z:Prop}(z:Z):(RF c.r.length (RR c.r.length 1 (fun i j=>aI (c.r.getD i 0)) (RF c.e (RF true Z)))):=⟨rfl,fun _ _ _ _=>rfl,rfl,rfl,z⟩
theorem qd(p:Pg)(c:Cf){Z:Prop}(z:Z):(RF c.s.r0 (RF c.s.r1 (RF c.s.r2 (RF c.s.r3 (RF c.s.m.length (RR c.s.m.length 1 (fun i j=>aI (List.getD c.s.m i 0)) (RF c.s.st.length (RR c.s.st.length 1 (fun i j=>aI (List.getD c.s.st i 0)) (RF ((atI p c.s.pc).tg) Z))))))))):=⟨rfl,rfl,rfl,rfl,rfl,fun _ _ _ _=>rfl,rfl,fun _ _ _ _=>rfl,rfl,z⟩
theorem Bw(p:Pg)(c:Cf)(g:Int)(hl:p.is.length<1000)(hb:c.b.length<1000000)(h0:0<=g)(hg: ¬gsV p c<=g)(hpc: -1<=c.s.pc∧c.s.pc<=1000)(hr:c.r.length<1000)(k5:(atI p c.s.pc).kind=5)(g1:g=1):Vc (vF_ 7 [.agg (pgA p),.agg (cfA c), aI g] [.fv,.bd false,im p c,.bd false,fH p c,.bd true,.bd true] [] (.tup [.agg (cfA ⟨c.s.go (atI p c.s.pc).tg,c.b++[⟨c.s.pc,0,0, -1,(atI p c.s.pc).tg,false,false,false⟩],c.r,c.e⟩),.bool true]) []):=ar (cj (df (g<0)) (cM p (hX p c (hZ c (cj (ig p c hl hb) (cj (df (g>=gsV p c)) (cM p (fp p c (cj (ed p c.s.pc) (cj (i6 (c.s.pc+1)) (cj (aG.2 k5) (cj (e1 g 1) (cj (ap 0 c.b.length 48) (cj (ap (0+c.b.length) 1 48) (qd p c (cj (pv ((0:Nat)+c.b.length+1=(c.b++[En.mk c.s.pc (0:Int) (0:Int) (-1:Int) (atI p c.s.pc).tg false false false]).length)) (cj (show ∀(i:Nat),i<0+c.b.length+1-> ∀(j:Nat),j<8->(bif Nat.blt (i+0) ((0:Nat)+c.b.length) then bif Nat.blt (i+0) (0:Nat) then AV.junk else au enC c.b (i+0-0) j else List.getD [aI c.s.pc,aI 0,aI 0,aI (-1:Int),aI (atI p c.s.pc).tg,AV.bool false,AV.bool false,AV.bool false] ((i+0-((0:Nat)+c.b.length)+0)*8+j) AV.junk)=au enC (c.b++[En.mk c.s.pc (0:Int) (0:Int) (-1:Int) (atI p c.s.pc).tg false false false]) i j from(mi c.b _ _ (fun j hj=>match j,hj with |0,_=>rfl |1,_=>rfl |2,_=>rfl |3,_=>rfl |4,_=>rfl |5,_=>rfl |6,_=>rfl |7,_=>rfl))) (mu c trivial))))))))))))))))))
theorem zQ(c:Cf): ∀(i:Nat),i<0+c.b.length+1-> ∀(j:Nat),j<8->(bif Nat.blt (i+0) ((0:Nat)+c.b.length) then bif Nat.blt (i+0) (0:Nat) then AV.junk else au enC c.b (i+0-0) j else List.getD [aI c.s.pc,aI 0,aI 0,aI (-1:Int),aI (c.s.pc+1),AV.bool false,AV.bool false,AV.bool false] ((i+0-((0:Nat)+c.b.length)+0)*8+j) AV.junk)=au enC (c.b++[En.mk c.s.pc (0:Int) (0:Int) (-1:Int) (c.s.pc+1) false false false]) i j:=(mi c.b _ _ (fun j hj=>match j,hj with |0,_=>rfl |1,_=>rfl |2,_=>rfl |3,_=>rfl |4,_=>rfl |5,_=>rfl |6,_=>rfl |7,_=>rfl))
theorem yJ(c:Cf){Z:Prop}(z:Z):(RF c.s.r0 (RF c.s.r1 (RF c.s.r2 (RF c.s.r3 (RF c.s.m.length (RR c.s.m.length 1 (fun i j=>aI (List.getD c.s.m i 0)) (RF c.s.st.length (RR c.s.st.length 1 (fun i j=>aI (List.getD c.s.st i 0)) (RF (c.s.pc+1) Z))))))))):=⟨rfl,rfl,rfl,rfl,rfl,fun _ _ _ _=>rfl,rfl,fun _ _ _ _=>rfl,rfl,z⟩
theorem Bx(p:Pg)(c:Cf)(g:Int)(hl:p.is.length<1000)(hb:c.b.length<1000000)(h0:0<=g)(hg: ¬gsV p c<=g)(hpc: -1<=c.s.pc∧c.s.pc<=1000)(hr:c.r.length<1000)(k5:(atI p c.s.pc).kind=5)(g1: ¬g=1):Vc (vF_ 7 [.agg (pgA p),.agg (cfA c), aI g] [.fv,.bd false,im p c,.bd false,fH p c,.bd true,.bd false] [] (.tup [.agg (cfA ⟨c.s.go (c.s.pc+1),c.b++[⟨c.s.pc,0,0, -1,(c.s.pc+1),false,false,false⟩],c.r,c.e⟩),.bool true]) []):=ar (cj (df (g<0)) (cM p (hX p c (hZ c (cj (ig p c hl hb) (cj (df (g>=gsV p c)) (cM p (fp p c (cj (ed p c.s.pc) (cj (i6 (c.s.pc+1)) (cj (aG.2 k5) (cj (e0 g 1) (cj (ap 0 c.b.length 48) (cj (ap (0+c.b.length) 1 48) (yJ c (cj (pv ((0:Nat)+c.b.length+1=(c.b++[En.mk c.s.pc (0:Int) (0:Int) (-1:Int) (c.s.pc+1) false false false]).length)) (cj (zQ c) (mu c trivial))))))))))))))))))
theorem Db(p:Pg)(c:Cf)(g:Int)(hl:p.is.length<1000)(hb:c.b.length<1000000)(h0:0<=g)(hg: ¬gsV p c<=g)(hpc: -1<=c.s.pc∧c.s.pc<=1000)(hr:c.r.length<1000)(k5: ¬(atI p c.s.pc).kind=5)(k6:(atI p c.s.pc).kind=6):Vc (vF_ 7 [.agg (pgA p),.agg (cfA c), aI g] [.fv,.bd false,im p c,.bd false,fH p c,.bd false,.bd true] [] (.tup [.agg (cfA ⟨c.s.go (atI p c.s.pc).tg,c.b++[⟨c.s.pc,0,0, -1,(atI p c.s.pc).tg,true,false,false⟩],c.r,c.e⟩),.bool true]) []):=ar (cj (df (g<0)) (cM p (hX p c (hZ c (cj (ig p c hl hb) (cj (df (g>=gsV p c)) (cM p (fp p c (cj (ed p c.s.pc) (cj (i6 (c.s.pc+1)) (cj (af.2 k5) (cj (aG.2 k6) (cj (ap 0 c.b.length 48) (cj (ap (0+c.b.length) 1 48) (qd p c (cj (pv ((0:Nat)+c.b.length+1=(c.b++[En.mk c.s.pc (0:Int) (0:Int) (-1:Int) (atI p c.s.pc).tg true false false]).length)) (cj (show ∀(i:Nat),i<0+c.b.length+1-> ∀(j:Nat),j<8->(bif Nat.blt (i+0) ((0:Nat)+c.b.length) then bif Nat.blt (i+0) (0:Nat) then AV.junk else au enC c.b (i+0-0) j else List.getD [aI c.s.pc,aI 0,aI 0,aI (-1:Int),aI (atI p c.s.pc).tg,AV.bool true,AV.bool false,AV.bool false] ((i+0-((0:Nat)+c.b.length)+0)*8+j) AV.junk)=au enC (c.b++[En.mk c.s.pc (0:Int) (0:Int) (-1:Int) (atI p c.s.pc).tg true false false]) i j from(mi c.b _ _ (fun j hj=>match j,hj with |0,_=>rfl |1,_=>rfl |2,_=>rfl |3,_=>rfl |4,_=>rfl |5,_=>rfl |6,_=>rfl |7,_=>rfl))) (mu c trivial))))))))))))))))))
theorem zP(c:Cf)(g:Int): ∀(i:Nat),i<0+c.b.length+1-> ∀(j:Nat),j<8->(bif Nat.blt (i+0) ((0:Nat)+c.b.length) then bif Nat.blt (i+0) (0:Nat) then AV.junk else au enC c.b (i+0-0) j else List.getD [aI c.s.pc,aI 0,aI 0,aI (-1:Int),aI g,AV.bool false,AV.bool false,AV.bool false] ((i+0-((0:Nat)+c.b.length)+0)*8+j) AV.junk)=au enC (c.b++[En.mk c.s.pc (0:Int) (0:Int) (-1:Int) g false false false]) i j:=(mi c.b _ _ (fun j hj=>match j,hj with |0,_=>rfl |1,_=>rfl |2,_=>rfl |3,_=>rfl |4,_=>rfl |5,_=>rfl |6,_=>rfl |7,_=>rfl))
theorem yI(c:Cf)(g:Int){Z:Prop}(z:Z):(RF c.s.r0 (RF c.s.r1 (RF c.s.r2 (RF c.s.r3 (RF c.s.m.length (RR c.s.m.length 1 (fun i j=>aI (List.getD c.s.m i 0)) (RF c.s.st.length (RR c.s.st.length 1 (fun i j=>aI (List.getD c.s.st i 0)) (RF g Z))))))))):=⟨rfl,rfl,rfl,rfl,rfl,fun _ _ _ _=>rfl,rfl,fun _ _ _ _=>rfl,rfl,z⟩
theorem Da(p:Pg)(c:Cf)(g:Int)(hl:p.is.length<1000)(hb:c.b.length<1000000)(h0:0<=g)(hg: ¬gsV p c<=g)(hpc: -1<=c.s.pc∧c.s.pc<=1000)(hr:c.r.length<1000)(k5: ¬(atI p c.s.pc).kind=5)(k6: ¬(atI p c.s.pc).kind=6)(k7:(atI p c.s.pc).kind=7):Vc (vF_ 7 [.agg (pgA p),.agg (cfA c), aI g] [.fv,.bd false,im p c,.bd false,fH p c,.bd false,.bd false,.bd true] [] (.tup [.agg (cfA ⟨c.s.go g,c.b++[⟨c.s.pc,0,0, -1,g,false,false,false⟩],c.r,c.e⟩),.bool true]) []):=ar (cj (df (g<0)) (cM p (hX p c (hZ c (cj (ig p c hl hb) (cj (df (g>=gsV p c)) (cM p (fp p c (cj (ed p c.s.pc) (cj (i6 (c.s.pc+1)) (cj (af.2 k5) (cj (af.2 k6) (cj (aG.2 k7) (cj (ap 0 c.b.length 48) (cj (ap (0+c.b.length) 1 48) (yI c g (cj (pv ((0:Nat)+c.b.length+1=(c.b++[En.mk c.s.pc (0:Int) (0:Int) (-1:Int) g false false false]).length)) (cj (zP c g) (mu c trivial)))))))))))))))))))
theorem Bs(p:Pg)(c:Cf)(g:Int)(hl:p.is.length<1000)(hb:c.b.length<1000000)(h0:0<=g)(hg: ¬gsV p c<=g)(hpc: -1<=c.s.pc∧c.s.pc<=1000)(hr:c.r.length<1000)(k5: ¬(atI p c.s.pc).kind=5)(k6: ¬(atI p c.s.pc).kind=6)(k7: ¬(atI p c.s.pc).kind=7)(k9:(atI p c.s.pc).kind=9)(hz:c.r.length=0):Vc (vF_ 7 [.agg (pgA p),.agg (cfA c), aI g] [.fv,.bd false,im p c,.bd false,fH p c,.bd false,.bd false,.bd false,.bd true,.bd false] [] (.tup [.agg (cfA ⟨c.s.go g,c.b++[⟨c.s.pc,0,0, -1,g,false,false,false⟩],c.r,c.e⟩),.bool true]) []):=ar (cj (df (g<0)) (cM p (hX p c (hZ c (cj (ig p c hl hb) (cj (df (g>=gsV p c)) (cM p (fp p c (cj (ed p c.s.pc) (cj (i6 (c.s.pc+1)) (cj (af.2 k5) (cj (af.2 k6) (cj (af.2 k7) (cj (aG.2 k9) (cj (df ((↑c.r.length:Int)>0)) (cj (ap 0 c.b.length 48) (cj (ap (0+c.b.length) 1 48) (yI c g (cj (pv ((0:Nat)+c.b.length+1=(c.b++[En.mk c.s.pc (0:Int) (0:Int) (-1:Int) g false false false]).length)) (cj (zP c g) (mu c trivial)))))))))))))))))))))
theorem C9(p:Pg)(c:Cf)(g:Int)(hl:p.is.length<1000)(hb:c.b.length<1000000)(h0:0<=g)(hg: ¬gsV p c<=g)(hpc: -1<=c.s.pc∧c.s.pc<=1000)(hr:c.r.length<1000)(k5: ¬(atI p c.s.pc).kind=5)(k6: ¬(atI p c.s.pc).kind=6)(k7: ¬(atI p c.s.pc).kind=7)(k9:(atI p c.s.pc).kind=9)(hz: ¬c.r.length=0):Vc (vF_ 7 [.agg (pgA p),.agg (cfA c), aI g] [.fv,.bd false,im p c,.bd false,fH p c,.bd false,.bd false,.bd false,.bd true,.bd true] [] (.tup [.agg (cfA ⟨c.s.go (bo c.r),c.b++[⟨c.s.pc,0,0, -1,(bo c.r),false,false,false⟩],(c.r.take ((c.r.length:Int)-1).toNat),c.e⟩),.bool true]) []):=ar (cj (df (g<0)) (cM p (hX p c (hZ c (cj (ig p c hl hb) (cj (df (g>=gsV p c)) (cM p (fp p c (cj (ed p c.s.pc) (cj (i6 (c.s.pc+1)) (cj (af.2 k5) (cj (af.2 k6) (cj (af.2 k7) (cj (aG.2 k9) (cj (dt ((↑c.r.length:Int)>0)) (cj (i6 (c.r.length-1)) (cj (bi (c.r.length-1) c.r.length) (cj (i6 (c.r.length-1)) (cj (pv ((0:Int)<=c.r.length-1∧(↑c.r.length:Int)-1<=c.r.length)) (cj (ap 0 (Int.toNat ((↑c.r.length:Int)-1)) 8) (cj (ap 0 c.b.length 48) (cj (ap (0+c.b.length) 1 48) (cj (rf c.s.r0) (cj (rf c.s.r1) (cj (rf c.s.r2) (cj (rf c.s.r3) (cj (rf c.s.m.length) (cj (rr c.s.m.length 1 fun i j=>aI (List.getD c.s.m i 0)) (cj (rf c.s.st.length) (cj (rr c.s.st.length 1 fun i j=>aI (List.getD c.s.st i 0)) (cj (rf (bo c.r)) (cj (pv ((0:Nat)+c.b.length+1=(c.b++[En.mk c.s.pc (0:Int) (0:Int) (-1:Int) (bo c.r) false false false]).length)) (cj (show ∀(i:Nat),i<0+c.b.length+1-> ∀(j:Nat),j<8->(bif Nat.blt (i+0) ((0:Nat)+c.b.length) then bif Nat.blt (i+0) (0:Nat) then AV.junk else au enC c.b (i+0-0) j else List.getD [aI c.s.pc,aI 0,aI 0,aI (-1:Int),aI (c.r.getD (Int.toNat (c.r.length-1)) 0),AV.bool false,AV.bool false,AV.bool false] ((i+0-((0:Nat)+c.b.length)+0)*8+j) AV.junk)=au enC (c.b++[En.mk c.s.pc (0:Int) (0:Int) (-1:Int) (bo c.r) false false false]) i j from(mi c.b _ _ (fun j hj=>match j,hj with |0,_=>rfl |1,_=>rfl |2,_=>rfl |3,_=>rfl |4,_=>rfl |5,_=>rfl |6,_=>rfl |7,_=>rfl))) (cj (pv ((0:Nat)+Int.toNat ((↑c.r.length:Int)-1)=(List.take (Int.toNat (c.r.length-1)) c.r).length)) (cj (show ∀(i:Nat),i<0+Int.toNat ((↑c.r.length:Int)-1)-> ∀(j:Nat),j<1->aI (c.r.getD (i+0-0) 0)=aI (List.getD (List.take (Int.toNat (c.r.length-1)) c.r) i 0) from(fun i hi j hj=>by rw[pD _ _ _ (by omega)];rfl)) (cj (rf c.e) (cj (rf true) trivial)))))))))))))))))))))))))))))))))))))
theorem vU(c:Cf){Z:Prop}(z:Z):(RF ((cQ c.r (c.s.pc+1)).length) (RR ((cQ c.r (c.s.pc+1)).length) 1 (fun i j=>aI (List.getD (cQ c.r (c.s.pc+1)) i 0)) (RF c.e (RF true Z)))):=⟨rfl,fun _ _ _ _=>rfl,rfl,rfl,z⟩
theorem qf(c:Cf){Z:Prop}(z:Z):(RF c.r.length (RR c.r.length 1 (fun i j=>aI (c.r.getD i 0)) (RF (c.s.pc+1) Z))):=⟨rfl,fun _ _ _ _=>rfl,rfl,z⟩
theorem qe(p:Pg)(c:Cf){Z:Prop}(z:Z):(RF p.ls.length (RR p.ls.length 2 (fun i j=>au lbC p.ls i j) (RF p.is.length (RR p.is.length 9 (fun i j=>au inC p.is i j) (RF c.s.st.length (RR c.s.st.length 1 (fun i j=>aI (List.getD c.s.st i 0)) (RF c.b.length (RR c.b.length 8 (fun i j=>au enC c.b i j) (RF (↑c.b.length:Int) Z))))))))):=⟨rfl,fun _ _ _ _=>rfl,rfl,fun _ _ _ _=>rfl,rfl,fun _ _ _ _=>rfl,rfl,fun _ _ _ _=>rfl,rfl,z⟩
abbrev wV(c:Cf):Orc:= .cl [lR c.r, aI (c.s.pc+1)] (lR (cQ c.r (c.s.pc+1))) []
theorem Bu(p:Pg)(c:Cf)(g:Int)(hl:p.is.length<1000)(hb:c.b.length<1000000)(h0:0<=g)(hg: ¬gsV p c<=g)(hpc: -1<=c.s.pc∧c.s.pc<=1000)(hr:c.r.length<1000)(k5: ¬(atI p c.s.pc).kind=5)(k6: ¬(atI p c.s.pc).kind=6)(k7: ¬(atI p c.s.pc).kind=7)(k9: ¬(atI p c.s.pc).kind=9)(k8:(atI p c.s.pc).kind=8)(hst:c.s.st.length<=1000)(hbp: ∀e∈c.b, -1<=e.pc∧e.pc<=1000000)(hb9:c.b.length<900000)(hv:reV p c.s.st c.b c.b.length=none):Vc (vF_ 7 [.agg (pgA p),.agg (cfA c), aI g] [.fv,.bd false,im p c,.bd false,fH p c,.bd false,.bd false,.bd false,.bd false,.bd true,.cl [.agg (pgA p),lR c.s.st,enR c.b, aI c.b.length] (.tup [.nils,.bool false]) [],wV c] [] (.tup [.agg (cfA ⟨c.s.go (atI p c.s.pc).tg,c.b++[⟨c.s.pc,0,0, -1,(atI p c.s.pc).tg,true,false,true⟩],(cQ c.r (c.s.pc+1)),c.e⟩),.bool true]) []):=ar (cj (df (g<0)) (cM p (hX p c (hZ c (cj (ig p c hl hb) (cj (df (g>=gsV p c)) (cM p (fp p c (cj (ed p c.s.pc) (cj (i6 (c.s.pc+1)) (cj (af.2 k5) (cj (af.2 k6) (cj (af.2 k7) (cj (af.2 k9) (cj (aG.2 k8) (cM p (qe p c (cj (qR p c.s.st c.b c.b.length hb9 hst hbp hv) (cj (i6 (c.s.pc+1)) (qf c (cj (nZ c.r (c.s.pc+1) (by omega)) (cj (ap 0 c.b.length 48) (cj (ap (0+c.b.length) 1 48) (qd p c (cj (pv ((0:Nat)+c.b.length+1=(c.b++[En.mk c.s.pc (0:Int) (0:Int) (-1:Int) (atI p c.s.pc).tg true false true]).length)) (cj (show ∀(i:Nat),i<0+c.b.length+1-> ∀(j:Nat),j<8->(bif Nat.blt (i+0) ((0:Nat)+c.b.length) then bif Nat.blt (i+0) (0:Nat) then AV.junk else au enC c.b (i+0-0) j else List.getD [aI c.s.pc,aI 0,aI 0,aI (-1:Int),aI (atI p c.s.pc).tg,AV.bool true,AV.bool false,AV.bool true] ((i+0-((0:Nat)+c.b.length)+0)*8+j) AV.junk)=au enC (c.b++[En.mk c.s.pc (0:Int) (0:Int) (-1:Int) (atI p c.s.pc).tg true false true]) i j from(mi c.b _ _ (fun j hj=>match j,hj with |0,_=>rfl |1,_=>rfl |2,_=>rfl |3,_=>rfl |4,_=>rfl |5,_=>rfl |6,_=>rfl |7,_=>rfl))) (vU c trivial)))))))))))))))))))))))))))
theorem Bv(p:Pg)(c:Cf)(g:Int)(hl:p.is.length<1000)(hb:c.b.length<1000000)(h0:0<=g)(hg: ¬gsV p c<=g)(hpc: -1<=c.s.pc∧c.s.pc<=1000)(hr:c.r.length<1000)(L:List Int)(k5: ¬(atI p c.s.pc).kind=5)(k6: ¬(atI p c.s.pc).kind=6)(k7: ¬(atI p c.s.pc).kind=7)(k9: ¬(atI p c.s.pc).kind=9)(k8:(atI p c.s.pc).kind=8)(hst:c.s.st.length<=1000)(hbp: ∀e∈c.b, -1<=e.pc∧e.pc<=1000000)(hb9:c.b.length<900000)(hv:reV p c.s.st c.b c.b.length=some L)(h4:4<=L.length):Vc (vF_ 7 [.agg (pgA p),.agg (cfA c), aI g] [.fv,.bd false,im p c,.bd false,fH p c,.bd false,.bd false,.bd false,.bd false,.bd true,.cl [.agg (pgA p),lR c.s.st,enR c.b, aI c.b.length] (.tup [lR L,.bool true]) [],.bd true,wV c] [] (.tup [.agg (cfA ⟨c.s.go (atI p c.s.pc).tg,c.b++[⟨c.s.pc,0,0, -1,(atI p c.s.pc).tg,true,false,true⟩],(cQ c.r (c.s.pc+1)),c.e⟩),.bool true]) []):=ar (cj (df (g<0)) (cM p (hX p c (hZ c (cj (ig p c hl hb) (cj (df (g>=gsV p c)) (cM p (fp p c (cj (ed p c.s.pc) (cj (i6 (c.s.pc+1)) (cj (af.2 k5) (cj (af.2 k6) (cj (af.2 k7) (cj (af.2 k9) (cj (aG.2 k8) (cM p (qe p c (cj (qS p c.s.st c.b c.b.length L hb9 hst hbp hv) (cj (dt ((L.length:Int)>=4)) (cj (i6 (c.s.pc+1)) (qf c (cj (nZ c.r (c.s.pc+1) (by omega)) (cj (ap 0 c.b.length 48) (cj (ap (0+c.b.length) 1 48) (qd p c (cj (pv ((0:Nat)+c.b.length+1=(c.b++[En.mk c.s.pc (0:Int) (0:Int) (-1:Int) (atI p c.s.pc).tg true false true]).length)) (cj (show ∀(i:Nat),i<0+c.b.length+1-> ∀(j:Nat),j<8->(bif Nat.blt (i+0) ((0:Nat)+c.b.length) then bif Nat.blt (i+0) (0:Nat) then AV.junk else au enC c.b (i+0-0) j else List.getD [aI c.s.pc,aI 0,aI 0,aI (-1:Int),aI (atI p c.s.pc).tg,AV.bool true,AV.bool false,AV.bool (bif !true then true else true)] ((i+0-((0:Nat)+c.b.length)+0)*8+j) AV.junk)=au enC (c.b++[En.mk c.s.pc (0:Int) (0:Int) (-1:Int) (atI p c.s.pc).tg true false true]) i j from(mi c.b _ _ (fun j hj=>match j,hj with |0,_=>rfl |1,_=>rfl |2,_=>rfl |3,_=>rfl |4,_=>rfl |5,_=>rfl |6,_=>rfl |7,_=>rfl))) (vU c trivial))))))))))))))))))))))))))))
theorem Bt(p:Pg)(c:Cf)(g:Int)(hl:p.is.length<1000)(hb:c.b.length<1000000)(h0:0<=g)(hg: ¬gsV p c<=g)(hpc: -1<=c.s.pc∧c.s.pc<=1000)(hr:c.r.length<1000)(L:List Int)(k5: ¬(atI p c.s.pc).kind=5)(k6: ¬(atI p c.s.pc).kind=6)(k7: ¬(atI p c.s.pc).kind=7)(k9: ¬(atI p c.s.pc).kind=9)(k8:(atI p c.s.pc).kind=8)(hst:c.s.st.length<=1000)(hbp: ∀e∈c.b, -1<=e.pc∧e.pc<=1000000)(hb9:c.b.length<900000)(hv:reV p c.s.st c.b c.b.length=some L)(h4: ¬4<=L.length):Vc (vF_ 7 [.agg (pgA p),.agg (cfA c), aI g] [.fv,.bd false,im p c,.bd false,fH p c,.bd false,.bd false,.bd false,.bd false,.bd true,.cl [.agg (pgA p),lR c.s.st,enR c.b, aI c.b.length] (.tup [lR L,.bool true]) [],.bd false,wV c] [] (.tup [.agg (cfA ⟨c.s.go (atI p c.s.pc).tg,c.b++[⟨c.s.pc,0,0, -1,(atI p c.s.pc).tg,true,false,false⟩],(cQ c.r (c.s.pc+1)),c.e⟩),.bool true]) []):=ar (cj (df (g<0)) (cM p (hX p c (hZ c (cj (ig p c hl hb) (cj (df (g>=gsV p c)) (cM p (fp p c (cj (ed p c.s.pc) (cj (i6 (c.s.pc+1)) (cj (af.2 k5) (cj (af.2 k6) (cj (af.2 k7) (cj (af.2 k9) (cj (aG.2 k8) (cM p (qe p c (cj (qS p c.s.st c.b c.b.length L hb9 hst hbp hv) (cj (df ((L.length:Int)>=4)) (cj (i6 (c.s.pc+1)) (qf c (cj (nZ c.r (c.s.pc+1) (by omega)) (cj (ap 0 c.b.length 48) (cj (ap (0+c.b.length) 1 48) (qd p c (cj (pv ((0:Nat)+c.b.length+1=(c.b++[En.mk c.s.pc (0:Int) (0:Int) (-1:Int) (atI p c.s.pc).tg true false false]).length)) (cj (show ∀(i:Nat),i<0+c.b.length+1-> ∀(j:Nat),j<8->(bif Nat.blt (i+0) ((0:Nat)+c.b.length) then bif Nat.blt (i+0) (0:Nat) then AV.junk else au enC c.b (i+0-0) j else List.getD [aI c.s.pc,aI 0,aI 0,aI (-1:Int),aI (atI p c.s.pc).tg,AV.bool true,AV.bool false,AV.bool (bif !true then true else false)] ((i+0-((0:Nat)+c.b.length)+0)*8+j) AV.junk)=au enC (c.b++[En.mk c.s.pc (0:Int) (0:Int) (-1:Int) (atI p c.s.pc).tg true false false]) i j from(mi c.b _ _ (fun j hj=>match j,hj with |0,_=>rfl |1,_=>rfl |2,_=>rfl |3,_=>rfl |4,_=>rfl |5,_=>rfl |6,_=>rfl |7,_=>rfl))) (vU c trivial))))))))))))))))))))))))))))
theorem zO(c:Cf): ∀(i:Nat),i<0+c.b.length+1-> ∀(j:Nat),j<8->(bif Nat.blt (i+0) ((0:Nat)+c.b.length) then bif Nat.blt (i+0) (0:Nat) then AV.junk else au enC c.b (i+0-0) j else List.getD [aI c.s.pc,aI 0,aI 0,aI (-1:Int),aI (-1:Int),AV.bool true,AV.bool false,AV.bool false] ((i+0-((0:Nat)+c.b.length)+0)*8+j) AV.junk)=au enC (c.b++[En.mk c.s.pc (0:Int) (0:Int) (-1:Int) (-1:Int) true false false]) i j:=(mi c.b _ _ (fun j hj=>match j,hj with |0,_=>rfl |1,_=>rfl |2,_=>rfl |3,_=>rfl |4,_=>rfl |5,_=>rfl |6,_=>rfl |7,_=>rfl))
theorem vf(c:Cf){Z:Prop}(z:Z):(RF c.s.r0 (RF c.s.r1 (RF c.s.r2 (RF c.s.r3 (RF c.s.m.length (RR c.s.m.length 1 (fun i j=>aI (List.getD c.s.m i 0)) (RF c.s.st.length (RR c.s.st.length 1 (fun i j=>aI (List.getD c.s.st i 0)) (RF (-1:Int) Z))))))))):=⟨rfl,rfl,rfl,rfl,rfl,fun _ _ _ _=>rfl,rfl,fun _ _ _ _=>rfl,rfl,z⟩
theorem BA(p:Pg)(c:Cf)(g:Int)(hl:p.is.length<1000)(hb:c.b.length<1000000)(h0:0<=g)(hg: ¬gsV p c<=g)(hpc: -1<=c.s.pc∧c.s.pc<=1000)(hr:c.r.length<1000)(k5: ¬(atI p c.s.pc).kind=5)(k6: ¬(atI p c.s.pc).kind=6)(k7: ¬(atI p c.s.pc).kind=7)(k9: ¬(atI p c.s.pc).kind=9)(k8: ¬(atI p c.s.pc).kind=8)(k11:(atI p c.s.pc).kind=11):Vc (vF_ 7 [.agg (pgA p),.agg (cfA c), aI g] [.fv,.bd false,im p c,.bd false,fH p c,.bd false,.bd false,.bd false,.bd false,.bd false,.bd true] [] (.tup [.agg (cfA ⟨c.s.go (-1),c.b++[⟨c.s.pc,0,0, -1,(-1),true,false,false⟩],c.r,c.e⟩),.bool true]) []):=ar (cj (df (g<0)) (cM p (hX p c (hZ c (cj (ig p c hl hb) (cj (df (g>=gsV p c)) (cM p (fp p c (cj (ed p c.s.pc) (cj (i6 (c.s.pc+1)) (cj (af.2 k5) (cj (af.2 k6) (cj (af.2 k7) (cj (af.2 k9) (cj (af.2 k8) (cj (aG.2 k11) (cj (ap 0 c.b.length 48) (cj (ap (0+c.b.length) 1 48) (vf c (cj (pv ((0:Nat)+c.b.length+1=(c.b++[En.mk c.s.pc (0:Int) (0:Int) (-1:Int) (-1:Int) true false false]).length)) (cj (zO c) (mu c trivial))))))))))))))))))))))
theorem Bz(p:Pg)(c:Cf)(g:Int)(hl:p.is.length<1000)(hb:c.b.length<1000000)(h0:0<=g)(hg: ¬gsV p c<=g)(hpc: -1<=c.s.pc∧c.s.pc<=1000)(hr:c.r.length<1000)(k5: ¬(atI p c.s.pc).kind=5)(k6: ¬(atI p c.s.pc).kind=6)(k7: ¬(atI p c.s.pc).kind=7)(k9: ¬(atI p c.s.pc).kind=9)(k8: ¬(atI p c.s.pc).kind=8)(k11: ¬(atI p c.s.pc).kind=11)(k12:(atI p c.s.pc).kind=12):Vc (vF_ 7 [.agg (pgA p),.agg (cfA c), aI g] [.fv,.bd false,im p c,.bd false,fH p c,.bd false,.bd false,.bd false,.bd false,.bd false,.bd false,.bd true] [] (.tup [.agg (cfA ⟨c.s.go (-1),c.b++[⟨c.s.pc,0,0, -1,(-1),true,false,false⟩],c.r,c.e⟩),.bool true]) []):=ar (cj (df (g<0)) (cM p (hX p c (hZ c (cj (ig p c hl hb) (cj (df (g>=gsV p c)) (cM p (fp p c (cj (ed p c.s.pc) (cj (i6 (c.s.pc+1)) (cj (af.2 k5) (cj (af.2 k6) (cj (af.2 k7) (cj (af.2 k9) (cj (af.2 k8) (cj (af.2 k11) (cj (aG.2 k12) (cj (ap 0 c.b.length 48) (cj (ap (0+c.b.length) 1 48) (vf c (cj (pv ((0:Nat)+c.b.length+1=(c.b++[En.mk c.s.pc (0:Int) (0:Int) (-1:Int) (-1:Int) true false false]).length)) (cj (zO c) (mu c trivial)))))))))))))))))))))))
theorem C8(p:Pg)(c:Cf)(g:Int)(hl:p.is.length<1000)(hb:c.b.length<1000000)(h0:0<=g)(hg: ¬gsV p c<=g)(hpc: -1<=c.s.pc∧c.s.pc<=1000)(hr:c.r.length<1000)(k5: ¬(atI p c.s.pc).kind=5)(k6: ¬(atI p c.s.pc).kind=6)(k7: ¬(atI p c.s.pc).kind=7)(k9: ¬(atI p c.s.pc).kind=9)(k8: ¬(atI p c.s.pc).kind=8)(k11: ¬(atI p c.s.pc).kind=11)(k12: ¬(atI p c.s.pc).kind=12):Vc (vF_ 7 [.agg (pgA p),.agg (cfA c), aI g] [.fv,.bd false,im p c,.bd false,fH p c,.bd false,.bd false,.bd false,.bd false,.bd false,.bd false,.bd false] [] (.tup [.agg (cfA ⟨c.s.go (c.s.pc+1),c.b++[⟨c.s.pc,0,0, -1,(c.s.pc+1),false,false,false⟩],c.r,c.e⟩),.bool true]) []):=ar (cj (df (g<0)) (cM p (hX p c (hZ c (cj (ig p c hl hb) (cj (df (g>=gsV p c)) (cM p (fp p c (cj (ed p c.s.pc) (cj (i6 (c.s.pc+1)) (cj (af.2 k5) (cj (af.2 k6) (cj (af.2 k7) (cj (af.2 k9) (cj (af.2 k8) (cj (af.2 k11) (cj (af.2 k12) (cj (ap 0 c.b.length 48) (cj (ap (0+c.b.length) 1 48) (yJ c (cj (pv ((0:Nat)+c.b.length+1=(c.b++[En.mk c.s.pc (0:Int) (0:Int) (-1:Int) (c.s.pc+1) false false false]).length)) (cj (zQ c) (mu c trivial)))))))))))))))))))))))
def ftO(p:Pg)(c:Cf)(g:Int):Option Cf:=if 0<=g∧g<gsV p c then some (ftD p c g) else none
theorem CF(p:Pg)(c:Cf)(g:Int)(hl:p.is.length<1000)(hb:c.b.length<900000)(hpc: -1<=c.s.pc∧c.s.pc<=1000)(hr:c.r.length<1000)(hst:c.s.st.length<=1000)(hbp: ∀e∈c.b, -1<=e.pc∧e.pc<=1000000):pC_ 7 [.agg (pgA p),.agg (cfA c),.int .i64 g] (.tup (ocA (ftO p c g))) []:=by
 have hb9:=hb
 replace hb:c.b.length<1000000:=by omega
 unfold ftO
 by_cases hn:g<0
 ·rw[aj (by omega)];exact PureC.vc (xu p c g hl hb hn)
 replace hn:0<=g:=by omega
 by_cases hg:gsV p c<=g
 ·rw[aj (by omega)];exact PureC.vc (xt p c g hl hb hn hg)
 rw[ao ⟨hn,by omega⟩]
 by_cases k5:(atI p c.s.pc).kind=5
 ·by_cases g1:g=1
  ·have e:ftD p c g=⟨c.s.go (atI p c.s.pc).tg,c.b++[⟨c.s.pc,0,0, -1,(atI p c.s.pc).tg,false,false,false⟩],c.r,c.e⟩:=by simp[ftD,ftE,ftR,k5,g1]
   rw[e];exact PureC.vc (Bw p c g hl hb hn hg hpc hr k5 g1)
  ·have e:ftD p c g=⟨c.s.go (c.s.pc+1),c.b++[⟨c.s.pc,0,0, -1,(c.s.pc+1),false,false,false⟩],c.r,c.e⟩:=by simp[ftD,ftE,ftR,k5,g1]
   rw[e];exact PureC.vc (Bx p c g hl hb hn hg hpc hr k5 g1)
 by_cases k6:(atI p c.s.pc).kind=6
 ·have e:ftD p c g=⟨c.s.go (atI p c.s.pc).tg,c.b++[⟨c.s.pc,0,0, -1,(atI p c.s.pc).tg,true,false,false⟩],c.r,c.e⟩:=by simp[ftD,ftE,ftR,k6]
  rw[e];exact PureC.vc (Db p c g hl hb hn hg hpc hr k5 k6)
 by_cases k7:(atI p c.s.pc).kind=7
 ·have e:ftD p c g=⟨c.s.go g,c.b++[⟨c.s.pc,0,0, -1,g,false,false,false⟩],c.r,c.e⟩:=by simp[ftD,ftE,ftR,k7]
  rw[e];exact PureC.vc (Da p c g hl hb hn hg hpc hr k5 k6 k7)
 by_cases k9:(atI p c.s.pc).kind=9
 ·by_cases hz:c.r.length=0
  ·have hz0:c.r=[]:=bg hz
   have e:ftD p c g=⟨c.s.go g,c.b++[⟨c.s.pc,0,0, -1,g,false,false,false⟩],c.r,c.e⟩:=by simp[ftD,ftE,ftR,k9,hz0]
   rw[e];exact PureC.vc (Bs p c g hl hb hn hg hpc hr k5 k6 k7 k9 hz)
  ·have hz0: ¬c.r=[]:=fun e=>hz (by rw[e];rfl)
   have e:ftD p c g=⟨c.s.go (bo c.r),c.b++[⟨c.s.pc,0,0, -1,(bo c.r),false,false,false⟩],(c.r.take ((c.r.length:Int)-1).toNat),c.e⟩:=by simp[ftD,ftE,ftR,k9,hz0]
   rw[e];exact PureC.vc (C9 p c g hl hb hn hg hpc hr k5 k6 k7 k9 hz)
 by_cases k8:(atI p c.s.pc).kind=8
 ·cases hv:reV p c.s.st c.b c.b.length with
  |none=>
   have e:ftD p c g=⟨c.s.go (atI p c.s.pc).tg,c.b++[⟨c.s.pc,0,0, -1,(atI p c.s.pc).tg,true,false,true⟩],(cQ c.r (c.s.pc+1)),c.e⟩:=by simp[ftD,ftE,ftR,k8,ftB,hv]
   rw[e];exact PureC.vc (Bu p c g hl hb hn hg hpc hr k5 k6 k7 k9 k8 hst hbp hb9 hv)
  |some L=>
   by_cases h4:4<=L.length
   ·have e:ftD p c g=⟨c.s.go (atI p c.s.pc).tg,c.b++[⟨c.s.pc,0,0, -1,(atI p c.s.pc).tg,true,false,true⟩],(cQ c.r (c.s.pc+1)),c.e⟩:=by simp[ftD,ftE,ftR,k8,ftB,hv,h4]
    rw[e];exact PureC.vc (Bv p c g hl hb hn hg hpc hr L k5 k6 k7 k9 k8 hst hbp hb9 hv h4)
   ·have e:ftD p c g=⟨c.s.go (atI p c.s.pc).tg,c.b++[⟨c.s.pc,0,0, -1,(atI p c.s.pc).tg,true,false,false⟩],(cQ c.r (c.s.pc+1)),c.e⟩:=by simp[ftD,ftE,ftR,k8,ftB,hv,h4]
    rw[e];exact PureC.vc (Bt p c g hl hb hn hg hpc hr L k5 k6 k7 k9 k8 hst hbp hb9 hv h4)
 by_cases k11:(atI p c.s.pc).kind=11
 ·have e:ftD p c g=⟨c.s.go (-1),c.b++[⟨c.s.pc,0,0, -1,(-1),true,false,false⟩],c.r,c.e⟩:=by simp[ftD,ftE,ftR,k11]
  rw[e];exact PureC.vc (BA p c g hl hb hn hg hpc hr k5 k6 k7 k9 k8 k11)
 by_cases k12:(atI p c.s.pc).kind=12
 ·have e:ftD p c g=⟨c.s.go (-1),c.b++[⟨c.s.pc,0,0, -1,(-1),true,false,false⟩],c.r,c.e⟩:=by simp[ftD,ftE,ftR,k12]
  rw[e];exact PureC.vc (Bz p c g hl hb hn hg hpc hr k5 k6 k7 k9 k8 k11 k12)
 have e:ftD p c g=⟨c.s.go (c.s.pc+1),c.b++[⟨c.s.pc,0,0, -1,(c.s.pc+1),false,false,false⟩],c.r,c.e⟩:=by simp[ftD,ftE,ftR,k5,k6,k7,k9,k8,k11,k12]
 rw[e];exact PureC.vc (C8 p c g hl hb hn hg hpc hr k5 k6 k7 k9 k8 k11 k12)
def opV(p:Pg)(c:Cf)(i:Int):Bool:=if c.e=0∧0<=i∧i<c.b.length then !nJ p c.b i else false
def tA(p:Pg)(c:Cf)(i:Int)(x:In):Int×Bool:=cd p c.s c.b i x.a
def tB(p:Pg)(c:Cf)(i:Int)(x:In):Int×Bool:=cd p c.s c.b i x.b
def tD(p:Pg)(c:Cf)(i:Int)(x:In):Int×Bool:=b9 p c.s c.b i x.d
def tAB(p:Pg)(c:Cf)(i:Int)(x:In):Bool:=(tA p c i x).2&&(tB p c i x).2
def enX(p:Pg)(c:Cf)(k:Nat):In:=atI p (c.b.getD k default).pc
def adV(p:Pg)(c:Cf)(i:Int)(x:In):Int:=Wd.maskV p.W ((tA p c i x).1+(tB p c i x).1)
def cnK(p:Pg)(c:Cf)(i:Int)(x:In):Bool:=
 if x.kind=1 then tAB p c i x else if x.kind=5 then tAB p c i x else if x.kind=4 then tAB p c i x&&(tD p c i x).2
 else if x.kind=2 then tAB p c i x&&(decide ((c.s.m.length:Int)<=adV p c i x)||(ldV p c.s.m c.b i (adV p c i x)).2.2)
 else if x.kind=3 then(tD p c i x).2 else if x.kind=7 then(tA p c i x).2 else x.kind==9
def cnV(p:Pg)(c:Cf)(i:Int):Bool:=opV p c i&&(!(c.b.getD i.toNat default).dn&&cnK p c i (enX p c i.toNat))
def caV(p:Pg)(c:Cf)(i:Int):Bool:=opV p c i&&(!(c.b.getD i.toNat default).kn&&((enX p c i.toNat).kind==3&&tAB p c i (enX p c i.toNat)))
theorem lQ{p:Pg}{c:Cf}{i:Int}(h:opV p c i=true): ∃k:Nat,i=(k:Int)∧k<c.b.length:=by
 unfold opV at h
 split at h
 ·exact⟨i.toNat,by omega,by omega⟩
 ·cases h
def Sml(p:Pg)(c:Cf):Prop:= ∀i x,0<=(tA p c i x).1∧(tA p c i x).1<=65535∧0<=(tB p c i x).1∧(tB p c i x).1<=65535
theorem Sml.add{p:Pg}{c:Cf}(h:Sml p c)(i:Int)(x:In): -1000000<=(tA p c i x).1+(tB p c i x).1∧(tA p c i x).1+(tB p c i x).1<=1000000:=by
 have:=h i x;omega
def upE(c:Cf)(k:Nat)(g:En->En):Cf:=⟨c.s,c.b.set k (g (c.b.getD k default)),c.r,c.e⟩
def En.done(e:En):En:={e with dn:=true}
def En.vl(v:Int)(e:En):En:={e with val:=v}
def En.flt(e:En):En:={e with ft:=true}
def En.ad(a:Int)(e:En):En:={e with adr:=a,kn:=true}
def En.ld(v f:Int)(e:En):En:={e with val:=v,frm:=f}
def En.to(t:Int)(e:En):En:={e with nxt:=t}
theorem tR{b:List En}{k:Nat}{e:En}(hk:k<b.length)(j:Nat):au enC (b.set k e) k j=enC e j:=by
 unfold au;simp[List.getD,hk]
theorem zV{b:List En}{i k:Nat}{e:En}(h:Nat.beq (i+0) (k+0)=false)(j:Nat):au enC (b.set k e) i j=au enC b i j:=by
 have hne: ¬i=k:=fun e=>by subst e;simp at h
 unfold au;simp[List.getD,cD,Ne.symm hne]
def goV(c:Cf)(k:Nat)(t:Int):Cf:=if(c.b.getD k default).nxt=t then c else⟨c.s.go t,(c.b.set k ((c.b.getD k default).to t)).take (k+1),c.r,c.e⟩
def obX(l:List Ob):AV:=match l with
 | []=> .nils
 |o::r=>obR (o::r)
def dmV(p:Pg)(c:Cf)(k:Nat):Cf×List Ob:=
 if(enX p c k).kind=1 then(upE c k fun e=>e.done.vl (Wd.doV p.W (enX p c k).op (tA p (upE c k En.done) k (enX p c k)).1 (tB p (upE c k En.done) k (enX p c k)).1),[])
 else if(enX p c k).kind=4 then(upE c k fun e=>e.done.vl (if(tA p (upE c k En.done) k (enX p c k)).1=0 then(tD p (upE c k En.done) k (enX p c k)).1 else(tB p (upE c k En.done) k (enX p c k)).1),[])
 else if(enX p c k).kind=3 then(upE c k fun e=>e.done.vl (tD p (upE c k En.done) k (enX p c k)).1,[])
 else if(enX p c k).kind=2 then(if(c.s.m.length:Int)<=adV p (upE c k En.done) k (enX p c k) then(upE c k fun e=>(e.done.ad (adV p (upE c k En.done) k (enX p c k))).flt,[])
  else(upE c k fun e=>(e.done.ad (adV p (upE c k En.done) k (enX p c k))).ld (ldV p c.s.m (upE c k fun e=>e.done.ad (adV p (upE c k En.done) k (enX p c k))).b k (adV p (upE c k En.done) k (enX p c k))).1 (ldV p c.s.m (upE c k fun e=>e.done.ad (adV p (upE c k En.done) k (enX p c k))).b k (adV p (upE c k En.done) k (enX p c k))).2.1,[⟨1,adV p (upE c k En.done) k (enX p c k)⟩]))
 else if(enX p c k).kind=5 then(goV (upE c k En.done) k (if Wd.doV p.W (enX p c k).op (tA p (upE c k En.done) k (enX p c k)).1 (tB p (upE c k En.done) k (enX p c k)).1=0 then(c.b.getD k default).pc+1 else(enX p c k).tg),[⟨3,if Wd.doV p.W (enX p c k).op (tA p (upE c k En.done) k (enX p c k)).1 (tB p (upE c k En.done) k (enX p c k)).1=0 then(c.b.getD k default).pc+1 else(enX p c k).tg⟩])
 else if(enX p c k).kind=7 then(goV (upE c k En.done) k (jb p (tA p (upE c k En.done) k (enX p c k)).1),[⟨3,jb p (tA p (upE c k En.done) k (enX p c k)).1⟩])
 else match reV p c.s.st (upE c k En.done).b k with
  |none=>(upE c k fun e=>e.done.flt,[])
  |some L=>if L.length=0 then(upE c k fun e=>e.done.flt,[]) else(goV (upE c k En.done) k (bo L),[⟨3,bo L⟩])
def doO(p:Pg)(c:Cf)(i:Int):Option (Cf×List Ob):=if cnV p c i=true then some (dmV p c i.toNat) else none
def dmA(o:Option (Cf×List Ob)):AV:=match o with
 |some q=> .tup [.agg (cfA q.1),obX q.2,.bool true]
 |none=> .tup [.agg (cfA Cf0),.nils,.bool false]
theorem jn(p:Pg)(l:List En): ∀j k st L,reG p l k j st=some L->L.length<=st.length+j
 |0,k,st,L,h=>by cases h;omega
 |j+1,k,st,L,h=>by
  unfold reG at h
  split at h
  ·split at h
   ·cases h
   ·have:=jn p l j _ _ _ h;rw[aV,eH] at this;omega
  ·split at h
   ·split at h
    ·cases h
    ·have:=jn p l j _ _ _ h;rw[aP] at this;omega
   ·have:=jn p l j _ _ _ h;omega
theorem mc{p:Pg}{c:Cf}{i:Int}(h:cnV p c i=true): ∃k:Nat,i=(k:Int)∧k<c.b.length∧(c.b.getD k default).dn=false∧cnK p c k (enX p c k)=true:=by
 unfold cnV at h
 rw[al] at h
 obtain⟨k,rfl,hk⟩:=lQ h.1
 rw[aE,al] at h
 exact⟨k,rfl,hk,by simpa using h.2.1,h.2.2⟩
theorem lP{l:List En}{k:Nat}{g:En->En}(hg: ∀e,(g e).pc=e.pc)(h:Nat):((l.set k (g (l.getD k default))).getD h default).pc=(l.getD h default).pc:=by
 by_cases hq:k=h
 ·subst hq
  by_cases hk:k<l.length
  ·simp[List.getD,hk,hg]
  ·simp[List.getD,hk]
 ·simp[List.getD,cD,hq]
def sT(p:Pg)(c:Cf)(k:Nat):Cf×List Ob:=
 if(c.s.m.length:Int)<=adV p c k (enX p c k) then(upE c k fun e=>(e.ad (adV p c k (enX p c k))).flt,[])
 else match hzV p (upE c k fun e=>e.ad (adV p c k (enX p c k))).b k (adV p c k (enX p c k)) with
  | (h,true)=>(⟨c.s.go ((upE c k fun e=>e.ad (adV p c k (enX p c k))).b.getD h.toNat default).pc,(upE c k fun e=>e.ad (adV p c k (enX p c k))).b.take h.toNat,c.r,c.e⟩,[⟨2,adV p c k (enX p c k)⟩])
  | (_,false)=>(upE c k fun e=>e.ad (adV p c k (enX p c k)),[⟨2,adV p c k (enX p c k)⟩])
def adrO(p:Pg)(c:Cf)(i:Int):Option (Cf×List Ob):=if caV p c i=true then some (sT p c i.toNat) else none
theorem rY(p:Pg)(l:List En)(i a:Int): ∀j k q,hzG p l i a k j=some q->k<=q∧q<k+j
 |0,k,q,h=>by cases h
 |j+1,k,q,h=>by
  unfold hzG at h
  split at h
  ·cases h;omega
  ·have:=rY p l i a j (k+1) q h;omega
theorem od{p:Pg}{l:List En}{i a h:Int}(e:hzV p l i a=(h,true)): ∃q:Nat,h=(q:Int)∧q<l.length:=by
 unfold hzV at e
 split at e
 ·rename_i q hq
  cases e
  have:=rY p l i a _ _ _ hq
  exact⟨q,rfl,by omega⟩
 ·cases e
theorem mf{p:Pg}{c:Cf}{i:Int}(h:caV p c i=true): ∃k:Nat,i=(k:Int)∧k<c.b.length∧(c.b.getD k default).kn=false∧(enX p c k).kind=3:=by
 unfold caV at h
 rw[al] at h
 obtain⟨k,rfl,hk⟩:=lQ h.1
 rw[aE,al,al] at h
 exact⟨k,rfl,hk,by simpa using h.2.1,by simpa using h.2.2.1⟩
structure RtOk (p:Pg) (c:Cf):Prop where
 d:eX (enX p c 0)=true->0<=(enX p c 0).d∧(enX p c 0).d<4
 m:(enX p c 0).kind=3->(c.b.getD 0 default).ft=false->(c.b.getD 0 default).kn=true->0<=(c.b.getD 0 default).adr∧(c.b.getD 0 default).adr<c.s.m.length
 st:(enX p c 0).kind=9->(c.b.getD 0 default).ft=false->(c.b.getD 0 default).dn=true->c.s.st.length≠0
 sl:c.s.st.length<=1000
 ml:c.s.m.length<=1000000
 bl:c.b.length<900000
 pc:0<=(c.b.getD 0 default).pc∧(c.b.getD 0 default).pc<=1000000
structure Dr where
 k:Int
 n:Int
 deriving DecidableEq
instance:Inhabited Dr:=⟨⟨0,0⟩⟩
structure MOk (p:Pg) (c:Cf):Prop where
 il:p.is.length<1000
 bl:c.b.length<900000
 ml:c.s.m.length<1000000
 sm:Sml p c
 sm': ∀k,Sml p (upE c k En.done)
 st:c.s.st.length<=1000
 bp: ∀e∈c.b, -1<=e.pc∧e.pc<=1000000
 bf: ∀e∈c.b, -1000000<=e.frm∧e.frm<=1000000
 pc: -1<=c.s.pc∧c.s.pc<=1000
 rl:c.r.length<1000
 rt:RtOk p c
structure EnOk (p:Pg) (e:En):Prop where
 pc:0<=e.pc∧e.pc<=p.is.length
 val:0<=e.val∧e.val<65536
 frm: -1<=e.frm∧e.frm<=1000000
 nxt: -1<=e.nxt∧e.nxt<=p.is.length
 adr:0<=e.adr∧e.adr<65536
def rOk(p:Pg)(st:List Int)(b:List En)(k:Nat):Prop:= ∃L,reG p b 0 k st=some L∧L.length≠0
def lOk(p:Pg)(st:List Int)(b:List En)(k:Nat):Prop:= ∃L,reG p b 0 k st=some L∧L.length<4
structure EtOk (p:Pg) (m:Nat) (st:List Int) (b:List En) (k:Nat) (e:En):Prop where
 sto:(atI p e.pc).kind=3->e.kn=true->e.ft=false->e.adr<m
 ret:(atI p e.pc).kind=9->e.dn=true->e.ft=false->rOk p st b k
 cal:(atI p e.pc).kind=8->e.ft=false->lOk p st b k
structure Inv (p:Pg) (c:Cf):Prop where
 reg:okR c.s
 mem: ∀x∈c.s.m,0<=x∧x<65536
 ml:c.s.m.length=aQ p.ms
 pc: -1<=c.s.pc∧c.s.pc<=p.is.length
 st:c.s.st.length<=4
 stk: ∀x∈c.s.st,0<=x∧x<=p.is.length
 bl:(c.b.length:Int)<=max p.win 0
 be: ∀e∈c.b,EnOk p e
 rl:c.r.length<=2
 rb: ∀x∈c.r,0<=x∧x<=p.is.length
 et: ∀k,k<c.b.length->EtOk p c.s.m.length c.s.st c.b k (c.b.getD k default)
theorem bZ{l:List En}{k:Nat}(h:k<l.length):l.getD k default∈l:=by simp[List.getD,h]
theorem js{l:List En}{k:Nat}(h: ¬k<l.length):l.getD k default=En0:=by
 simp[List.getD,dw (bX.1 h)];rfl
theorem jr{l:List Int}{k:Nat}(h:k<l.length):l.getD k 0∈l:=by simp[List.getD,h]
theorem cn{k n:Nat}(h:k<=n):cl0 (k:Int) n=k:=by unfold cl0;omega
theorem jm(p:Pg)(st:List Int)(l:List En){k:Nat}(h:k<=l.length):reV p st l k=reG p l 0 k st:=by unfold reV;rw[cn h]
theorem eC(p:Pg)(l l':List En): ∀j k k' st,(∀i,i<j->(l.getD (k+i) default).pc=(l'.getD (k'+i) default).pc)->reG p l k j st=reG p l' k' j st
 |0,_,_,_,_=>rfl
 |j+1,k,k',st,h=>by
  have h0:=h 0 (by omega)
  rw[es,es] at h0
  have e:enI p l k=enI p l' k':=by unfold enI;rw[h0]
  have hr: ∀i,i<j->(l.getD (k+1+i) default).pc=(l'.getD (k'+1+i) default).pc:=fun i hi=>by
   have:=h (i+1) (by omega)
   rw[show k+1+i=k+(i+1) by omega,show k'+1+i=k'+(i+1) by omega];exact this
  have hR:=fun s=>eC p l l' j (k+1) (k'+1) s hr
  unfold reG
  rw[e,h0,hR,hR,hR]
theorem gQ(p:Pg)(l:List En)(P:Int->Prop): ∀j k st L,(∀x∈st,P x)->(∀i,k<=i->i<k+j->(enI p l i).kind=8->P ((l.getD i default).pc+1))->reG p l k j st=some L-> ∀x∈L,P x
 |0,_,st,L,h,_,e=>by cases e;exact h
 |j+1,k,st,L,h,hc,e=>by
  have hc': ∀i,k+1<=i->i<k+1+j->(enI p l i).kind=8->P ((l.getD i default).pc+1):=fun i a b=>hc i (by omega) (by omega)
  unfold reG at e
  split at e
  ·rename_i h8
   split at e
   ·cases e
   ·refine gQ p l P j (k+1) _ L (fun x hx=> ?_) hc' e
    rcases bb.1 hx with hx |hx
    ·exact h x hx
    ·rw[aA.1 hx];exact hc k (by omega) (by omega) h8
  ·split at e
   ·split at e
    ·cases e
    ·exact gQ p l P j (k+1) _ L (fun x hx=>h x (bI hx)) hc' e
   ·exact gQ p l P j (k+1) _ L h hc' e
theorem fV{l:List En}{k i:Nat}{e:En}(hk:k<l.length):(l.set k e).getD i default=if i=k then e else l.getD i default:=by
 by_cases h:i=k
 ·subst h;simp[List.getD,hk]
 ·rw[aj h];simp[List.getD,cD,Ne.symm h]
theorem kb{l:List En}{n i:Nat}(h:i<n):(l.take n).getD i default=l.getD i default:=by
 rw[aq,aq,aU,ao h]
theorem jt{l r:List En}{i:Nat}(h:i<l.length):(l++r).getD i default=l.getD i default:=by
 simp[List.getD,bj h]
theorem ke{l:List En}{e:En}:(l++[e]).getD l.length default=e:=by simp[List.getD]
theorem lM(p:Pg)(st:List Int){l l':List En}{k:Nat}(h: ∀i,i<k->(l.getD i default).pc=(l'.getD i default).pc):reG p l 0 k st=reG p l' 0 k st:=
 eC p l l' k 0 0 st fun i hi=>by rw[bn];exact h i hi
theorem EtOk.pcs{p:Pg}{m:Nat}{st:List Int}{b b':List En}{k:Nat}{e:En}(h:EtOk p m st b k e)(hp: ∀i,i<k->(b.getD i default).pc=(b'.getD i default).pc):EtOk p m st b' k e:=by
 have e0:=lM p st hp
 refine⟨h.sto,fun a b c=> ?_,fun a b=> ?_⟩
 ·have:=h.ret a b c;unfold rOk at this ⊢;rw[<-e0];exact this
 ·have:=h.cal a b;unfold lOk at this ⊢;rw[<-e0];exact this
theorem Inv.up{p:Pg}{c:Cf}(h:Inv p c){k:Nat}(hk:k<c.b.length){e:En}(hp:e.pc=(c.b.getD k default).pc)(he:EnOk p e)(ht:EtOk p c.s.m.length c.s.st c.b k e):Inv p ⟨c.s,c.b.set k e,c.r,c.e⟩:=by
 have hpc: ∀i,(c.b.getD i default).pc=((c.b.set k e).getD i default).pc:=fun i=>by
  rw[fV hk]
  split
  ·rename_i hi;rw[hi];exact hp.symm
  ·rfl
 refine⟨h.reg,h.mem,h.ml,h.pc,h.st,h.stk,by show((c.b.set k e).length:Int)<=_;rw[aN];exact h.bl,fun x hx=> ?_,h.rl,h.rb,fun j hj=> ?_⟩
 ·rcases dI hx with h1 |h1
  ·exact h.be x h1
  ·rw[h1];exact he
 ·have hj:j<c.b.length:=by have:(c.b.set k e).length=c.b.length:=aN;exact this▸hj
  show EtOk p _ _ (c.b.set k e) j ((c.b.set k e).getD j default)
  rw[fV hk]
  split
  ·rename_i hi;rw[hi];exact ht.pcs fun i _=>hpc i
  ·exact(h.et j hj).pcs fun i _=>hpc i
theorem Inv.cut{p:Pg}{c:Cf}(h:Inv p c)(n:Nat){t:Int}(ht: -1<=t∧t<=p.is.length):Inv p ⟨c.s.go t,c.b.take n,c.r,c.e⟩:=by
 refine⟨h.reg,h.mem,h.ml,ht,h.st,h.stk, ?_,fun x hx=>h.be x (bI hx),h.rl,h.rb,fun j hj=> ?_⟩
 ·have:=h.bl
  show((c.b.take n).length:Int)<=_
  rw[aP];omega
 ·have hj:j<min n c.b.length:=by have:(c.b.take n).length=min n c.b.length:=aP;exact this▸hj
  show EtOk p _ _ (c.b.take n) j ((c.b.take n).getD j default)
  rw[kb (by omega)]
  exact(h.et j (by omega)).pcs fun i hi=>by rw[kb (by omega)]
theorem ji{l:List En}(h: ∀e∈l,0<=e.val∧e.val<65536)(k:Nat):0<=(l.getD k default).val∧(l.getD k default).val<65536:=by
 by_cases hk:k<l.length
 ·exact h _ (bZ hk)
 ·rw[js hk];exact⟨by decide,by decide⟩
theorem oy{p:Pg}{l:List En}{r:Int}(h: ∀e∈l,0<=e.val∧e.val<65536): ∀k x,gu p l r k=some x->0<=x.1∧x.1<65536
 |0,x,e=>by cases e
 |k+1,x,e=>by
  unfold gu at e
  split at e
  ·cases e
   split
   ·exact ji h k
   ·exact⟨by decide,by decide⟩
  ·exact oy h k x e
theorem reg_bd{s:S8}(h:okR s)(r:Int):0<=s.reg r∧s.reg r<65536:=by
 obtain⟨h0,h1,h2,h3⟩:=h
 unfold S8.reg
 repeat' split
 all_goals assumption
theorem eS{p:Pg}{s:S8}{l:List En}(hs:okR s)(h: ∀e∈l,0<=e.val∧e.val<65536)(i r:Int):0<=(b9 p s l i r).1∧(b9 p s l i r).1<65536:=by
 unfold b9
 split
 ·cases e:gu p l r (cl0 i l.length) with
  |some x=>exact oy h _ _ e
  |none=>exact reg_bd hs r
 ·exact⟨by decide,by decide⟩
theorem jh{p:Pg}{s:S8}{l:List En}(hs:okR s)(h: ∀e∈l,0<=e.val∧e.val<65536)(i:Int)(v:Vl):0<=(cd p s l i v).1∧(cd p s l i v).1<65536:=by
 unfold cd
 split
 ·exact eS hs h i _
 ·exact Wd.maskV_bd _ _
theorem qJ{p:Pg}{c:Cf}(hs:okR c.s)(h: ∀e∈c.b,0<=e.val∧e.val<65536):Sml p c:=fun i x=>by
 have h1:=jh (p:=p) hs h i x.a
 have h2:=jh (p:=p) hs h i x.b
 unfold tA tB
 omega
theorem Inv.val{p:Pg}{c:Cf}(h:Inv p c): ∀e∈c.b,0<=e.val∧e.val<65536:=fun e he=>(h.be e he).val
theorem Inv.sml{p:Pg}{c:Cf}(h:Inv p c):Sml p c:=qJ h.reg h.val
theorem Inv.done{p:Pg}{c:Cf}(h:Inv p c)(k:Nat): ∀e∈(upE c k En.done).b,0<=e.val∧e.val<65536:=fun e he=>by
 rcases dI he with h1 |h1
 ·exact h.val e h1
 ·rw[h1];exact ji h.val k
theorem Inv.smlD{p:Pg}{c:Cf}(h:Inv p c)(k:Nat):Sml p (upE c k En.done):=qJ h.reg (h.done k)
theorem Inv.ok{p:Pg}{c:Cf}(hP:OkP p)(hw:p.win<=1000)(h:Inv p c):MOk p c:=by
 have hl:=hP.len
 have hb:=h.bl
 have hm:c.s.m.length<=16:=by rw[h.ml];exact hP.sum
 have h4:=h.st
 have h2:=h.rl
 refine⟨hl,by omega,by omega,h.sml,h.smlD,by omega,fun e he=> ?_,fun e he=> ?_,by have:=h.pc;omega,by omega, ?_⟩
 ·have:=(h.be e he).pc;omega
 ·have:=(h.be e he).frm;omega
 ·have hx:=(fO hP (c.b.getD 0 default).pc).1
  refine⟨fun _=>hx.2.2.2.1,fun a b d=> ?_,fun a b d=> ?_,by omega,by omega,by omega, ?_⟩
  ·by_cases h0:0<c.b.length
   ·exact⟨(h.be _ (bZ h0)).adr.1,(h.et 0 h0).sto a d b⟩
   ·rw[js h0] at d;cases d
  ·by_cases h0:0<c.b.length
   ·obtain⟨L,e,hL⟩:=(h.et 0 h0).ret a d b
    cases e;exact hL
   ·rw[js h0] at d;cases d
  ·by_cases h0:0<c.b.length
   ·have:=(h.be _ (bZ h0)).pc;omega
   ·rw[js h0];exact⟨by decide,by decide⟩
theorem jp(p:Pg)(n:Int):0<=Wd.maskV p.W n∧Wd.maskV p.W n<65536:=Wd.maskV_bd _ _
theorem Inv.goV{p:Pg}{c:Cf}(h:Inv p c){k:Nat}(hk:k<c.b.length){t:Int}(ht: -1<=t∧t<=p.is.length):Inv p (goV c k t):=by
 unfold Px.goV
 split
 ·exact h
 ·have he:=h.be _ (bZ hk)
  have h1:=h.up hk (e:=(c.b.getD k default).to t) rfl ⟨he.pc,he.val,he.frm,ht,he.adr⟩ ⟨(h.et k hk).sto,(h.et k hk).ret,(h.et k hk).cal⟩
  exact h1.cut (k+1) ht
theorem rR{p:Pg}{l:List En}{a:Int}(h: ∀e∈l,0<=e.val∧e.val<65536): ∀k x,ldF p l a k=some x->(0<=x.1∧x.1<65536)∧ -1<=x.2.1∧x.2.1<=k
 |0,x,e=>by cases e
 |k+1,x,e=>by
  unfold ldF at e
  split at e
  ·cases e
   split
   ·exact⟨ji h k,by show(-1:Int)<=(k:Int);omega,by show(k:Int)<=((k+1:Nat):Int);omega⟩
   ·exact⟨⟨by decide,by decide⟩,by show(-1:Int)<=0;decide,by show(0:Int)<=((k+1:Nat):Int);omega⟩
  ·have:=rR h k x e
   refine⟨this.1,this.2.1, ?_⟩
   have:=this.2.2
   omega
theorem xo{p:Pg}{m:List Int}{l:List En}{i a:Int}(hm: ∀x∈m,0<=x∧x<65536)(h: ∀e∈l,0<=e.val∧e.val<65536):(0<=(ldV p m l i a).1∧(ldV p m l i a).1<65536)∧ -1<=(ldV p m l i a).2.1∧(ldV p m l i a).2.1<=l.length:=by
 unfold ldV
 cases e:ldF p l a (cl0 i l.length) with
 |some x=>
  have:=rR h _ _ e
  have hc:=fN i l.length
  exact⟨this.1,this.2.1,by have:=this.2.2;show x.2.1<=_;omega⟩
 |none=>
  show(0<=(if _ then _ else _:Int×Int×Bool).1∧_)∧_
  split
  ·exact⟨w4 hm _,by show(-1:Int)<= -1;decide,by show(-1:Int)<=_;omega⟩
  ·exact⟨⟨by decide,by decide⟩,by show(-1:Int)<= -1;decide,by show(-1:Int)<=_;omega⟩
theorem fM{p:Pg}(hP:OkP p)(c:Cf)(k:Nat):OkI (enX p c k) p.is.length∧((enX p c k).kind≠12->0<=(c.b.getD k default).pc∧(c.b.getD k default).pc<p.is.length):=fO hP _
theorem Inv.doO{p:Pg}{c c2:Cf}{o:List Ob}(hP:OkP p)(hw:p.win<=1000)(h:Inv p c){i:Int}(e:doO p c i=some (c2,o)):Inv p c2:=by
 unfold Px.doO at e
 split at e
 ·rename_i hc
  obtain⟨k,rfl,hk,hd,hK⟩:=mc hc
  rw[aE,ah] at e
  have he:=h.be _ (bZ hk)
  have ht:=h.et k hk
  have hb:=h.bl
  obtain⟨hx,hx2⟩:=fM hP c k
  have hbD: ∀i,((upE c k En.done).b.getD i default).pc=(c.b.getD i default).pc:=fun i=>lP (l:=c.b) (k:=k) (g:=En.done) (fun _=>rfl) i
  have hlD:(upE c k En.done).b.length=c.b.length:=aN
  have hv0:=jh (p:=p) h.reg (h.done k) (k:Int)
  have n8:(enX p c k).kind=8->False:=fun k8=>by
   unfold cnK at hK
   simp[k8] at hK
  have n3: ∀{q:Prop}, ¬(enX p c k).kind=3->(atI p (c.b.getD k default).pc).kind=3->q:=fun a b=>absurd b a
  have mk: ∀e':En,e'.pc=(c.b.getD k default).pc->EnOk p e'->((enX p c k).kind=3->e'.kn=true->e'.ft=false->e'.adr<c.s.m.length)->((enX p c k).kind=9->e'.ft=false->rOk p c.s.st c.b k)->Inv p ⟨c.s,c.b.set k e',c.r,c.e⟩:=fun e' hp ho h3 h9=>
   h.up hk hp ho ⟨fun a=>h3 (by unfold enX;rw[<-hp];exact a),fun a _ b=>h9 (by unfold enX;rw[<-hp];exact a) b,fun a=>absurd (by unfold enX;rw[<-hp];exact a) n8⟩
  unfold dmV at e
  by_cases k1:(enX p c k).kind=1
  ·rw[ao k1] at e
   cases e
   exact mk _ rfl ⟨he.pc,xB _ _ _ _,he.frm,he.nxt,he.adr⟩ (fun a=>by omega) (fun a=>by omega)
  rw[aj k1] at e
  by_cases k4:(enX p c k).kind=4
  ·rw[ao k4] at e
   cases e
   refine mk _ rfl ⟨he.pc, ?_,he.frm,he.nxt,he.adr⟩ (fun a=>by omega) (fun a=>by omega)
   show 0<=(if _ then _ else _:Int)∧(if _ then _ else _:Int)<65536
   split
   ·exact eS h.reg (h.done k) _ _
   ·exact hv0 _
  rw[aj k4] at e
  by_cases k3:(enX p c k).kind=3
  ·rw[ao k3] at e
   cases e
   exact mk _ rfl ⟨he.pc,eS h.reg (h.done k) _ _,he.frm,he.nxt,he.adr⟩ (fun a b d=>ht.sto a b d) (fun a=>by omega)
  rw[aj k3] at e
  by_cases k2:(enX p c k).kind=2
  ·rw[ao k2] at e
   split at e
   ·cases e
    exact mk _ rfl ⟨he.pc,he.val,he.frm,he.nxt,jp _ _⟩ (fun a=>by omega) (fun a=>by omega)
   ·cases e
    have hl:=xo (p:=p) (m:=c.s.m) (l:=(upE c k fun e=>e.done.ad (adV p (upE c k En.done) k (enX p c k))).b) (i:=(k:Int)) (a:=adV p (upE c k En.done) k (enX p c k)) h.mem (fun e he=>by
     rcases dI he with h1 |h1
     ·exact h.val e h1
     ·rw[h1];exact ji h.val k)
    have hlb:(upE c k fun e=>e.done.ad (adV p (upE c k En.done) k (enX p c k))).b.length=c.b.length:=aN
    rw[hlb] at hl
    exact mk _ rfl ⟨he.pc,hl.1,⟨hl.2.1,Int.le_trans hl.2.2 (by omega)⟩,he.nxt,jp _ _⟩ (fun a=>by omega) (fun a=>by omega)
  rw[aj k2] at e
  by_cases k5:(enX p c k).kind=5
  ·rw[ao k5] at e
   cases e
   have hD:Inv p (upE c k En.done):=mk _ rfl ⟨he.pc,he.val,he.frm,he.nxt,he.adr⟩ (fun a=>by omega) (fun a=>by omega)
   have hpc:=hx2 (by omega)
   refine hD.goV (by rw[hlD];exact hk) ?_
   have htg:=hx.2.2.2.2
   split
   ·omega
   ·omega
  rw[aj k5] at e
  by_cases k7:(enX p c k).kind=7
  ·rw[ao k7] at e
   cases e
   have hD:Inv p (upE c k En.done):=mk _ rfl ⟨he.pc,he.val,he.frm,he.nxt,he.adr⟩ (fun a=>by omega) (fun a=>by omega)
   refine hD.goV (by rw[hlD];exact hk) ?_
   have:=hv0 (enX p c k).a
   unfold jb tA
   show -1<=min (cd p c.s (upE c k En.done).b k (enX p c k).a).1 _∧min (cd p c.s (upE c k En.done).b k (enX p c k).a).1 _<=_
   omega
  rw[aj k7,jm p c.s.st _ (by rw[hlD];omega),lM p c.s.st (fun i _=>hbD i)] at e
  have flt:Inv p (upE c k fun e=>e.done.flt):=mk _ rfl ⟨he.pc,he.val,he.frm,he.nxt,he.adr⟩ (fun _ _ a=>by cases a) (fun _ a=>by cases a)
  cases hv:reG p c.b 0 k c.s.st with
  |none=>rw[hv] at e;cases e;exact flt
  |some L=>
   rw[hv] at e
   by_cases h0:L.length=0
   ·have e':(if L.length=0 then((upE c k fun e=>e.done.flt,[]):Cf×List Ob) else(Px.goV (upE c k En.done) k (bo L),[⟨3,bo L⟩]))=(c2,o):=e
    rw[ao h0] at e';cases e';exact flt
   ·have e':(if L.length=0 then((upE c k fun e=>e.done.flt,[]):Cf×List Ob) else(Px.goV (upE c k En.done) k (bo L),[⟨3,bo L⟩]))=(c2,o):=e
    rw[aj h0] at e';cases e'
    have hD:Inv p (upE c k En.done):=mk _ rfl ⟨he.pc,he.val,he.frm,he.nxt,he.adr⟩ (fun a=>by omega) (fun _ _=>⟨L,hv,h0⟩)
    refine hD.goV (by rw[hlD];exact hk) ?_
    have hm:bo L∈L:=by unfold bo;exact jr (by omega)
    have:=gQ p c.b (fun x=>0<=x∧x<=p.is.length) k 0 c.s.st L h.stk (fun i _ hi h8=>by
     have:=(fO hP (c.b.getD i default).pc).2 (by unfold enI at h8;omega)
     omega) hv _ hm
    omega
 ·cases e
theorem Inv.adrO{p:Pg}{c c2:Cf}{o:List Ob}(hP:OkP p)(h:Inv p c){i:Int}(e:adrO p c i=some (c2,o)):Inv p c2:=by
 unfold Px.adrO at e
 split at e
 ·rename_i hc
  obtain⟨k,rfl,hk,hd,hK⟩:=mf hc
  rw[aE,ah] at e
  have he:=h.be _ (bZ hk)
  have ht:=h.et k hk
  have hU: ∀g:En->En,(g (c.b.getD k default)).pc=(c.b.getD k default).pc->EnOk p (g (c.b.getD k default))->((g (c.b.getD k default)).kn=true->(g (c.b.getD k default)).ft=false->(g (c.b.getD k default)).adr<c.s.m.length)->Inv p (upE c k g):=fun g hp ho h3=>
   h.up hk hp ho ⟨fun _=>h3,fun a=>by rw[hp] at a;unfold enX at hK;omega,fun a=>by rw[hp] at a;unfold enX at hK;omega⟩
  unfold sT at e
  split at e
  ·cases e
   exact hU _ rfl ⟨he.pc,he.val,he.frm,he.nxt,jp _ _⟩ (fun _ a=>by cases a)
  ·rename_i ho
   have hI:Inv p (upE c k fun e=>e.ad (adV p c k (enX p c k))):=hU _ rfl ⟨he.pc,he.val,he.frm,he.nxt,jp _ _⟩ (fun _ _=>by show adV p c k (enX p c k)<_;omega)
   split at e
   ·rename_i q hz
    cases e
    obtain⟨q',rfl,hq⟩:=od hz
    refine hI.cut _ ?_
    rw[aE]
    have:=(hI.be _ (bZ hq)).pc
    omega
   ·cases e;exact hI
 ·cases e
end
end Go.Proofs.Ytlfldlnohmobmaa.Px
