import Derived.Test.YtbhdoempeglgpaaMdC
import Derived.Test.YtbhdoempeglgpaaMdA
import Derived.WalkKit
import Derived.Outline
import Derived.Test.YtbhdoempeglgpaaRows
import Derived.Lib.Bytes
import Derived.Lib.Bytealg
import Derived.Deep.QuietTactic
import Derived.BigQuiet
import Derived.Test.YtbhdoempeglgpaaMdB
import Derived.Lib.AppendZeros
import Derived.Laws.Rows
set_option linter.unusedVariables false
set_option linter.unusedSimpArgs false
set_option maxRecDepth 100000
namespace Go.Proofs.Ytbhdoempeglgpaa.Rx
section
open Go.RowKit
section
variable{P:Program}{T:Nat->Tch}{md:Bool}{call:bF}{nt:Nat}{ops:Array Oper}{st:St}{D:Nat->DS}
def HpI(T:Nat->Tch)(ops:Array Oper)(st:St)(D:Nat->DS)(listed:Array Bool)(H:Nat->Option Blk):Prop:=
 ∀id,(∃k,k<ops.size∧Up listed k∧dG (T k) id∧(∀j,j<ops.size->Up listed j->dG (T j) id->j<=k)∧H id=(D (k+1)).st.heap id)∨((∀j,j<ops.size->Up listed j-> ¬dG (T j) id)∧H id=st.heap id)
structure EnvI (ops:Array Oper) (st:St) (D:Nat->DS) (listed:Array Bool) (e:Nat->AV):Prop where
 e1: ∀(k:Nat) o t,ops[k]? =some o->o.dst=some t->Up listed k->e t=(D (k+1)).st.env t
 e2: ∀t,(∀(k:Nat) o,ops[k]? =some o->o.dst=some t-> ¬Up listed k)->e t=st.env t
theorem EnvI.put{listed:Array Bool}{e:Nat->AV}(h:EnvI ops st D listed e)(hs:cY ops (fw ops)=true){i:Nat}{o:Oper}(ho:ops[i]? =some o)(hi:i<listed.size){v:AV}(hv:(D (i+1)).st.env=dY (D i).st.env o.dst v):EnvI ops st D (listed.setIfInBounds i true) (dY e o.dst v):=by
 refine⟨fun k p t hp hd hu=> ?_,fun t hno=> ?_⟩
 ·rcases (bX hi).1 hu with rfl |hu'
  ·rw[ho] at hp;cases hp
   rw[hv,es hd,es hd]
  ·by_cases hk:k=i
   ·subst hk
    rw[ho] at hp;cases hp
    rw[hv,es hd,es hd]
   ·have:=(dJ hs ho hp hd).1
    rw[eT (this.resolve_left hk)]
    exact h.e1 k p t hp hd hu'
 ·rw[eT fun hd=>hno i o ho hd ((bX hi).2 (.inl rfl))]
  exact h.e2 t fun k p hp hd hu=>hno k p hp hd ((bX hi).2 (.inr hu))
theorem EnvI.agree{listed:Array Bool}{e:Nat->AV}(h:EnvI ops st D listed e)(hD:SeqD P T md call nt ops st D)(hs:cY ops (fw ops)=true)(hc:Closed ops listed){i:Nat}(hr:i∈Region.ready .any ops listed){o:Oper}(ho:ops[i]? =some o){t:Tmp}(ht:t∈d9 o ops):e t=(D i).st.env t:=by
 obtain⟨hnu,hi,hc'⟩:=hc.ready hr
 have hi':i<listed.size:=by rw[hc.sz];exact hi
 have uniq: ∀(k k':Nat) p p',ops[k]? =some p->ops[k']? =some p'->p.dst=some t->p'.dst=some t->k=k':=fun k k' p p' h1 h2 h3 h4=>by
  have:=(dJ hs h2 h1 h3).1
  exact this.resolve_right fun hn=>hn h4
 by_cases hex: ∃(k:Nat) (p:Oper),ops[k]? =some p∧p.dst=some t
 ·obtain⟨k,p,hp,hd⟩:=hex
  have hk:k<ops.size:=(az.1 hp).1
  have late: ¬k<i-> ¬Up listed k->e t=(D i).st.env t:=fun h1 h2=>by
   rw[h.e2 t fun k' p' hp' hd' hu=>h2 (uniq k k' p p' hp hp' hd hd'▸hu)]
   have:=hD.env_keep (t:=t) (a:=0) i (by omega) (by omega) fun j o' j1 j2 j3 j4=>by
    have:=uniq k j p o' hp j3 hd j4
    omega
   rw[this,hD.st0]
  rcases (dJ hs ho hp hd).2 ht with rfl |⟨h1,h2⟩|⟨h1,h2⟩
  ·exact late (by omega) hnu
  ·have hu:Up listed k:=by
    have:=(hc'.bef hs i ((bX hi').2 (.inl rfl)) k h2)
    rcases (bX hi').1 this with rfl |hu
    ·omega
    ·exact hu
   rw[h.e1 k p t hp hd hu]
   exact(hD.env_keep (t:=t) (a:=k+1) i (by omega) (by omega) fun j o' j1 j2 j3 j4=>by
    have:=uniq k j p o' hp j3 hd j4
    omega).symm
  ·exact late h1 fun hu=>hnu (hc.bef hs k hu i h2)
 ·rw[h.e2 t fun k p hp hd=>absurd ⟨k,p,hp,hd⟩ hex]
  have:=hD.env_keep (t:=t) (a:=0) i (by omega) (by omega) fun j o' j1 j2 j3 j4=>hex ⟨j,o',j3,j4⟩
  rw[this,hD.st0]
theorem kO{o:Oper}{e e':Nat->AV}(h: ∀t∈d9 o ops,e t=e' t): ∀x∈o.op.operands.toList,bm e x=bm e' x:=fun x hx=>by
 cases x with
 |tmp t=>exact h t (by
   unfold d9
   rw[ba]
   exact .inl (List.mem_filterMap.2 ⟨.tmp t,hx,rfl⟩))
 |_=>rfl
theorem kg{o:Oper}{e e':Nat->AV}(h: ∀t∈d9 o ops,e t=e' t){orc:List Orc}:dQ ops o e orc=dQ ops o e' orc:=by
 unfold dQ
 cases hg:o.guard with
 |none=>rfl
 |some p=>
  obtain⟨j,want⟩:=p
  simp only
  cases hd:(ops[j]?).bind (·.dst) with
  |none=>rfl
  |some d=>
   simp only
   rw[h d (by
    unfold d9
    rw[ba]
    refine .inr ?_
    rw[hg]
    simp only[hd,Option.toList,aw])]
theorem jU{md:Bool}{op:Op}{ρ:Operand->AV}{h:Nat->Option Blk}{next:Nat}{orc:List Orc}{r:Res}(hv:fvO orc=false)(hr:bN P md op ρ h next orc=some r):next<r.next:=by
 cases hb:bxO op orc with
 |true=>
  rw[iF hb] at hr
  obtain⟨b,q1,q2,q3⟩:=jX h hr
  omega
 |false=>
 rw[jV hv hb] at hr
 cases op with
 |alloc t=>
  obtain⟨z,hz,rfl⟩:=aa.1 hr
  exact cO _
 |box t x=>
  obtain⟨z,hz,rfl⟩:=aa.1 hr
  cases hfz:fzO orc&&z.all cJ with
  |false=>exact cO _
  |true=>exact cO _
 |makeSlice t x y=>
  unfold bn at hr
  simp only at hr
  split at hr
  ·split at hr
   ·obtain⟨i,hi,hr⟩:=ab.1 hr
    obtain⟨z,hz,hr⟩:=ab.1 hr
    obtain⟨hb,hr⟩:=aq hr
    obtain⟨p,hp,rfl⟩:=aa.1 hr
    exact cO _
   ·cases hr
  ·cases hr
 |buildSlice t len parts=>
  unfold bn at hr
  simp only at hr
  split at hr
  ·obtain⟨s,hs,hr⟩:=ab.1 hr
   obtain⟨hb,hr⟩:=aq hr
   obtain⟨z,hz,hr⟩:=ab.1 hr
   obtain⟨cs,hcs,rfl⟩:=aa.1 hr
   exact cO _
  ·cases hr
 |call c=>
  obtain⟨callee,args,at_⟩:=c
  cases callee with
  |builtin b=>
   cases b with
   |append=>
    have hr:apz P md args at_ ρ h next orc=some r:=hr
    obtain⟨b,q1,q2,q3⟩:=lr h hr
    omega
   |_=>cases hr
  |_=>cases hr
 |_=>cases hr
structure InvD [Dfs] (T:Nat->Tch) (ops:Array Oper) (st:St) (D:Nat->DS) (nt:Nat) (cx0:Cx) (listed:Array Bool) (a:Act) (cx:Cx) (e:Nat->AV) (N:Nat):Prop where
 cl:Closed ops listed
 stab:Stab cx0 cx
 s:SRep cx ⟨e,cx.H,N⟩ a nt
 env:EnvI ops st D listed e
 hp:HpI T ops st D listed cx.H
 bd: ∀k,k<ops.size->Up listed k->(T k).all=true->Bnd (D (k+1))
theorem pm(hD:SeqD P T md call nt ops st D){listed:Array Bool}{H:Nat->Option Blk}(hp:HpI T ops st D listed H){i id:Nat}(hi:i<=ops.size)(h1: ∀k,k<i->dG (T k) id->Up listed k)(h2: ∀k,i<=k->k<ops.size->dG (T k) id-> ¬Up listed k):H id=(D i).st.heap id:=by
 rcases hp id with⟨k,k1,k2,k3,k4,k5⟩|⟨k1,k2⟩
 ·have hk:k<i:=by
   rcases g9 k i with h |h
   ·exact h
   ·exact absurd k2 (h2 k h k1 k3)
  rw[k5]
  exact(hD.keepId (a:=k+1) (id:=id) i (by omega) hi fun j j1 j2 hw=>by
   have:=k4 j (by omega) (h1 j j2 hw) hw
   omega).symm
 ·rw[k2, <-hD.st0]
  exact(hD.keepId (a:=0) (id:=id) i (by omega) hi fun j j1 j2 hw=>k1 j (by omega) (h1 j j2 hw) hw).symm
theorem nf{listed:Array Bool}{H:Nat->Option Blk}{i:Nat}(hi:i<listed.size)(hq: ∀id, ¬dG (T i) id)(hp:HpI T ops st D listed H):HpI T ops st D (listed.setIfInBounds i true) H:=by
 intro id
 have hu: ∀j,Up (listed.setIfInBounds i true) j->dG (T j) id->Up listed j:=fun j hj hw=>by
  rcases (bX hi).1 hj with rfl |hj
  ·exact absurd hw (hq id)
  ·exact hj
 rcases hp id with⟨k,k1,k2,k3,k4,k5⟩|⟨k1,k2⟩
 ·exact .inl ⟨k,k1,(bX hi).2 (.inr k2),k3,fun j j1 j2 j3=>k4 j j1 (hu j j2 j3) j3,k5⟩
 ·exact .inr ⟨fun j j1 j2 j3=>k1 j j1 (hu j j2 j3) j3,k2⟩
theorem jR{listed:Array Bool}{H H':Nat->Option Blk}{i:Nat}(hi:i<listed.size)(hio:i<ops.size)(hlast: ∀id,dG (T i) id-> ∀j,j<ops.size->Up listed j->dG (T j) id->j<=i)(h1: ∀id,dG (T i) id->H' id=(D (i+1)).st.heap id)(h2: ∀id, ¬dG (T i) id->H' id=H id)(hp:HpI T ops st D listed H):HpI T ops st D (listed.setIfInBounds i true) H':=by
 intro id
 by_cases hw:dG (T i) id
 ·refine .inl ⟨i,hio,(bX hi).2 (.inl rfl),hw,fun j j1 j2 j3=> ?_,h1 id hw⟩
  rcases (bX hi).1 j2 with rfl |hu
  ·exact av _
  ·exact hlast id hw j j1 hu j3
 ·have hu: ∀j,Up (listed.setIfInBounds i true) j->dG (T j) id->Up listed j:=fun j hj hw'=>by
   rcases (bX hi).1 hj with rfl |hj
   ·exact absurd hw' hw
   ·exact hj
  rw[h2 id hw]
  rcases hp id with⟨k,k1,k2,k3,k4,k5⟩|⟨k1,k2⟩
  ·exact .inl ⟨k,k1,(bX hi).2 (.inr k2),k3,fun j j1 j2 j3=>k4 j j1 (hu j j2 j3) j3,k5⟩
  ·exact .inr ⟨fun j j1 j2 j3=>k1 j j1 (hu j j2 j3) j3,k2⟩
theorem InvD.step[Dfs]{cx0 cx:Cx}{listed:Array Bool}{a:Act}{e:Nat->AV}{N:Nat}(hI:InvD T ops st D nt cx0 listed a cx e N)(hD:SeqD P T md call nt ops st D)(hcall:cT P call)(hs:cY ops (fw ops)=true){i:Nat}(hr:i∈Region.ready .any ops listed)
  {K:Act->World->Prop}{Q:Exit->Act->World->Prop}(hK: ∀cx' a' e' N',InvD T ops st D nt cx0 (listed.setIfInBounds i true) a' cx' e' N'->K a' cx'.w):wpOp P ops Q i K a cx.w:=by
 obtain⟨hnu,hi,hc'⟩:=hI.cl.ready hr
 have hi':i<listed.size:=by rw[hI.cl.sz];exact hi
 obtain⟨o,g,ho,hd,hg,h1,hbef⟩:=hD.at_ hi
 have hag: ∀t∈d9 o ops,(D i).st.env t=e t:=fun t ht=>(hI.env.agree hD hs hI.cl hr ho ht).symm
 have hev:=kO hag
 rw[kg hag] at hg
 have upB: ∀k,k<i->cfl (T i) (T k)=true->Up listed k:=fun k hk hc=>by
  have:=hc'.bef hs i ((bX hi').2 (.inl rfl)) k (hbef k hk hc)
  rcases (bX hi').1 this with rfl |hu
  ·omega
  ·exact hu
 have upA: ∀k,i<k->k<ops.size->cfl (T k) (T i)=true-> ¬Up listed k:=fun k hk hkn hc hu=>by
  obtain⟨_,_,_,_,_,_,hb⟩:=hD.at_ hkn
  exact hnu (hI.cl.bef hs k hu i (hb i hk hc))
 have seen: ∀id,pu (T i) id->cx.H id=(D i).st.heap id:=fun id ht=>pm hD hI.hp (Nat.le_of_lt hi) (fun k hk hw=>upB k hk (kM hw ht).2) (fun k hk hkn hw=>by
  by_cases hki:k=i
  ·subst hki;exact hnu
  ·exact upA k (by omega) hkn (kM hw ht).1)
 have hlast: ∀id,dG (T i) id-> ∀j,j<ops.size->Up listed j->dG (T j) id->j<=i:=fun id hw j hj hu hwj=>by
  rcases g9 i j with h |h
  ·exact absurd hu (upA j h hj (kM hwj (hw.imp_right .inl)).1)
  ·exact h
 have bdI:(T i).any=true->Bnd (D i):=fun hany=>by
  have hdec:DecidablePred fun k=>(T k).all=true:=fun k=>inferInstance
  rcases nb (fun k=>(T k).all=true) i with⟨k,k1,k2,k3⟩|h0
  ·have hu:Up listed k:=upB k k1 (by unfold cfl;rw[k2,hany];simp)
   refine hD.bnd (a:=k+1) (hI.bd k (by omega) hu k2) i (by omega) (by omega) fun j j1 j2=> ?_
   cases hx:(T j).all with
   |false=>rfl
   |true=>have:=k3 j j2 hx;omega
  ·refine hD.bnd (a:=0) (fun id hid=> ?_) i (by omega) (by omega) fun j _ j2=> ?_
   ·rw[hD.st0] at hid ⊢;exact hD.lt id hid
   ·cases hx:(T j).all with
    |false=>rfl
    |true=>exact absurd hx (h0 j j2)
 unfold wpOp
 rw[ho]
 simp only
 rcases h1 with⟨hgf,hv,_,_,hT,hp⟩|⟨hgt,r,hrr,hpg,hpr,hv,e1,e2,hT⟩
 ·have hw:=cU hg hp hI.s
  rw[hgf] at hw
  rw[hw]
  simp only[dd,if_false]
  refine hK cx _ _ N ⟨hc',hI.stab,hI.s.put (Stab.refl cx) hI.s.c rfl hI.s.lt hd (.pure (.val _)),hI.env.put hs ho hi' hv,nf hi' (fun id hw=>by rw[hT] at hw;rcases hw with h |h<;>cases h) hI.hp,fun k k1 k2 k3=> ?_⟩
  rcases (bX hi').1 k2 with rfl |hu
  ·rw[hT] at k3;cases k3
  ·exact hI.bd k k1 hu k3
 ·have hw:=cU hg hpg hI.s
  rw[hgt] at hw
  rw[hw]
  simp only[if_true]
  refine .inl ?_
  cases hall:(T i).all with
  |true=>
   have hH:cx.H=(D i).st.heap:=funext fun id=>seen id (.inl hall)
   have hbnd:Bnd (D i):=bdI (by unfold Tch.any;rw[hall];rfl)
   have hrr':evD P md call o.op (bm e) (D i).st.heap (D i).st.next g.2.1=some r:=fP hev▸hrr
   have hs0:SRep cx ⟨e,(D i).st.heap,(D i).st.next⟩ a nt:=⟨hH,hI.s.c,hI.s.env,hbnd,hI.s.sz,hI.s.df⟩
   have fin: ∀cx' a',SRep cx' ⟨dY e o.dst r.v,r.heap,r.next⟩ a' nt->Stab cx cx'->K a' cx'.w:=fun cx' a' hs' hst'=>by
    have hHe:cx'.H=r.heap:=hs'.H
    refine hK cx' a' _ r.next ⟨hc',hI.stab.trans hst',by rw[hHe];exact hs',hI.env.put hs ho hi' hv,jR hi' hi hlast (fun id _=>by rw[hHe,e1]) (fun id hn=>absurd (.inl hall) hn) hI.hp,fun k k1 k2 k3=> ?_⟩
    rcases (bX hi').1 k2 with rfl |hu
    ·intro id hid
     rw[e2]
     rw[e1] at hid
     exact hs'.lt id hid
    ·exact hI.bd k k1 hu k3
   cases hcl:eX o.op (bm e) g.2.1 with
   |true=>
    refine ka hcl (by rw[hH];exact hrr') hpr hI.s.c hI.s.env (fun id h5 h6=> ?_) fun cx' z m1 m2 m3 m4 m5=>fin cx' _ (hI.s.put m3 m2 m1 (m5.lt fun id hid=>hbnd id (by rw[<-hH];exact hid)) hd m4) m3
    cases hx:cx.H id with
    |none=>rfl
    |some b=>have:=hbnd id (by rw[<-hH,hx];rfl);omega
   |false=>
    cases hcp:eV o.op (bm e) g.2.1 with
    |true=>
     refine gZ hcp (by rw[hH];exact hrr') hpr hI.s.c hI.s.env fun cx' z m1 m2 m3 m4 m5 m6=>fin cx' _ (hI.s.put m3 m2 m1 (fun id hid=> ?_) hd m4) m3
     rw[m6]
     exact hbnd id (by rw[<-hH, <-m5];exact hid)
    |false=>
     cases hcm:eW o.op (bm e) g.2.1 with
     |true=>
      refine j8 hcm (by rw[hH];exact hrr') hpr hI.s.c hI.s.env (fun id h5 h6=> ?_) fun cx' z m1 m2 m3 m4 m5=>fin cx' _ (hI.s.put m3 m2 m1 (m5.lt fun id hid=>hbnd id (by rw[<-hH];exact hid)) hd m4) m3
      cases hx:cx.H id with
      |none=>rfl
      |some b=>have:=hbnd id (by rw[<-hH,hx];rfl);omega
     |false=>
      unfold evD at hrr'
      rw[hcl,hcp,hcm] at hrr'
      exact gR hcall hrr' hpr hs0 hd fin
  |false=>
   have hall':=hall
   rw[hT] at hall'
   have L:=i7 hrr hall'
   rw[<-hT] at L
   have wr_iff: ∀id,dG (T i) id↔id∈(T i).wr:=fun id=>⟨fun h=>h.resolve_left (by rw[hall];simp),.inr⟩
   have notall: ∀k,k<ops.size->Up (listed.setIfInBounds i true) k->(T k).all=true->Bnd (D (k+1)):=fun k k1 k2 k3=>by
    rcases (bX hi').1 k2 with rfl |hu
    ·rw[hall] at k3;cases k3
    ·exact hI.bd k k1 hu k3
   have done: ∀cx' a' r' N',evD P md call o.op (bm e) cx.H N' g.2.1=some r'->r'.v=r.v->(∀id∈(T i).wr,r'.heap id=r.heap id)->(∀id,id ∉ (T i).wr->r'.heap id=cx.H id)->cx'.H=r'.heap-> ∀M,SRep cx' ⟨dY e o.dst r.v,cx'.H,M⟩ a' nt->Stab cx cx'->K a' cx'.w:=fun cx' a' r' N' _ _ q1 q2 hHe M hs' hst'=>by
    refine hK cx' a' _ M ⟨hc',hI.stab.trans hst',hs',hI.env.put hs ho hi' hv,jR hi' hi hlast (fun id hw=>by rw[hHe,q1 id ((wr_iff id).1 hw),e1]) (fun id hn=>by rw[hHe,q2 id fun hm=>hn ((wr_iff id).2 hm)]) hI.hp,notall⟩
   have rdH: ∀id∈(T i).rd,cx.H id=(D i).st.heap id:=fun id hid=>seen id (.inr (.inr hid))
   have wrH: ∀id∈(T i).wr,cx.H id=(D i).st.heap id:=fun id hid=>seen id (.inr (.inl hid))
   cases hnw:(T i).nw with
   |false=>
    obtain⟨r',k1,k2,k3,k4,_,k6,k7,k8⟩:=L.loc cx.H N (fun h=>by rw[hnw] at h;cases h) rdH wrH
    rw[fP hev] at k1
    have hpr': ∀p∈r'.cs,p:=by rw[k4];exact hpr
    have hlt': ∀id,(r'.heap id).isSome=true->id<N:=fun id hid=>by
     by_cases hm:id∈(T i).wr
     ·rcases L.wrs id hm with h2 |h2
      ·exact hI.s.lt id (by show(cx.H id).isSome=true;rw[wrH id hm];exact h2)
      ·have:=L.nonew hnw
       omega
     ·rw[k8 id hm] at hid
      exact hI.s.lt id hid
    have finz: ∀cx' z,cx'.H=r'.heap->CRep cx'->Stab cx cx'->Rep cx' r'.v z->K (a.put o.dst z) cx'.w:=fun cx' z m1 m2 m3 m4=>by
     have hs':=hI.s.put (next:=N) m3 m2 m1 hlt' hd m4
     rw[k2, <-m1] at hs'
     exact done cx' _ r' N k1 k2 k7 k8 m1 N hs' m3
    cases hcl:eX o.op (bm e) g.2.1 with
    |true=>
     exfalso
     have hcls:=nd (P:=P) (op:=o.op) (ρ:=bm e) (orc:=g.2.1) hcl
     rw[hT] at hnw hall
     unfold cu at hnw hall
     rw[hcls] at hnw hall
     rw[c9 hev,hcl] at hnw hall
     simp only[aA] at hnw hall
     cases hf:dj (D i).st.heap (rdD o.op (bm (D i).st.env)) with
     |true=>rw[hf] at hnw;cases hnw
     |false=>rw[hf] at hall;cases hall
    |false=>
     cases hcp:eV o.op (bm e) g.2.1 with
     |true=>exact gZ hcp k1 hpr' hI.s.c hI.s.env fun cx' z m1 m2 m3 m4 _ _=>finz cx' z m1 m2 m3 m4
     |false=>
      have hcm:eW o.op (bm e) g.2.1=false:=by
       cases hcm:eW o.op (bm e) g.2.1 with
       |false=>rfl
       |true=>
        exfalso
        rw[hT] at hnw
        unfold cu at hnw
        rw[jP (P:=P) hcm,c9 hev,hcl,dO hev,hcp,dP hev,hcm] at hnw
        cases hnw
      have hrl:=k1
      unfold evD at hrl
      rw[hcl,hcp,hcm] at hrl
      simp only[aM] at hrl
      by_cases hcc:bM P o.op= .call
      ·exfalso
       rw[hT] at hall
       unfold cu at hall
       rw[hcc,c9 hev,hcl,dO hev,hcp,dP hev,hcm] at hall
       cases hall
      ·exact fN hrl hcc hpr' rfl hI.s.c hI.s.env (by
        cases hx:cx.H N with
        |none=>rfl
        |some b=>exact absurd (hI.s.lt N (by show(cx.H N).isSome=true;rw[hx];rfl)) (cD _)) fun cx' z m1 m2 m3 m4 _=>finz cx' z m1 m2 m3 m4
   |true=>
    have hany:(T i).any=true:=by unfold Tch.any;rw[hnw];simp
    have hbnd:=bdI hany
    obtain⟨r',k1,k2,k3,k4,k5,_,k7,k8⟩:=L.loc cx.H (D i).st.next (fun _=>rfl) rdH wrH
    rw[fP hev] at k1
    have k5':=k5 hnw
    have hpr': ∀p∈r'.cs,p:=by rw[k4];exact hpr
    have hfree: ∀id,(D i).st.next<=id->id<r.next->cx.H id=none:=fun id h5 h6=>by
     rw[wrH id (L.new id h5 h6)]
     cases hx:(D i).st.heap id with
     |none=>rfl
     |some b=>have:=hbnd id (by rw[hx];rfl);omega
    have hlt': ∀id,(r'.heap id).isSome=true->id<max N r.next:=fun id hid=>by
     by_cases hm:id∈(T i).wr
     ·rcases L.wrs id hm with h2 |h2
      ·have:id<N:=hI.s.lt id (by show(cx.H id).isSome=true;rw[wrH id hm];exact h2)
       omega
      ·omega
     ·rw[k8 id hm] at hid
      have:id<N:=hI.s.lt id hid
      omega
    have finz: ∀cx' z,cx'.H=r'.heap->CRep cx'->Stab cx cx'->Rep cx' r'.v z->K (a.put o.dst z) cx'.w:=fun cx' z m1 m2 m3 m4=>by
     have hs':=hI.s.put (next:=max N r.next) m3 m2 m1 hlt' hd m4
     rw[k2, <-m1] at hs'
     exact done cx' _ r' _ k1 k2 k7 k8 m1 _ hs' m3
    cases hcl:eX o.op (bm e) g.2.1 with
    |true=>exact ka hcl k1 hpr' hI.s.c hI.s.env (fun id h5 h6=>hfree id h5 (by rw[k5'] at h6;exact h6)) fun cx' z m1 m2 m3 m4 _=>finz cx' z m1 m2 m3 m4
    |false=>
     cases hcp:eV o.op (bm e) g.2.1 with
     |true=>exact gZ hcp k1 hpr' hI.s.c hI.s.env fun cx' z m1 m2 m3 m4 _ _=>finz cx' z m1 m2 m3 m4
     |false=>
      cases hcm:eW o.op (bm e) g.2.1 with
      |true=>exact j8 hcm k1 hpr' hI.s.c hI.s.env (fun id h5 h6=>hfree id h5 (by rw[k5'] at h6;exact h6)) fun cx' z m1 m2 m3 m4 _=>finz cx' z m1 m2 m3 m4
      |false=>
      have hrl:=k1
      unfold evD at hrl
      rw[hcl,hcp,hcm] at hrl
      simp only[aM] at hrl
      by_cases hcc:bM P o.op= .call
      ·exfalso
       rw[hT] at hall
       unfold cu at hall
       rw[hcc,c9 hev,hcl,dO hev,hcp,dP hev,hcm] at hall
       cases hall
      ·refine fN hrl hcc hpr' rfl hI.s.c hI.s.env ?_ fun cx' z m1 m2 m3 m4 _=>finz cx' z m1 m2 m3 m4
       cases hx:cx.H (D i).st.next with
       |none=>rfl
       |some b=>
        exfalso
        have hlt:(D i).st.next<r.next:=by
         cases hcz:bM P o.op with
         |pur=>rw[hT] at hnw;unfold cu at hnw;rw[hcz] at hnw;cases hnw
         |read=>
          rw[hT] at hnw;unfold cu at hnw;rw[hcz] at hnw
          simp only at hnw
          cases ha:gp o.op (bm (D i).st.env) with
          |true=>rw[ha] at hnw;cases hnw
          |false=>rw[ha] at hnw;cases hnw
         |call=>exact absurd hcz hcc
         |make=>
          have hfv:fvO g.2.1=false:=by
           rw[hT] at hnw;unfold cu at hnw;rw[hcz] at hnw
           simp only at hnw
           cases hx2:fvO g.2.1 with
           |false=>rfl
           |true=>rw[hx2] at hnw;cases hnw
          have h9:=hrr
          unfold evD ce at h9
          rw[hcz] at h9
          exact jU hfv h9
         |write=>
          have hm:(D i).st.next∈(T i).wr:=by
           rw[hT] at hnw hall ⊢
           exact lz hcz hnw hall
          rcases L.wrs _ hm with h2 |h2
          ·have:=hbnd _ h2;omega
          ·exact h2.2
        rw[hfree _ (av _) hlt] at hx
        cases hx
end
end
section
open Go.RowKit
section
variable{P:Program}
def Cx.drew(cx:Cx):Cx:=⟨{cx.w with drawn:=cx.w.drawn+1},cx.R,cx.φ,cx.H,cx.B⟩
theorem fQ(cx:Cx):Stab cx cx.drew:=
 ⟨⟨rfl,fun _ h=>h,fun _ h=> .inl h,rfl,rfl,rfl,av _,fun _ _ _=>rfl⟩,fun id b h=>⟨b,h,fun _=>⟨rfl,sameShape.rfl' b⟩,fun _=>rfl⟩,fun id b b' h h'=>by
  have h2:cx.H id=some b':=h'
  rw[h] at h2;cases h2;exact av _⟩
theorem lZ{cx:Cx}(hc:CRep cx):CRep cx.drew:=by
 refine⟨fun id b hb=> ?_,hc.inj,hc.rlt,hc.blt⟩
 have h:=hc.hb id b hb
 unfold HB at h ⊢
 split
 ·rename_i cs hcs
  rw[hcs] at h
  obtain⟨g,cur,h1,h2,h3,h4,h5⟩:=h
  refine⟨g,cur,h1,h2,h3,fun j a ha=> ?_,h5⟩
  obtain⟨u,u1,u2,u3⟩:=h4 j a ha
  exact⟨u,u1,u2,u3.stab hc (fQ cx)⟩
 ·rename_i m n f hcs
  rw[hcs] at h
  rcases h with h |⟨g,cap,cur,h1,h2,h3,h4,h5,h6,h7⟩
  ·exact .inl h
  ·refine .inr ⟨g,cap,cur,h1,h2,h3,h4,h5,fun i hi j hj=> ?_,h7⟩
   obtain⟨u,u1,u2,u3⟩:=h6 i hi j hj
   exact⟨u,u1,u2,u3.mono (fun _ h=>h) fun _ _=>rfl⟩
theorem lY[Dfs]{cx:Cx}{st:St}{a:Act}{nt:Nat}(hs:SRep cx st a nt):SRep cx.drew st a nt:=
 ⟨hs.H,lZ hs.c,fun t=>(hs.env t).stab hs.c (fQ cx),hs.lt,hs.sz,hs.df⟩
theorem InvD.any[Dfs]{T:Nat->Tch}{md:Bool}{call:bF}{nt:Nat}{ops:Array Oper}{st:St}{D:Nat->DS}{cx0:Cx}(hD:SeqD P T md call nt ops st D)(hcall:cT P call)(hs:cY ops (fw ops)=true)
  {Q:Exit->Act->World->Prop}(hQ: ∀cx' a',SRep cx' (D ops.size).st a' nt->Stab cx0 cx'->Q .normal a' cx'.w):
  ∀(fuel:Nat) {listed:Array Bool} {a:Act} {cx:Cx} {e:Nat->AV} {N:Nat},InvD T ops st D nt cx0 listed a cx e N->(List.range ops.size).countP (fun i=> !(listed.getD i false))<=fuel->wpAny P .any ops Q fuel listed a cx.w:=by
 have fin: ∀{listed:Array Bool} {a:Act} {cx:Cx} {e:Nat->AV} {N:Nat},InvD T ops st D nt cx0 listed a cx e N->Region.ready .any ops listed=[]->Q .normal a cx.w:=by
  intro listed a cx e N hI hr
  have hall:=hI.cl.done hs hr
  have hH:cx.H=(D ops.size).st.heap:=funext fun id=>pm hD hI.hp (av _) (fun k hk _=>hall k hk) (fun k h1 h2 _=>by omega)
  have hlt:Bnd (D ops.size):=by
   have hdec:DecidablePred fun k=>(T k).all=true:=fun k=>inferInstance
   rcases nb (fun k=>(T k).all=true) ops.size with⟨k,k1,k2,k3⟩|h0
   ·refine hD.bnd (a:=k+1) (hI.bd k k1 (hall k k1) k2) ops.size (by omega) (av _) fun j j1 j2=> ?_
    cases hx:(T j).all with
    |false=>rfl
    |true=>have:=k3 j j2 hx;omega
   ·refine hD.bnd (a:=0) (fun id hid=> ?_) ops.size (by omega) (av _) fun j _ j2=> ?_
    ·rw[hD.st0] at hid ⊢;exact hD.lt id hid
    ·cases hx:(T j).all with
     |false=>rfl
     |true=>exact absurd hx (h0 j j2)
  have he:e=(D ops.size).st.env:=by
   funext t
   by_cases hex: ∃(k:Nat) (p:Oper),ops[k]? =some p∧p.dst=some t
   ·obtain⟨k,p,hp,hd⟩:=hex
    have hk:k<ops.size:=(az.1 hp).1
    rw[hI.env.e1 k p t hp hd (hall k hk)]
    exact(hD.env_keep (t:=t) (a:=k+1) ops.size (by omega) (av _) fun j o' j1 j2 j3 j4=>by
     have:=(dJ hs j3 hp hd).1
     rcases this with rfl |h5
     ·omega
     ·exact h5 j4).symm
   ·rw[hI.env.e2 t fun k p hp hd=>absurd ⟨k,p,hp,hd⟩ hex]
    have:=hD.env_keep (t:=t) (a:=0) ops.size (by omega) (av _) fun j o' j1 j2 j3 j4=>hex ⟨j,o',j3,j4⟩
    rw[this,hD.st0]
  refine hQ cx a ⟨hH,hI.s.c, ?_,hlt,hI.s.sz,hI.s.df⟩ hI.stab
  rw[<-he]
  exact hI.s.env
 intro fuel
 induction fuel with
 |zero=>
  intro listed a cx e N hI hcnt
  have hr:Region.ready .any ops listed=[]:=by
   rw[List.eq_nil_iff_forall_not_mem]
   intro i hi
   obtain⟨hnu,hlt,_⟩:=hI.cl.ready hi
   have:=List.countP_eq_zero.1 (Nat.le_zero.1 hcnt) i (bT.2 hlt)
   unfold Up at hnu
   simp at this
   exact hnu (by simpa using this)
  exact⟨hr,fin hI hr⟩
 |succ fuel ih=>
  intro listed a cx e N hI hcnt
  refine⟨fin hI,fun i hi=> ?_⟩
  refine hI.step hD hcall hs hi fun cx' a' e' N' hI'=>ih hI' ?_
  obtain⟨hnu,hlt,_⟩:=hI.cl.ready hi
  have hi':i<listed.size:=by rw[hI.cl.sz];exact hlt
  have hx:= @bX listed i
  have:=nv (p:=fun i=> !(listed.getD i false)) (p':=fun k=> !((listed.setIfInBounds i true).getD k false)) (bT.2 hlt) (by
    unfold Up at hnu
    simp only[dy] at hnu ⊢
    cases hb:listed.getD i false with
    |false=>rfl
    |true=>exact absurd hb hnu) (by
    have:=(hx (k:=i) hi').2 (.inl rfl)
    unfold Up at this
    simp only[this,Bool.not_true]) (fun k hk=>by
    simp only[dy] at hk ⊢
    cases hb:listed.getD k false with
    |false=>rfl
    |true=>
     have:=(hx (k:=k) hi').2 (.inr hb)
     unfold Up at this
     rw[this] at hk;cases hk)
  omega
theorem l0[Dfs]{md:Bool}{call:bF}(hcall:cT P call){nt:Nat}{ops:Array Oper}{st:St}{orc:List Orc}{q:St×List Orc×List Prop}{cx:Cx}{a:Act}(h:gV P md call nt ops st orc=some q)(hp: ∀p∈q.2.2,p)(hs:SRep cx st a nt){Q:Exit->Act->World->Prop}
  (hQ: ∀cx' a',SRep cx' q.1 a' nt->Stab cx cx'->Q .normal a' cx'.w):P.follows .mixedOrders=true∧wpAny P .any ops Q ops.size (Array.replicate ops.size false) a {cx.w with drawn:=cx.w.drawn+1}:=by
 unfold gV at h
 obtain⟨h1,h2⟩:=aq h
 rw[aj] at h1
 obtain⟨q',hq,rfl⟩:=aa.1 h2
 obtain⟨s',ps⟩:=q'
 obtain⟨D,d0,d1,d2⟩:=jE ops.size 0 hq hp
 rw[bq] at d1
 have htr: ∀j,j<ops.size-> ∃t,(D (j+1)).tr=(j,t)::(D j).tr:=fun j hj=>by
  obtain⟨q,hq,_⟩:=d2 j (bO _) (by omega)
  obtain⟨o,g,_,_,_,h3⟩:=fB hq
  rcases h3 with⟨_,_,_,_,e,_⟩|⟨_,r,_,_,_,_,_,e,_⟩
  ·exact⟨_,e⟩
  ·exact⟨_,e⟩
 have hT: ∃T:Nat->Tch, ∀j,j<ops.size->(D (j+1)).tr=(j,T j)::(D j).tr:=
  ⟨fun j=>((D (j+1)).tr.head?.map (·.2)).getD hZ,fun j hj=>by
   obtain⟨t,ht⟩:=htr j hj
   have e:((D (j+1)).tr.head?.map (·.2)).getD hZ=t:=by rw[ht];rfl
   show(D (j+1)).tr=(j,((D (j+1)).tr.head?.map (·.2)).getD hZ)::(D j).tr
   rw[e];exact ht⟩
 obtain⟨T,hT⟩:=hT
 have hD:SeqD P T md call nt ops st D:=⟨by rw[d0],by rw[d0],fun j hj=>d2 j (bO _) (by omega),hT,hs.lt⟩
 refine⟨h1.1, ?_⟩
 have hs':=lY hs
 have hno: ∀k, ¬Up (Array.replicate ops.size false) k:=fun k hk=>by
  unfold Up at hk
  rw[aH,Array.getElem?_replicate] at hk
  split at hk<;>cases hk
 refine InvD.any hD hcall h1.2 (cx0:=cx.drew) (Q:=Q) (fun cx' a' hs2 hst2=> ?_) ops.size (cx:=cx.drew) (e:=st.env) (N:=st.next) ⟨⟨by simp,fun k o _ hu=>absurd hu (hno k)⟩,Stab.refl _, ?_,⟨fun k o t _ _ hu=>absurd hu (hno k),fun t _=>rfl⟩,fun id=> .inr ⟨fun j _ hu=>absurd hu (hno j), ?_⟩,fun k _ hu=>absurd hu (hno k)⟩ ?_
 ·rw[d1] at hs2
  exact hQ cx' a' hs2 ((fQ cx).trans hst2)
 ·have:cx.drew.H=st.heap:=hs'.H
  rw[this]
  exact hs'
 ·rw[show cx.drew.H=st.heap from hs'.H]
 ·exact eH List.countP_le_length (by simp)
theorem gU(md:Bool):fS P (gV P md):=by
 intro D0 call hcall nt ops st orc q cx a id h hp hs Q hQ
 obtain⟨h1,h2⟩:=l0 hcall h hp hs hQ
 exact wp_region_any h1 h2
end
end
section
open Go.RowKit
structure Vc (p:Prop):Prop where
 out:p
def dD:List Prop->Prop
 | []=>True
 |p::l=>p∧dD l
theorem fy: ∀{l:List Prop},dD l-> ∀p∈l,p
 | [],_,p,hp=>by cases hp
 |q::l,h,p,hp=>by
  rcases bz.1 hp with rfl |hp
  ·exact h.1
  ·exact fy h.2 p hp
def eqX:X->X->Bool
 | .nrm,.nrm=>true
 | .ext i,.ext j=>Nat.beq i j
 | .ret,.ret=>true
 |_,_=>false
theorem qd{x y:X}(h:eqX x y=true):x=y:=by
 cases x<;>cases y<;>first |rfl |cases h | (unfold eqX at h;rw[ah h])
def loops:Code->List Code
 | .seq a b=>loops a++loops b
 | .cond _ a b=>loops a++loops b
 | .block _ c=>loops c
 | .loop c=>c::loops c
 |_=>[]
section
variable(P:Program)
def qf(f:FuncId):Code:=((P.funcs[f]?).bind (·.body)).getD .skip
def lpC(f:FuncId)(k:Nat):Code:=(loops (qf P f)).getD k .skip
def iS(f:FuncId):Nat:=((P.funcs[f]?).map (·.ntmps)).getD 0
def pr(md:Bool)(f:FuncId)(args:List AV)(orc:List Orc)(ρ:List (Nat×Nat))(res:AV)(H:List Blk):Prop:=
 match ij P (gV P md) md 100 true f args (fun _=>none) 0 orc with
 |some r=>match leS ρ ⟨fun _=>r.v,r.heap,r.next⟩ ⟨[(0,res)],gd H,H.length⟩ with
  |some ps=>dD (r.cs++ps)
  |none=>False
 |none=>False
def vcC(md:Bool)(nt:Nat)(c:Code)(I:Sm)(orc:List Orc)(x:X)(r:List (Nat×Nat))(J:Sm):Prop:=
 match bA P (gV P md) true md (iH P (ij P (gV P md) md 100 false)) nt c I.st orc with
 |some q=>bif eqX q.1 x then match leS r q.2.1 J with
  |some ps=>dD (q.2.2.2++ps)
  |none=>False
  else False
 |none=>False
end
section
variable{P:Program}
theorem PureC.vc{md:Bool}{f:FuncId}{args:List AV}{orc:List Orc}{ρ:List (Nat×Nat)}{res:AV}{H:List Blk}(h:Vc (pr P md f args orc ρ res H)):PureC P f args res H:=by
 replace h:=h.out
 unfold pr at h
 split at h
 ·rename_i r hr
  split at h
  ·rename_i ps hps
   have hall:=fy h
   exact PureC.of (gU md) hr (fun p hp=>hall p (ba.2 (.inl hp))) hps fun p hp=>hall p (ba.2 (.inr hp))
  ·cases h
 ·cases h
theorem kN{md:Bool}(n:Nat):cT P (iH P (ij P (gV P md) md n false)):=ke fun f args h next orc r h1 h2 cx h3 h4 h5 vs h6 h7=>by
 obtain⟨k1,k2⟩:=fr (gU md) n false h1 h2 cx h3 h4 h5 vs h6 h7
 refine⟨k1,k2.mono ?_⟩
 rintro e w' ⟨z,cx',m1,m2,m3,m4,m5,m6,m7⟩
 exact⟨z,cx',m1,m2,m3,m4,m5.2 rfl,m6,m7⟩
theorem Ok.vc{md:Bool}{nt:Nat}{c:Code}{I J:Sm}{orc:List Orc}{x:X}{r:List (Nat×Nat)}(h:Vc (vcC P md nt c I orc x r J)):Ok P nt c I.st x J.st:=by
 replace h:=h.out
 unfold vcC at h
 split at h
 ·rename_i q hq
  obtain⟨hx,h1⟩:eqX q.1 x=true∧(match leS r q.2.1 J with |some ps=>dD (q.2.2.2++ps)|none=>False):=by
   cases hb:eqX q.1 x with
   |true=>rw[hb] at h;exact⟨rfl,h⟩
   |false=>rw[hb] at h;exact h.elim
  split at h1
  ·rename_i ps hps
   have hall:=fy h1
   intro d0 cx a hs Q hQ
   refine bh (gU md) (kN 100) c hq (fun p hp=>hall p (ba.2 (.inl hp))) hs Q fun d1 cx1 a1 hs1 ha1=> ?_
   obtain⟨cx1p,hw,hs1p,hk⟩:=ha1.plus hs1
   obtain⟨cx2,hs2,he2,hw2⟩:=hs1p.le hps fun p hp=>hall p (ba.2 (.inr hp))
   obtain⟨cx3,e3,hs3,ha3⟩:=hk d1 cx2 _ a1 _ hs2 (.of_ext he2)
   rw[qd hx, <-hw, <-hw2, <-e3]
   exact hQ d1 cx3 a1 hs3 ha3
  ·cases h1
 ·cases h
theorem Ok.loop{nt:Nat}{c:Code}{F:Nat->Sm}{m:Nat}{x:X}{J:Sm}(hr: ∀k,k<m->Ok P nt c (F k).st .nrm (F (k+1)).st)(he:Ok P nt c (F m).st x J.st)(hx:x≠ .nrm):Ok P nt (.loop c) (F 0).st x J.st:=by
 intro d0 cx a hs Q hQ
 have key: ∀n k,k+n=m-> ∀(d1:Dfs) cx1 a1, @SRep d1 cx1 (F k).st a1 nt->(∀(d2:Dfs) cx2 a2, @SRep d2 cx2 J.st a2 nt->After true d1 cx1 d2 cx2->Q x.to a2 cx2.w)->Code.rounds P c Q (n+1) a1 cx1.w:=by
  intro n
  induction n with
  |zero=>
   intro k hk d1 cx1 a1 hs1 hK
   obtain rfl:k=m:=by omega
   rw[rounds_succ]
   refine he d1 cx1 a1 hs1 _ fun d2 cx2 a2 hs2 ha2=> ?_
   have:=hK d2 cx2 a2 hs2 ha2
   cases x with
   |nrm=>exact absurd rfl hx
   |ext id=>exact this
   |ret=>exact this
  |succ n ih=>
   intro k hk d1 cx1 a1 hs1 hK
   rw[rounds_succ]
   refine hr k (by omega) d1 cx1 a1 hs1 _ fun d2 cx2 a2 hs2 ha2=> ?_
   obtain⟨cx2p,hw,hs2p,hk2⟩:=ha2.plus hs2
   show Code.rounds _ _ _ _ _ cx2.w
   rw[<-hw]
   exact ih (k+1) (by omega) d2 cx2p a2 hs2p fun d3 cx3 a3 hs3 ha3=>by
    obtain⟨cx4,e4,hs4,ha4⟩:=hk2 d3 cx3 _ a3 _ hs3 ha3
    rw[<-e4]
    exact hK d3 cx4 a3 hs4 ha4
 exact wp_loop_rounds (m+1) (key m 0 (by omega) d0 cx a hs hQ)
def aU{α:Type}[Inhabited α](g:α->Nat->AV)(l:List α):Nat->Nat->AV:=fun i j=>g (l.getD i default) j
theorem lH{α:Type}[Inhabited α]{g:α->Nat->AV}{l l':List α}{i j:Nat}(h:i<l.length):aU g (l++l') i j=aU g l i j:=by
 unfold aU
 rw[al,al,a9 h]
theorem kt{α:Type}[Inhabited α]{g:α->Nat->AV}{l l':List α}{i j:Nat}(h: ¬i<l.length):aU g (l++l') i j=aU g l' (i-l.length) j:=by
 unfold aU
 rw[al,al,bB (eZ.1 h)]
theorem lI{α:Type}[Inhabited α]{g:α->Nat->AV}{l:List α}{x:α}{j:Nat}:aU g (l++[x]) l.length j=g x j:=by
 rw[kt (cD _),Nat.sub_self]
 rfl
theorem mG{n i:Nat}{a b c:AV}(h1:i<n->a=c)(h2: ¬i<n->b=c):(bif Nat.blt i n then a else b)=c:=by
 by_cases h:i<n
 ·have:Nat.blt i n=true:=by rw[aR];exact h
  rw[this]
  exact h1 h
 ·have:Nat.blt i n=false:=by
   cases hb:Nat.blt i n with
   |false=>rfl
   |true=>rw[aR] at hb;exact absurd hb h
  rw[this]
  exact h2 h
end
end
section
open Go.RowKit
section
variable{P:Program}
theorem RepP.ints{w:World}{R:Nat->Prop}{k:IntKind}{n:Nat}{f:Nat->Nat->AV}{v:Value}{l:List Int}(h:RepP w R (.row 1 n f) v)(hR: ∀g,R g->g<w.heap.size)(hn:n=l.length)(hf: ∀i,i<n->f i 0= .int k (l.getD i 0)):
  ∃A c,v= .slice A l.length c∧l.length<=c∧c<=maxLen∧Rd w w.heap.size A (l.map (Value.int k)):=by
 subst hn
 cases h with
 |row A cap u hn hc hA h1 hu=>
  refine⟨A,cap,rfl,hn,hc,fun hl=> ?_⟩
  rw[cC] at hl
  obtain⟨g,o,rfl,hg,hcell⟩:=hA (by omega)
  refine⟨⟨g,o,none⟩,rfl,hR g hg,fun j x hx=> ?_⟩
  have hj:j<l.length:=by
   have:=(an.1 hx).1
   simpa using this
  have h2:=hu j hj 0 (by omega)
  rw[hf j hj] at h2
  have h3:u j 0= .int k (l.getD j 0):=by
   generalize u j 0=z at h2
   cases h2;rfl
  have h4:=hcell j hj 0 (by omega)
  rw[h3] at h4
  rw[au,ar hj,ay,ae] at hx
  rw[<-hx,show Addr.add ⟨g,o,none⟩ j=⟨g,o+j,none⟩ from db g o j]
  rw[show o+(j*1+0)=o+j by omega] at h4
  rw[h4]
  simp[List.getD,hj]
theorem PureC.ofOwn{f:FuncId}{args:List AV}{t:TypeId}{k:IntKind}{l:List Int}{n:Nat}{g:Nat->Nat->AV}(hn:n=l.length)(hg: ∀i,i<n->g i 0= .int k (l.getD i 0))
  (h: ∀(w:World) (R:Nat->Prop) (vs:Array Value),(∀g,R g->g<w.heap.size)->args.length=vs.size->(∀(j:Nat) a v,args[j]? =some a->vs[j]? =some v->RepP w R a v)->Calls P f vs w (RetOwn w.heap.size t (l.map (Value.int k)) w)):
  PureC P f args (.own 0 0 1 0 n) [⟨0,false,t,.rows 1 n g⟩]:=by
 subst hn
 intro w R vs hR hl ha
 refine(h w R vs hR hl ha).mono ?_
 rintro e w' ⟨v,rfl,hown,hb⟩
 have hlen:(l.map (Value.int k)).length=l.length:=cC _
 have hR': ∀g,R g->g<w'.heap.size:=fun g hg=>aK (hR g hg) hb.size
 rcases hown.2 with⟨rfl,h0⟩|⟨gg,cap,cur,rfl,hge,hh,hnc,hcm,hsz,htk⟩
 ·rw[hlen] at h0
  refine⟨_,⟨w',R,fun _=>none,fun i=>[(⟨0,false,t,.rows 1 l.length g⟩:Blk)][i]?,fun g=>g<w.heap.size⟩,rfl,rfl,rfl,⟨fun id b hb'=> ?_,fun _ _ _ _ _ _ _ h1 _=>(by cases h1),hR',fun g hg=>aK hg hb.size⟩,rfl,fun _ h=>h,fun _ h=> .inl h,hb, ?_⟩
  ·cases id with
   |zero=>
    simp only[bu,ae] at hb'
    subst hb'
    exact .inl ⟨rfl,h0⟩
   |succ i=>simp at hb'
  ·exact .own (b:=⟨0,false,t,.rows 1 l.length g⟩) rfl (av _) rfl fun _=>⟨l.length,g,rfl,by omega,.inl ⟨rfl,rfl,h0,rfl⟩⟩
 ·rw[hlen] at hnc htk
  have hlt:gg<w'.heap.size:=(az.1 hh).1
  refine⟨_,⟨w',R,fun i=>if i=0 then some (gg,cap) else none,fun i=>[(⟨0,false,t,.rows 1 l.length g⟩:Blk)][i]?,fun g=>g<w.heap.size⟩,rfl,rfl,rfl,⟨fun id b hb'=> ?_,fun i j _ _ _ _ _ h1 h2=> ?_,hR',fun g hg=>aK hg hb.size⟩,rfl,fun _ h=>h,fun _ h=> .inl h,hb, ?_⟩
  ·cases id with
   |zero=>
    simp only[bu,ae] at hb'
    subst hb'
    refine .inr ⟨gg,cap,cur,rfl,hh,hsz,hnc,hcm,fun i hi j hj=> ?_,eZ.2 hge, ?_⟩
    ·obtain rfl:j=0:=by omega
     have h5:cur.toList[i]? =some (.int k (l.getD i 0)):=by
      have:=congrArg (fun(x:List Value)=>x[i]?) htk
      simp only[au] at this
      rw[aY,aG (by omega)] at this
      rw[this]
      simp[List.getD,hi]
     refine⟨.int k (l.getD i 0), ?_,rfl, ?_⟩
     ·rw[<-aO,show i*1+0=i by omega]
      exact h5
     ·rw[hg i hi]
      exact .int _ _
    ·show ¬R gg
     intro hr
     have:=hR gg hr
     omega
   |succ i=>simp at hb'
  ·simp only at h1 h2
   split at h1
   ·split at h2
    ·omega
    ·cases h2
   ·cases h1
  ·refine .own (b:=⟨0,false,t,.rows 1 l.length g⟩) rfl (av _) rfl fun _=>⟨l.length,g,rfl,by omega,.inr ⟨gg,cap,rfl, ?_⟩⟩
   rw[hlen]
   simp
end
end
section
open Go.RowKit
section
variable{P:Program}
theorem kD{cx:Cx}(hc:CRep cx):CRep ⟨cx.w,cx.R,fun _=>none,fun i=>([]:List Blk)[i]?,cx.B⟩:=
 ⟨fun id b hb=>(by simp at hb),fun _ _ _ _ _ _ _ h1 _=>(by cases h1),hc.rlt,hc.blt⟩
theorem kC{cx:Cx}{H:List Blk}(hc:CRep cx)(hH:cx.H=fun i=>H[i]?)(ids:List Nat): ∃cx1,CRep cx1∧cx1.w=cx.w∧Stab cx cx1∧
  ∀a v,Rep cx a v->(∀id∈bK a,id∈ids)->RepP cx1.w cx1.R (frz (fun i=>H[i]?) a) v:=by
 obtain⟨cx1,e1,hc1,hs1,e2,e3,e4,e5⟩:=bW ids hc
 refine⟨cx1,hc1,e2,hs1,fun a v hr hi=>eB hc1 (fun id b hb=>by rw[e1,hH];exact bE _ _ _ _ hb) (hr.stab hc hs1) fun id hid b g c hb hg=> ?_⟩
 obtain⟨b',hb'⟩:=ao.1 (e5 id (by rw[hb];rfl))
 rw[e3] at hg
 exact e4 id b' g c (hi id hid) hb' hg
theorem PureC.frozen{f:FuncId}{args:List AV}{a:AV}{H:List Blk}(h:PureC P f args a H):PureC P f args (frz (fun i=>H[i]?) a) []:=by
 intro w R vs hR hl ha
 refine(h w R vs hR hl ha).mono ?_
 rintro e w' ⟨z,cx,rfl,rfl,k1,k2,k3,k4,k5,k6,k7⟩
 obtain⟨cx1,hc1,e2,hs1,hfr⟩:=kC k2 k1 (bK a)
 refine⟨z,⟨cx1.w,cx1.R,fun _=>none,fun i=>([]:List Blk)[i]?,cx1.B⟩,rfl,e2.symm,rfl,kD hc1,by rw[hs1.ext.B];exact k3,fun g hg=>hs1.ext.R g (k4 g hg),fun g hg=> ?_,k6,.pure (hfr a z k7 fun _ h=>h)⟩
 rcases hs1.ext.Rn g hg with h1 |h1
 ·exact k5 g h1
 ·rw[k3] at h1;exact .inr (eZ.1 h1)
theorem PureC.lawB{f:FuncId}{args:List AV}{b:Bool}(h:PureC P f args (.bool b) []){W:World}{R:Nat->Prop}{vs:Array Value}(hR: ∀g,R g->g<W.heap.size)(hl:args.length=vs.size)(ha: ∀(j:Nat) a v,args[j]? =some a->vs[j]? =some v->RepP W R a v):Calls P f vs W (RetB (.bool b) W):=by
 refine(h W R vs hR hl ha).mono ?_
 rintro e w' ⟨z,cx,rfl,rfl,_,_,_,_,_,hb,hz⟩
 refine⟨?_,hb⟩
 cases hz with
 |pure h=>cases h;rfl
end
end
section
open Go.RowKit
def lC(id n:Nat):AV->Option (List Prop)
 | .own i _ _ off len=>bif Nat.beq i id then some [off+len<=n] else some []
 | .eptr i _ _ _ _=>bif Nat.beq i id then none else some []
 | .bsl .. =>none
 | .agg _=>none
 | .tup _=>none
 | .clo _ (_::_)=>none
 |_=>some []
def lB(id n:Nat):List AV->Option (List Prop)
 | []=>some []
 |a::l=>(lC id n a).bind fun p=>(lB id n l).map (p++ ·)
def pw(id n:Nat):AV->Option (List Prop)
 | .agg cs=>lB id n cs
 | .clo _ (c::cs)=>lB id n (c::cs)
 |a=>lC id n a
def nV(id n:Nat):List (Nat×AV)->Option (List Prop)
 | []=>some []
 |q::l=>(pw id n q.2).bind fun p=>(nV id n l).map (p++ ·)
def ko(id n:Nat)(q:Nat×Blk):Option (Blk×List Prop):=
 match q.2.c with
 | .box cs=>bif Nat.beq q.1 id then none else(lB id n cs).map fun p=>(q.2,p)
 | .rows m k f=>bif Nat.beq q.1 id then some ({q.2 with c:= .rows m n f},[n<=k]) else some (q.2,[])
def my(id n:Nat):List (Nat×Blk)->Option (List (Nat×Blk)×List Prop)
 | []=>some ([],[])
 |q::l=>(ko id n q).bind fun b=>(my id n l).map fun r=>((q.1,b.1)::r.1,b.2++r.2)
def py(id n:Nat)(J:Sm):Option (Sm×List Prop):=
 (my id n J.heap).bind fun h=>(nV id n J.env).map fun p=>(⟨J.env,h.1,J.next⟩,h.2++p)
def o9(id n:Nat)(J:Sm)(r:List (Nat×Nat))(K:Sm):Prop:=
 match py id n J with
 |some q=>match leS r q.1.st K with
  |some ps=>dD (q.2++ps)
  |none=>False
 |none=>False
section
variable{P:Program}
theorem jk{id n:Nat}: ∀{l:List (Nat×Blk)} {l':List (Nat×Blk)} {ps:List Prop},my id n l=some (l',ps)->(∀p∈ps,p)-> ∀k,(aS l k=none∧aS l' k=none)∨ ∃b b' qs,aS l k=some b∧aS l' k=some b'∧ko id n (k,b)=some (b',qs)∧ ∀q∈qs,q
 | [],l',ps,h,hp,k=>by
  simp only[my,ae,Prod.mk.injEq] at h
  obtain⟨rfl,rfl⟩:=h
  exact .inl ⟨rfl,rfl⟩
 | (i,b)::l,l',ps,h,hp,k=>by
  unfold my at h
  obtain⟨q,hq,h⟩:=ab.1 h
  obtain⟨r,hr,h⟩:=aa.1 h
  simp only[Prod.mk.injEq] at h
  obtain⟨rfl,rfl⟩:=h
  unfold aS
  cases hk:Nat.beq k i with
  |true=>
   obtain rfl:=ah hk
   exact .inr ⟨b,q.1,q.2,rfl,rfl,hq,fun x hx=>hp x (bH _ hx)⟩
  |false=>exact jk (by rw[hr]) (fun x hx=>hp x (bC _ hx)) k
theorem jl{id n:Nat}: ∀{l:List (Nat×AV)} {ps:List Prop},nV id n l=some ps->(∀p∈ps,p)-> ∀t, ∃qs,pw id n (fG .junk l t)=some qs∧ ∀q∈qs,q
 | [],ps,h,hp,t=>⟨[],rfl,fun q hq=>by cases hq⟩
 | (i,a)::l,ps,h,hp,t=>by
  unfold nV at h
  obtain⟨q,hq,h⟩:=ab.1 h
  obtain⟨r,hr,rfl⟩:=aa.1 h
  unfold fG
  cases hk:Nat.beq t i with
  |true=>exact⟨q,hq,fun x hx=>hp x (bH _ hx)⟩
  |false=>exact jl hr (fun x hx=>hp x (bC _ hx)) t
theorem fe{id n:Nat}: ∀{l:List AV} {ps:List Prop},lB id n l=some ps->(∀p∈ps,p)-> ∀(j:Nat) a,l[j]? =some a-> ∃qs,lC id n a=some qs∧ ∀q∈qs,q
 | [],ps,h,hp,j,a,ha=>by simp at ha
 |x::l,ps,h,hp,j,a,ha=>by
  unfold lB at h
  obtain⟨q,hq,h⟩:=ab.1 h
  obtain⟨r,hr,rfl⟩:=aa.1 h
  cases j with
  |zero=>
   simp only[bu,ae] at ha
   subst ha
   exact⟨q,hq,fun x hx=>hp x (bH _ hx)⟩
  |succ j=>exact fe hr (fun x hx=>hp x (bC _ hx)) j a (by simpa using ha)
theorem SRep.shr[Dfs]{cx:Cx}{J J':Sm}{a:Act}{nt id n:Nat}{ps:List Prop}(hs:SRep cx J.st a nt)(h:py id n J=some (J',ps))(hp: ∀p∈ps,p): ∃cx',SRep cx' J'.st a nt∧Ext cx cx'∧cx'.w=cx.w:=by
 unfold py at h
 obtain⟨q,hq,h⟩:=ab.1 h
 obtain⟨pe,he,h⟩:=aa.1 h
 simp only[Prod.mk.injEq] at h
 obtain⟨rfl,rfl⟩:=h
 have hget:=jk (l':=q.1) (ps:=q.2) hq fun p hp'=>hp p (bH _ hp')
 have hget':=jl he fun p hp'=>hp p (bC _ hp')
 have hH:cx.H=aS J.heap:=hs.H
 have one: ∀(x:AV) (v:Value) (qs:List Prop),lC id n x=some qs->(∀q∈qs,q)->Rep cx x v->Rep ⟨cx.w,cx.R,cx.φ,aS q.1,cx.B⟩ x v:=by
  intro x v qs hx hqs hr
  cases x with
  |own i g m off len=>
   obtain⟨b,hb,hle,hO⟩:=hr.own_inv
   have ho:=hr.own_one
   rw[hH] at hb
   rcases hget i with⟨h1,_⟩|⟨b1,b2,rs,h1,h2,h3,h4⟩
   ·rw[hb] at h1;cases h1
   ·rw[hb] at h1;cases h1
    have hgen:b2.gen=b.gen:=by
     unfold ko at h3
     split at h3
     ·obtain⟨_,h3⟩:Nat.beq i id=false∧_:=by
       cases hk:Nat.beq i id with
       |true=>rw[hk] at h3;cases h3
       |false=>exact⟨rfl,by rw[hk] at h3;exact h3⟩
      simp only[aM] at h3
      obtain⟨p,_,h3⟩:=aa.1 h3
      cases h3;rfl
     ·cases hk:Nat.beq i id with
      |true=>rw[hk] at h3;simp only[aA,ae,Prod.mk.injEq] at h3;rw[<-h3.1]
      |false=>rw[hk] at h3;simp only[aM,ae,Prod.mk.injEq] at h3;rw[<-h3.1]
    refine .own h2 (by rw[hgen];exact hle) ho fun e=> ?_
    obtain⟨k,f,k1,k2,k3⟩:=hO (by rw[<-hgen];exact e)
    unfold ko at h3
    simp only[k1] at h3
    simp only[lC] at hx
    cases hk:Nat.beq i id with
    |true=>
     rw[hk] at h3 hx
     simp only[aA,ae,Prod.mk.injEq] at h3 hx
     subst hx
     have hlen:=hqs _ (aw.2 rfl)
     exact⟨n,f,by rw[<-h3.1],hlen,k3⟩
    |false=>
     rw[hk] at h3
     simp only[aM,ae,Prod.mk.injEq] at h3
     exact⟨k,f,by rw[<-h3.1];exact k1,k2,k3⟩
  |bptr i off=>
   obtain⟨g,cap,b,h1,h2,h3,rfl⟩:=hr.bptr_inv
   rw[hH] at h1
   rcases hget i with⟨h4,_⟩|⟨b1,b2,rs,h4,h5,h6,h7⟩
   ·rw[h1] at h4;cases h4
   ·rw[h1] at h4;cases h4
    refine .bptr h5 ?_ h3
    unfold ko at h6
    split at h6
    ·cases hk:Nat.beq i id with
     |true=>rw[hk] at h6;cases h6
     |false=>
      rw[hk] at h6
      simp only[aM] at h6
      obtain⟨p,_,h6⟩:=aa.1 h6
      cases h6;exact h2
    ·rename_i m kk f hc
     have hc':b.c= .rows m kk f:=hc
     rw[hc'] at h2;cases h2
  |eptr i g m k j=>
   simp only[lC] at hx
   obtain⟨b,hb,hle,hE⟩:=hr.eptr_inv
   have ho:=hr.eptr_ptr
   rw[hH] at hb
   cases hk:Nat.beq i id with
   |true=>rw[hk] at hx;cases hx
   |false=>
    rcases hget i with⟨h1,_⟩|⟨b1,b2,rs,h1,h2,h3,h4⟩
    ·rw[hb] at h1;cases h1
    ·rw[hb] at h1;cases h1
     have e2:b2=b:=by
      unfold ko at h3
      simp only[hk,aM] at h3
      split at h3
      ·obtain⟨p,_,h3⟩:=aa.1 h3
       cases h3;rfl
      ·cases h3;rfl
     subst e2
     exact .eptr h2 hle ho hE
  |bsl i m k=>cases hx
  |agg cs=>cases hx
  |tup cs=>cases hx
  |clo f cs=>
   cases cs with
   |cons c cs=>cases hx
   |nil=>
    obtain⟨vs,rfl,hl,_⟩:=hr.clo_inv
    exact .clo hl fun j a v ha _=>by simp at ha
  |_=>cases hr with |pure h=>exact .pure h
 have val: ∀(x:AV) (v:Value) (qs:List Prop),pw id n x=some qs->(∀q∈qs,q)->Rep cx x v->Rep ⟨cx.w,cx.R,cx.φ,aS q.1,cx.B⟩ x v:=by
  intro x v qs hx hqs hr
  cases x with
  |agg cs=>
   obtain⟨vs,rfl,h1,h2,h3⟩:=hr.agg_inv
   refine .agg h1 h2 fun j y u hy hu=> ?_
   obtain⟨rs,r1,r2⟩:=fe hx hqs j y hy
   exact one y u rs r1 r2 (h3 j y u hy hu)
  |clo f cs=>
   cases cs with
   |nil=>exact one _ _ _ hx hqs hr
   |cons c cs=>
    obtain⟨vs,rfl,hl,h3⟩:=hr.clo_inv
    refine .clo hl fun j y u hy hu=> ?_
    obtain⟨rs,r1,r2⟩:=fe hx hqs j y hy
    exact one y u rs r1 r2 (h3 j y u hy hu)
  |_=>exact one _ _ _ hx hqs hr
 refine⟨⟨cx.w,cx.R,cx.φ,aS q.1,cx.B⟩,⟨rfl,⟨fun k b hb=> ?_,fun k k' g c c' h1 h2 h3 h4=> ?_,hs.c.rlt,hs.c.blt⟩,fun t=> ?_,fun k hk=> ?_,hs.sz,hs.df⟩,⟨rfl,fun _ h=>h,fun _ h=> .inl h,rfl,rfl,rfl,av _,fun _ _ _=>rfl⟩,rfl⟩
 ·rcases hget k with⟨_,h1⟩|⟨b1,b2,rs,h1,h2,h3,h4⟩
  ·have hb':aS q.1 k=some b:=hb
   rw[h1] at hb';cases hb'
  ·have hb':aS q.1 k=some b:=hb
   rw[h2] at hb';cases hb'
   have hold:=hs.c.hb k b1 (by rw[hH];exact h1)
   unfold ko at h3
   unfold HB at hold ⊢
   split at h3
   ·rename_i cs hcs'
    have hcs:b1.c= .box cs:=hcs'
    cases hk:Nat.beq k id with
    |true=>rw[hk] at h3;cases h3
    |false=>
     rw[hk] at h3
     simp only[aM] at h3
     obtain⟨p,hp1,h3⟩:=aa.1 h3
     simp only[Prod.mk.injEq] at h3
     obtain⟨rfl,rfl⟩:=h3
     rw[hcs] at hold ⊢
     simp only at hold ⊢
     obtain⟨g,cur,c1,c2,c3,c4,c5,c6⟩:=hold
     refine⟨g,cur,c1,c2,c3,fun j x hx=> ?_,c5,c6⟩
     obtain⟨u,u1,u2,u3⟩:=c4 j x hx
     obtain⟨ss,s1,s2⟩:=fe hp1 h4 j x hx
     exact⟨u,u1,u2,one x u ss s1 s2 u3⟩
   ·rename_i m kk f hcs'
    have hcs:b1.c= .rows m kk f:=hcs'
    rw[hcs] at hold
    simp only at hold
    cases hk:Nat.beq k id with
    |true=>
     rw[hk] at h3
     simp only[aA,ae,Prod.mk.injEq] at h3
     obtain⟨rfl,rfl⟩:=h3
     have hle:=h4 _ (aw.2 rfl)
     rcases hold with⟨c1,c2⟩|⟨g,cap,cur,c1,c2,c3,c4,c5,c6,c7⟩
     ·exact .inl ⟨c1,by omega⟩
     ·exact .inr ⟨g,cap,cur,c1,c2,c3,by omega,c5,fun i hi j hj=>c6 i (by omega) j hj,c7⟩
    |false=>
     rw[hk] at h3
     simp only[aM,ae,Prod.mk.injEq] at h3
     obtain⟨rfl,rfl⟩:=h3
     rw[hcs]
     exact hold
 ·have conv: ∀i,(aS q.1 i).isSome=true->(cx.H i).isSome=true:=fun i hi=>by
   rw[hH]
   rcases hget i with⟨_,e1⟩|⟨b1,b2,rs,e1,e2,_⟩
   ·rw[e1] at hi;cases hi
   ·rw[e1];rfl
  exact hs.c.inj k k' g c c' (conv k h1) (conv k' h2) h3 h4
 ·obtain⟨rs,r1,r2⟩:=hget' t
  exact val _ _ rs r1 r2 (hs.env t)
 ·have hi:(aS q.1 k).isSome=true:=hk
  have:(cx.H k).isSome=true:=by
   rw[hH]
   rcases hget k with⟨_,e1⟩|⟨b1,b2,rs,e1,e2,_⟩
   ·rw[e1] at hi;cases hi
   ·rw[e1];rfl
  rw[hs.H] at this
  exact hs.lt k this
theorem Ok.shr{nt:Nat}{c:Code}{I:St}{x:X}{id n:Nat}{J K:Sm}{r:List (Nat×Nat)}(h:Ok P nt c I x J.st)(hv:Vc (o9 id n J r K)):Ok P nt c I x K.st:=by
 replace hv:=hv.out
 unfold o9 at hv
 split at hv
 ·rename_i q hq
  split at hv
  ·rename_i ps hps
   have hall:=fy hv
   intro d0 cx a hs Q hQ
   refine h d0 cx a hs Q fun d1 cx1 a1 hs1 ha1=> ?_
   obtain⟨cx1p,hw,hs1p,hk⟩:=ha1.plus hs1
   obtain⟨cx2,hs2,he2,hw2⟩:=hs1p.shr hq fun p hp=>hall p (bH _ hp)
   obtain⟨cx3,hs3,he3,hw3⟩:=hs2.le hps fun p hp=>hall p (bC _ hp)
   obtain⟨cx4,e4,hs4,ha4⟩:=hk d1 cx3 _ a1 _ hs3 (.of_ext (he2.trans he3))
   rw[<-hw, <-hw2, <-hw3, <-e4]
   exact hQ d1 cx4 a1 hs4 ha4
  ·cases hv
 ·cases hv
end
def fa(Q:Nat->Prop):Nat->Prop
 |0=>True
 |n+1=>fa Q n∧Q n
end
end Go.Proofs.Ytbhdoempeglgpaa.Rx
namespace Go.Proofs.Ytbhdoempeglgpaa.Px
section
open Go.RowKit Go.Proofs.Ytbhdoempeglgpaa.Rx
def lJ(l:List Int):Nat->Nat->AV:=fun i _=> .int .i64 (l.getD i 0)
def lR(l:List Int):AV:= .row 1 l.length (lJ l)
end
end Go.Proofs.Ytbhdoempeglgpaa.Px
namespace Go.Proofs.Ytbhdoempeglgpaa.Rx
section
open Go.RowKit
theorem rf{α:Type}(a:α):a=a:=rfl
theorem rr(n m:Nat)(f:Nat->Nat->AV): ∀i,i<n-> ∀j,j<m->f i j=f i j:=fun _ _ _ _=>rfl
abbrev RF{α:Type}(a:α)(Z:Prop):Prop:=a=a∧Z
abbrev RR(n m:Nat)(f:Nat->Nat->AV)(Z:Prop):Prop:=(∀i,i<n-> ∀j,j<m->f i j=f i j)∧Z
theorem cj{a b:Prop}(x:a)(y:b):a∧b:=⟨x,y⟩
theorem aF{p q:Prop}(hq:q)(h:p=q:=by kernel_rfl):Vc p:=⟨h.mpr hq⟩
theorem i6(n:Int)(h1: -9223372036854775808<=n:=by omega)(h2:n<=9223372036854775807:=by omega):inK .i64 n:=⟨h1,h2⟩
theorem dt(p:Prop)[Decidable p](h:p:=by first |omega | (simp;omega)| (simp;done)):decide p=true:=decide_eq_true h
theorem df(p:Prop)[Decidable p](h: ¬p:=by first |omega | (simp;omega)| (simp;done)):decide p=false:=hM h
theorem pv(p:Prop)(h:p:=by first |omega |rfl | (simp;done)| (simp;omega)):p:=h
abbrev aI(n:Int):AV:= .int .i64 n
theorem ap(x y s:Nat)(h:(x+y)*s<=140737488355328:=by omega)(h2:x+y<=140737488355328:=by omega):(0:Nat)=0∧x=x∧(x+y)*s<=140737488355328∧x+y<=140737488355328:=⟨rfl,rfl,h,h2⟩
theorem bi(a b:Int)(h:0<=a:=by omega)(h2:a<b:=by omega):0<=a∧a<b:=⟨h,h2⟩
theorem e1(a b:Int)(h:a=b:=by omega):(a==b)=true:=bj.2 h
theorem e0(a b:Int)(h:a≠b:=by omega):(a==b)=false:=af.2 h
theorem n1(a b:Int)(h:a≠b:=by omega):(a !=b)=true:=bne_iff_ne.2 h
theorem n0(a b:Int)(h:a=b:=by omega):(a !=b)=false:=eE.2 h
section
variable{P:Program}
def OkL(P:Program)(nt:Nat)(c:Code)(I:St)(x:X)(J:St):Prop:=
 ∃n, ∀(d:Dfs) cx a,SRep cx I a nt-> ∀Q:Exit->Act->World->Prop,(∀(d':Dfs) cx' a', @SRep d' cx' J a' nt->After true d cx d' cx'->Q x.to a' cx'.w)->Code.rounds P c Q n a cx.w
theorem OkL.exit{nt:Nat}{c:Code}{I J:St}{x:X}(h:Ok P nt c I x J)(hx:x≠ .nrm):OkL P nt c I x J:=by
 refine⟨1,fun d cx a hs Q hQ=> ?_⟩
 rw[rounds_succ]
 refine h d cx a hs _ fun d2 cx2 a2 hs2 he2=> ?_
 have:=hQ d2 cx2 a2 hs2 he2
 cases x with
 |nrm=>exact absurd rfl hx
 |ext id=>exact this
 |ret=>exact this
theorem OkL.step{nt:Nat}{c:Code}{I J K:St}{x:X}(h1:Ok P nt c I .nrm K)(h2:OkL P nt c K x J):OkL P nt c I x J:=by
 obtain⟨n,h2⟩:=h2
 refine⟨n+1,fun d cx a hs Q hQ=> ?_⟩
 rw[rounds_succ]
 refine h1 d cx a hs _ fun d2 cx2 a2 hs2 ha2=> ?_
 obtain⟨cx2p,hw,hs2p,hk⟩:=ha2.plus hs2
 show Code.rounds _ _ _ _ _ cx2.w
 rw[<-hw]
 exact h2 d2 cx2p a2 hs2p Q fun d3 cx3 a3 hs3 ha3=>by
  obtain⟨cx4,e4,hs4,ha4⟩:=hk d3 cx3 _ a3 _ hs3 ha3
  rw[<-e4]
  exact hQ d3 cx4 a3 hs4 ha4
theorem OkL.ok{nt:Nat}{c:Code}{I J:St}{x:X}(h:OkL P nt c I x J):Ok P nt (.loop c) I x J:=by
 obtain⟨n,h⟩:=h
 exact fun d cx a hs Q hQ=>wp_loop_rounds n (h d cx a hs Q hQ)
end
end
end Go.Proofs.Ytbhdoempeglgpaa.Rx
namespace Go.Proofs.Ytbhdoempeglgpaa.Px
section
open Go.RowKit Go.Proofs.Ytbhdoempeglgpaa.Rx
def xcS(A B:AV)(k:Nat):Sm:=⟨[(0,A),(1,B),(5,.int .i64 k),(4,.bool false)],[],0⟩
def xfS:Sm:=⟨[(4,.bool false)],[],0⟩
theorem qb{α:Type}{d:α}{a b:List α}(hl:a.length=b.length)(h: ∀i,i<a.length->a.getD i d=b.getD i d):a=b:=by
 apply List.ext_getElem hl
 intro i h1 h2
 have:=h i h1
 simpa [List.getD,h1,h2] using this
theorem qB(a:List Int)(b:List Int){Z:Prop}(z:Z):(RF a.length (RR a.length 1 (fun i j=>aI (a.getD i 0)) (RF b.length (RR b.length 1 (fun i j=>aI (b.getD i 0)) Z)))):=⟨rfl,fun _ _ _ _=>rfl,rfl,fun _ _ _ _=>rfl,z⟩
abbrev vC_(f:FuncId)(k:Nat):=vcC Try.prog false (iS Try.prog f) (lpC Try.prog f k)
abbrev vF_:=pr Try.prog false
abbrev oL_(f:FuncId)(k:Nat):=Ok Try.prog (iS Try.prog f) (.loop (lpC Try.prog f k))
abbrev pC_:=PureC Try.prog
theorem pf(a b:List Int)(k:Nat)(hl:a.length=b.length)(hk:k<a.length)(hb:a.length<1000000000)(he:(a.getD k 0)=(b.getD k 0)):Vc (vC_ 31 0 (xcS (lR a) (lR b) k) [.bd true,.bd false] .nrm [] (xcS (lR a) (lR b) (k+1))):=aF (cj (dt ((k:Int)<a.length)) (cj (bi k a.length) (cj (bi k b.length) (cj (show(a.getD k 0 !=b.getD k 0)=false from by rw[he];simp) (cj (i6 (k+1)) (qB a b (cj (rf ((k:Int)+1)) (cj (rf false) trivial))))))))
theorem qZ(a b:List Int)(k:Nat)(hl:a.length=b.length)(hk:k<a.length)(hb:a.length<1000000000)(he:(a.getD k 0)≠(b.getD k 0)):Vc (vC_ 31 0 (xcS (lR a) (lR b) k) [.bd true,.bd true] .ret [] xfS):=aF (cj (dt ((k:Int)<a.length)) (cj (bi k a.length) (cj (bi k b.length) (cj (bne_iff_ne.2 he) (cj (rf false) trivial)))))
theorem rc(a b:List Int)(k:Nat)(hl:a.length=b.length)(hk: ¬k<a.length)(hk2:k<1000000000):Vc (vC_ 31 0 (xcS (lR a) (lR b) k) [.bd false] (.ext 0) [] (xcS (lR a) (lR b) k)):=aF (cj (df ((k:Int)<a.length)) (qB a b (cj (rf (k:Int)) (cj (rf false) trivial))))
theorem lc(a b:List Int)(hl:a.length=b.length)(hb:a.length<1000000000)(h: ∀i,i<a.length->a.getD i 0=b.getD i 0): ∀j k,k+j=a.length->OkL Try.prog (iS Try.prog 31) (lpC Try.prog 31 0) (xcS (lR a) (lR b) k).st (.ext 0) (xcS (lR a) (lR b) a.length).st
 |0,k,hk=>by
  obtain rfl:k=a.length:=by omega
  exact OkL.exit (Ok.vc (rc a b _ hl (cD _) hb)) (by simp)
 |j+1,k,hk=>OkL.step (Ok.vc (pf a b k hl (by omega) hb (h k (by omega)))) (lc a b hl hb h j (k+1) (by omega))
theorem lb(a b:List Int)(hl:a.length=b.length)(hb:a.length<1000000000): ∀j k,k+j=a.length->(∃i,k<=i∧i<a.length∧a.getD i 0≠b.getD i 0)->OkL Try.prog (iS Try.prog 31) (lpC Try.prog 31 0) (xcS (lR a) (lR b) k).st .ret (xfS).st
 |0,k,hk,h=>by obtain⟨i,h1,h2,_⟩:=h;omega
 |j+1,k,hk,h=>by
  by_cases he:(a.getD k 0)=(b.getD k 0)
  ·obtain⟨i,h1,h2,h3⟩:=h
   have:i≠k:=fun e=>by subst e;exact h3 he
   exact OkL.step (Ok.vc (pf a b k hl (by omega) hb he)) (lb a b hl hb j (k+1) (by omega) ⟨i,by omega,h2,h3⟩)
  ·exact OkL.exit (Ok.vc (qZ a b k hl (by omega) hb he)) (by simp)
theorem q9(a b:List Int)(hl: ¬a.length=b.length):Vc (vF_ 31 [lR a,lR b] [.bd true] [] (.bool false) []):=aF (cj (show((a.length:Int) !=(b.length:Int))=true from(bne_iff_ne.2 (by omega))) (cj (rf false) trivial))
theorem qA(a:List Int)(b:List Int){Z:Prop}(z:Z):(RF a.length (RR a.length 1 (fun i j=>aI (a.getD i 0)) (RF b.length (RR b.length 1 (fun i j=>aI (b.getD i 0)) (RF (0:Int) (RF false Z)))))):=⟨rfl,fun _ _ _ _=>rfl,rfl,fun _ _ _ _=>rfl,rfl,rfl,z⟩
theorem qY(a b:List Int)(n:Nat)(hl:a.length=b.length)(h:oL_ 31 0 (xcS (lR a) (lR b) 0).st (.ext 0) (xcS (lR a) (lR b) n).st):Vc (vF_ 31 [lR a,lR b] [.bd false,.lp [] (xcS (lR a) (lR b) 0) (.ext 0) (xcS (lR a) (lR b) n)] [] (.bool true) []):=aF (cj (show((a.length:Int) !=(b.length:Int))=false from(eE.2 (by omega))) (qA a b (cj h (cj (rf true) trivial))))
theorem ra(a b:List Int)(hl:a.length=b.length)(h:oL_ 31 0 (xcS (lR a) (lR b) 0).st .ret (xfS).st):Vc (vF_ 31 [lR a,lR b] [.bd false,.lp [] (xcS (lR a) (lR b) 0) .ret xfS] [] (.bool false) []):=aF (cj (show((a.length:Int) !=(b.length:Int))=false from(eE.2 (by omega))) (qA a b (cj h (cj (rf false) trivial))))
theorem rX(a b:List Int)(hb:a.length<1000000000):pC_ 31 [lR a,lR b] (.bool (decide (a=b))) []:=by
 by_cases hl:a.length=b.length
 ·by_cases h: ∀i,i<a.length->a.getD i 0=b.getD i 0
  ·rw[decide_eq_true (qb hl h)]
   exact PureC.vc (qY a b _ hl (lc a b hl hb h a.length 0 (by omega)).ok)
  ·rw[hM (fun e=>h fun i _=>by rw[e])]
   refine PureC.vc (ra a b hl (lb a b hl hb a.length 0 (by omega) ?_).ok)
   apply Classical.byContradiction
   intro hn
   exact h fun i hi=>Classical.byContradiction fun he=>hn ⟨i,bO _,hi,he⟩
 ·rw[hM (fun e=>hl (by rw[e]))]
  exact PureC.vc (q9 a b hl)
end
end Go.Proofs.Ytbhdoempeglgpaa.Px
namespace Go.Proofs.Ytbhdoempeglgpaa
section
open Go.RowKit
namespace Wd
def okB(w:Int):Bool:=decide (1<=w)&&decide (w<=16)
def maskV(w n:Int):Int:=if okB w=true then n%2^w.toNat else 0
theorem oe{w:Int}:okB w=true↔1<=w∧w<=16:=by simp[okB]
theorem od{w:Int}(h:okB w=true): ∃k:Nat,w=k∧1<=k∧k<=16:=by
 rw[oe] at h;exact⟨w.toNat,by omega,by omega,by omega⟩
theorem kv{k:Nat}(h:k<=16):(2:Int)^k<=65536:=by
 have:(2:Nat)^k<=2^16:=Nat.pow_le_pow_right (by omega) h
 have h2:((2^k:Nat):Int)<=((2^16:Nat):Int):=by exact_mod_cast this
 simpa using h2
theorem iR(k:Nat):(1:Int)<=2^k:=by
 have:1<=2^k:=Nat.one_le_two_pow
 have h2:((1:Nat):Int)<=((2^k:Nat):Int):=by exact_mod_cast this
 simpa using h2
theorem maskV_bd(w n:Int):0<=maskV w n∧maskV w n<65536:=by
 unfold maskV;split
 ·rename_i h
  obtain⟨k,rfl,_,hk⟩:=od h
  have h1:=kv hk;have h2:=iR k
  simp only[b6]
  have:=Int.emod_nonneg n (b:=2^k) (by omega);have:=Int.emod_lt_of_pos n (b:=2^k) (by omega);omega
 ·omega
theorem bits_mask(n:Int)(k:Nat)(hk:k<=16):bits .and .i64 n (2^k-1)=n%2^k:=by
 have e:(BitVec.ofInt 64 n&&&BitVec.ofInt 64 (2^k-1)).toNat=(n%2^k).toNat:=by
  have h2:(2:Int)^k<=65536:=kv hk
  have h3:=iR k
  have e1:(BitVec.ofInt 64 ((2:Int)^k-1)).toNat=2^k-1:=by
   have h4:2^k<=65536:=by have:=Nat.pow_le_pow_right (n:=2) (by omega) hk;simpa using this
   have h5:1<=2^k:=Nat.one_le_two_pow
   have:((2:Int)^k-1)=((2^k-1:Nat):Int):=by
    rw[Int.ofNat_sub h5];simp
   rw[this,BitVec.ofInt_natCast,BitVec.toNat_ofNat];omega
  rw[BitVec.toNat_and,e1,Nat.and_two_pow_sub_one_eq_mod,BitVec.toNat_ofInt]
  have h6:(2:Nat)^64=2^k*2^(64-k):=by rw[<-Nat.pow_add];congr 1;omega
  have h7:((2^64:Nat):Int)=2^k*2^(64-k):=by rw[h6];simp
  have h8:(((n%((2^64:Nat):Int)).toNat%2^k:Nat):Int)=n%2^k:=by
   have:=Int.emod_nonneg n (b:=((2^64:Nat):Int)) (by omega)
   rw[Int.natCast_emod,Int.toNat_of_nonneg this,Int.natCast_pow]
   exact Int.emod_emod_of_dvd n ⟨2^(64-k),h7⟩
  omega
 show IntKind.i64.wrap (((BitVec.ofInt 64 n&&&BitVec.ofInt 64 (2^k-1):BitVec 64).toNat:Nat):Int)=_
 have h2:(2:Int)^k<=65536:=kv hk
 have h3:=iR k
 have:=Int.emod_nonneg n (b:=2^k) (by omega);have:=Int.emod_lt_of_pos n (b:=2^k) (by omega)
 rw[e,Int.toNat_of_nonneg (by omega)]
 exact IntWalk.i64_in _ (by omega)
def tI(b:Bool):Int:=if b=true then 1 else 0
end Wd
end
end Go.Proofs.Ytbhdoempeglgpaa
namespace Go.Proofs.Ytbhdoempeglgpaa.Px
section
open Go.RowKit Go.Proofs.Ytbhdoempeglgpaa.Rx
structure Mm where
 nm:ByteArray
 sec:Bool
 n:Nat
instance:Inhabited Mm:=⟨⟨.empty,false,0⟩⟩
structure Pl where
 reg:Bool
 n:Nat
 sec:Bool
 deriving Inhabited
def mmC(m:Mm)(j:Nat):AV:=[.str m.nm,.bool m.sec,.int .i64 m.n].getD j .junk
def plC(p:Pl)(j:Nat):AV:=[.bool p.reg,.int .i64 p.n,.bool p.sec].getD j .junk
def kW(W r0 r1 r2 r3:Int)(M:AV):List AV:=[.int .i64 W,.junk,.junk,.int .i64 r0,.int .i64 r1,.int .i64 r2,.int .i64 r3,M,.junk,.junk]
def lP(ms:List Mm):AV:= .row 3 ms.length (aU mmC ms)
def cL:List Mm->Nat
 | []=>0
 |m::l=>m.n+cL l
def qS(r:Nat->Int):Nat->List Pl
 |0=>[]
 |k+1=>qS r k++(if r k=0 then[] else[⟨true,k,r k==2⟩])
def sf(sec:Bool)(at_ k:Nat):List Pl:=(List.range k).map fun i=>⟨false,at_+i,sec⟩
def re:Nat->List Mm->List Pl
 |_,[]=>[]
 |at_,m::l=>sf m.sec at_ m.n++re (at_+m.n) l
def sg(e:TypeId)(cs:List AV):Nat×Blk:=(0,⟨0,false,e,.box cs⟩)
def plB(l:List Pl):Blk:=⟨0,false,78,.rows 3 l.length (aU plC l)⟩
def places(r:Nat->Int)(ms:List Mm):List Pl:=qS r 4++re 0 ms
theorem lA{ms:List Mm}{k:Nat}(hk:k<ms.length):cL (ms.take (k+1))=cL (ms.take k)+(ms.getD k default).n:=by
 induction ms generalizing k with
 |nil=>simp at hk
 |cons m l ih=>
  cases k with
  |zero=>simp[cL]
  |succ k=>
   have:=ih (k:=k) (by simpa using hk)
   simp only[cS,cL,this,List.getD_cons_succ]
   omega
theorem iN(ms:List Mm)(k:Nat):cL (ms.take k)<=cL ms:=by
 induction ms generalizing k with
 |nil=>simp
 |cons m l ih=>
  cases k with
  |zero=>simp[cL]
  |succ k=>simp only[cS,cL];have:=ih k;omega
def h7(cs:List AV)(l:List Pl):List (Nat×Blk):=[sg 33 cs,(1,plB l)]
structure S7 where
 r0:Int
 r1:Int
 r2:Int
 r3:Int
 m:List Int
def bx(e:TypeId)(cs:List AV):Blk:=⟨0,false,e,.box cs⟩
def fu(l:List Int):Blk:=⟨0,false,3,.rows 1 l.length (lJ l)⟩
structure Vl where
 reg:Bool
 n:Int
structure In where
 kind:Int
 op:Int
 d:Int
 a:Vl
 b:Vl
 nm:ByteArray
 tg:Int
structure Lb where
 nm:ByteArray
 at_:Int
structure Pg where
 W:Int
 win:Int
 fuel:Int
 r0:Int
 r1:Int
 r2:Int
 r3:Int
 ms:List Mm
 ls:List Lb
 is:List In
structure S8 where
 r0:Int
 r1:Int
 r2:Int
 r3:Int
 m:List Int
 st:List Int
 pc:Int
structure Ob where
 k:Int
 a:Int
def In0:In:=⟨0,0,0,⟨false,0⟩,⟨false,0⟩,⟨#[]⟩,0⟩
instance:Inhabited In:=⟨In0⟩
instance:Inhabited Lb:=⟨⟨⟨#[]⟩,0⟩⟩
instance:Inhabited Ob:=⟨⟨0,0⟩⟩
def inA(i:In):List AV:=[.int .i64 i.kind,.int .i64 i.op,.int .i64 i.d,.bool i.a.reg,.int .i64 i.a.n,.bool i.b.reg,.int .i64 i.b.n,.str i.nm,.int .i64 i.tg]
def inC(i:In)(j:Nat):AV:=(inA i).getD j .junk
def inR(l:List In):AV:= .row 9 l.length (aU inC l)
def lbC(l:Lb)(j:Nat):AV:=[AV.str l.nm,.int .i64 l.at_].getD j .junk
def lbR(l:List Lb):AV:= .row 2 l.length (aU lbC l)
def pgA(p:Pg):List AV:=[.int .i64 p.W,.int .i64 p.win,.int .i64 p.fuel,.int .i64 p.r0,.int .i64 p.r1,.int .i64 p.r2,.int .i64 p.r3,lP p.ms,lbR p.ls,inR p.is]
def s8A(s:S8)(am ak:AV):List AV:=[.int .i64 s.r0,.int .i64 s.r1,.int .i64 s.r2,.int .i64 s.r3,am,ak,.int .i64 s.pc]
def atI(p:Pg)(pc:Int):In:=if 0<=pc∧pc<p.is.length then p.is.getD pc.toNat default else{In0 with kind:=12}
def S8.reg(s:S8)(n:Int):Int:=if n=0 then s.r0 else if n=1 then s.r1 else if n=2 then s.r2 else s.r3
def S8.set(s:S8)(n v:Int):S8:=⟨if n=0 then v else s.r0,if n=1 then v else s.r1,if n=2 then v else s.r2,if n=3 then v else s.r3,s.m,s.st,s.pc⟩
def okV(v:Vl):Prop:=v.reg=true->0<=v.n∧v.n<4
def okR(s:S8):Prop:=(0<=s.r0∧s.r0<65536)∧(0<=s.r1∧s.r1<65536)∧(0<=s.r2∧s.r2<65536)∧(0<=s.r3∧s.r3<65536)
def OkI(i:In)(len:Int):Prop:=(1<=i.kind∧i.kind<=12)∧okV i.a∧okV i.b∧(0<=i.d∧i.d<4)∧(0<=i.tg∧i.tg<=len)
structure OkP (p:Pg):Prop where
 ins: ∀i∈p.is,OkI i p.is.length
 len:p.is.length<1000
 ms:p.ms.length<1000
 sum:cL p.ms<=16
structure OkS (c len:Int) (s:S8):Prop where
 reg:okR s
 mem: ∀x∈s.m,0<=x∧x<65536
 c:c=s.m.length
 pc: -1<=s.pc∧s.pc<=len
 st:s.st.length<=100
 stk: ∀x∈s.st, -1<=x∧x<=len
def s8R(s:S8):List AV:=s8A s (lR s.m) (lR s.st)
theorem nM{p:Pg}{pc:Int}(h0:0<=pc)(h1:pc<p.is.length):atI p pc=p.is.getD pc.toNat default:=aG ⟨h0,h1⟩
theorem ja{p:Pg}{pc:Int}(h: ¬(0<=pc∧pc<p.is.length)):atI p pc={In0 with kind:=12}:=aD h
theorem qW:okV ⟨false,0⟩:=fun h=>by cases h
theorem nL{p:Pg}(h:OkP p)(pc:Int):OkI (atI p pc) p.is.length∧((atI p pc).kind≠12->0<=pc∧pc<p.is.length):=by
 by_cases hp:0<=pc∧pc<p.is.length
 ·rw[nM hp.1 hp.2]
  refine⟨h.ins _ ?_,fun _=>hp⟩
  have hlt:pc.toNat<p.is.length:=by omega
  simp[List.getD,hlt]
 ·rw[ja hp]
  exact⟨⟨⟨by show(1:Int)<=12;decide,by show(12:Int)<=12;decide⟩,qW,qW,⟨by show(0:Int)<=0;decide,by show(0:Int)<4;decide⟩,by show(0:Int)<=0;decide,by show(0:Int)<=_;omega⟩,fun hk=>absurd rfl hk⟩
end
end Go.Proofs.Ytbhdoempeglgpaa.Px
namespace Go.Proofs.Ytbhdoempeglgpaa
section
open Go.RowKit
namespace Wd
end Wd
namespace Wd
end Wd
end
end Go.Proofs.Ytbhdoempeglgpaa
namespace Go.Proofs.Ytbhdoempeglgpaa.Px
section
open Go.RowKit Go.Proofs.Ytbhdoempeglgpaa.Rx
def pgP(p:Pg):AV:= .rptr 10 (fun q=>(pgA p).getD q .junk) 0
structure En where
 pc:Int
 val:Int
 adr:Int
 frm:Int
 nxt:Int
 dn:Bool
 kn:Bool
 ft:Bool
 deriving DecidableEq
def En0:En:=⟨0,0,0,0,0,false,false,false⟩
instance:Inhabited En:=⟨En0⟩
def enA(e:En):List AV:=[.int .i64 e.pc,.int .i64 e.val,.int .i64 e.adr,.int .i64 e.frm,.int .i64 e.nxt,.bool e.dn,.bool e.kn,.bool e.ft]
def enC(e:En)(j:Nat):AV:=(enA e).getD j .junk
def enR(l:List En):AV:= .row 8 l.length (aU enC l)
def enB(l:List En):Blk:=⟨0,false,45,.rows 8 l.length (aU enC l)⟩
structure Cf where
 s:S8
 b:List En
 r:List Int
 e:Int
def rG(i:In):Bool:=i.kind==1||i.kind==2||i.kind==4
def enI(p:Pg)(l:List En)(k:Nat):In:=atI p (l.getD k default).pc
def mI(p:Pg)(l:List En)(r:Int):Nat->Option (Int×Bool)
 |0=>none
 |k+1=>if rG (enI p l k)=true∧(enI p l k).d=r then some (if(l.getD k default).dn then((l.getD k default).val,true) else(0,false)) else mI p l r k
def cl0(i:Int)(n:Nat):Nat:=(min (max i 0) (n:Int)).toNat
def n5(p:Pg)(s:S8)(l:List En)(i r:Int):Int×Bool:=if 0<=r∧r<4 then(match mI p l r (cl0 i l.length) with |some x=>x |none=>(s.reg r,true)) else(0,false)
def mo(p:Pg)(s:S8)(l:List En)(i:Int)(v:Vl):Int×Bool:=if v.reg then n5 p s l i v.n else(Wd.maskV p.W v.n,true)
theorem nA(i:Int)(n:Nat):cl0 i n<=n:=by unfold cl0;omega
def hzB(p:Pg)(l:List En)(i a:Int)(k:Nat):Prop:=(enI p l k).kind=2∧(l.getD k default).kn=true∧(l.getD k default).adr=a∧(l.getD k default).frm<i
instance(p:Pg)(l:List En)(i a:Int)(k:Nat):Decidable (hzB p l i a k):=inferInstanceAs (Decidable (_∧_))
def hz0(i:Int)(n:Nat):Nat:=(min (max i (-1)) (n:Int)+1).toNat
def bJ(l:List Int)(pc:Int):List Int:=(l++[pc]).drop (l.length-1)
def reG(p:Pg)(l:List En):Nat->Nat->List Int->Option (List Int)
 |_,0,st=>some st
 |k,j+1,st=>if(enI p l k).kind=8 then(if 4<=st.length then none else reG p l (k+1) j (st++[(l.getD k default).pc+1]))
  else if(enI p l k).kind=9 then(if st.length=0 then none else reG p l (k+1) j (st.take (st.length-1))) else reG p l (k+1) j st
def reV(p:Pg)(st:List Int)(l:List En)(i:Int):Option (List Int):=reG p l 0 (cl0 i l.length) st
def nS:Sm:=⟨[(8,.nils),(9,.bool false)],[],0⟩
theorem mF{l:List Int}{x:Int}{g:Nat->Nat->AV}(hg:g 0 0= .int .i64 x)(i:Nat)(hi:i<l.length+1)(a:AV)(ha:i<l.length->a= .int .i64 (l.getD i 0)):(bif Nat.blt i l.length then a else g (i-l.length) 0)= .int .i64 ((l++[x]).getD i 0):=by
 refine mG (fun h=> ?_) (fun h=> ?_)
 ·rw[ha h]
  simp[List.getD,a9 h]
 ·obtain rfl:i=l.length:=by omega
  rw[Nat.sub_self,hg]
  simp[List.getD]
theorem lU(l:List Int)(n i:Nat):(l.drop n).getD i 0=l.getD (i+n) 0:=by
 rw[al,al,bU,Nat.add_comm]
def cfA(c:Cf):List AV:=s8R c.s++[enR c.b,lR c.r,.int .i64 c.e]
def Cf0:Cf:=⟨⟨0,0,0,0,[],[],0⟩,[],[],0⟩
def gsV(p:Pg)(c:Cf):Int:=
 if c.e≠0∨c.s.pc= -1∨p.win<=(c.b.length:Int) then 0
 else if(atI p c.s.pc).kind=5 then 2 else if(atI p c.s.pc).kind=7 then(p.is.length:Int)+1 else if(atI p c.s.pc).kind=9∧c.r.length=0 then(p.is.length:Int)+1 else 1
def S8.go(s:S8)(pc:Int):S8:={s with pc:=pc}
def pi(l:List Int):Int:=l.getD ((l.length:Int)-1).toNat 0
def ftB(p:Pg)(c:Cf):Bool:=match reV p c.s.st c.b c.b.length with
 |none=>true
 |some L=>decide (4<=L.length)
def ftE(p:Pg)(c:Cf)(g:Int):En:=
 if(atI p c.s.pc).kind=5 then⟨c.s.pc,0,0, -1,if g=1 then(atI p c.s.pc).tg else c.s.pc+1,false,false,false⟩
 else if(atI p c.s.pc).kind=6 then⟨c.s.pc,0,0, -1,(atI p c.s.pc).tg,true,false,false⟩
 else if(atI p c.s.pc).kind=7 then⟨c.s.pc,0,0, -1,g,false,false,false⟩
 else if(atI p c.s.pc).kind=9 then⟨c.s.pc,0,0, -1,if c.r.length=0 then g else pi c.r,false,false,false⟩
 else if(atI p c.s.pc).kind=8 then⟨c.s.pc,0,0, -1,(atI p c.s.pc).tg,true,false,ftB p c⟩
 else if(atI p c.s.pc).kind=11∨(atI p c.s.pc).kind=12 then⟨c.s.pc,0,0, -1, -1,true,false,false⟩
 else⟨c.s.pc,0,0, -1,c.s.pc+1,false,false,false⟩
def ftR(p:Pg)(c:Cf):List Int:=if(atI p c.s.pc).kind=9 then c.r.take ((c.r.length:Int)-1).toNat else if(atI p c.s.pc).kind=8 then bJ c.r (c.s.pc+1) else c.r
def ftD(p:Pg)(c:Cf)(g:Int):Cf:=⟨c.s.go (ftE p c g).nxt,c.b++[ftE p c g],ftR p c,c.e⟩
def ib(e:En)(i j:Nat):AV:=(enA e).getD (i*8+j) .junk
def ocA(o:Option Cf):List AV:=match o with
 |some c=>[.agg (cfA c),.bool true]
 |none=>[.agg (cfA Cf0),.bool false]
theorem qO(l:List En)(e:En){g:Nat->Nat->AV}(hg: ∀j,j<8->g 0 j=enC e j): ∀i,i<l.length+1-> ∀j,j<8->(bif Nat.blt i l.length then aU enC l i j else g (i-l.length) j)=aU enC (l++[e]) i j:=fun i hi j hj=>
 mG (fun h=>(lH h).symm) (fun h=>by
  obtain rfl:i=l.length:=by omega
  rw[lI,Nat.sub_self,hg j hj])
def ftO(p:Pg)(c:Cf)(g:Int):Option Cf:=if 0<=g∧g<gsV p c then some (ftD p c g) else none
def tA(p:Pg)(c:Cf)(i:Int)(x:In):Int×Bool:=mo p c.s c.b i x.a
def tB(p:Pg)(c:Cf)(i:Int)(x:In):Int×Bool:=mo p c.s c.b i x.b
def enX(p:Pg)(c:Cf)(k:Nat):In:=atI p (c.b.getD k default).pc
def Sml(p:Pg)(c:Cf):Prop:= ∀i x,0<=(tA p c i x).1∧(tA p c i x).1<=65535∧0<=(tB p c i x).1∧(tB p c i x).1<=65535
theorem Sml.add{p:Pg}{c:Cf}(h:Sml p c)(i:Int)(x:In): -1000000<=(tA p c i x).1+(tB p c i x).1∧(tA p c i x).1+(tB p c i x).1<=1000000:=by
 have:=h i x;omega
def upE(c:Cf)(k:Nat)(g:En->En):Cf:=⟨c.s,c.b.set k (g (c.b.getD k default)),c.r,c.e⟩
def En.done(e:En):En:={e with dn:=true}
def En.to(t:Int)(e:En):En:={e with nxt:=t}
structure RtOk (p:Pg) (c:Cf):Prop where
 d:rG (enX p c 0)=true->0<=(enX p c 0).d∧(enX p c 0).d<4
 m:(enX p c 0).kind=3->(c.b.getD 0 default).ft=false->(c.b.getD 0 default).kn=true->0<=(c.b.getD 0 default).adr∧(c.b.getD 0 default).adr<c.s.m.length
 st:(enX p c 0).kind=9->(c.b.getD 0 default).ft=false->(c.b.getD 0 default).dn=true->c.s.st.length≠0
 sl:c.s.st.length<=1000
 ml:c.s.m.length<=1000000
 bl:c.b.length<900000
 pc:0<=(c.b.getD 0 default).pc∧(c.b.getD 0 default).pc<=1000000
structure Dr where
 k:Int
 n:Int
 deriving DecidableEq
instance:Inhabited Dr:=⟨⟨0,0⟩⟩
def cfP(c:Cf):AV:= .rptr 10 (fun q=>(cfA c).getD q .junk) 0
structure MOk (p:Pg) (c:Cf):Prop where
 il:p.is.length<1000
 bl:c.b.length<900000
 ml:c.s.m.length<1000000
 sm:Sml p c
 sm': ∀k,Sml p (upE c k En.done)
 st:c.s.st.length<=1000
 bp: ∀e∈c.b, -1<=e.pc∧e.pc<=1000000
 bf: ∀e∈c.b, -1000000<=e.frm∧e.frm<=1000000
 pc: -1<=c.s.pc∧c.s.pc<=1000
 rl:c.r.length<1000
 rt:RtOk p c
structure EnOk (p:Pg) (e:En):Prop where
 pc:0<=e.pc∧e.pc<=p.is.length
 val:0<=e.val∧e.val<65536
 frm: -1<=e.frm∧e.frm<=1000000
 nxt: -1<=e.nxt∧e.nxt<=p.is.length
 adr:0<=e.adr∧e.adr<65536
def rOk(p:Pg)(st:List Int)(b:List En)(k:Nat):Prop:= ∃L,reG p b 0 k st=some L∧L.length≠0
def lOk(p:Pg)(st:List Int)(b:List En)(k:Nat):Prop:= ∃L,reG p b 0 k st=some L∧L.length<4
structure EtOk (p:Pg) (m:Nat) (st:List Int) (b:List En) (k:Nat) (e:En):Prop where
 sto:(atI p e.pc).kind=3->e.kn=true->e.ft=false->e.adr<m
 ret:(atI p e.pc).kind=9->e.dn=true->e.ft=false->rOk p st b k
 cal:(atI p e.pc).kind=8->e.ft=false->lOk p st b k
structure Inv (p:Pg) (c:Cf):Prop where
 reg:okR c.s
 mem: ∀x∈c.s.m,0<=x∧x<65536
 ml:c.s.m.length=cL p.ms
 pc: -1<=c.s.pc∧c.s.pc<=p.is.length
 st:c.s.st.length<=4
 stk: ∀x∈c.s.st,0<=x∧x<=p.is.length
 bl:(c.b.length:Int)<=max p.win 0
 be: ∀e∈c.b,EnOk p e
 rl:c.r.length<=2
 rb: ∀x∈c.r,0<=x∧x<=p.is.length
 et: ∀k,k<c.b.length->EtOk p c.s.m.length c.s.st c.b k (c.b.getD k default)
theorem iW{l:List En}{k:Nat}(h:k<l.length):l.getD k default∈l:=by simp[List.getD,h]
theorem gl{l:List En}{k:Nat}(h: ¬k<l.length):l.getD k default=En0:=by
 simp[List.getD,dF (eZ.1 h)];rfl
theorem kR{l:List En}(h: ∀e∈l,0<=e.val∧e.val<65536)(k:Nat):0<=(l.getD k default).val∧(l.getD k default).val<65536:=by
 by_cases hk:k<l.length
 ·exact h _ (iW hk)
 ·rw[gl hk];exact⟨by decide,by decide⟩
theorem kU{p:Pg}{l:List En}{r:Int}(h: ∀e∈l,0<=e.val∧e.val<65536): ∀k x,mI p l r k=some x->0<=x.1∧x.1<65536
 |0,x,e=>by cases e
 |k+1,x,e=>by
  unfold mI at e
  split at e
  ·cases e
   split
   ·exact kR h k
   ·exact⟨by decide,by decide⟩
  ·exact kU h k x e
theorem pA{s:S8}(h:okR s)(r:Int):0<=s.reg r∧s.reg r<65536:=by
 obtain⟨h0,h1,h2,h3⟩:=h
 unfold S8.reg
 repeat' split
 all_goals assumption
theorem n4{p:Pg}{s:S8}{l:List En}(hs:okR s)(h: ∀e∈l,0<=e.val∧e.val<65536)(i r:Int):0<=(n5 p s l i r).1∧(n5 p s l i r).1<65536:=by
 unfold n5
 split
 ·cases e:mI p l r (cl0 i l.length) with
  |some x=>exact kU h _ _ e
  |none=>exact pA hs r
 ·exact⟨by decide,by decide⟩
theorem kQ{p:Pg}{s:S8}{l:List En}(hs:okR s)(h: ∀e∈l,0<=e.val∧e.val<65536)(i:Int)(v:Vl):0<=(mo p s l i v).1∧(mo p s l i v).1<65536:=by
 unfold mo
 split
 ·exact n4 hs h i _
 ·exact Wd.maskV_bd _ _
theorem mv{p:Pg}{c:Cf}(hs:okR c.s)(h: ∀e∈c.b,0<=e.val∧e.val<65536):Sml p c:=fun i x=>by
 have h1:=kQ (p:=p) hs h i x.a
 have h2:=kQ (p:=p) hs h i x.b
 unfold tA tB
 omega
theorem Inv.val{p:Pg}{c:Cf}(h:Inv p c): ∀e∈c.b,0<=e.val∧e.val<65536:=fun e he=>(h.be e he).val
theorem Inv.sml{p:Pg}{c:Cf}(h:Inv p c):Sml p c:=mv h.reg h.val
theorem Inv.done{p:Pg}{c:Cf}(h:Inv p c)(k:Nat): ∀e∈(upE c k En.done).b,0<=e.val∧e.val<65536:=fun e he=>by
 rcases List.mem_or_eq_of_mem_set he with h1 |h1
 ·exact h.val e h1
 ·rw[h1];exact kR h.val k
theorem Inv.smlD{p:Pg}{c:Cf}(h:Inv p c)(k:Nat):Sml p (upE c k En.done):=mv h.reg (h.done k)
theorem Inv.ok{p:Pg}{c:Cf}(hP:OkP p)(hw:p.win<=1000)(h:Inv p c):MOk p c:=by
 have hl:=hP.len
 have hb:=h.bl
 have hm:c.s.m.length<=16:=by rw[h.ml];exact hP.sum
 have h4:=h.st
 have h2:=h.rl
 refine⟨hl,by omega,by omega,h.sml,h.smlD,by omega,fun e he=> ?_,fun e he=> ?_,by have:=h.pc;omega,by omega, ?_⟩
 ·have:=(h.be e he).pc;omega
 ·have:=(h.be e he).frm;omega
 ·have hx:=(nL hP (c.b.getD 0 default).pc).1
  refine⟨fun _=>hx.2.2.2.1,fun a b d=> ?_,fun a b d=> ?_,by omega,by omega,by omega, ?_⟩
  ·by_cases h0:0<c.b.length
   ·exact⟨(h.be _ (iW h0)).adr.1,(h.et 0 h0).sto a d b⟩
   ·rw[gl h0] at d;cases d
  ·by_cases h0:0<c.b.length
   ·obtain⟨L,e,hL⟩:=(h.et 0 h0).ret a d b
    cases e;exact hL
   ·rw[gl h0] at d;cases d
  ·by_cases h0:0<c.b.length
   ·have:=(h.be _ (iW h0)).pc;omega
   ·rw[gl h0];exact⟨by decide,by decide⟩
def beg(s:S8):Cf:=⟨s,[],[],0⟩
theorem qC(s:S8){Z:Prop}(z:Z):(RF s.r0 (RF s.r1 (RF s.r2 (RF s.r3 (RF s.m.length (RR s.m.length 1 (fun i j=>aI (s.m.getD i 0)) (RF s.st.length (RR s.st.length 1 (fun i j=>aI (s.st.getD i 0)) (RF s.pc Z))))))))):=⟨rfl,rfl,rfl,rfl,rfl,fun _ _ _ _=>rfl,rfl,fun _ _ _ _=>rfl,rfl,z⟩
theorem qp(s:S8):Vc (vF_ 7 [.agg (s8R s)] [.fz] [] (.agg (cfA (beg s))) []):=aF (qC s (cj (rf (0:Nat)) (cj (rf (0:Nat)) (cj (rf (0:Int)) trivial))))
theorem b8(s:S8):pC_ 7 [.agg (s8R s)] (.agg (cfA (beg s))) []:=PureC.vc (qp s)
def ej(s:S8):List Int:=((([s.r0,s.r1,s.r2,s.r3,(s.m.length:Int)]++s.m)++[(s.st.length:Int)])++s.st)++[s.pc]
def enN(e:En):List Int:=[e.pc,e.val,e.adr,e.frm,e.nxt,Wd.tI e.dn,Wd.tI e.kn,Wd.tI e.ft]
def ciK(c:Cf):Nat->List Int
 |0=>ej c.s++[(c.b.length:Int)]
 |k+1=>ciK c k++enN (c.b.getD k default)
def ciL(c:Cf):List Int:=((ciK c c.b.length++[(c.r.length:Int)])++c.r)++[c.e]
def ciS(c:Cf)(X:List Int)(k:Nat):Sm:=⟨[(1,cfP c),(3,.own 0 0 1 0 X.length),(4,.int .i64 k)],[(0,fu X)],1⟩
theorem dT{A B:List Int}{n i:Nat}{x y:AV}(hn:n=A.length)(hx:i<n->x= .int .i64 (A.getD i 0))(hy:n<=i->y= .int .i64 (B.getD (i-n) 0)):(bif Nat.blt i n then x else y)= .int .i64 ((A++B).getD i 0):=by
 subst hn
 by_cases h:i<A.length
 ·have:Nat.blt i A.length=true:=by rw[aR];exact h
  rw[this,aA,hx h]
  simp[List.getD,a9 h]
 ·have:Nat.blt i A.length=false:=by
   cases hb:Nat.blt i A.length with
   |false=>rfl
   |true=>rw[aR] at hb;omega
  rw[this,aM,hy (by omega)]
  simp[List.getD,bB (Nat.le_of_not_lt h)]
theorem mw{x:Int}{q:Nat}(h:q=0):[AV.int .i64 x].getD ((q+0)*1+0) .junk= .int .i64 ([x].getD q 0):=by subst h;rfl
theorem rF{a b c d e:Int}{i:Nat}(h:i<5):[AV.int .i64 a,.int .i64 b,.int .i64 c,.int .i64 d,.int .i64 e].getD ((i+0)*1+0) .junk= .int .i64 ([a,b,c,d,e].getD i 0):=
 match i,h with |0,_=>rfl |1,_=>rfl |2,_=>rfl |3,_=>rfl |4,_=>rfl
theorem cV(s:S8):(ej s).length=s.m.length+s.st.length+7:=by simp[ej];omega
theorem sb(s:S8)(L:List Int)(hL:L=ej s)(hm:s.m.length<1000000)(hst:s.st.length<1000000):Vc (vF_ 52 [.agg (s8R s)] [.fv] [(0,0)] (.own 0 0 1 0 L.length) [fu L]):=aF (cj (pv ((0:Nat)=0∧(5:Nat)=5∧((5:Nat)+s.m.length)*8<=140737488355328∧(5:Nat)+s.m.length<=140737488355328)) (cj (pv ((0:Nat)=0∧(5:Nat)+s.m.length=5+s.m.length∧((5:Nat)+s.m.length+1)*8<=140737488355328∧(5:Nat)+s.m.length+1<=140737488355328)) (cj (pv ((0:Nat)=0∧(5:Nat)+s.m.length+1=5+s.m.length+1∧((5:Nat)+s.m.length+1+s.st.length)*8<=140737488355328∧(5:Nat)+s.m.length+1+s.st.length<=140737488355328)) (cj (pv ((0:Nat)=0∧(5:Nat)+s.m.length+1+s.st.length=5+s.m.length+1+s.st.length∧((5:Nat)+s.m.length+1+s.st.length+1)*8<=140737488355328∧(5:Nat)+s.m.length+1+s.st.length+1<=140737488355328)) (cj (show(5:Nat)+s.m.length+1+s.st.length+1=L.length from by rw[hL,cV];omega) (cj (show ∀(i:Nat),i<5+s.m.length+1+s.st.length+1-> ∀(j:Nat),j<1->(bif Nat.blt i ((5:Nat)+s.m.length+1+s.st.length) then bif Nat.blt i ((5:Nat)+s.m.length+1) then bif Nat.blt i ((5:Nat)+s.m.length) then bif Nat.blt i (5:Nat) then List.getD [aI s.r0,aI s.r1,aI s.r2,aI s.r3,aI s.m.length] (i*1+j) AV.junk else aI (s.m.getD (i-5) 0) else List.getD [aI s.st.length] ((i-((5:Nat)+s.m.length)+0)*1+j) AV.junk else aI (s.st.getD (i-((5:Nat)+s.m.length+1)) 0) else List.getD [aI s.pc] ((i-((5:Nat)+s.m.length+1+s.st.length)+0)*1+j) AV.junk)=aI (L.getD i 0) from(fun i hi j hj=>by
 subst hL
 obtain rfl:j=0:=by omega
 exact dT (A:=((([s.r0,s.r1,s.r2,s.r3,(s.m.length:Int)]++s.m)++[(s.st.length:Int)])++s.st)) (B:=[s.pc]) (by simp;omega) (fun _=>dT (A:=(([s.r0,s.r1,s.r2,s.r3,(s.m.length:Int)]++s.m)++[(s.st.length:Int)])) (B:=s.st) (by simp;omega) (fun _=>dT (A:=([s.r0,s.r1,s.r2,s.r3,(s.m.length:Int)]++s.m)) (B:=[(s.st.length:Int)]) (by simp;omega) (fun _=>dT (A:=[s.r0,s.r1,s.r2,s.r3,(s.m.length:Int)]) (B:=s.m) rfl (fun h=>rF h) (fun _=>rfl)) (fun _=>mw (by omega))) (fun _=>rfl)) (fun _=>mw (by omega)))) (cj (rf (0:Nat)) (cj (show(5:Nat)+s.m.length+1+s.st.length+1=L.length from by rw[hL,cV];omega) trivial)))))))) (by kernel_rfl)
theorem rE(s:S8)(hm:s.m.length<1000000)(hst:s.st.length<1000000):pC_ 52 [.agg (s8R s)] (.own 0 0 1 0 (ej s).length) [fu (ej s)]:=PureC.vc (sb s _ rfl hm hst)
theorem mq(b:Bool)(h:b=true):Vc (vF_ 53 [.bool b] [.b true] [] (aI (Wd.tI b)) []):=aF (cj h (cj (show(1:Int)=Wd.tI b from by rw[h];rfl) trivial))
theorem ly(b:Bool)(h:b=false):Vc (vF_ 53 [.bool b] [.b false] [] (aI (Wd.tI b)) []):=aF (cj h (cj (show(0:Int)=Wd.tI b from by rw[h];rfl) trivial))
theorem pt(b:Bool):pC_ 53 [.bool b] (.int .i64 (Wd.tI b)) []:=by
 cases h:b with
 |true=>exact PureC.vc (mq true rfl)
 |false=>exact PureC.vc (ly false rfl)
theorem qQ(c:Cf)(X:List Int)(k:Nat):X.length+8=(X++[(c.b.getD k default).pc,(c.b.getD k default).val,(c.b.getD k default).adr,(c.b.getD k default).frm,(c.b.getD k default).nxt,Wd.tI (c.b.getD k default).dn,Wd.tI (c.b.getD k default).kn,Wd.tI (c.b.getD k default).ft]).length:=by rw[a7];rfl
theorem qz(c:Cf){Z:Prop}(z:Z):(RF c.b.length (RR c.b.length 8 (fun i j=>aU enC c.b i j) (RF c.r.length (RR c.r.length 1 (fun i j=>aI (c.r.getD i 0)) (RF c.e (RF (0:Nat) Z)))))):=⟨rfl,fun _ _ _ _=>rfl,rfl,fun _ _ _ _=>rfl,rfl,rfl,z⟩
theorem nU(c:Cf){Z:Prop}(z:Z):(RF c.s.r0 (RF c.s.r1 (RF c.s.r2 (RF c.s.r3 (RF c.s.m.length (RR c.s.m.length 1 (fun i j=>aI (List.getD c.s.m i 0)) (RF c.s.st.length (RR c.s.st.length 1 (fun i j=>aI (List.getD c.s.st i 0)) (RF c.s.pc Z))))))))):=⟨rfl,rfl,rfl,rfl,rfl,fun _ _ _ _=>rfl,rfl,fun _ _ _ _=>rfl,rfl,z⟩
theorem sd(c:Cf)(X:List Int)(k:Nat)(hk:k<c.b.length)(hb:c.b.length<1000000)(hX:X.length<100000000):Vc (vC_ 32 0 (ciS c X k) [.bd true,.cl [.bool (c.b.getD k default).dn] (aI (Wd.tI (c.b.getD k default).dn)) [],.cl [.bool (c.b.getD k default).kn] (aI (Wd.tI (c.b.getD k default).kn)) [],.cl [.bool (c.b.getD k default).ft] (aI (Wd.tI (c.b.getD k default).ft)) []] .nrm [(0,0)] (ciS c (X++enN (c.b.getD k default)) (k+1))):=aF (cj (dt ((k:Int)<c.b.length)) (cj (bi k c.b.length) (cj (rf ((c.b.getD k default).dn)) (cj (pt (c.b.getD k default).dn) (cj (rf ((c.b.getD k default).kn)) (cj (pt (c.b.getD k default).kn) (cj (rf ((c.b.getD k default).ft)) (cj (pt (c.b.getD k default).ft) (cj (ap X.length 8 8) (cj (i6 (k+1)) (cj (qQ c X k) (cj (show ∀(i:Nat),i<X.length+8-> ∀(j:Nat),j<1->(bif Nat.blt i X.length then aI (X.getD i 0) else List.getD [aI (c.b.getD k default).pc,aI (c.b.getD k default).val,aI (c.b.getD k default).adr,aI (c.b.getD k default).frm,aI (c.b.getD k default).nxt,aI (Wd.tI (c.b.getD k default).dn),aI (Wd.tI (c.b.getD k default).kn),aI (Wd.tI (c.b.getD k default).ft)] ((i-X.length+0)*1+j) AV.junk)=aI (List.getD (X++[(c.b.getD k default).pc,(c.b.getD k default).val,(c.b.getD k default).adr,(c.b.getD k default).frm,(c.b.getD k default).nxt,Wd.tI (c.b.getD k default).dn,Wd.tI (c.b.getD k default).kn,Wd.tI (c.b.getD k default).ft]) i (0:Int)) from(fun i hi j hj=>by obtain rfl:j=0:=(by omega);exact dT (A:=X) (B:=enN (c.b.getD k default)) rfl (fun _=>rfl) (fun h=>by obtain⟨q,rfl⟩: ∃q,i=X.length+q:=⟨i-X.length,by omega⟩;rw[Nat.add_sub_cancel_left];exact(match q,(show q<8 by omega) with |0,_=>rfl |1,_=>rfl |2,_=>rfl |3,_=>rfl |4,_=>rfl |5,_=>rfl |6,_=>rfl |7,_=>rfl)))) (nU c (qz c (cj (qQ c X k) (cj (rf ((k:Int)+1)) trivial))))))))))))))))
theorem se(c:Cf)(X:List Int)(k:Nat)(hk: ¬k<c.b.length):Vc (vC_ 32 0 (ciS c X k) [.bd false] (.ext 0) [(0,0)] (ciS c X k)):=aF (cj (df ((k:Int)<c.b.length)) (cj (rf X.length) (cj (rr X.length 1 fun i j=>aI (X.getD i 0)) (nU c (cj (rf c.b.length) (cj (rr c.b.length 8 fun i j=>aU enC c.b i j) (cj (rf c.r.length) (cj (rr c.r.length 1 fun i j=>aI (c.r.getD i 0)) (cj (rf c.e) (cj (rf (0:Nat)) (cj (rf X.length) (cj (rf (k:Int)) trivial))))))))))))
theorem gm(c:Cf): ∀k,(ciK c k).length=(ej c.s).length+1+8*k
 |0=>by rw[ciK,a7];rfl
 |k+1=>by rw[ciK,a7,gm c k];show _+8=_;omega
theorem oG(c:Cf)(hb:c.b.length<1000000)(hm:c.s.m.length<1000000)(hst:c.s.st.length<1000000):oL_ 32 0 (ciS c (ciK c 0) 0).st (.ext 0) (ciS c (ciK c c.b.length) c.b.length).st:=
 Ok.loop (P:=Try.prog) (nt:=iS Try.prog 32) (c:=lpC Try.prog 32 0) (F:=fun k=>ciS c (ciK c k) k) (m:=c.b.length) (x:= .ext 0) (J:=ciS c (ciK c c.b.length) c.b.length) (fun k hk=>Ok.vc (sd c (ciK c k) k hk hb (by rw[gm,cV];omega))) (Ok.vc (se c _ _ (cD _))) (by simp)
theorem cif(c:Cf)(L0 X L:List Int)(n:Nat)(hL:L=((X++[(c.r.length:Int)])++c.r)++[c.e])(h7:pC_ 52 [.agg (s8R c.s)] (.own 0 0 1 0 L0.length) [fu L0])(h:oL_ 32 0 (ciS c (L0++[(c.b.length:Int)]) 0).st (.ext 0) (ciS c X n).st)(hl0:L0.length<100000000)(hX:X.length<100000000)(hr:c.r.length<1000000):Vc (vF_ 32 [.agg (cfA c)] [.fv,.cl [.agg (s8R c.s)] (.own 0 0 1 0 L0.length) [fu L0],.lp [(0,0)] (ciS c (L0++[(c.b.length:Int)]) 0) (.ext 0) (ciS c X n)] [] (lR L) []):=aF (nU c (cj h7 (cj (ap L0.length 1 8) (cj (pv (L0.length+1=(L0++[(↑c.b.length:Int)]).length)) (cj (show ∀(i:Nat),i<L0.length+1-> ∀(j:Nat),j<1->(bif Nat.blt i L0.length then aI (L0.getD i 0) else List.getD [aI c.b.length] ((i-L0.length+0)*1+j) AV.junk)=aI (List.getD (L0++[(↑c.b.length:Int)]) i (0:Int)) from(fun i hi j hj=>by obtain rfl:j=0:=(by omega);exact dT (A:=L0) (B:=[(c.b.length:Int)]) (by simp) (fun _=>rfl) (fun h=>mw (by omega)))) (nU c (qz c (cj (pv (L0.length+1=(L0++[(↑c.b.length:Int)]).length)) (cj (rf (0:Int)) (cj h (cj (ap X.length 1 8) (cj (ap (X.length+1) c.r.length 8) (cj (ap (X.length+1+c.r.length) 1 8) (cj (show X.length+1+c.r.length+1=L.length from by rw[hL];simp;omega) (cj (show ∀(i:Nat),i<X.length+1+c.r.length+1-> ∀(j:Nat),j<1->(bif Nat.blt (i+0) (X.length+1+c.r.length) then bif Nat.blt (i+0) (X.length+1) then bif Nat.blt (i+0) X.length then aI (X.getD (i+0) 0) else List.getD [aI c.r.length] ((i+0-X.length+0)*1+j) AV.junk else aI (c.r.getD (i+0-(X.length+1)) 0) else List.getD [aI c.e] ((i+0-(X.length+1+c.r.length)+0)*1+j) AV.junk)=aI (L.getD i 0) from(fun i hi j hj=>by
 subst hL
 obtain rfl:j=0:=by omega
 exact dT (A:=((X++[(c.r.length:Int)])++c.r)) (B:=[c.e]) (by simp only[a7,dE]) (fun _=>dT (A:=(X++[(c.r.length:Int)])) (B:=c.r) (by simp only[a7,dE]) (fun _=>dT (A:=X) (B:=[(c.r.length:Int)]) (by simp) (fun _=>rfl) (fun h=>mw (by omega))) (fun _=>rfl)) (fun h=>mw (by omega)))) trivial))))))))))))))) (by kernel_rfl)
theorem ln(c:Cf):(ciL c).length=c.s.m.length+c.s.st.length+10+8*c.b.length+c.r.length:=by
 unfold ciL;rw[a7,a7,a7,gm,cV];simp;omega
theorem ciC(c:Cf)(hb:c.b.length<1000000)(hm:c.s.m.length<1000000)(hst:c.s.st.length<1000000)(hr:c.r.length<1000000):pC_ 32 [.agg (cfA c)] (lR (ciL c)) []:=
 PureC.vc (cif c (ej c.s) (ciK c c.b.length) (ciL c) _ rfl (rE c.s hm hst) (oG c hb hm hst) (by rw[cV];omega) (by rw[gm,cV];omega) hr)
theorem qP(a b:Cf)(A B:List Int)(x:Bool)(ha:pC_ 32 [.agg (cfA a)] (lR A) [])(hb:pC_ 32 [.agg (cfA b)] (lR B) [])(hs:pC_ 31 [lR A,lR B] (.bool x) []):Vc (vF_ 14 [.agg (cfA a),.agg (cfA b)] [.fv,.fv,.cl [.agg (cfA a)] (lR A) [],.cl [.agg (cfA b)] (lR B) [],.cl [lR A,lR B] (.bool x) []] [] (.bool x) []):=aF (cj (rf a.s.r0) (cj (rf a.s.r1) (cj (rf a.s.r2) (cj (rf a.s.r3) (cj (rf a.s.m.length) (cj (rr a.s.m.length 1 fun i j=>aI (List.getD a.s.m i 0)) (cj (rf a.s.st.length) (cj (rr a.s.st.length 1 fun i j=>aI (List.getD a.s.st i 0)) (cj (rf a.s.pc) (cj (rf a.b.length) (cj (rr a.b.length 8 fun i j=>aU enC a.b i j) (cj (rf a.r.length) (cj (rr a.r.length 1 fun i j=>aI (a.r.getD i 0)) (cj (rf a.e) (cj ha (cj (rf b.s.r0) (cj (rf b.s.r1) (cj (rf b.s.r2) (cj (rf b.s.r3) (cj (rf b.s.m.length) (cj (rr b.s.m.length 1 fun i j=>aI (List.getD b.s.m i 0)) (cj (rf b.s.st.length) (cj (rr b.s.st.length 1 fun i j=>aI (List.getD b.s.st i 0)) (cj (rf b.s.pc) (cj (rf b.b.length) (cj (rr b.b.length 8 fun i j=>aU enC b.b i j) (cj (rf b.r.length) (cj (rr b.r.length 1 fun i j=>aI (b.r.getD i 0)) (cj (rf b.e) (cj hb (cj (rf A.length) (cj (rr A.length 1 fun i j=>aI (A.getD i 0)) (cj (rf B.length) (cj (rr B.length 1 fun i j=>aI (B.getD i 0)) (cj hs (cj (rf x) trivial))))))))))))))))))))))))))))))))))))
theorem pz(a b:Cf)(hb:a.b.length<1000000)(hm:a.s.m.length<1000000)(hst:a.s.st.length<1000000)(hr:a.r.length<1000000)(hb':b.b.length<1000000)(hm':b.s.m.length<1000000)(hst':b.s.st.length<1000000)(hr':b.r.length<1000000):pC_ 14 [.agg (cfA a),.agg (cfA b)] (.bool (decide (ciL a=ciL b))) []:=
 PureC.vc (qP a b _ _ _ (ciC a hb hm hst hr) (ciC b hb' hm' hst' hr') (rX _ _ (by rw[ln];omega)))
def x2(x:Int)(s:Nat):Int:=Int.fdiv x (2^s)
def v0:Vl:=⟨false,0⟩
structure M1 where
 p:Int
 s:Int
 r0:Int
 r1:Int
 r2:Int
 r3:Int
def M1.set(m:M1)(k:Nat)(v:Int):M1:=match k with
 |0=>{m with r0:=v}
 |1=>{m with r1:=v}
 |2=>{m with r2:=v}
 |_=>{m with r3:=v}
def shK(k:Nat):Nat:=min (IntKind.u64.wrap (2*(k:Int))).toNat 64
structure Liv (p:Pg) (c:Cf):Prop where
 e:c.e=0∨c.e=1∨c.e=2
 fin: ¬c.e=0->c.b=[]∧c.r=[]
 lst:c.s.pc= -1->c.e=0-> ∃k,c.b.length=k+1∧((enX p c k).kind=11∨(enX p c k).kind=12)
 und: ∀k,k<c.b.length->(c.b.getD k default).dn=false->(enX p c k).kind≠6∧(enX p c k).kind≠8∧(enX p c k).kind≠11∧(enX p c k).kind≠12
end
end Go.Proofs.Ytbhdoempeglgpaa.Px
namespace Go.Proofs.Ytbhdoempeglgpaa
section
open Go.RowKit
def Ret(v:Value)(w:World)(e:Ending)(w':World):Prop:=e= .returned v∧w=w'
theorem Ret.mk{v v':Value}{w:World}(h:v'=v):Ret v w (.returned v') w:=⟨by rw[h],rfl⟩
theorem Ret.b{X:Value}{a a':Bool}{w:World}(hx:X= .bool a')(h:a'=a):Ret (.bool a) w (.returned X) w:=⟨by rw[hx,h],rfl⟩
theorem ne:(Try.prog.info? 3).map (fun i=>(i.zero,i.size,i.bytes))=some (some (.int .i64 0),1,8):=by kernel_rfl
end
section
namespace Cd
def nrB(n:Int):Bool:=decide (-1<=n)&&decide (n<=253)
def qj(n:Int)(k:Nat):Int:=n%18446744073709551616/2^(8*(7-k))%256
def nq(n:Int):List Int:=(List.range 8).map (qj n)
def pB(n:Int):List Int:=if nrB n=true then[n+1] else 255::nq n
def putL:List Int->List Int
 | []=>[]
 |n::l=>pB n++putL l
def isI(xs:List Int):Prop:= ∀x∈xs, -9223372036854775808<=x∧x<9223372036854775808
theorem lX(n:Int):(nq n).length=8:=by simp[nq]
theorem mL(n:Int):(pB n).length=if nrB n=true then 1 else 9:=by
 unfold pB;split<;>simp[lX]
theorem putL_len_le(l:List Int):(putL l).length<=9*l.length:=by
 induction l with
 |nil=>simp[putL]
 |cons n l ih=>
  have:=mL n
  simp only[putL,a7,dV]
  split at this<;>omega
end Cd
end
section
open Go.RowKit
theorem RetOwn.mk{B:Nat}{t:TypeId}{xs ys:List Value}{n:Nat}{w w':World}{v:Value}(h:w'.ownsRow B t 1 v n ys)(he:ys=xs)(hb:Below B w w'):RetOwn B t xs w (.returned v) w':=by
 subst he
 have:=ob h
 subst this
 exact⟨v,rfl,h,hb⟩
theorem ng(w:World)(n cap:Nat)(h0:n<=cap)(hc:cap<=maxLen):(w.drew.alloc (.cells (Builtin.zeroCells #[.int .i64 0] n++Builtin.zeroCells #[.int .i64 0] (cap-n)) 3)).ownsRow w.heap.size 3 1 (.slice (some ⟨w.heap.size,0,none⟩) 0 cap) 0 []:=by
 refine⟨rfl,.inr ⟨w.heap.size,cap,Builtin.zeroCells #[.int .i64 0] n++Builtin.zeroCells #[.int .i64 0] (cap-n),rfl,av _, ?_,by omega,hc, ?_,by simp⟩⟩
 ·exact heap_alloc_new w.drew _
 ·simp[Builtin.zeroCells];omega
set_option maxHeartbeats 2000000 in
theorem nh(n:Nat)(w:World)(h0:0<n)(hn:n<=1000000):
  Calls Try.prog 70 #[.slice none 0 0,.int .i64 n] w (fun e w'=> ∃v,e= .returned v∧w'.ownsRow w.heap.size 3 1 v 0 []∧Below w.heap.size w w'):=by
 obtain⟨i0,hi0,hz0,hs0,hb0⟩:=info_parts ne
 have hrun:=Lib.run_append_nil_zeros (P:=Try.prog) w 34 3 34 3 i0 (.int .i64 0) .i64 .i64 rfl rfl hi0 hz0 n h0 (by omega) (by omega) (by rw[hb0];omega)
 have hge:=grownCap_ge w n 0 3
 have hle:=grownCap_le_maxLen w n 0 3 (by simp only[maxLen];omega)
 go_enter Try.func70,Try.ntmps70
 go_wp2_with (at_builtin;refine Lib.wpList_append_run _ rfl _ _ _ _ rfl _ _ rfl rfl _ _ hrun ?_)
 go_ret
 refine⟨_,rfl, ?_, ?_⟩
 ·exact ng w n _ hge hle
 ·exact upA (upD (up0 w) 1) _
abbrev Part:=Option Addr×Nat×List Int
def Part.v(p:Part):Value:= .slice p.1 p.2.2.length p.2.1
def tot:List Part->Nat
 | []=>0
 |p::l=>p.2.2.length+tot l
def dD:List Part->List Int
 | []=>[]
 |p::l=>p.2.2++dD l
def pd:Part:=(none,0,[])
theorem jg{l:List Part}{k:Nat}(h:k<l.length):tot (l.take (k+1))=tot (l.take k)+(l.getD k pd).2.2.length:=by
 induction l generalizing k with
 |nil=>simp at h
 |cons p l ih=>
  cases k with
  |zero=>simp[tot]
  |succ k=>
   have:=ih (k:=k) (by simpa using h)
   simp only[cS,tot,this,List.getD_cons_succ]
   omega
theorem mc{l:List Part}{k:Nat}(h:k<l.length):dD (l.take (k+1))=dD (l.take k)++(l.getD k pd).2.2:=by
 induction l generalizing k with
 |nil=>simp at h
 |cons p l ih=>
  cases k with
  |zero=>simp[dD]
  |succ k=>
   have:=ih (k:=k) (by simpa using h)
   simp only[cS,dD,this,List.getD_cons_succ,dx]
theorem mr(l:List Part)(k:Nat):tot (l.take k)<=tot l:=by
 induction l generalizing k with
 |nil=>simp
 |cons p l ih=>
  cases k with
  |zero=>simp[tot]
  |succ k=>simp only[cS,tot];have:=ih k;omega
theorem kf(l:List Part):(dD l).length=tot l:=by
 induction l with
 |nil=>rfl
 |cons p l ih=>simp[dD,tot,ih]
theorem kY{w:World}{B:Nat}{A:Option Addr}{l:List Part}(h:Rd w B A (l.map Part.v)){k:Nat}(hk:k<l.length):
  ∃ad,A=some ad∧ad.block<B∧w.cell? (ad.add k)=some (.slice (l.getD k pd).1 (l.getD k pd).2.2.length (l.getD k pd).2.1):=by
 obtain⟨ad,e,hb,hc⟩:=h (by simp;omega)
 refine⟨ad,e,hb,hc k _ ?_⟩
 simp[List.getD,hk,Part.v]
set_option maxHeartbeats 2000000 in
theorem kL(A:Option Addr)(n c:Nat)(l:List Part)(w:World)(hn:n=l.length)(hr:Rd w w.heap.size A (l.map Part.v))(hp: ∀k,k<l.length->Rd w w.heap.size (l.getD k pd).1 ((l.getD k pd).2.2.map (Value.int .i64)))(h0:0<tot l)(ht:tot l<=1000000)(hl:l.length<=1000):
  Calls Try.prog 56 #[.slice A n c] w (RetOwn w.heap.size 3 ((dD l).map (Value.int .i64)) w):=by
 subst hn
 obtain⟨i0,hi0,hz0,hs0,hb0⟩:=info_parts ne
 go_enter Try.func56,Try.ntmps56
 go_wp2_with fail
 go_loopw [3,11] (fun s i wr=> ∃k:Nat,k<=l.length∧i= .int .i64 k∧s= .int .i64 (tot (l.take k):Nat)∧w=wr) (fun _ i _=>l.length-(intOf i).toNat)
 case atStart=>exact⟨0,by omega,rfl,rfl,rfl⟩
 case round=>
  obtain⟨k,hk,rfl,rfl,rfl⟩:=hrel
  by_cases hlt:k<l.length
  ·obtain⟨ad,rfl,hb,hc⟩:=kY hr hlt
   have h1:=jg hlt
   have h2:=mr l (k+1)
   obtain⟨⟨pa,pc,px⟩,hpd⟩: ∃p,l.getD k pd=p:=⟨_,rfl⟩
   rw[hpd] at hc h1
   simp only at hc h1
   clear hpd
   go_wp2_with fail
   go_round
   case rel=>
    refine⟨k+1,by omega,by go_num, ?_,by first |rfl |trivial⟩
    rw[h1];go_num
   case measure=>simp[intOf];omega
  ·obtain rfl:k=l.length:=by omega
   rw[gf]
   go_wp2_with (go_at_call 70;refine(nh _ _ h0 ht).mono ?_;rintro e w1 ⟨v1,rfl,hown1,hb1⟩)
   go_loopw [6,27] (fun v i wr=> ∃k:Nat,k<=l.length∧i= .int .i64 k∧wr.ownsRow w.heap.size 3 1 v (tot (l.take k)) ((dD (l.take k)).map (Value.int .i64))∧Below w.heap.size w wr) (fun _ i _=>l.length-(intOf i).toNat)
   case atStart=>exact⟨0,by omega,rfl,by simpa [tot,dD] using hown1,hb1⟩
   case round=>
    obtain⟨k,hk,rfl,hown2,hb2⟩:=hrel
    have hs2:=hb2.size
    by_cases hlt:k<l.length
    ·obtain⟨ad,rfl,hb,hc⟩:=kY (hr.below hb2 (av _)) hlt
     have hrk:=(hp k hlt).below hb2 (av _)
     have h1:=jg hlt
     have h2:=mr l (k+1)
     have h3:=mc hlt
     obtain⟨⟨pa,pc,px⟩,hpd⟩: ∃p,l.getD k pd=p:=⟨_,rfl⟩
     rw[hpd] at hc h1 hrk h3
     simp only at hc h1 hrk h3
     have HA:=Lib.hid h3
     clear hpd h3
     go_wp2_with (at_builtin;refine kP _ rfl (.tmp 31) (.tmp 32) _ rfl w.heap.size 3 i0 _ 8 Try.underlying34 hi0 hz0 hs0 hb0 rfl _ _ _ rfl hown2 w.heap.size _ _ _ _ rfl (by rw[cC]) hrk (jQ _ _) (by omega) (by omega) hs2 ?_;intro v3 w3 hown3 hb3)
     go_round
     case rel=>
      refine⟨k+1,by omega,by go_num, ?_,hb2.trans hb3⟩
      rw[h1,HA.out,List.map_append]
      exact hown3
     case measure=>simp[intOf];omega
    ·obtain rfl:k=l.length:=by omega
     go_wp2
     go_ret
     rw[gf] at hown2
     refine⟨_,rfl, ?_,hb2⟩
     rw[cC,kf]
     exact hown2
set_option maxHeartbeats 2000000 in
theorem l8(A:Option Addr)(n c:Nat)(xs:List Int)(w:World)(hn:n=xs.length)(hr:Rd w w.heap.size A (xs.map (Value.int .i64)))(hs:n<=1000000):
  Calls Try.prog 37 #[.slice A n c] w (RetOwn w.heap.size 3 (xs.map (Value.int .i64)) w):=by
 subst hn
 obtain⟨i0,hi0,hz0,hs0,hb0⟩:=info_parts ne
 cases A with
 |none=>
  have hx:xs=[]:=by have:=hr.none_nil;simpa using this
  subst hx
  have he: ∀w:World,(binOp .eql 34 (.slice none 0 c) (.slice none 0 0)).run Try.prog w= .ok (.bool true) w:=fun _=>rfl
  go_enter Try.func37,Try.ntmps37
  go_wp2_with fail
  go_ret
  exact⟨_,rfl,World.ownsRow_nil _ _ _ _,up0 _⟩
 |some ad=>
  have hlit:=mS w 3 _ rfl
  have he: ∀w:World,(binOp .eql 34 (.slice (some ad) xs.length c) (.slice none 0 0)).run Try.prog w= .ok (.bool false) w:=fun _=>rfl
  go_enter Try.func37,Try.ntmps37
  go_wp2_with (at_builtin;refine kP _ rfl (.tmp 5) (.tmp 6) _ rfl w.heap.size 3 i0 _ 8 Try.underlying34 hi0 hz0 hs0 hb0 rfl _ 0 [] rfl hlit (w.alloc (.cells #[] 3)).heap.size (some ad) xs.length c (xs.map (Value.int .i64)) rfl (by simp) (hr.allocT _) (jQ _ _) (by omega) (by omega) (by simp) ?_;intro v1 w1 hown1 hb1)
  go_ret
  refine⟨_,rfl, ?_,(upA (up0 w) _).trans hb1⟩
  have:=mR hown1
  rwa [cC]
end
end Go.Proofs.Ytbhdoempeglgpaa
namespace Go.Proofs.Ytbhdoempeglgpaa.Px
section
open Go.RowKit Go.Proofs.Ytbhdoempeglgpaa.Rx
def PartOk(a:AV)(l:List Int):Prop:=(a= .nils∧l=[])∨ ∃g,a= .row 1 l.length g∧ ∀i,i<l.length->g i 0= .int .i64 (l.getD i 0)
theorem PartOk.nil:PartOk .nils []:= .inl ⟨rfl,rfl⟩
theorem PartOk.row(l:List Int):PartOk (.row 1 l.length (lJ l)) l:= .inr ⟨_,rfl,fun _ _=>rfl⟩
theorem PartOk.rep{w:World}{R:Nat->Prop}{a:AV}{l:List Int}{v:Value}(h:PartOk a l)(hr:RepP w R a v)(hR: ∀g,R g->g<w.heap.size): ∃A c,v= .slice A l.length c∧Rd w w.heap.size A (l.map (Value.int .i64)):=by
 rcases h with⟨rfl,rfl⟩|⟨g,rfl,hg⟩
 ·cases hr with
  |nils=>exact⟨none,0,rfl,Rd.nil⟩
 ·obtain⟨A,c,e,_,_,h⟩:=hr.ints hR rfl hg
  exact⟨A,c,e,h⟩
theorem la{args:List AV}{vs:Array Value}{a:AV}(h:args=[a])(hl:args.length=vs.size){w:World}{R:Nat->Prop}(ha: ∀(j:Nat) a v,args[j]? =some a->vs[j]? =some v->RepP w R a v): ∃v,vs= #[v]∧RepP w R a v:=by
 subst h
 obtain⟨vs⟩:=vs
 match vs,hl with
 | [v],_=>exact⟨v,rfl,ha 0 a v rfl rfl⟩
theorem gX{a:AV}{l:List Int}(h:PartOk a l)(hl:l.length<=1000000):pC_ 37 [a] (.own 0 0 1 0 l.length) [fu l]:=
 PureC.ofOwn (k:= .i64) (l:=l) rfl (fun _ _=>rfl) fun w R vs hR hn ha=>by
  obtain⟨v,rfl,hv⟩:=la rfl hn ha
  obtain⟨A,c,rfl,hr⟩:=h.rep hv hR
  exact l8 A _ c l w rfl hr hl
def kZ:Value->Option Addr×Nat
 | .slice A _ c=>(A,c)
 |_=>(none,0)
theorem me(l:List Part):dD l=(l.map (·.2.2)).flatten:=by
 induction l with
 |nil=>rfl
 |cons p l ih=>simp[dD,ih]
theorem oF{f:Nat->Nat->AV}{L:List (List Int)}(h: ∀i,i<L.length->PartOk (f i 0) (L.getD i []))(h0:0<L.flatten.length)(ht:L.flatten.length<=1000000)(hL:L.length<=1000):
  pC_ 56 [.row 1 L.length f] (.own 0 0 1 0 L.flatten.length) [fu L.flatten]:=
 PureC.ofOwn (k:= .i64) (l:=L.flatten) rfl (fun _ _=>rfl) fun w R vs hR hn ha=>by
  obtain⟨v,rfl,hv⟩:=la rfl hn ha
  cases hv with
  |row A cap u hnc hc hA h1 hu=>
   let l:List Part:=(List.range L.length).map fun i=>((kZ (u i 0)).1,(kZ (u i 0)).2,L.getD i [])
   have hll:l.length=L.length:=by simp[l]
   have hfl:l.map (·.2.2)=L:=by
    apply List.ext_getElem (by simp[l])
    intro i h1 h2
    simp[l,List.getD,h2]
   have hall:dD l=L.flatten:=by rw[me,hfl]
   have hpt: ∀i,i<L.length->l.getD i pd=((kZ (u i 0)).1,(kZ (u i 0)).2,L.getD i []):=fun i hi=>by
    simp[l,List.getD,hi]
   have hui: ∀i,i<L.length->u i 0=Part.v (l.getD i pd)∧Rd w w.heap.size (l.getD i pd).1 ((l.getD i pd).2.2.map (Value.int .i64)):=fun i hi=>by
    obtain⟨A',c',e,hr⟩:=(h i hi).rep (hu i hi 0 (by omega)) hR
    rw[hpt i hi,e]
    exact⟨rfl,hr⟩
   have htot:tot l=L.flatten.length:=by rw[<-kf,hall]
   rw[<-hall]
   refine kL A _ cap l w hll.symm (fun hl=> ?_) (fun i hi=>(hui i (by omega)).2) (by omega) (by omega) (by omega)
   rw[cC,hll] at hl
   obtain⟨g,o,rfl,hg,hcell⟩:=hA (by omega)
   refine⟨⟨g,o,none⟩,rfl,hR g hg,fun j x hx=> ?_⟩
   have hj:j<L.length:=by
    have:=(an.1 hx).1
    simpa [hll] using this
   rw[show Addr.add ⟨g,o,none⟩ j=⟨g,o+j,none⟩ from db g o j]
   have h4:=hcell j hj 0 (by omega)
   rw[show o+(j*1+0)=o+j by omega] at h4
   rw[h4,(hui j hj).1]
   rw[au,ar (by omega),ay,ae] at hx
   rw[<-hx]
   simp[List.getD,hj,hll]
theorem fR(l:List Int)(hl:l.length<=1000000):pC_ 37 [lR l] (lR l) []:=(gX (.row l) hl).frozen
def coK(c:Cf):Nat->List Int
 |0=>[(c.b.length:Int)]
 |k+1=>coK c k++enN (c.b.getD k default)
def coL(c:Cf):List Int:=((coK c c.b.length++[(c.r.length:Int)])++c.r)++[c.e]
theorem nB(c:Cf): ∀k,ciK c k=ej c.s++coK c k
 |0=>rfl
 |k+1=>by rw[ciK,coK,nB c k,dx]
theorem qi(c:Cf):ciL c=ej c.s++coL c:=by
 unfold ciL coL;rw[nB];simp only[dx]
def flE(b:List En):List Int:=b.flatMap enN
theorem nz(c:Cf): ∀k,k<=c.b.length->coK c k=(c.b.length:Int)::flE (c.b.take k)
 |0,_=>rfl
 |k+1,h=>by
  have e:c.b.take (k+1)=c.b.take k++[c.b.getD k default]:=by
   rw[List.take_add_one,al,ar (by omega)];rfl
  rw[coK,nz c k (by omega),e]
  unfold flE
  simp
theorem qg(c:Cf):coL c=(c.b.length:Int)::(flE c.b++((c.r.length:Int)::(c.r++[c.e]))):=by
 unfold coL
 rw[nz c _ (av _),gf]
 simp
theorem qh(c:Cf):ciL c=c.s.r0::c.s.r1::c.s.r2::c.s.r3::(c.s.m.length:Int)::(c.s.m++((c.s.st.length:Int)::(c.s.st++(c.s.pc::(c.b.length:Int)::(flE c.b++((c.r.length:Int)::(c.r++[c.e]))))))):=by
 rw[qi,qg]
 simp[ej]
theorem dq{x:Int}(h1: -1000000<=x)(h2:x<=1000000): -9223372036854775808<=x∧x<9223372036854775808:=by omega
theorem oD{p:Pg}{c:Cf}(hP:OkP p)(hw:p.win<=1000)(h:Inv p c)(he:0<=c.e∧c.e<10):Cd.isI (ciL c):=by
 have hl:=hP.len
 have hs:=hP.sum
 obtain⟨h0,h1,h2,h3⟩:=h.reg
 have hml:=h.ml
 have hst:=h.st
 have hpc:=h.pc
 have hbl:=h.bl
 have hrl:=h.rl
 intro x hx
 rw[qh] at hx
 simp only[ba,bz,List.not_mem_nil,or_false] at hx
 rcases hx with rfl |rfl |rfl |rfl |rfl |hx |rfl |hx |rfl |rfl |hx |rfl |hx |rfl
 ·exact dq (by omega) (by omega)
 ·exact dq (by omega) (by omega)
 ·exact dq (by omega) (by omega)
 ·exact dq (by omega) (by omega)
 ·exact dq (by omega) (by omega)
 ·have:=h.mem x hx;exact dq (by omega) (by omega)
 ·exact dq (by omega) (by omega)
 ·have:=h.stk x hx;exact dq (by omega) (by omega)
 ·exact dq (by omega) (by omega)
 ·exact dq (by omega) (by omega)
 ·obtain⟨e,he,hx⟩:=aV.1 hx
  have hE:=h.be e he
  have e1:=hE.pc
  have e2:=hE.val
  have e3:=hE.frm
  have e4:=hE.nxt
  have e5:=hE.adr
  have ht: ∀b:Bool,0<=Wd.tI b∧Wd.tI b<=1:=fun b=>by cases b<;>decide
  have t1:=ht e.dn
  have t2:=ht e.kn
  have t3:=ht e.ft
  simp only[enN,bz,List.not_mem_nil,or_false] at hx
  rcases hx with rfl |rfl |rfl |rfl |rfl |rfl |rfl |rfl<;>exact dq (by omega) (by omega)
 ·exact dq (by omega) (by omega)
 ·have:=h.rb x hx;exact dq (by omega) (by omega)
 ·exact dq (by omega) (by omega)
structure CfS (c:Cf):Prop where
 b:c.b.length<=3
 m:c.s.m.length<=16
 st:c.s.st.length<=4
 r:c.r.length<=2
 i:Cd.isI (ciL c)
theorem CfS.of{p:Pg}{c:Cf}(hP:OkP p)(hw:p.win<=3)(hI:Inv p c)(he:0<=c.e∧c.e<10):CfS c:=
 ⟨by have:=hI.bl;omega,by rw[hI.ml];exact hP.sum,hI.st,hI.rl,oD hP (by omega) hI he⟩
theorem CfS.len{c:Cf}(h:CfS c):(Cd.putL (ciL c)).length<1000:=by
 have h2:=Cd.putL_len_le (ciL c)
 rw[ln] at h2
 have:=h.b;have:=h.m;have:=h.st;have:=h.r
 omega
theorem CfS.same{a b:Cf}(h:CfS a)(k:CfS b):pC_ 14 [.agg (cfA a),.agg (cfA b)] (.bool (decide (ciL a=ciL b))) []:=pz a b (by have:=h.b;omega) (by have:=h.m;omega) (by have:=h.st;omega) (by have:=h.r;omega) (by have:=k.b;omega) (by have:=k.m;omega) (by have:=k.st;omega) (by have:=k.r;omega)
theorem lG{l:List En}{k i j:Nat}(h:i<k):aU enC l i j=aU enC (l.take k) i j:=by
 unfold aU
 rw[al,al,aY,aG h]
theorem mu{l:List En}{c j:Nat}(h:j<c):(l.take c).getD j default=l.getD j default:=by
 rw[al,al,aY,aG h]
theorem rT(p:Pg)(pc:Int)(h0:0<=pc)(h1:pc<p.is.length):Vc (vF_ 22 [.agg (pgA p), aI pc] [.fz,.bd false,.bd false] [] (.agg (inA (p.is.getD pc.toNat default))) []):=aF (cj (df (pc<0)) (cj (df (pc>=(↑p.is.length:Int))) (cj (bi pc p.is.length) (cj (rf ((p.is.getD (Int.toNat pc) default).kind)) (cj (rf ((p.is.getD (Int.toNat pc) default).op)) (cj (rf ((p.is.getD (Int.toNat pc) default).d)) (cj (rf ((p.is.getD (Int.toNat pc) default).a.reg)) (cj (rf ((p.is.getD (Int.toNat pc) default).a.n)) (cj (rf ((p.is.getD (Int.toNat pc) default).b.reg)) (cj (rf ((p.is.getD (Int.toNat pc) default).b.n)) (cj (rf ((p.is.getD (Int.toNat pc) default).nm)) (cj (rf ((p.is.getD (Int.toNat pc) default).tg)) trivial))))))))))))
theorem qD{Z:Prop}(z:Z):(RF (12:Int) (RF (0:Int) (RF (0:Int) (RF false (RF (0:Int) (RF false (RF (0:Int) (RF (ByteArray.mk (Array.mk [])) (RF (0:Int) Z))))))))):=⟨rfl,rfl,rfl,rfl,rfl,rfl,rfl,rfl,rfl,z⟩
theorem qr(p:Pg)(pc:Int)(h0: ¬0<=pc):Vc (vF_ 22 [.agg (pgA p), aI pc] [.fz,.bd true] [] (.agg (inA {In0 with kind:=12})) []):=aF (cj (dt (pc<0)) (qD trivial))
theorem qq(p:Pg)(pc:Int)(h0:0<=pc)(h1: ¬pc<p.is.length):Vc (vF_ 22 [.agg (pgA p), aI pc] [.fz,.bd false,.bd true] [] (.agg (inA {In0 with kind:=12})) []):=aF (cj (df (pc<0)) (cj (dt (pc>=(↑p.is.length:Int))) (qD trivial)))
theorem atC(p:Pg)(pc:Int):pC_ 22 [.agg (pgA p),.int .i64 pc] (.agg (inA (atI p pc))) []:=by
 by_cases h0:0<=pc
 ·by_cases h1:pc<p.is.length
  ·rw[nM h0 h1];exact PureC.vc (rT p pc h0 h1)
  ·rw[ja fun h=>h1 h.2];exact PureC.vc (qq p pc h0 h1)
 ·rw[ja fun h=>h0 h.1];exact PureC.vc (qr p pc h0)
theorem qe(l:List En)(n:Int)(k:Nat)(hE:(if(l.length:Int)<(if n<0 then 0 else n) then(l.length:Int) else(if n<0 then 0 else n))=(k:Int))(hkl:k<=l.length)(hb:l.length<1000000):Vc (vF_ 68 [enR l, aI n] [] [(0,0)] (.own 0 0 8 0 (l.take k).length) [enB (l.take k)]):=aF (cj (show((0:Int)<=if(l.length:Int)<if n<0 then(0:Int) else n then(l.length:Int) else if n<0 then(0:Int) else n)∧(if(l.length:Int)<if n<0 then(0:Int) else n then(l.length:Int) else if n<0 then(0:Int) else n)<=(l.length:Int) from by rw[hE];omega) (cj (show Int.toNat (if(l.length:Int)<if n<0 then(0:Int) else n then(l.length:Int) else if n<0 then(0:Int) else n)*48<=140737488355328∧Int.toNat (if(l.length:Int)<if n<0 then(0:Int) else n then(l.length:Int) else if n<0 then(0:Int) else n)<=140737488355328 from by rw[hE,b6];omega) (cj (show Int.toNat (if(l.length:Int)<if n<0 then(0:Int) else n then(l.length:Int) else if n<0 then(0:Int) else n)=(List.take k l).length from by rw[hE,bt,b6];omega) (cj (show ∀(i:Nat),i<Int.toNat (if(l.length:Int)<if n<0 then(0:Int) else n then(l.length:Int) else if n<0 then(0:Int) else n)-> ∀(j:Nat),j<8->aU enC l i j=aU enC (List.take k l) i j from(fun i hi j hj=>by rw[hE,b6] at hi;exact lG hi)) (cj (rf (0:Nat)) (cj (show Int.toNat (if(l.length:Int)<if n<0 then(0:Int) else n then(l.length:Int) else if n<0 then(0:Int) else n)=(List.take k l).length from by rw[hE,bt,b6];omega) trivial))))))
theorem sc(l:List En)(n:Int)(k:Nat)(hk:(k:Int)=min (max n 0) (l.length:Int))(hb:l.length<1000000):pC_ 68 [enR l,.int .i64 n] (.own 0 0 8 0 (l.take k).length) [enB (l.take k)]:=by
 refine PureC.vc (qe l n k ?_ (by omega) hb)
 rw[hk]
 repeat' split
 all_goals omega
theorem rH(l:List En)(n:Int)(k:Nat)(hk:(k:Int)=min (max n 0) (l.length:Int))(hb:l.length<1000000):pC_ 68 [enR l,.int .i64 n] (enR (l.take k)) []:=(sc l n k hk hb).frozen
def ac(ms:List Mm)(s:Nat)(k:Nat):Sm:=⟨[(8,.int .i64 ms.length),(7,lP ms),(9,.int .i64 k),(3,.int .i64 s)],[],0⟩
theorem oM(ms:List Mm)(s k:Nat)(hk:k<ms.length)(h64:ms.length<4611686018427387904)(hs:s+(ms.getD k default).n<=16):Vc (vC_ 78 0 (ac ms s k) [.b true] .nrm [] (ac ms (s+(ms.getD k default).n) (k+1))):=aF (cj (dt ((k:Int)<ms.length)) (cj (bi k ms.length) (cj (i6 (16-s)) (cj (i6 ((s:Int)+if(16:Int)-(s:Int)<if(↑((ms.getD k default).n):Int)<0 then(0:Int) else(↑((ms.getD k default).n):Int) then(16:Int)-(s:Int) else if(↑((ms.getD k default).n):Int)<0 then(0:Int) else(↑((ms.getD k default).n):Int))) (cj (i6 (k+1)) (cj (rf (ms.length:Int)) (cj (rf ms.length) (cj (rr ms.length 3 fun i j=>aU mmC ms i j) (cj (rf ((k:Int)+1)) (cj (pv (((s:Int)+if(16:Int)-(s:Int)<if(↑((ms.getD k default).n):Int)<0 then(0:Int) else(↑((ms.getD k default).n):Int) then(16:Int)-(s:Int) else if(↑((ms.getD k default).n):Int)<0 then(0:Int) else(↑((ms.getD k default).n):Int))=(↑(s+(ms.getD k default).n):Int))) trivial))))))))))
theorem qu(ms:List Mm)(s:Nat):Vc (vC_ 78 0 (ac ms s ms.length) [.b false] (.ext 0) [] (ac ms s ms.length)):=aF (cj (df ((ms.length:Int)<ms.length)) (cj (rf (ms.length:Int)) (cj (rf ms.length) (cj (rr ms.length 3 fun i j=>aU mmC ms i j) (cj (rf (ms.length:Int)) (cj (rf (s:Int)) trivial))))))
theorem oN(ms:List Mm)(h64:ms.length<4611686018427387904)(hs:cL ms<=16):oL_ 78 0 (ac ms 0 0).st (.ext 0) (ac ms (cL ms) ms.length).st:=by
 have:=Ok.loop (P:=Try.prog) (nt:=iS Try.prog 78) (c:=lpC Try.prog 78 0) (F:=fun k=>ac ms (cL (ms.take k)) k) (m:=ms.length) (x:= .ext 0) (J:=ac ms (cL ms) ms.length) (fun k hk=>by
  have h1:=lA hk
  have h2:=iN ms (k+1)
  show Ok _ _ _ _ _ (ac ms (cL (ms.take (k+1))) (k+1)).st
  rw[h1]
  exact Ok.vc (oM ms _ k hk h64 (by omega))) (by
  show Ok _ _ _ (ac ms (cL (ms.take ms.length)) ms.length).st _ _
  rw[gf]
  exact Ok.vc (qu ms _)) (by simp)
 simpa [cL] using this
theorem qt(W r0 r1 r2 r3:Int)(ms:List Mm)(h64:ms.length<4611686018427387904)(hs:cL ms<=16):Vc (vF_ 78 [.agg (kW W r0 r1 r2 r3 (lP ms))] [.lp [] (ac ms 0 0) (.ext 0) (ac ms (cL ms) ms.length)] [] (aI (cL ms)) []):=aF (cj (rf (ms.length:Int)) (cj (rf ms.length) (cj (rr ms.length 3 fun i j=>aU mmC ms i j) (cj (rf (0:Int)) (cj (rf (0:Int)) (cj (oN ms h64 hs) (cj (rf (↑(cL ms):Int)) trivial)))))))
theorem iJ(W r0 r1 r2 r3:Int)(ms:List Mm)(h64:ms.length<4611686018427387904)(hs:cL ms<=16):pC_ 78 [.agg (kW W r0 r1 r2 r3 (lP ms))] (.int .i64 (cL ms)) []:=PureC.vc (qt W r0 r1 r2 r3 ms h64 hs)
def fA(a b:AV)(i _:Nat):AV:=[a,b].getD i .junk
theorem rJ(a b:List Int)(n k:Nat)(fa fb:Nat->Nat->AV)(hn:n=a.length)(hk:k=b.length)(ha: ∀i,i<a.length->fa i 0= .int .i64 (a.getD i 0))(hc: ∀i,i<b.length->fb i 0= .int .i64 (b.getD i 0))(h0:0<(a++b).length)(hb:(a++b).length<=1000000):pC_ 56 [.row 1 2 (fA (.row 1 n fa) (.row 1 k fb))] (.own 0 0 1 0 (a++b).length) [fu (a++b)]:=by
 subst hn hk
 have e:[a,b].flatten=a++b:=by simp
 have h:=oF (f:=fA (.row 1 a.length fa) (.row 1 b.length fb)) (L:=[a,b]) (fun i hi=>match i,hi with
  |0,_=> .inr ⟨fa,rfl,ha⟩
  |1,_=> .inr ⟨fb,rfl,hc⟩) (by rw[e];exact h0) (by rw[e];exact hb) (by show(2:Nat)<=1000;decide)
 rw[e] at h
 exact h
theorem pj{l:List Int}{n i:Nat}(h:i<n):AV.int .i64 (l.getD i 0)=AV.int .i64 ((l.take n).getD i 0):=by
 rw[al,al,aY,aG h]
theorem mM(l:List Int)(pc:Int):l.drop (l.length-1)++[pc]=bJ l pc:=by
 unfold bJ
 rw[List.drop_append_of_le_length (by omega)]
theorem m9(l:List Int)(pc:Int)(hb:l.length<1000000)(h:pC_ 56 [.row 1 2 (fA (.row 1 (l.length-Int.toNat (if(l.length:Int)-1<0 then(0:Int) else(l.length:Int)-1)) (fun i j=>lJ l (i+Int.toNat (if(l.length:Int)-1<0 then(0:Int) else(l.length:Int)-1)) j)) (.row 1 1 (fun i j=>[AV.int .i64 pc].getD (i*1+j) .junk)))] (.own 0 0 1 0 (bJ l pc).length) [fu (bJ l pc)]):Vc (vF_ 41 [lR l, aI pc] [.fz,.fz,.cl [.row 1 2 (fA (.row 1 (l.length-Int.toNat (if(l.length:Int)-1<0 then(0:Int) else(l.length:Int)-1)) (fun i j=>lJ l (i+Int.toNat (if(l.length:Int)-1<0 then(0:Int) else(l.length:Int)-1)) j)) (.row 1 1 (fun i j=>[AV.int .i64 pc].getD (i*1+j) .junk)))] (.own 0 0 1 0 (bJ l pc).length) [fu (bJ l pc)]] [(0,2)] (.own 0 0 1 0 (bJ l pc).length) [fu (bJ l pc)]):=aF (cj (i6 (l.length-1)) (cj (pv (((0:Int)<=if(l.length:Int)-1<0 then(0:Int) else(l.length:Int)-1)∧(if(l.length:Int)-1<0 then(0:Int) else(l.length:Int)-1)<=(l.length:Int)∧(l.length:Int)<=(l.length:Int))) (cj (rf (2:Nat)) (cj (show ∀(i:Nat),i<2-> ∀(j:Nat),j<1->List.getD [AV.row (nat_lit 1) (l.length-Int.toNat (if(l.length:Int)-1<0 then(0:Int) else(l.length:Int)-1)) fun(i j:Nat)=>aI (l.getD (i+Int.toNat (if(l.length:Int)-1<0 then(0:Int) else(l.length:Int)-1)) (0:Int)),AV.row (nat_lit 1) (nat_lit 1) fun(i j:Nat)=>List.getD [aI pc] (i*1+j) AV.junk] (i*1+j) AV.junk=fA (AV.row (1:Nat) (l.length-Int.toNat (if(l.length:Int)-1<0 then(0:Int) else(l.length:Int)-1)) fun(i j:Nat)=>aI (l.getD (i+Int.toNat (if(l.length:Int)-1<0 then(0:Int) else(l.length:Int)-1)) (0:Int))) (AV.row (1:Nat) (1:Nat) fun(i j:Nat)=>List.getD [aI pc] (i*1+j) AV.junk) i j from(fun i hi j hj=>match i,hi,j,hj with |0,_,0,_=>rfl |1,_,0,_=>rfl)) (cj h (cj (rf ((bJ l pc).length)) (cj (rr ((bJ l pc).length) 1 fun i j=>aI (List.getD (bJ l pc) i 0)) (cj (rf (0:Nat)) (cj (rf ((bJ l pc).length)) trivial)))))))))
theorem pF(l:List Int)(pc:Int)(hb:l.length<1000000):pC_ 41 [lR l,.int .i64 pc] (.own 0 0 1 0 (bJ l pc).length) [fu (bJ l pc)]:=by
 have e:Int.toNat (if(l.length:Int)-1<0 then(0:Int) else(l.length:Int)-1)=l.length-1:=by split<;>omega
 have h:=rJ (l.drop (l.length-1)) [pc] (l.length-Int.toNat (if(l.length:Int)-1<0 then(0:Int) else(l.length:Int)-1)) 1 (fun i j=>lJ l (i+Int.toNat (if(l.length:Int)-1<0 then(0:Int) else(l.length:Int)-1)) j) (fun i j=>[AV.int .i64 pc].getD (i*1+j) .junk) (by rw[e,List.length_drop]) rfl (fun i hi=>by rw[e,lU];rfl) (fun i hi=>by obtain rfl:i=0:=Nat.lt_one_iff.1 hi;rfl) (by simp) (by simp;omega)
 rw[mM] at h
 exact PureC.vc (m9 l pc hb h)
theorem rj:Vc (vF_ 54 [lR []] [.bd true] [] (.tup [aI 0,.nils,.bool false]) []):=aF (cj (i6 ((0:Nat)-1)) (cj (dt (((0:Nat):Int)-1<0)) (cj (rf (0:Int)) (cj (rf false) trivial))))
theorem iM(p:Pg)(e:En){Z:Prop}(z:Z):(RF p.ls.length (RR p.ls.length 2 (fun i j=>aU lbC p.ls i j) (RF p.is.length (RR p.is.length 9 (fun i j=>aU inC p.is i j) (RF e.pc Z))))):=⟨rfl,fun _ _ _ _=>rfl,rfl,fun _ _ _ _=>rfl,rfl,z⟩
theorem eP(p:Pg){Z:Prop}(z:Z):(RF p.W (RF p.win (RF p.fuel (RF p.r0 (RF p.r1 (RF p.r2 (RF p.r3 (RF p.ms.length (RR p.ms.length 3 (fun i j=>aU mmC p.ms i j) Z))))))))):=⟨rfl,rfl,rfl,rfl,rfl,rfl,rfl,rfl,fun _ _ _ _=>rfl,z⟩
theorem nT(p:Pg){Z:Prop}(z:Z):(RF p.W (RF p.r0 (RF p.r1 (RF p.r2 (RF p.r3 (RF p.ms.length (RR p.ms.length 3 (fun i j=>aU mmC p.ms i j) Z))))))):=⟨rfl,rfl,rfl,rfl,rfl,rfl,fun _ _ _ _=>rfl,z⟩
abbrev n8(p:Pg):Prop:=PureC Try.prog 78 [.agg (kW p.W p.r0 p.r1 p.r2 p.r3 (lP p.ms))] (.int .i64 (cL p.ms)) []
abbrev n6(st:List Int):Prop:=PureC Try.prog 37 [lR st] (.own 0 0 1 0 st.length) [fu st]
abbrev n7:Prop:=PureC Try.prog 37 [.nils] (lR []) []
abbrev oj(p:Pg)(e:En)(op:Int)(d:Int)(tg:Int)(a:Vl)(b:Vl)(nm:ByteArray):Orc:= .cl [.agg (pgA p), aI e.pc] (.agg (inA (⟨8,op,d,a,b,nm,tg⟩:In))) []
abbrev oh(p:Pg):Orc:= .cl [.agg (kW p.W p.r0 p.r1 p.r2 p.r3 (lP p.ms))] (aI (cL p.ms)) []
abbrev oi(st:List Int):Orc:= .cl [lR st] (.own 0 0 1 0 st.length) [fu st]
theorem nI(p:Pg)(e:En)(st:List Int)(op d tg:Int)(a b:Vl)(nm:ByteArray)(hA:pC_ 22 [.agg (pgA p), aI e.pc] (.agg (inA (⟨8,op,d,a,b,nm,tg⟩:In))) [])(hc:n8 p)(hn:n7)(hs:n6 st)(hk:4<=st.length)(hk2:st.length<1000):Vc (vF_ 69 [.agg (pgA p),lR st,.agg (enA e)] [.fz,.fz,oj p e op d tg a b nm,.bd true,.fz,.inl,.fz,.cl [.nils] (lR []) [],oi st,oh p,.it 2,.inl,oj p e op d tg a b nm,.fz,.bd true] [] (.tup [lR st,.bool false]) []):=aF (eP p (iM p e (cj hA (cj (e1 8 8) (cj hn (cj (rf st.length) (cj (rr st.length 1 fun i j=>aI (st.getD i 0)) (cj hs (nT p (cj hc (eP p (iM p e (cj hA (cj (dt ((st.length:Int)>=4)) (cj (i6 (0+1)) (cj (rf st.length) (cj (rr st.length 1 fun i j=>aI (st.getD i 0)) (cj (e0 2 0) trivial))))))))))))))))))
theorem nH(p:Pg)(e:En)(st:List Int)(op d tg:Int)(a b:Vl)(nm:ByteArray)(hA:pC_ 22 [.agg (pgA p), aI e.pc] (.agg (inA (⟨8,op,d,a,b,nm,tg⟩:In))) [])(hc:n8 p)(hn:n7)(hs:n6 st)(hk: ¬4<=st.length)(hp: -1<=e.pc∧e.pc<=1000000):Vc (vF_ 69 [.agg (pgA p),lR st,.agg (enA e)] [.fz,.fz,oj p e op d tg a b nm,.bd true,.fz,.inl,.fz,.cl [.nils] (lR []) [],oi st,oh p,.it 2,.inl,oj p e op d tg a b nm,.fz,.bd false] [] (.tup [lR (st++[e.pc+1]),.bool true]) []):=aF (eP p (iM p e (cj hA (cj (e1 8 8) (cj hn (cj (rf st.length) (cj (rr st.length 1 fun i j=>aI (st.getD i 0)) (cj hs (nT p (cj hc (eP p (iM p e (cj hA (cj (df ((st.length:Int)>=4)) (cj (i6 (e.pc+1)) (cj (ap st.length 1 8) (cj (i6 (0+1)) (cj (pv (st.length+1=(st++[e.pc+1]).length)) (cj (show ∀(i:Nat),i<st.length+1-> ∀(j:Nat),j<1->(bif Nat.blt (i+0) st.length then aI (st.getD (i+0) 0) else List.getD [aI (e.pc+1)] ((i+0-st.length+0)*1+j) AV.junk)=aI (List.getD (st++[e.pc+1]) i (0:Int)) from(fun i hi j hj=>by obtain rfl:j=0:=(by omega);exact mF (g:=fun a b=>[AV.int .i64 (e.pc+1)].getD (a*1+b) .junk) rfl i hi _ fun _=>rfl)) (cj (e1 0 0) trivial))))))))))))))))))))
abbrev og(p:Pg)(e:En)(op:Int)(d:Int)(tg:Int)(a:Vl)(b:Vl)(nm:ByteArray):Orc:= .cl [.agg (pgA p), aI e.pc] (.agg (inA (⟨9,op,d,a,b,nm,tg⟩:In))) []
theorem oJ(p:Pg)(e:En)(st:List Int)(op d tg:Int)(a b:Vl)(nm:ByteArray)(hA:pC_ 22 [.agg (pgA p), aI e.pc] (.agg (inA (⟨9,op,d,a,b,nm,tg⟩:In))) [])(hc:n8 p)(hn:n7)(hs:n6 st)(hk:st.length=0):Vc (vF_ 69 [.agg (pgA p),lR st,.agg (enA e)] [.fz,.fz,og p e op d tg a b nm,.bd false,.bd true,.fz,.inl,.fz,.cl [.nils] (lR []) [],oi st,oh p,.it 2,.inl,og p e op d tg a b nm,.inl,.bd true] [] (.tup [lR st,.bool false]) []):=aF (eP p (iM p e (cj hA (cj (e0 9 8) (cj (e1 9 9) (cj hn (cj (rf st.length) (cj (rr st.length 1 fun i j=>aI (st.getD i 0)) (cj hs (nT p (cj hc (eP p (iM p e (cj hA (cj (i6 (st.length-1)) (cj (dt ((st.length:Int)-1<0)) (cj (i6 (0+1)) (cj (rf st.length) (cj (rr st.length 1 fun i j=>aI (st.getD i 0)) (cj (e0 2 0) trivial))))))))))))))))))))
theorem oI(p:Pg)(e:En)(st:List Int)(op d tg:Int)(a b:Vl)(nm:ByteArray)(hA:pC_ 22 [.agg (pgA p), aI e.pc] (.agg (inA (⟨9,op,d,a,b,nm,tg⟩:In))) [])(hc:n8 p)(hn:n7)(hs:n6 st)(hk: ¬st.length=0)(hk2:st.length<1000):Vc (vF_ 69 [.agg (pgA p),lR st,.agg (enA e)] [.fz,.fz,og p e op d tg a b nm,.bd false,.bd true,.fz,.inl,.fz,.cl [.nils] (lR []) [],oi st,oh p,.it 2,.inl,og p e op d tg a b nm,.inl,.bd false] [] (.tup [lR (st.take (st.length-1)),.bool true]) []):=aF (eP p (iM p e (cj hA (cj (e0 9 8) (cj (e1 9 9) (cj hn (cj (rf st.length) (cj (rr st.length 1 fun i j=>aI (st.getD i 0)) (cj hs (nT p (cj hc (eP p (iM p e (cj hA (cj (i6 (st.length-1)) (cj (df ((st.length:Int)-1<0)) (cj (bi (st.length-1) st.length) (cj (pv (Int.toNat ((st.length:Int)-1)+0<st.length)) (cj (pv ((0:Int)<=st.length-1∧(st.length:Int)-1<=st.length)) (cj (pv ((16:Nat)<=140737488355328∧(1:Nat)<=140737488355328)) (cj (i6 (0+1)) (cj (pv (Int.toNat ((st.length:Int)-1)=(List.take (st.length-1) st).length)) (cj (show ∀(i:Nat),i<Int.toNat ((st.length:Int)-1)-> ∀(j:Nat),j<1->aI (st.getD (i+0) 0)=aI (List.getD (List.take (st.length-1) st) i 0) from(fun i hi j hj=>pj (show i<st.length-1 by omega))) (cj (e1 0 0) trivial))))))))))))))))))))))))
theorem si(p:Pg)(e:En)(st:List Int)(x:In)(h8: ¬x.kind=8)(h9: ¬x.kind=9)(hA:pC_ 22 [.agg (pgA p), aI e.pc] (.agg (inA x)) []):Vc (vF_ 69 [.agg (pgA p),lR st,.agg (enA e)] [.fz,.fz,.cl [.agg (pgA p), aI e.pc] (.agg (inA x)) [],.bd false,.bd false] [] (.tup [lR st,.bool true]) []):=aF (eP p (iM p e (cj hA (cj (af.2 h8) (cj (af.2 h9) (cj (rf st.length) (cj (rr st.length 1 fun i j=>aI (st.getD i 0)) (cj (rf true) trivial))))))))
def lrS(p:Pg)(l:List En)(L:List Int)(k:Nat):Sm:=⟨[(4,pgP p),(8,.nils),(9,.bool false),(10,lR L),(19,enR l),(20,.int .i64 l.length),(21,.int .i64 k)],[],0⟩
def bhV(p:Pg)(e:En)(st:List Int):Option (List Int):=
 if(atI p e.pc).kind=8 then(if 4<=st.length then none else some (st++[e.pc+1]))
 else if(atI p e.pc).kind=9 then(if st.length=0 then none else some (st.take (st.length-1))) else some st
theorem ph(p:Pg)(e:En)(st:List Int)(hP:OkP p)(hst:st.length<900)(hp: -1<=e.pc∧e.pc<=1000000)(L:List Int)(h:bhV p e st=some L):pC_ 69 [.agg (pgA p),lR st,.agg (enA e)] (.tup [lR L,.bool true]) []:=by
 unfold bhV at h
 have hA:=atC p e.pc
 have hC:=iJ p.W p.r0 p.r1 p.r2 p.r3 p.ms (by have:=hP.ms;omega) hP.sum
 have hN:pC_ 37 [.nils] (lR []) []:=(gX .nil (by show(0:Nat)<=1000000;decide)).frozen
 have hS:=gX (.row st) (by omega)
 generalize atI p e.pc=x at hA h
 obtain⟨k,op,d,a,b,nm,tg⟩:=x
 simp only at h
 by_cases h8:k=8
 ·subst h8
  rw[aG rfl] at h
  by_cases h4:4<=st.length
  ·rw[aG h4] at h;cases h
  ·rw[aD h4] at h
   obtain rfl:=Option.some.inj h
   exact PureC.vc (nH p e st op d tg a b nm hA hC hN hS h4 hp)
 ·rw[aD h8] at h
  by_cases h9:k=9
  ·subst h9
   rw[aG rfl] at h
   by_cases h0:st.length=0
   ·rw[aG h0] at h;cases h
   ·rw[aD h0] at h
    obtain rfl:=Option.some.inj h
    exact PureC.vc (oI p e st op d tg a b nm hA hC hN hS h0 (by omega))
  ·rw[aD h9] at h
   obtain rfl:=Option.some.inj h
   exact PureC.vc (si p e st _ h8 h9 hA)
theorem ox(p:Pg)(e:En)(st:List Int)(hP:OkP p)(hst:st.length<900)(hp: -1<=e.pc∧e.pc<=1000000)(h:bhV p e st=none):pC_ 69 [.agg (pgA p),lR st,.agg (enA e)] (.tup [lR st,.bool false]) []:=by
 unfold bhV at h
 have hA:=atC p e.pc
 have hC:=iJ p.W p.r0 p.r1 p.r2 p.r3 p.ms (by have:=hP.ms;omega) hP.sum
 have hN:pC_ 37 [.nils] (lR []) []:=(gX .nil (by show(0:Nat)<=1000000;decide)).frozen
 have hS:=gX (.row st) (by omega)
 generalize atI p e.pc=x at hA h
 obtain⟨k,op,d,a,b,nm,tg⟩:=x
 simp only at h
 by_cases h8:k=8
 ·subst h8
  rw[aG rfl] at h
  by_cases h4:4<=st.length
  ·exact PureC.vc (nI p e st op d tg a b nm hA hC hN hS h4 (by omega))
  ·rw[aD h4] at h;cases h
 ·rw[aD h8] at h
  by_cases h9:k=9
  ·subst h9
   rw[aG rfl] at h
   by_cases h0:st.length=0
   ·exact PureC.vc (oJ p e st op d tg a b nm hA hC hN hS h0)
   ·rw[aD h0] at h;cases h
  ·rw[aD h9] at h;cases h
theorem qy(l:List En)(k:Nat){Z:Prop}(z:Z):(RF ((l.getD k default).frm) (RF ((l.getD k default).nxt) (RF ((l.getD k default).dn) (RF ((l.getD k default).kn) (RF ((l.getD k default).ft) Z))))):=⟨rfl,rfl,rfl,rfl,rfl,z⟩
theorem qx(p:Pg)(l:List En)(L:List Int)(k:Nat){Z:Prop}(z:Z):(RF p.ls.length (RR p.ls.length 2 (fun i j=>aU lbC p.ls i j) (RF p.is.length (RR p.is.length 9 (fun i j=>aU inC p.is i j) (RF L.length (RR L.length 1 (fun i j=>aI (L.getD i 0)) (RF ((l.getD k default).pc) (RF ((l.getD k default).val) (RF ((l.getD k default).adr) Z))))))))):=⟨rfl,fun _ _ _ _=>rfl,rfl,fun _ _ _ _=>rfl,rfl,fun _ _ _ _=>rfl,rfl,rfl,rfl,z⟩
theorem rg(p:Pg)(l:List En)(L:List Int)(k:Nat)(hk:k<l.length)(hb:l.length<1000000)(M:List Int)(h:pC_ 69 [.agg (pgA p),lR L,.agg (enA (l.getD k default))] (.tup [lR M,.bool true]) []):Vc (vC_ 55 0 (lrS p l L k) [.bd true,.cl [.agg (pgA p),lR L,.agg (enA (l.getD k default))] (.tup [lR M,.bool true]) []] .nrm [] (lrS p l M (k+1))):=aF (cj (dt ((k:Int)<l.length)) (cj (bi k l.length) (eP p (qx p l L k (qy l k (cj h (cj (i6 (k+1)) (eP p (cj (rf p.ls.length) (cj (rr p.ls.length 2 fun i j=>aU lbC p.ls i j) (cj (rf p.is.length) (cj (rr p.is.length 9 fun i j=>aU inC p.is i j) (cj (rf false) (cj (rf M.length) (cj (rr M.length 1 fun i j=>aI (M.getD i 0)) (cj (rf l.length) (cj (rr l.length 8 fun i j=>aU enC l i j) (cj (rf (l.length:Int)) (cj (rf ((k:Int)+1)) trivial)))))))))))))))))))
theorem rY(p:Pg)(l:List En)(L:List Int)(k:Nat)(hk:k<l.length)(hb:l.length<1000000)(h:pC_ 69 [.agg (pgA p),lR L,.agg (enA (l.getD k default))] (.tup [lR L,.bool false]) []):Vc (vC_ 55 0 (lrS p l L k) [.bd true,.cl [.agg (pgA p),lR L,.agg (enA (l.getD k default))] (.tup [lR L,.bool false]) []] .ret [] nS):=aF (cj (dt ((k:Int)<l.length)) (cj (bi k l.length) (eP p (qx p l L k (qy l k (cj h (cj (rf false) trivial)))))))
theorem rZ(p:Pg)(l:List En)(L:List Int)(k:Nat)(hk: ¬k<l.length):Vc (vC_ 55 0 (lrS p l L k) [.bd false] (.ext 0) [] (lrS p l L k)):=aF (cj (df ((k:Int)<l.length)) (eP p (cj (rf p.ls.length) (cj (rr p.ls.length 2 fun i j=>aU lbC p.ls i j) (cj (rf p.is.length) (cj (rr p.is.length 9 fun i j=>aU inC p.is i j) (cj (rf false) (cj (rf L.length) (cj (rr L.length 1 fun i j=>aI (L.getD i 0)) (cj (rf l.length) (cj (rr l.length 8 fun i j=>aU enC l i j) (cj (rf (l.length:Int)) (cj (rf (k:Int)) trivial)))))))))))))
theorem eS(p:Pg)(l:List En)(k j:Nat)(st:List Int):reG p l k (j+1) st=match bhV p (l.getD k default) st with |none=>none |some M=>reG p l (k+1) j M:=by
 show(if(atI p (l.getD k default).pc).kind=8 then(if 4<=st.length then none else reG p l (k+1) j (st++[(l.getD k default).pc+1])) else if(atI p (l.getD k default).pc).kind=9 then(if st.length=0 then none else reG p l (k+1) j (st.take (st.length-1))) else reG p l (k+1) j st)=_
 unfold bhV
 by_cases h8:(atI p (l.getD k default).pc).kind=8
 ·rw[aG h8,aG h8]
  by_cases h4:4<=st.length
  ·rw[aG h4,aG h4]
  ·rw[aD h4,aD h4]
 ·rw[aD h8,aD h8]
  by_cases h9:(atI p (l.getD k default).pc).kind=9
  ·rw[aG h9,aG h9]
   by_cases h0:st.length=0
   ·rw[aG h0,aG h0]
   ·rw[aD h0,aD h0]
  ·rw[aD h9,aD h9]
theorem pb{l:List En}(h: ∀e∈l, -1<=e.pc∧e.pc<=1000000){k:Nat}(hk:k<l.length): -1<=(l.getD k default).pc∧(l.getD k default).pc<=1000000:=h _ (by simp[List.getD,hk])
theorem lq{p:Pg}{e:En}{st M:List Int}(h:bhV p e st=some M):M.length<=st.length+1∧(st.length<=4->M.length<=4):=by
 unfold bhV at h
 split at h
 ·split at h
  ·cases h
  ·obtain rfl:=Option.some.inj h
   rw[a7];show st.length+1<=_∧(_->st.length+1<=4);omega
 ·split at h
  ·split at h
   ·cases h
   ·obtain rfl:=Option.some.inj h
    rw[bt];omega
  ·obtain rfl:=Option.some.inj h
   omega
theorem lf(p:Pg)(l:List En)(M:List Int)(hP:OkP p)(hb:l.length<1000000)(hpc: ∀e∈l, -1<=e.pc∧e.pc<=1000000): ∀j k L,k+j=l.length->L.length+j<900->reG p l k j L=some M->OkL Try.prog (iS Try.prog 55) (lpC Try.prog 55 0) (lrS p l L k).st (.ext 0) (lrS p l M l.length).st
 |0,k,L,hk,hL,h=>by
  obtain rfl:L=M:=Option.some.inj h
  obtain rfl:k=l.length:=by omega
  exact OkL.exit (Ok.vc (rZ p l _ _ (by omega))) (by simp)
 |j+1,k,L,hk,hL,h=>by
  rw[eS] at h
  have hp:=pb hpc (k:=k) (by omega)
  cases hB:bhV p (l.getD k default) L with
  |none=>rw[hB] at h;cases h
  |some N=>
   rw[hB] at h
   have:=(lq hB).1
   exact OkL.step (Ok.vc (rg p l L k (by omega) hb N (ph p _ L hP (by omega) hp N hB))) (lf p l M hP hb hpc j (k+1) N (by omega) (by omega) h)
theorem lg(p:Pg)(l:List En)(hP:OkP p)(hb:l.length<1000000)(hpc: ∀e∈l, -1<=e.pc∧e.pc<=1000000): ∀j k L,k+j=l.length->L.length+j<900->reG p l k j L=none->OkL Try.prog (iS Try.prog 55) (lpC Try.prog 55 0) (lrS p l L k).st .ret (nS).st
 |0,k,L,hk,hL,h=>by cases h
 |j+1,k,L,hk,hL,h=>by
  rw[eS] at h
  have hp:=pb hpc (k:=k) (by omega)
  cases hB:bhV p (l.getD k default) L with
  |none=>exact OkL.exit (Ok.vc (rY p l L k (by omega) hb (ox p _ L hP (by omega) hp hB))) (by simp)
  |some N=>
   rw[hB] at h
   have:=(lq hB).1
   exact OkL.step (Ok.vc (rg p l L k (by omega) hb N (ph p _ L hP (by omega) hp N hB))) (lg p l hP hb hpc j (k+1) N (by omega) (by omega) h)
theorem fg(p:Pg)(l:List En)(n:Nat): ∀j k st,k+j<=n->reG p (l.take n) k j st=reG p l k j st
 |0,_,_,_=>rfl
 |j+1,k,st,h=>by
  rw[eS,eS,mu (by omega)]
  cases bhV p (l.getD k default) st with
  |none=>rfl
  |some M=>exact fg p l n j (k+1) M (by omega)
theorem qw(p:Pg)(st:List Int)(l2:List En){Z:Prop}(z:Z):(RF p.ls.length (RR p.ls.length 2 (fun i j=>aU lbC p.ls i j) (RF p.is.length (RR p.is.length 9 (fun i j=>aU inC p.is i j) (RF false (RF st.length (RR st.length 1 (fun i j=>aI (st.getD i 0)) (RF l2.length (RR l2.length 8 (fun i j=>aU enC l2 i j) Z))))))))):=⟨rfl,fun _ _ _ _=>rfl,rfl,fun _ _ _ _=>rfl,rfl,rfl,fun _ _ _ _=>rfl,rfl,fun _ _ _ _=>rfl,z⟩
theorem qv(l:List En)(i:Int){Z:Prop}(z:Z):(RF l.length (RR l.length 8 (fun i j=>aU enC l i j) (RF i Z))):=⟨rfl,fun _ _ _ _=>rfl,rfl,z⟩
theorem om(p:Pg)(st:List Int)(l l2:List En)(i:Int)(L:List Int)(hl2:l2.length<1000000)(h1:pC_ 37 [lR st] (lR st) [])(h2:pC_ 68 [enR l, aI i] (enR l2) [])(h:oL_ 55 0 (lrS p l2 st 0).st (.ext 0) (lrS p l2 L l2.length).st):Vc (vF_ 55 [.agg (pgA p),lR st,enR l, aI i] [.fz,.cl [lR st] (lR st) [],.cl [enR l, aI i] (enR l2) [],.lp [] (lrS p l2 st 0) (.ext 0) (lrS p l2 L l2.length)] [] (.tup [lR L,.bool true]) []):=aF (cj (rf st.length) (cj (rr st.length 1 fun i j=>aI (st.getD i 0)) (cj h1 (qv l i (cj h2 (eP p (qw p st l2 (cj (rf (l2.length:Int)) (cj (rf (0:Int)) (cj h (cj (rf L.length) (cj (rr L.length 1 fun i j=>aI (L.getD i 0)) (cj (rf true) trivial)))))))))))))
theorem oo(p:Pg)(st:List Int)(l l2:List En)(i:Int)(hl2:l2.length<1000000)(h1:pC_ 37 [lR st] (lR st) [])(h2:pC_ 68 [enR l, aI i] (enR l2) [])(h:oL_ 55 0 (lrS p l2 st 0).st .ret (nS).st):Vc (vF_ 55 [.agg (pgA p),lR st,enR l, aI i] [.fz,.cl [lR st] (lR st) [],.cl [enR l, aI i] (enR l2) [],.lp [] (lrS p l2 st 0) .ret nS] [] (.tup [.nils,.bool false]) []):=aF (cj (rf st.length) (cj (rr st.length 1 fun i j=>aI (st.getD i 0)) (cj h1 (qv l i (cj h2 (eP p (qw p st l2 (cj (rf (l2.length:Int)) (cj (rf (0:Int)) (cj h (cj (rf false) trivial)))))))))))
theorem pC(p:Pg)(st:List Int)(l:List En)(i:Int)(L:List Int)(hP:OkP p)(hb:l.length<500)(hst:st.length<=300)(hpc: ∀e∈l, -1<=e.pc∧e.pc<=1000000)(h:reV p st l i=some L):pC_ 55 [.agg (pgA p),lR st,enR l,.int .i64 i] (.tup [lR L,.bool true]) []:=by
 have hle:=nA i l.length
 have ht:(l.take (cl0 i l.length)).length=cl0 i l.length:=by rw[bt];omega
 have hz:=lf p (l.take (cl0 i l.length)) L hP (by omega) (fun e he=>hpc e (List.mem_of_mem_take he)) (cl0 i l.length) 0 st (by omega) (by omega) (by rw[fg p l _ _ _ _ (by omega)];exact h)
 exact PureC.vc (om p st l _ i L (by omega) (fR st (by omega)) (rH l i (cl0 i l.length) (by unfold cl0;omega) (by omega)) hz.ok)
theorem jJ(p:Pg)(st:List Int)(l:List En)(i:Int)(hP:OkP p)(hb:l.length<500)(hst:st.length<=300)(hpc: ∀e∈l, -1<=e.pc∧e.pc<=1000000)(h:reV p st l i=none):pC_ 55 [.agg (pgA p),lR st,enR l,.int .i64 i] (.tup [.nils,.bool false]) []:=by
 have hle:=nA i l.length
 have ht:(l.take (cl0 i l.length)).length=cl0 i l.length:=by rw[bt];omega
 have hz:=lg p (l.take (cl0 i l.length)) hP (by omega) (fun e he=>hpc e (List.mem_of_mem_take he)) (cl0 i l.length) 0 st (by omega) (by omega) (by rw[fg p l _ _ _ _ (by omega)];exact h)
 exact PureC.vc (oo p st l _ i (by omega) (fR st (by omega)) (rH l i (cl0 i l.length) (by unfold cl0;omega) (by omega)) hz.ok)
theorem pD(l:List Int)(pc:Int)(hb:l.length<1000000):pC_ 41 [lR l,.int .i64 pc] (lR (bJ l pc)) []:=(pF l pc hb).frozen
theorem oa(l:List Int)(k:Nat)(hk:l.length=k+1)(hb:l.length<1000000)(h:pC_ 37 [lR (l.take k)] (lR (l.take k)) []):Vc (vF_ 54 [lR l] [.bd false,.cl [lR (l.take k)] (lR (l.take k)) []] [] (.tup [aI (l.getD k 0),lR (l.take k),.bool true]) []):=aF (cj (i6 (l.length-1)) (cj (df ((l.length:Int)-1<0)) (cj (bi (l.length-1) l.length) (cj (pv ((0:Int)<=l.length-1∧(l.length:Int)-1<=l.length)) (cj (pv (Int.toNat ((l.length:Int)-1)=(List.take k l).length)) (cj (show ∀(i:Nat),i<Int.toNat ((l.length:Int)-1)-> ∀(j:Nat),j<1->aI (l.getD i 0)=aI (List.getD (List.take k l) i 0) from(fun i hi j hj=>pj (show i<k by omega))) (cj h (cj (show l.getD (Int.toNat ((l.length:Int)-1)) (0:Int)=l.getD k 0 from(congrArg (fun n=>l.getD n 0) (show((l.length:Int)-1).toNat=k by omega))) (cj (rf ((List.take k l).length)) (cj (rr ((List.take k l).length) 1 fun i j=>aI (List.getD (List.take k l) i 0)) (cj (rf true) trivial)))))))))))
theorem rh(l:List Int)(k:Nat)(hk:l.length=k+1)(hb:l.length<1000000):pC_ 54 [lR l] (.tup [.int .i64 (l.getD k 0),lR (l.take k),.bool true]) []:=PureC.vc (oa l k hk hb (fR (l.take k) (by rw[bt];omega)))
theorem ri:pC_ 54 [lR []] (.tup [.int .i64 0,.nils,.bool false]) []:=PureC.vc rj
theorem nk(c:Cf)(h:(c.e !=0)=true):Vc (vF_ 21 [.agg (cfA c)] [.fv,.bd true] [] (.bool true) []):=aF (cj h (cj (rf true) trivial))
theorem lW(c:Cf)(h:(c.e !=0)=false):Vc (vF_ 21 [.agg (cfA c)] [.fv,.bd false] [] (.bool false) []):=aF (cj h (cj (rf false) trivial))
theorem oy(s:S8)(h1:pC_ 37 [lR s.m] (lR s.m) [])(h2:pC_ 37 [lR s.st] (lR s.st) []):Vc (vF_ 19 [.agg (s8R s)] [.cl [lR s.m] (lR s.m) [],.cl [lR s.st] (lR s.st) []] [] (.agg (cfA ⟨s,[],[],0⟩)) []):=aF (cj (rf s.m.length) (cj (rr s.m.length 1 fun i j=>aI (s.m.getD i 0)) (cj h1 (cj (rf s.st.length) (cj (rr s.st.length 1 fun i j=>aI (s.st.getD i 0)) (cj h2 (cj (rf s.r0) (cj (rf s.r1) (cj (rf s.r2) (cj (rf s.r3) (cj (rf s.m.length) (cj (rr s.m.length 1 fun i j=>aI (s.m.getD i 0)) (cj (rf s.st.length) (cj (rr s.st.length 1 fun i j=>aI (s.st.getD i 0)) (cj (rf s.pc) (cj (rf (0:Nat)) (cj (rf (0:Nat)) (cj (rf (0:Int)) trivial))))))))))))))))))
theorem rC(s:S8)(hm:s.m.length<=1000000)(hs:s.st.length<=1000000):pC_ 19 [.agg (s8R s)] (.agg (cfA ⟨s,[],[],0⟩)) []:=PureC.vc (oy s (fR _ hm) (fR _ hs))
theorem rI(l:List En)(e:En)(hb:l.length<1000000):Vc (vF_ 42 [.row 1 2 (fA (enR l) (.row 8 1 (ib e)))] [.it 3,.bd true,.bd false,.bd true,.bd false,.bd false,.bd false,.bd true,.it 3,.sh] [] (enR (l++[e])) []):=aF (cj (dt ((0:Int)<(2:Nat))) (cj (pv ((0:Int)<=0∧(0:Int)<(2:Nat))) (cj (i6 (0+l.length)) (cj (df ((0:Int)+l.length<0)) (cj (i6 (0+1)) (cj (dt ((0:Int)+1<(2:Nat))) (cj (pv ((0:Int)<=0+1∧(0:Int)+1<(2:Nat))) (cj (i6 (0+l.length+(1:Nat))) (cj (df ((0:Int)+l.length+(1:Nat)<0)) (cj (i6 (0+1+1)) (cj (df ((0:Int)+1+1<(2:Nat))) (cj (df ((0:Int)+l.length+(1:Nat)<0)) (cj (i6 (0-0)) (cj (i6 (0+l.length+(1:Nat)-(0-0))) (cj (dt ((0:Int)+l.length+(1:Nat)-(0-0)>0)) (cj (pv ((0:Int)=0∧(0:Int)=0)) (cj (pv ((0:Int)<0+l.length+(1:Nat)-(0-0)∧((0:Int)+l.length+(1:Nat)-(0-0))*(48:Nat)<=140737488355328∧(0:Int)+l.length+(1:Nat)-(0-0)<=140737488355328)) (cj (pv ((0:Int)<=0∧(0:Int)<=(↑(nat_lit 0+l.length+1+nat_lit 0):Int))) (cj (pv ((0:Int)<=0∧(0:Int)<(2:Nat))) (cj (ap 0 l.length 48) (cj (i6 (0+1)) (cj (pv ((0:Int)<=0+1∧(0:Int)+1<(2:Nat))) (cj (ap (0+l.length) 1 48) (cj (i6 (0+1+1)) (cj (pv ((0:Nat)+l.length+1=(l++[e]).length)) (cj (show ∀(i:Nat),i<0+l.length+1-> ∀(j:Nat),j<8->(bif Nat.blt (i+0) ((0:Nat)+l.length) then bif Nat.blt (i+0) (0:Nat) then List.getD [aI 0,aI 0,aI 0,aI 0,aI 0,AV.bool false,AV.bool false,AV.bool false] j AV.junk else aU enC l (i+0-0) j else ib e (i+0-((0:Nat)+l.length)) j)=aU enC (l++[e]) i j from(fun i hi j hj=>by simp only[bq,eI,Nat.sub_zero] at hi ⊢;exact qO l e (g:=ib e) (fun j hj=>by show(enA e).getD (0*8+j) .junk=(enA e).getD j .junk;rw[Nat.zero_mul,bq]) i hi j hj)) trivial))))))))))))))))))))))))))
theorem mN(l:List En)(e:En)(w:Int)(hw:(l.length:Int)<w)(h:pC_ 42 [.row 1 2 (fA (enR l) (.row 8 1 (ib e)))] (enR (l++[e])) []):Vc (vF_ 20 [enR l,.agg (enA e), aI w] [.fz,.bd false,.fz,.fz,.cl [.row 1 2 (fA (enR l) (.row 8 1 (ib e)))] (enR (l++[e])) []] [] (.tup [enR (l++[e]),.bool true]) []):=aF (cj (df ((l.length:Int)>=w)) (cj (rf (2:Nat)) (cj (show ∀(i:Nat),i<2-> ∀(j:Nat),j<1->List.getD [AV.row (nat_lit 8) l.length fun(a a_1:Nat)=>aU enC l a a_1,AV.row (nat_lit 8) (nat_lit 1) fun(i j:Nat)=>List.getD [aI e.pc,aI e.val,aI e.adr,aI e.frm,aI e.nxt,AV.bool e.dn,AV.bool e.kn,AV.bool e.ft] (i*8+j) AV.junk] (i*1+j) AV.junk=fA (AV.row (nat_lit 8) l.length fun(a a_1:Nat)=>aU enC l a a_1) (AV.row (8:Nat) (1:Nat) (ib e)) i j from(fun i hi j hj=>match i,hi,j,hj with |0,_,0,_=>rfl |1,_,0,_=>rfl)) (cj h (cj (rf ((l++[e]).length)) (cj (rr ((l++[e]).length) 8 fun i j=>aU enC (l++[e]) i j) (cj (rf true) trivial)))))))
theorem pE(l:List En)(e:En)(w:Int)(hw:(l.length:Int)<w)(hb:l.length<1000000):pC_ 20 [enR l,.agg (enA e),.int .i64 w] (.tup [enR (l++[e]),.bool true]) []:=PureC.vc (mN l e w hw (PureC.vc (rI l e hb)))
theorem jd(c:Cf){Z:Prop}(z:Z):(RF c.b.length (RR c.b.length 8 (fun i j=>aU enC c.b i j) (RF c.r.length (RR c.r.length 1 (fun i j=>aI (c.r.getD i 0)) (RF c.e Z))))):=⟨rfl,fun _ _ _ _=>rfl,rfl,fun _ _ _ _=>rfl,rfl,z⟩
theorem jc(c:Cf){Z:Prop}(z:Z):(RF c.s.r0 (RF c.s.r1 (RF c.s.r2 (RF c.s.r3 (RF c.s.m.length (RR c.s.m.length 1 (fun i j=>aI (List.getD c.s.m i 0)) (RF c.s.st.length (RR c.s.st.length 1 (fun i j=>aI (List.getD c.s.st i 0)) (RF c.s.pc Z))))))))):=⟨rfl,rfl,rfl,rfl,rfl,fun _ _ _ _=>rfl,rfl,fun _ _ _ _=>rfl,rfl,z⟩
theorem ro(p:Pg)(c:Cf)(hl:p.is.length<1000)(hb:c.b.length<1000000)(hF:pC_ 21 [.agg (cfA c)] (.bool true) []):Vc (vF_ 9 [.agg (pgA p),.agg (cfA c)] [.fv,.fv,.cl [.agg (cfA c)] (.bool true) []] [] (aI 0) []):=aF (jc c (jd c (cj hF (cj (rf (0:Int)) trivial))))
abbrev ku(c:Cf):Prop:=PureC Try.prog 21 [.agg (cfA c)] (.bool false) []
abbrev kx(c:Cf):Orc:= .cl [.agg (cfA c)] (.bool false) []
theorem rm(p:Pg)(c:Cf)(hl:p.is.length<1000)(hb:c.b.length<1000000)(hF:ku c)(h1:c.s.pc= -1):Vc (vF_ 9 [.agg (pgA p),.agg (cfA c)] [.fv,.fv,kx c,.b false,.bd true] [] (aI 0) []):=aF (jc c (jd c (cj hF (cj (rf false) (cj (bj.2 h1) (cj (rf (0:Int)) trivial))))))
theorem rk(p:Pg)(c:Cf)(hl:p.is.length<1000)(hb:c.b.length<1000000)(hF:ku c)(h1: ¬c.s.pc= -1)(hw:p.win<=(c.b.length:Int)):Vc (vF_ 9 [.agg (pgA p),.agg (cfA c)] [.fv,.fv,kx c,.b false,.bd false,.b false,.bd true] [] (aI 0) []):=aF (jc c (jd c (cj hF (cj (rf false) (cj (af.2 h1) (cj (rf false) (cj (dt ((↑c.b.length:Int)>=p.win)) (cj (rf (0:Int)) trivial))))))))
theorem mi(p:Pg)(c:Cf){Z:Prop}(z:Z):(RF p.ls.length (RR p.ls.length 2 (fun i j=>aU lbC p.ls i j) (RF p.is.length (RR p.is.length 9 (fun i j=>aU inC p.is i j) (RF c.s.pc Z))))):=⟨rfl,fun _ _ _ _=>rfl,rfl,fun _ _ _ _=>rfl,rfl,z⟩
theorem mh(p:Pg){Z:Prop}(z:Z):(RF p.W (RF p.win (RF p.fuel (RF p.r0 (RF p.r1 (RF p.r2 (RF p.r3 (RF p.ms.length (RR p.ms.length 3 (fun i j=>aU mmC p.ms i j) Z))))))))):=⟨rfl,rfl,rfl,rfl,rfl,rfl,rfl,rfl,fun _ _ _ _=>rfl,z⟩
abbrev mU(p:Pg)(c:Cf):Orc:= .cl [.agg (pgA p), aI c.s.pc] (.agg (inA (atI p c.s.pc))) []
theorem rx(p:Pg)(c:Cf)(hl:p.is.length<1000)(hb:c.b.length<1000000)(hF:ku c)(h1: ¬c.s.pc= -1)(hw: ¬p.win<=(c.b.length:Int))(k5:(atI p c.s.pc).kind=5):Vc (vF_ 9 [.agg (pgA p),.agg (cfA c)] [.fv,.fv,kx c,.b false,.bd false,.b false,.bd false,mU p c,.bd true] [] (aI 2) []):=aF (jc c (jd c (cj hF (cj (rf false) (cj (af.2 h1) (cj (rf false) (cj (df ((↑c.b.length:Int)>=p.win)) (mh p (mi p c (cj (atC p c.s.pc) (cj (bj.2 k5) (cj (rf (2:Int)) trivial))))))))))))
theorem rq(p:Pg)(c:Cf)(hl:p.is.length<1000)(hb:c.b.length<1000000)(hF:ku c)(h1: ¬c.s.pc= -1)(hw: ¬p.win<=(c.b.length:Int))(k5: ¬(atI p c.s.pc).kind=5)(k7:(atI p c.s.pc).kind=7):Vc (vF_ 9 [.agg (pgA p),.agg (cfA c)] [.fv,.fv,kx c,.b false,.bd false,.b false,.bd false,mU p c,.bd false,.bd true] [] (aI (p.is.length+1)) []):=aF (jc c (jd c (cj hF (cj (rf false) (cj (af.2 h1) (cj (rf false) (cj (df ((↑c.b.length:Int)>=p.win)) (mh p (mi p c (cj (atC p c.s.pc) (cj (af.2 k5) (cj (bj.2 k7) (cj (i6 (p.is.length+1)) (cj (rf ((↑p.is.length:Int)+1)) trivial))))))))))))))
theorem rp(p:Pg)(c:Cf)(hl:p.is.length<1000)(hb:c.b.length<1000000)(hF:ku c)(h1: ¬c.s.pc= -1)(hw: ¬p.win<=(c.b.length:Int))(k5: ¬(atI p c.s.pc).kind=5)(k7: ¬(atI p c.s.pc).kind=7)(k9:(atI p c.s.pc).kind=9)(hr:c.r.length=0):Vc (vF_ 9 [.agg (pgA p),.agg (cfA c)] [.fv,.fv,kx c,.b false,.bd false,.b false,.bd false,mU p c,.bd false,.bd false,.bd true,.bd true] [] (aI (p.is.length+1)) []):=aF (jc c (jd c (cj hF (cj (rf false) (cj (af.2 h1) (cj (rf false) (cj (df ((↑c.b.length:Int)>=p.win)) (mh p (mi p c (cj (atC p c.s.pc) (cj (af.2 k5) (cj (af.2 k7) (cj (bj.2 k9) (cj (e1 c.r.length 0) (cj (i6 (p.is.length+1)) (cj (rf ((↑p.is.length:Int)+1)) trivial))))))))))))))))
theorem pG(p:Pg)(c:Cf)(hl:p.is.length<1000)(hb:c.b.length<1000000)(hF:ku c)(h1: ¬c.s.pc= -1)(hw: ¬p.win<=(c.b.length:Int))(k5: ¬(atI p c.s.pc).kind=5)(k7: ¬(atI p c.s.pc).kind=7)(k9:(atI p c.s.pc).kind=9)(hr: ¬c.r.length=0):Vc (vF_ 9 [.agg (pgA p),.agg (cfA c)] [.fv,.fv,kx c,.b false,.bd false,.b false,.bd false,mU p c,.bd false,.bd false,.bd true,.bd false] [] (aI 1) []):=aF (jc c (jd c (cj hF (cj (rf false) (cj (af.2 h1) (cj (rf false) (cj (df ((↑c.b.length:Int)>=p.win)) (mh p (mi p c (cj (atC p c.s.pc) (cj (af.2 k5) (cj (af.2 k7) (cj (bj.2 k9) (cj (e0 c.r.length 0) (cj (rf (1:Int)) trivial)))))))))))))))
theorem rn(p:Pg)(c:Cf)(hl:p.is.length<1000)(hb:c.b.length<1000000)(hF:ku c)(h1: ¬c.s.pc= -1)(hw: ¬p.win<=(c.b.length:Int))(k5: ¬(atI p c.s.pc).kind=5)(k7: ¬(atI p c.s.pc).kind=7)(k9: ¬(atI p c.s.pc).kind=9):Vc (vF_ 9 [.agg (pgA p),.agg (cfA c)] [.fv,.fv,kx c,.b false,.bd false,.b false,.bd false,mU p c,.bd false,.bd false,.bd false] [] (aI 1) []):=aF (jc c (jd c (cj hF (cj (rf false) (cj (af.2 h1) (cj (rf false) (cj (df ((↑c.b.length:Int)>=p.win)) (mh p (mi p c (cj (atC p c.s.pc) (cj (af.2 k5) (cj (af.2 k7) (cj (af.2 k9) (cj (rf (1:Int)) trivial))))))))))))))
theorem ry(p:Pg)(c:Cf)(hl:p.is.length<1000)(hb:c.b.length<1000000):pC_ 9 [.agg (pgA p),.agg (cfA c)] (.int .i64 (gsV p c)) []:=by
 unfold gsV
 by_cases h0:c.e=0
 ·have hF:=PureC.vc (lW c (eE.2 h0))
  by_cases h1:c.s.pc= -1
  ·rw[aG (.inr (.inl h1))];exact PureC.vc (rm p c hl hb hF h1)
  ·by_cases hw:p.win<=(c.b.length:Int)
   ·rw[aG (.inr (.inr hw))];exact PureC.vc (rk p c hl hb hF h1 hw)
   ·rw[aD (by rintro(h |h |h);exact h h0;exact h1 h;exact hw h)]
    by_cases k5:(atI p c.s.pc).kind=5
    ·rw[aG k5];exact PureC.vc (rx p c hl hb hF h1 hw k5)
    ·rw[aD k5]
     by_cases k7:(atI p c.s.pc).kind=7
     ·rw[aG k7];exact PureC.vc (rq p c hl hb hF h1 hw k5 k7)
     ·rw[aD k7]
      by_cases k9:(atI p c.s.pc).kind=9
      ·by_cases hr:c.r.length=0
       ·rw[aG ⟨k9,hr⟩];exact PureC.vc (rp p c hl hb hF h1 hw k5 k7 k9 hr)
       ·rw[aD fun e=>hr e.2];exact PureC.vc (pG p c hl hb hF h1 hw k5 k7 k9 hr)
      ·rw[aD fun e=>k9 e.1];exact PureC.vc (rn p c hl hb hF h1 hw k5 k7 k9)
 ·rw[aG (.inl h0)];exact PureC.vc (ro p c hl hb (PureC.vc (nk c (bne_iff_ne.2 h0))))
end
end Go.Proofs.Ytbhdoempeglgpaa.Px
