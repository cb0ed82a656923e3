import Derived.Test.YtfjapapiappacaaMbC
import Derived.Test.YtfjapapiappacaaMbA
import Derived.RangeFuncNested
import Derived.RangeFuncLeaves
import Derived.WalkKit
set_option linter.unusedVariables false
set_option linter.unusedSimpArgs false
set_option maxRecDepth 100000
namespace Go.Proofs.Ytfjapapiappacaa.Rx
section
open Go.RowKit
section
variable {P:Program} {T:Nat→Tch} {md:Bool} {call:CallF} {nt:Nat} {ops:Array Oper} {st:St} {D:Nat→DS}
def HpI (T:Nat→Tch) (ops:Array Oper) (st:St) (D:Nat→DS) (listed:Array Bool) (H:Nat→Option Blk):Prop:=
 ∀ id,(∃ k,k<ops.size∧Up listed k∧wrsT (T k) id∧(∀ j,j<ops.size→Up listed j→wrsT (T j) id→j≤k)∧H id=(D (k+1)).st.heap id)∨((∀ j,j<ops.size→Up listed j→ ¬wrsT (T j) id)∧H id=st.heap id)
structure EnvI (ops:Array Oper) (st:St) (D:Nat→DS) (listed:Array Bool) (e:Nat→AV):Prop where
 e1: ∀ (k:Nat) o t,ops[k]? =some o→o.dst=some t→Up listed k→e t=(D (k+1)).st.env t
 e2: ∀ t,(∀ (k:Nat) o,ops[k]? =some o→o.dst=some t→ ¬Up listed k)→e t=st.env t
theorem EnvI.put {listed:Array Bool} {e:Nat→AV} (h:EnvI ops st D listed e) (hs:statOk ops (befs ops)=true) {i:Nat} {o:Oper} (ho:ops[i]? =some o) (hi:i<listed.size) {v:AV} (hv:(D (i+1)).st.env=putE (D i).st.env o.dst v):EnvI ops st D (listed.setIfInBounds i true) (putE e o.dst v):=by
 refine ⟨fun k p t hp hd hu=> ?_,fun t hno=> ?_⟩
 ·rcases (up_set hi).1 hu with rfl |hu'
  ·rw [ho] at hp;cases hp
   rw [hv,putE_same hd,putE_same hd]
  ·by_cases hk:k=i
   ·subst hk
    rw [ho] at hp;cases hp
    rw [hv,putE_same hd,putE_same hd]
   ·have:=(statOk_dst hs ho hp hd).1
    rw [putE_other (this.resolve_left hk)]
    exact h.e1 k p t hp hd hu'
 ·rw [putE_other fun hd=>hno i o ho hd ((up_set hi).2 (.inl rfl))]
  exact h.e2 t fun k p hp hd hu=>hno k p hp hd ((up_set hi).2 (.inr hu))
theorem EnvI.agree {listed:Array Bool} {e:Nat→AV} (h:EnvI ops st D listed e) (hD:SeqD P T md call nt ops st D) (hs:statOk ops (befs ops)=true) (hc:Closed ops listed) {i:Nat} (hr:i∈Region.ready .any ops listed) {o:Oper} (ho:ops[i]? =some o) {t:Tmp} (ht:t∈tmpsOf o ops):e t=(D i).st.env t:=by
 obtain ⟨hnu,hi,hc'⟩:=hc.ready hr
 have hi':i<listed.size:=by rw [hc.sz];exact hi
 have uniq: ∀ (k k':Nat) p p',ops[k]? =some p→ops[k']? =some p'→p.dst=some t→p'.dst=some t→k=k':=fun k k' p p' h1 h2 h3 h4=>by
  have:=(statOk_dst hs h2 h1 h3).1
  exact this.resolve_right fun hn=>hn h4
 by_cases hex: ∃ (k:Nat) (p:Oper),ops[k]? =some p∧p.dst=some t
 ·obtain ⟨k,p,hp,hd⟩:=hex
  have hk:k<ops.size:=(Array.getElem?_eq_some_iff.1 hp).1
  have late: ¬k<i→ ¬Up listed k→e t=(D i).st.env t:=fun h1 h2=>by
   rw [h.e2 t fun k' p' hp' hd' hu=>h2 (uniq k k' p p' hp hp' hd hd'▸hu)]
   have:=hD.env_keep (t:=t) (a:=0) i (by omega) (by omega) fun j o' j1 j2 j3 j4=>by
    have:=uniq k j p o' hp j3 hd j4
    omega
   rw [this,hD.st0]
  rcases (statOk_dst hs ho hp hd).2 ht with rfl |⟨h1,h2⟩|⟨h1,h2⟩
  ·exact late (by omega) hnu
  ·have hu:Up listed k:=by
    have:=(hc'.bef hs i ((up_set hi').2 (.inl rfl)) k h2)
    rcases (up_set hi').1 this with rfl |hu
    ·omega
    ·exact hu
   rw [h.e1 k p t hp hd hu]
   exact (hD.env_keep (t:=t) (a:=k+1) i (by omega) (by omega) fun j o' j1 j2 j3 j4=>by
    have:=uniq k j p o' hp j3 hd j4
    omega).symm
  ·exact late h1 fun hu=>hnu (hc.bef hs k hu i h2)
 ·rw [h.e2 t fun k p hp hd=>absurd ⟨k,p,hp,hd⟩ hex]
  have:=hD.env_keep (t:=t) (a:=0) i (by omega) (by omega) fun j o' j1 j2 j3 j4=>hex ⟨j,o',j3,j4⟩
  rw [this,hD.st0]
theorem agree_eval {o:Oper} {e e':Nat→AV} (h: ∀ t∈tmpsOf o ops,e t=e' t): ∀ x∈o.op.operands.toList,evalA e x=evalA e' x:=fun x hx=>by
 cases x with
 |tmp t=>exact h t (by
   unfold tmpsOf
   rw [List.mem_append]
   exact .inl (List.mem_filterMap.2 ⟨.tmp t,hx,rfl⟩))
 |_=>rfl
theorem agree_guard {o:Oper} {e e':Nat→AV} (h: ∀ t∈tmpsOf o ops,e t=e' t) {orc:List Orc}:guardA ops o e orc=guardA ops o e' orc:=by
 unfold guardA
 cases hg:o.guard with
 |none=>rfl
 |some p=>
  obtain ⟨j,want⟩:=p
  simp only
  cases hd:(ops[j]?).bind (·.dst) with
  |none=>rfl
  |some d=>
   simp only
   rw [h d (by
    unfold tmpsOf
    rw [List.mem_append]
    refine .inr ?_
    rw [hg]
    simp only [hd,Option.toList,List.mem_singleton])]
theorem evMake_next {md:Bool} {op:Op} {ρ:Operand→AV} {h:Nat→Option Blk} {next:Nat} {orc:List Orc} {r:Res} (hv:fvO orc=false) (hr:evMake P md op ρ h next orc=some r):next<r.next:=by
 cases hb:bxO op orc with
 |true=>
  rw [evMake_bx hb] at hr
  obtain ⟨b,q1,q2,q3⟩:=evBx_any h hr
  omega
 |false=>
 rw [evMake_0 hv hb] at hr
 cases op with
 |alloc t=>
  obtain ⟨z,hz,rfl⟩:=Option.map_eq_some_iff.1 hr
  exact Nat.lt_succ_self _
 |box t x=>
  obtain ⟨z,hz,rfl⟩:=Option.map_eq_some_iff.1 hr
  cases hfz:fzO orc&&z.all baseA with
  |false=>exact Nat.lt_succ_self _
  |true=>exact Nat.lt_succ_self _
 |makeSlice t x y=>
  unfold evMake0 at hr
  simp only at hr
  split at hr
  ·split at hr
   ·obtain ⟨i,hi,hr⟩:=Option.bind_eq_some_iff.1 hr
    obtain ⟨z,hz,hr⟩:=Option.bind_eq_some_iff.1 hr
    obtain ⟨hb,hr⟩:=bif_some hr
    obtain ⟨p,hp,rfl⟩:=Option.map_eq_some_iff.1 hr
    exact Nat.lt_succ_self _
   ·cases hr
  ·cases hr
 |buildSlice t len parts=>
  unfold evMake0 at hr
  simp only at hr
  split at hr
  ·obtain ⟨s,hs,hr⟩:=Option.bind_eq_some_iff.1 hr
   obtain ⟨hb,hr⟩:=bif_some hr
   obtain ⟨z,hz,hr⟩:=Option.bind_eq_some_iff.1 hr
   obtain ⟨cs,hcs,rfl⟩:=Option.map_eq_some_iff.1 hr
   exact Nat.lt_succ_self _
  ·cases hr
 |call c=>
  obtain ⟨callee,args,at_⟩:=c
  cases callee with
  |builtin b=>
   cases b with
   |append=>
    have hr:apz P md args at_ ρ h next orc=some r:=hr
    obtain ⟨b,q1,q2,q3⟩:=apz_any h hr
    omega
   |_=>cases hr
  |_=>cases hr
 |_=>cases hr
structure InvD [Dfs] (T:Nat→Tch) (ops:Array Oper) (st:St) (D:Nat→DS) (nt:Nat) (cx0:Cx) (listed:Array Bool) (a:Act) (cx:Cx) (e:Nat→AV) (N:Nat):Prop where
 cl:Closed ops listed
 stab:Stab cx0 cx
 s:SRep cx ⟨e,cx.H,N⟩ a nt
 env:EnvI ops st D listed e
 hp:HpI T ops st D listed cx.H
 bd: ∀ k,k<ops.size→Up listed k→(T k).all=true→Bnd (D (k+1))
theorem hp_at (hD:SeqD P T md call nt ops st D) {listed:Array Bool} {H:Nat→Option Blk} (hp:HpI T ops st D listed H) {i id:Nat} (hi:i≤ops.size) (h1: ∀ k,k<i→wrsT (T k) id→Up listed k) (h2: ∀ k,i≤k→k<ops.size→wrsT (T k) id→ ¬Up listed k):H id=(D i).st.heap id:=by
 rcases hp id with ⟨k,k1,k2,k3,k4,k5⟩|⟨k1,k2⟩
 ·have hk:k<i:=by
   rcases Nat.lt_or_ge k i with h |h
   ·exact h
   ·exact absurd k2 (h2 k h k1 k3)
  rw [k5]
  exact (hD.keepId (a:=k+1) (id:=id) i (by omega) hi fun j j1 j2 hw=>by
   have:=k4 j (by omega) (h1 j j2 hw) hw
   omega).symm
 ·rw [k2, ←hD.st0]
  exact (hD.keepId (a:=0) (id:=id) i (by omega) hi fun j j1 j2 hw=>k1 j (by omega) (h1 j j2 hw) hw).symm
theorem hp_quiet {listed:Array Bool} {H:Nat→Option Blk} {i:Nat} (hi:i<listed.size) (hq: ∀ id, ¬wrsT (T i) id) (hp:HpI T ops st D listed H):HpI T ops st D (listed.setIfInBounds i true) H:=by
 intro id
 have hu: ∀ j,Up (listed.setIfInBounds i true) j→wrsT (T j) id→Up listed j:=fun j hj hw=>by
  rcases (up_set hi).1 hj with rfl |hj
  ·exact absurd hw (hq id)
  ·exact hj
 rcases hp id with ⟨k,k1,k2,k3,k4,k5⟩|⟨k1,k2⟩
 ·exact .inl ⟨k,k1,(up_set hi).2 (.inr k2),k3,fun j j1 j2 j3=>k4 j j1 (hu j j2 j3) j3,k5⟩
 ·exact .inr ⟨fun j j1 j2 j3=>k1 j j1 (hu j j2 j3) j3,k2⟩
theorem hp_wrote {listed:Array Bool} {H H':Nat→Option Blk} {i:Nat} (hi:i<listed.size) (hio:i<ops.size) (hlast: ∀ id,wrsT (T i) id→ ∀ j,j<ops.size→Up listed j→wrsT (T j) id→j≤i) (h1: ∀ id,wrsT (T i) id→H' id=(D (i+1)).st.heap id) (h2: ∀ id, ¬wrsT (T i) id→H' id=H id) (hp:HpI T ops st D listed H):HpI T ops st D (listed.setIfInBounds i true) H':=by
 intro id
 by_cases hw:wrsT (T i) id
 ·refine .inl ⟨i,hio,(up_set hi).2 (.inl rfl),hw,fun j j1 j2 j3=> ?_,h1 id hw⟩
  rcases (up_set hi).1 j2 with rfl |hu
  ·exact Nat.le_refl _
  ·exact hlast id hw j j1 hu j3
 ·have hu: ∀ j,Up (listed.setIfInBounds i true) j→wrsT (T j) id→Up listed j:=fun j hj hw'=>by
   rcases (up_set hi).1 hj with rfl |hj
   ·exact absurd hw' hw
   ·exact hj
  rw [h2 id hw]
  rcases hp id with ⟨k,k1,k2,k3,k4,k5⟩|⟨k1,k2⟩
  ·exact .inl ⟨k,k1,(up_set hi).2 (.inr k2),k3,fun j j1 j2 j3=>k4 j j1 (hu j j2 j3) j3,k5⟩
  ·exact .inr ⟨fun j j1 j2 j3=>k1 j j1 (hu j j2 j3) j3,k2⟩
theorem InvD.step [Dfs] {cx0 cx:Cx} {listed:Array Bool} {a:Act} {e:Nat→AV} {N:Nat} (hI:InvD T ops st D nt cx0 listed a cx e N) (hD:SeqD P T md call nt ops st D) (hcall:CallOk P call) (hs:statOk ops (befs ops)=true) {i:Nat} (hr:i∈Region.ready .any ops listed)
  {K:Act→World→Prop} {Q:Exit→Act→World→Prop} (hK: ∀ cx' a' e' N',InvD T ops st D nt cx0 (listed.setIfInBounds i true) a' cx' e' N'→K a' cx'.w):wpOp P ops Q i K a cx.w:=by
 obtain ⟨hnu,hi,hc'⟩:=hI.cl.ready hr
 have hi':i<listed.size:=by rw [hI.cl.sz];exact hi
 obtain ⟨o,g,ho,hd,hg,h1,hbef⟩:=hD.at_ hi
 have hag: ∀ t∈tmpsOf o ops,(D i).st.env t=e t:=fun t ht=>(hI.env.agree hD hs hI.cl hr ho ht).symm
 have hev:=agree_eval hag
 rw [agree_guard hag] at hg
 have upB: ∀ k,k<i→cfl (T i) (T k)=true→Up listed k:=fun k hk hc=>by
  have:=hc'.bef hs i ((up_set hi').2 (.inl rfl)) k (hbef k hk hc)
  rcases (up_set hi').1 this with rfl |hu
  ·omega
  ·exact hu
 have upA: ∀ k,i<k→k<ops.size→cfl (T k) (T i)=true→ ¬Up listed k:=fun k hk hkn hc hu=>by
  obtain ⟨_,_,_,_,_,_,hb⟩:=hD.at_ hkn
  exact hnu (hI.cl.bef hs k hu i (hb i hk hc))
 have seen: ∀ id,tchT (T i) id→cx.H id=(D i).st.heap id:=fun id ht=>hp_at hD hI.hp (Nat.le_of_lt hi) (fun k hk hw=>upB k hk (cfl_wt hw ht).2) (fun k hk hkn hw=>by
  by_cases hki:k=i
  ·subst hki;exact hnu
  ·exact upA k (by omega) hkn (cfl_wt hw ht).1)
 have hlast: ∀ id,wrsT (T i) id→ ∀ j,j<ops.size→Up listed j→wrsT (T j) id→j≤i:=fun id hw j hj hu hwj=>by
  rcases Nat.lt_or_ge i j with h |h
  ·exact absurd hu (upA j h hj (cfl_wt hwj (hw.imp_right .inl)).1)
  ·exact h
 have bdI:(T i).any=true→Bnd (D i):=fun hany=>by
  have hdec:DecidablePred fun k=>(T k).all=true:=fun k=>inferInstance
  rcases lastW (fun k=>(T k).all=true) i with ⟨k,k1,k2,k3⟩|h0
  ·have hu:Up listed k:=upB k k1 (by unfold cfl;rw [k2,hany];simp)
   refine hD.bnd (a:=k+1) (hI.bd k (by omega) hu k2) i (by omega) (by omega) fun j j1 j2=> ?_
   cases hx:(T j).all with
   |false=>rfl
   |true=>have:=k3 j j2 hx;omega
  ·refine hD.bnd (a:=0) (fun id hid=> ?_) i (by omega) (by omega) fun j _ j2=> ?_
   ·rw [hD.st0] at hid ⊢;exact hD.lt id hid
   ·cases hx:(T j).all with
    |false=>rfl
    |true=>exact absurd hx (h0 j j2)
 unfold wpOp
 rw [ho]
 simp only
 rcases h1 with ⟨hgf,hv,_,_,hT,hp⟩|⟨hgt,r,hrr,hpg,hpr,hv,e1,e2,hT⟩
 ·have hw:=guardA_sound hg hp hI.s
  rw [hgf] at hw
  rw [hw]
  simp only [Bool.false_eq_true,if_false]
  refine hK cx _ _ N ⟨hc',hI.stab,hI.s.put (Stab.refl cx) hI.s.c rfl hI.s.lt hd (.pure (.val _)),hI.env.put hs ho hi' hv,hp_quiet hi' (fun id hw=>by rw [hT] at hw;rcases hw with h |h<;>cases h) hI.hp,fun k k1 k2 k3=> ?_⟩
  rcases (up_set hi').1 k2 with rfl |hu
  ·rw [hT] at k3;cases k3
  ·exact hI.bd k k1 hu k3
 ·have hw:=guardA_sound hg hpg hI.s
  rw [hgt] at hw
  rw [hw]
  simp only [if_true]
  refine .inl ?_
  cases hall:(T i).all with
  |true=>
   have hH:cx.H=(D i).st.heap:=funext fun id=>seen id (.inl hall)
   have hbnd:Bnd (D i):=bdI (by unfold Tch.any;rw [hall];rfl)
   have hrr':evD P md call o.op (evalA e) (D i).st.heap (D i).st.next g.2.1=some r:=evD_congr hev▸hrr
   have hs0:SRep cx ⟨e,(D i).st.heap,(D i).st.next⟩ a nt:=⟨hH,hI.s.c,hI.s.env,hbnd,hI.s.sz,hI.s.df⟩
   have fin: ∀ cx' a',SRep cx' ⟨putE e o.dst r.v,r.heap,r.next⟩ a' nt→Stab cx cx'→K a' cx'.w:=fun cx' a' hs' hst'=>by
    have hHe:cx'.H=r.heap:=hs'.H
    refine hK cx' a' _ r.next ⟨hc',hI.stab.trans hst',by rw [hHe];exact hs',hI.env.put hs ho hi' hv,hp_wrote hi' hi hlast (fun id _=>by rw [hHe,e1]) (fun id hn=>absurd (.inl hall) hn) hI.hp,fun k k1 k2 k3=> ?_⟩
    rcases (up_set hi').1 k2 with rfl |hu
    ·intro id hid
     rw [e2]
     rw [e1] at hid
     exact hs'.lt id hid
    ·exact hI.bd k k1 hu k3
   cases hcl:isCl o.op (evalA e) g.2.1 with
   |true=>
    refine callC_wp hcl (by rw [hH];exact hrr') hpr hI.s.c hI.s.env (fun id h5 h6=> ?_) fun cx' z m1 m2 m3 m4 m5=>fin cx' _ (hI.s.put m3 m2 m1 (m5.lt fun id hid=>hbnd id (by rw [←hH];exact hid)) hd m4) m3
    cases hx:cx.H id with
    |none=>rfl
    |some b=>have:=hbnd id (by rw [←hH,hx];rfl);omega
   |false=>
    cases hcp:isCp o.op (evalA e) g.2.1 with
    |true=>
     refine callP_wp hcp (by rw [hH];exact hrr') hpr hI.s.c hI.s.env fun cx' z m1 m2 m3 m4 m5 m6=>fin cx' _ (hI.s.put m3 m2 m1 (fun id hid=> ?_) hd m4) m3
     rw [m6]
     exact hbnd id (by rw [←hH, ←m5];exact hid)
    |false=>
     cases hcm:isCm o.op (evalA e) g.2.1 with
     |true=>
      refine callN_wp hcm (by rw [hH];exact hrr') hpr hI.s.c hI.s.env (fun id h5 h6=> ?_) fun cx' z m1 m2 m3 m4 m5=>fin cx' _ (hI.s.put m3 m2 m1 (m5.lt fun id hid=>hbnd id (by rw [←hH];exact hid)) hd m4) m3
      cases hx:cx.H id with
      |none=>rfl
      |some b=>have:=hbnd id (by rw [←hH,hx];rfl);omega
     |false=>
      unfold evD at hrr'
      rw [hcl,hcp,hcm] at hrr'
      exact evOp_sound hcall hrr' hpr hs0 hd fin
  |false=>
   have hall':=hall
   rw [hT] at hall'
   have L:=evD_loc hrr hall'
   rw [←hT] at L
   have wr_iff: ∀ id,wrsT (T i) id↔id∈(T i).wr:=fun id=>⟨fun h=>h.resolve_left (by rw [hall];simp), .inr⟩
   have notall: ∀ k,k<ops.size→Up (listed.setIfInBounds i true) k→(T k).all=true→Bnd (D (k+1)):=fun k k1 k2 k3=>by
    rcases (up_set hi').1 k2 with rfl |hu
    ·rw [hall] at k3;cases k3
    ·exact hI.bd k k1 hu k3
   have done: ∀ cx' a' r' N',evD P md call o.op (evalA e) cx.H N' g.2.1=some r'→r'.v=r.v→(∀ id∈(T i).wr,r'.heap id=r.heap id)→(∀ id,id ∉ (T i).wr→r'.heap id=cx.H id)→cx'.H=r'.heap→ ∀ M,SRep cx' ⟨putE e o.dst r.v,cx'.H,M⟩ a' nt→Stab cx cx'→K a' cx'.w:=fun cx' a' r' N' _ _ q1 q2 hHe M hs' hst'=>by
    refine hK cx' a' _ M ⟨hc',hI.stab.trans hst',hs',hI.env.put hs ho hi' hv,hp_wrote hi' hi hlast (fun id hw=>by rw [hHe,q1 id ((wr_iff id).1 hw),e1]) (fun id hn=>by rw [hHe,q2 id fun hm=>hn ((wr_iff id).2 hm)]) hI.hp,notall⟩
   have rdH: ∀ id∈(T i).rd,cx.H id=(D i).st.heap id:=fun id hid=>seen id (.inr (.inr hid))
   have wrH: ∀ id∈(T i).wr,cx.H id=(D i).st.heap id:=fun id hid=>seen id (.inr (.inl hid))
   cases hnw:(T i).nw with
   |false=>
    obtain ⟨r',k1,k2,k3,k4,_,k6,k7,k8⟩:=L.loc cx.H N (fun h=>by rw [hnw] at h;cases h) rdH wrH
    rw [evD_congr hev] at k1
    have hpr': ∀ p∈r'.cs,p:=by rw [k4];exact hpr
    have hlt': ∀ id,(r'.heap id).isSome=true→id<N:=fun id hid=>by
     by_cases hm:id∈(T i).wr
     ·rcases L.wrs id hm with h2 |h2
      ·exact hI.s.lt id (by show (cx.H id).isSome=true;rw [wrH id hm];exact h2)
      ·have:=L.nonew hnw
       omega
     ·rw [k8 id hm] at hid
      exact hI.s.lt id hid
    have finz: ∀ cx' z,cx'.H=r'.heap→CRep cx'→Stab cx cx'→Rep cx' r'.v z→K (a.put o.dst z) cx'.w:=fun cx' z m1 m2 m3 m4=>by
     have hs':=hI.s.put (next:=N) m3 m2 m1 hlt' hd m4
     rw [k2, ←m1] at hs'
     exact done cx' _ r' N k1 k2 k7 k8 m1 N hs' m3
    cases hcl:isCl o.op (evalA e) g.2.1 with
    |true=>
     exfalso
     have hcls:=isCl_cls (P:=P) (op:=o.op) (ρ:=evalA e) (orc:=g.2.1) hcl
     rw [hT] at hnw hall
     unfold tchOf at hnw hall
     rw [hcls] at hnw hall
     rw [isCl_congr hev,hcl] at hnw hall
     simp only [cond_true] at hnw hall
     cases hf:frzd (D i).st.heap (rdD o.op (evalA (D i).st.env)) with
     |true=>rw [hf] at hnw;cases hnw
     |false=>rw [hf] at hall;cases hall
    |false=>
     cases hcp:isCp o.op (evalA e) g.2.1 with
     |true=>exact callP_wp hcp k1 hpr' hI.s.c hI.s.env fun cx' z m1 m2 m3 m4 _ _=>finz cx' z m1 m2 m3 m4
     |false=>
      have hcm:isCm o.op (evalA e) g.2.1=false:=by
       cases hcm:isCm o.op (evalA e) g.2.1 with
       |false=>rfl
       |true=>
        exfalso
        rw [hT] at hnw
        unfold tchOf at hnw
        rw [isCm_cls (P:=P) hcm,isCl_congr hev,hcl,isCp_congr hev,hcp,isCm_congr hev,hcm] at hnw
        cases hnw
      have hrl:=k1
      unfold evD at hrl
      rw [hcl,hcp,hcm] at hrl
      simp only [cond_false] at hrl
      by_cases hcc:clsOf P o.op= .call
      ·exfalso
       rw [hT] at hall
       unfold tchOf at hall
       rw [hcc,isCl_congr hev,hcl,isCp_congr hev,hcp,isCm_congr hev,hcm] at hall
       cases hall
      ·exact evOp_base hrl hcc hpr' rfl hI.s.c hI.s.env (by
        cases hx:cx.H N with
        |none=>rfl
        |some b=>exact absurd (hI.s.lt N (by show (cx.H N).isSome=true;rw [hx];rfl)) (Nat.lt_irrefl _)) fun cx' z m1 m2 m3 m4 _=>finz cx' z m1 m2 m3 m4
   |true=>
    have hany:(T i).any=true:=by unfold Tch.any;rw [hnw];simp
    have hbnd:=bdI hany
    obtain ⟨r',k1,k2,k3,k4,k5,_,k7,k8⟩:=L.loc cx.H (D i).st.next (fun _=>rfl) rdH wrH
    rw [evD_congr hev] at k1
    have k5':=k5 hnw
    have hpr': ∀ p∈r'.cs,p:=by rw [k4];exact hpr
    have hfree: ∀ id,(D i).st.next≤id→id<r.next→cx.H id=none:=fun id h5 h6=>by
     rw [wrH id (L.new id h5 h6)]
     cases hx:(D i).st.heap id with
     |none=>rfl
     |some b=>have:=hbnd id (by rw [hx];rfl);omega
    have hlt': ∀ id,(r'.heap id).isSome=true→id<max N r.next:=fun id hid=>by
     by_cases hm:id∈(T i).wr
     ·rcases L.wrs id hm with h2 |h2
      ·have:id<N:=hI.s.lt id (by show (cx.H id).isSome=true;rw [wrH id hm];exact h2)
       omega
      ·omega
     ·rw [k8 id hm] at hid
      have:id<N:=hI.s.lt id hid
      omega
    have finz: ∀ cx' z,cx'.H=r'.heap→CRep cx'→Stab cx cx'→Rep cx' r'.v z→K (a.put o.dst z) cx'.w:=fun cx' z m1 m2 m3 m4=>by
     have hs':=hI.s.put (next:=max N r.next) m3 m2 m1 hlt' hd m4
     rw [k2, ←m1] at hs'
     exact done cx' _ r' _ k1 k2 k7 k8 m1 _ hs' m3
    cases hcl:isCl o.op (evalA e) g.2.1 with
    |true=>exact callC_wp hcl k1 hpr' hI.s.c hI.s.env (fun id h5 h6=>hfree id h5 (by rw [k5'] at h6;exact h6)) fun cx' z m1 m2 m3 m4 _=>finz cx' z m1 m2 m3 m4
    |false=>
     cases hcp:isCp o.op (evalA e) g.2.1 with
     |true=>exact callP_wp hcp k1 hpr' hI.s.c hI.s.env fun cx' z m1 m2 m3 m4 _ _=>finz cx' z m1 m2 m3 m4
     |false=>
      cases hcm:isCm o.op (evalA e) g.2.1 with
      |true=>exact callN_wp hcm k1 hpr' hI.s.c hI.s.env (fun id h5 h6=>hfree id h5 (by rw [k5'] at h6;exact h6)) fun cx' z m1 m2 m3 m4 _=>finz cx' z m1 m2 m3 m4
      |false=>
      have hrl:=k1
      unfold evD at hrl
      rw [hcl,hcp,hcm] at hrl
      simp only [cond_false] at hrl
      by_cases hcc:clsOf P o.op= .call
      ·exfalso
       rw [hT] at hall
       unfold tchOf at hall
       rw [hcc,isCl_congr hev,hcl,isCp_congr hev,hcp,isCm_congr hev,hcm] at hall
       cases hall
      ·refine evOp_base hrl hcc hpr' rfl hI.s.c hI.s.env ?_ fun cx' z m1 m2 m3 m4 _=>finz cx' z m1 m2 m3 m4
       cases hx:cx.H (D i).st.next with
       |none=>rfl
       |some b=>
        exfalso
        have hlt:(D i).st.next<r.next:=by
         cases hcz:clsOf P o.op with
         |pur=>rw [hT] at hnw;unfold tchOf at hnw;rw [hcz] at hnw;cases hnw
         |read=>
          rw [hT] at hnw;unfold tchOf at hnw;rw [hcz] at hnw
          simp only at hnw
          cases ha:adrOnly o.op (evalA (D i).st.env) with
          |true=>rw [ha] at hnw;cases hnw
          |false=>rw [ha] at hnw;cases hnw
         |call=>exact absurd hcz hcc
         |make=>
          have hfv:fvO g.2.1=false:=by
           rw [hT] at hnw;unfold tchOf at hnw;rw [hcz] at hnw
           simp only at hnw
           cases hx2:fvO g.2.1 with
           |false=>rfl
           |true=>rw [hx2] at hnw;cases hnw
          have h9:=hrr
          unfold evD evOp at h9
          rw [hcz] at h9
          exact evMake_next hfv h9
         |write=>
          have hm:(D i).st.next∈(T i).wr:=by
           rw [hT] at hnw hall ⊢
           exact tch_write hcz hnw hall
          rcases L.wrs _ hm with h2 |h2
          ·have:=hbnd _ h2;omega
          ·exact h2.2
        rw [hfree _ (Nat.le_refl _) hlt] at hx
        cases hx
end
end
end Go.Proofs.Ytfjapapiappacaa.Rx
namespace Go.Proofs.Ytfjapapiappacaa.Rx
section
open Go.RowKit
section
variable {P:Program}
def Cx.drew (cx:Cx):Cx:=⟨{cx.w with drawn:=cx.w.drawn+1},cx.R,cx.φ,cx.H,cx.B⟩
theorem drew_stab (cx:Cx):Stab cx cx.drew:=
 ⟨⟨rfl,fun _ h=>h,fun _ h=> .inl h,rfl,rfl,rfl,Nat.le_refl _,fun _ _ _=>rfl⟩,fun id b h=>⟨b,h,fun _=>⟨rfl,sameShape.rfl' b⟩,fun _=>rfl⟩,fun id b b' h h'=>by
  have h2:cx.H id=some b':=h'
  rw [h] at h2;cases h2;exact Nat.le_refl _⟩
theorem drew_crep {cx:Cx} (hc:CRep cx):CRep cx.drew:=by
 refine ⟨fun id b hb=> ?_,hc.inj,hc.rlt,hc.blt⟩
 have h:=hc.hb id b hb
 unfold HB at h ⊢
 split
 ·rename_i cs hcs
  rw [hcs] at h
  obtain ⟨g,cur,h1,h2,h3,h4,h5⟩:=h
  refine ⟨g,cur,h1,h2,h3,fun j a ha=> ?_,h5⟩
  obtain ⟨u,u1,u2,u3⟩:=h4 j a ha
  exact ⟨u,u1,u2,u3.stab hc (drew_stab cx)⟩
 ·rename_i m n f hcs
  rw [hcs] at h
  rcases h with h |⟨g,cap,cur,h1,h2,h3,h4,h5,h6,h7⟩
  ·exact .inl h
  ·refine .inr ⟨g,cap,cur,h1,h2,h3,h4,h5,fun i hi j hj=> ?_,h7⟩
   obtain ⟨u,u1,u2,u3⟩:=h6 i hi j hj
   exact ⟨u,u1,u2,u3.mono (fun _ h=>h) fun _ _=>rfl⟩
theorem drew_srep [Dfs] {cx:Cx} {st:St} {a:Act} {nt:Nat} (hs:SRep cx st a nt):SRep cx.drew st a nt:=
 ⟨hs.H,drew_crep hs.c,fun t=>(hs.env t).stab hs.c (drew_stab cx),hs.lt,hs.sz,hs.df⟩
theorem InvD.any [Dfs] {T:Nat→Tch} {md:Bool} {call:CallF} {nt:Nat} {ops:Array Oper} {st:St} {D:Nat→DS} {cx0:Cx} (hD:SeqD P T md call nt ops st D) (hcall:CallOk P call) (hs:statOk ops (befs ops)=true)
  {Q:Exit→Act→World→Prop} (hQ: ∀ cx' a',SRep cx' (D ops.size).st a' nt→Stab cx0 cx'→Q .normal a' cx'.w):
  ∀ (fuel:Nat) {listed:Array Bool} {a:Act} {cx:Cx} {e:Nat→AV} {N:Nat},InvD T ops st D nt cx0 listed a cx e N→(List.range ops.size).countP (fun i=> !(listed.getD i false))≤fuel→wpAny P .any ops Q fuel listed a cx.w:=by
 have fin: ∀ {listed:Array Bool} {a:Act} {cx:Cx} {e:Nat→AV} {N:Nat},InvD T ops st D nt cx0 listed a cx e N→Region.ready .any ops listed=[]→Q .normal a cx.w:=by
  intro listed a cx e N hI hr
  have hall:=hI.cl.done hs hr
  have hH:cx.H=(D ops.size).st.heap:=funext fun id=>hp_at hD hI.hp (Nat.le_refl _) (fun k hk _=>hall k hk) (fun k h1 h2 _=>by omega)
  have hlt:Bnd (D ops.size):=by
   have hdec:DecidablePred fun k=>(T k).all=true:=fun k=>inferInstance
   rcases lastW (fun k=>(T k).all=true) ops.size with ⟨k,k1,k2,k3⟩|h0
   ·refine hD.bnd (a:=k+1) (hI.bd k k1 (hall k k1) k2) ops.size (by omega) (Nat.le_refl _) fun j j1 j2=> ?_
    cases hx:(T j).all with
    |false=>rfl
    |true=>have:=k3 j j2 hx;omega
   ·refine hD.bnd (a:=0) (fun id hid=> ?_) ops.size (by omega) (Nat.le_refl _) fun j _ j2=> ?_
    ·rw [hD.st0] at hid ⊢;exact hD.lt id hid
    ·cases hx:(T j).all with
     |false=>rfl
     |true=>exact absurd hx (h0 j j2)
  have he:e=(D ops.size).st.env:=by
   funext t
   by_cases hex: ∃ (k:Nat) (p:Oper),ops[k]? =some p∧p.dst=some t
   ·obtain ⟨k,p,hp,hd⟩:=hex
    have hk:k<ops.size:=(Array.getElem?_eq_some_iff.1 hp).1
    rw [hI.env.e1 k p t hp hd (hall k hk)]
    exact (hD.env_keep (t:=t) (a:=k+1) ops.size (by omega) (Nat.le_refl _) fun j o' j1 j2 j3 j4=>by
     have:=(statOk_dst hs j3 hp hd).1
     rcases this with rfl |h5
     ·omega
     ·exact h5 j4).symm
   ·rw [hI.env.e2 t fun k p hp hd=>absurd ⟨k,p,hp,hd⟩ hex]
    have:=hD.env_keep (t:=t) (a:=0) ops.size (by omega) (Nat.le_refl _) fun j o' j1 j2 j3 j4=>hex ⟨j,o',j3,j4⟩
    rw [this,hD.st0]
  refine hQ cx a ⟨hH,hI.s.c, ?_,hlt,hI.s.sz,hI.s.df⟩ hI.stab
  rw [←he]
  exact hI.s.env
 intro fuel
 induction fuel with
 |zero=>
  intro listed a cx e N hI hcnt
  have hr:Region.ready .any ops listed=[]:=by
   rw [List.eq_nil_iff_forall_not_mem]
   intro i hi
   obtain ⟨hnu,hlt,_⟩:=hI.cl.ready hi
   have:=List.countP_eq_zero.1 (Nat.le_zero.1 hcnt) i (List.mem_range.2 hlt)
   unfold Up at hnu
   simp at this
   exact hnu (by simpa using this)
  exact ⟨hr,fin hI hr⟩
 |succ fuel ih=>
  intro listed a cx e N hI hcnt
  refine ⟨fin hI,fun i hi=> ?_⟩
  refine hI.step hD hcall hs hi fun cx' a' e' N' hI'=>ih hI' ?_
  obtain ⟨hnu,hlt,_⟩:=hI.cl.ready hi
  have hi':i<listed.size:=by rw [hI.cl.sz];exact hlt
  have hx:= @up_set listed i
  have:=count_lt (p:=fun i=> !(listed.getD i false)) (p':=fun k=> !((listed.setIfInBounds i true).getD k false)) (List.mem_range.2 hlt) (by
    unfold Up at hnu
    simp only [Bool.not_eq_true'] at hnu ⊢
    cases hb:listed.getD i false with
    |false=>rfl
    |true=>exact absurd hb hnu) (by
    have:=(hx (k:=i) hi').2 (.inl rfl)
    unfold Up at this
    simp only [this,Bool.not_true]) (fun k hk=>by
    simp only [Bool.not_eq_true'] at hk ⊢
    cases hb:listed.getD k false with
    |false=>rfl
    |true=>
     have:=(hx (k:=k) hi').2 (.inr hb)
     unfold Up at this
     rw [this] at hk;cases hk)
  omega
theorem drawA_any [Dfs] {md:Bool} {call:CallF} (hcall:CallOk P call) {nt:Nat} {ops:Array Oper} {st:St} {orc:List Orc} {q:St×List Orc×List Prop} {cx:Cx} {a:Act} (h:drawA P md call nt ops st orc=some q) (hp: ∀ p∈q.2.2,p) (hs:SRep cx st a nt) {Q:Exit→Act→World→Prop}
  (hQ: ∀ cx' a',SRep cx' q.1 a' nt→Stab cx cx'→Q .normal a' cx'.w):P.follows .mixedOrders=true∧wpAny P .any ops Q ops.size (Array.replicate ops.size false) a {cx.w with drawn:=cx.w.drawn+1}:=by
 unfold drawA at h
 obtain ⟨h1,h2⟩:=bif_some h
 rw [Bool.and_eq_true] at h1
 obtain ⟨q',hq,rfl⟩:=Option.map_eq_some_iff.1 h2
 obtain ⟨s',ps⟩:=q'
 obtain ⟨D,d0,d1,d2⟩:=runD_seq ops.size 0 hq hp
 rw [Nat.zero_add] at d1
 have htr: ∀ j,j<ops.size→ ∃ t,(D (j+1)).tr=(j,t)::(D j).tr:=fun j hj=>by
  obtain ⟨q,hq,_⟩:=d2 j (Nat.zero_le _) (by omega)
  obtain ⟨o,g,_,_,_,h3⟩:=stepD_inv hq
  rcases h3 with ⟨_,_,_,_,e,_⟩|⟨_,r,_,_,_,_,_,e,_⟩
  ·exact ⟨_,e⟩
  ·exact ⟨_,e⟩
 have hT: ∃ T:Nat→Tch, ∀ j,j<ops.size→(D (j+1)).tr=(j,T j)::(D j).tr:=
  ⟨fun j=>((D (j+1)).tr.head?.map (·.2)).getD tch0,fun j hj=>by
   obtain ⟨t,ht⟩:=htr j hj
   have e:((D (j+1)).tr.head?.map (·.2)).getD tch0=t:=by rw [ht];rfl
   show (D (j+1)).tr=(j,((D (j+1)).tr.head?.map (·.2)).getD tch0)::(D j).tr
   rw [e];exact ht⟩
 obtain ⟨T,hT⟩:=hT
 have hD:SeqD P T md call nt ops st D:=⟨by rw [d0],by rw [d0],fun j hj=>d2 j (Nat.zero_le _) (by omega),hT,hs.lt⟩
 refine ⟨h1.1, ?_⟩
 have hs':=drew_srep hs
 have hno: ∀ k, ¬Up (Array.replicate ops.size false) k:=fun k hk=>by
  unfold Up at hk
  rw [Array.getD_eq_getD_getElem?,Array.getElem?_replicate] at hk
  split at hk<;>cases hk
 refine InvD.any hD hcall h1.2 (cx0:=cx.drew) (Q:=Q) (fun cx' a' hs2 hst2=> ?_) ops.size (cx:=cx.drew) (e:=st.env) (N:=st.next) ⟨⟨by simp,fun k o _ hu=>absurd hu (hno k)⟩,Stab.refl _, ?_,⟨fun k o t _ _ hu=>absurd hu (hno k),fun t _=>rfl⟩,fun id=> .inr ⟨fun j _ hu=>absurd hu (hno j), ?_⟩,fun k _ hu=>absurd hu (hno k)⟩ ?_
 ·rw [d1] at hs2
  exact hQ cx' a' hs2 ((drew_stab cx).trans hst2)
 ·have:cx.drew.H=st.heap:=hs'.H
  rw [this]
  exact hs'
 ·rw [show cx.drew.H=st.heap from hs'.H]
 ·exact Nat.le_trans List.countP_le_length (by simp)
theorem drawA_ok (md:Bool):DrawOk P (drawA P md):=by
 intro D0 call hcall nt ops st orc q cx a id h hp hs Q hQ
 obtain ⟨h1,h2⟩:=drawA_any hcall h hp hs hQ
 exact wp_region_any h1 h2
end
end
end Go.Proofs.Ytfjapapiappacaa.Rx
namespace Go.Proofs.Ytfjapapiappacaa.Rx
section
open Go.RowKit
structure Vc (p:Prop):Prop where
 out:p
def allP:List Prop→Prop
 | []=>True
 |p::l=>p∧allP l
theorem allP_mem: ∀ {l:List Prop},allP l→ ∀ p∈l,p
 | [],_,p,hp=>by cases hp
 |q::l,h,p,hp=>by
  rcases List.mem_cons.1 hp with rfl |hp
  ·exact h.1
  ·exact allP_mem h.2 p hp
def eqX:X→X→Bool
 | .nrm, .nrm=>true
 | .ext i, .ext j=>Nat.beq i j
 | .ret, .ret=>true
 |_,_=>false
theorem eqX_eq {x y:X} (h:eqX x y=true):x=y:=by
 cases x<;>cases y<;>first |rfl |cases h | (unfold eqX at h;rw [Nat.eq_of_beq_eq_true h])
def cSub:Code→List Nat→Code
 |c,[]=>c
 | .seq a b,i::p=>bif Nat.beq i 0 then cSub a p else cSub b p
 | .cond _ a b,i::p=>bif Nat.beq i 0 then cSub a p else cSub b p
 | .block _ c,_::p=>cSub c p
 | .loop c,_::p=>cSub c p
 |c,_=>c
def loops:Code→List Code
 | .seq a b=>loops a++loops b
 | .cond _ a b=>loops a++loops b
 | .block _ c=>loops c
 | .loop c=>c::loops c
 |_=>[]
section
variable (P:Program)
def codeOf (f:FuncId):Code:=((P.funcs[f]?).bind (·.body)).getD .skip
def subC (f:FuncId) (p:List Nat):Code:=cSub (codeOf P f) p
def lpC (f:FuncId) (k:Nat):Code:=(loops (codeOf P f)).getD k .skip
def ntOf (f:FuncId):Nat:=((P.funcs[f]?).map (·.ntmps)).getD 0
def vcFn (md:Bool) (f:FuncId) (args:List AV) (orc:List Orc) (ρ:List (Nat×Nat)) (res:AV) (H:List Blk):Prop:=
 match evFn P (drawA P md) md 100 true f args (fun _=>none) 0 orc with
 |some r=>match leS ρ ⟨fun _=>r.v,r.heap,r.next⟩ ⟨[(0,res)],idxH H,H.length⟩ with
  |some ps=>allP (r.cs++ps)
  |none=>False
 |none=>False
def vcMut (md:Bool) (f:FuncId) (args:List AV) (H0:List Blk) (orc:List Orc) (ρ:List (Nat×Nat)) (res:AV) (H:List Blk):Prop:=
 match evFn P (drawA P md) md 100 true f args (fun i=>H0[i]?) H0.length orc with
 |some r=>match leS ρ ⟨fun _=>r.v,r.heap,r.next⟩ ⟨[(0,res)],idxH H,H.length⟩ with
  |some ps=>allP (r.cs++ps)
  |none=>False
 |none=>False
def vcC (md:Bool) (nt:Nat) (c:Code) (I:Sm) (orc:List Orc) (x:X) (r:List (Nat×Nat)) (J:Sm):Prop:=
 match evCode P (drawA P md) true md (callA P (evFn P (drawA P md) md 100 false)) nt c I.st orc with
 |some q=>bif eqX q.1 x then match leS r q.2.1 J with
  |some ps=>allP (q.2.2.2++ps)
  |none=>False
  else False
 |none=>False
end
section
variable {P:Program}
theorem PureC.vc {md:Bool} {f:FuncId} {args:List AV} {orc:List Orc} {ρ:List (Nat×Nat)} {res:AV} {H:List Blk} (h:Vc (vcFn P md f args orc ρ res H)):PureC P f args res H:=by
 replace h:=h.out
 unfold vcFn at h
 split at h
 ·rename_i r hr
  split at h
  ·rename_i ps hps
   have hall:=allP_mem h
   exact PureC.of (drawA_ok md) hr (fun p hp=>hall p (List.mem_append.2 (.inl hp))) hps fun p hp=>hall p (List.mem_append.2 (.inr hp))
  ·cases h
 ·cases h
theorem MutC.vc {md:Bool} {f:FuncId} {args:List AV} {H0:List Blk} {orc:List Orc} {ρ:List (Nat×Nat)} {res:AV} {H:List Blk} (h:Vc (vcMut P md f args H0 orc ρ res H)):MutC P f args H0 res H:=by
 replace h:=h.out
 unfold vcMut at h
 split at h
 ·rename_i r hr
  split at h
  ·rename_i ps hps
   have hall:=allP_mem h
   exact MutC.of (drawA_ok md) hr (fun p hp=>hall p (List.mem_append.2 (.inl hp))) hps fun p hp=>hall p (List.mem_append.2 (.inr hp))
  ·cases h
 ·cases h
theorem callA_evFn {md:Bool} (n:Nat):CallOk P (callA P (evFn P (drawA P md) md n false)):=callA_ok fun f args h next orc r h1 h2 cx h3 h4 h5 vs h6 h7=>by
 obtain ⟨k1,k2⟩:=evFn_run (drawA_ok md) n false h1 h2 cx h3 h4 h5 vs h6 h7
 refine ⟨k1,k2.mono ?_⟩
 rintro e w' ⟨z,cx',m1,m2,m3,m4,m5,m6,m7⟩
 exact ⟨z,cx',m1,m2,m3,m4,m5.2 rfl,m6,m7⟩
theorem Ok.vc {md:Bool} {nt:Nat} {c:Code} {I J:Sm} {orc:List Orc} {x:X} {r:List (Nat×Nat)} (h:Vc (vcC P md nt c I orc x r J)):Ok P nt c I.st x J.st:=by
 replace h:=h.out
 unfold vcC at h
 split at h
 ·rename_i q hq
  obtain ⟨hx,h1⟩:eqX q.1 x=true∧(match leS r q.2.1 J with |some ps=>allP (q.2.2.2++ps)|none=>False):=by
   cases hb:eqX q.1 x with
   |true=>rw [hb] at h;exact ⟨rfl,h⟩
   |false=>rw [hb] at h;exact h.elim
  split at h1
  ·rename_i ps hps
   have hall:=allP_mem h1
   intro d0 cx a hs Q hQ
   refine evCode_sound (drawA_ok md) (callA_evFn 100) c hq (fun p hp=>hall p (List.mem_append.2 (.inl hp))) hs Q fun d1 cx1 a1 hs1 ha1=> ?_
   obtain ⟨cx1p,hw,hs1p,hk⟩:=ha1.plus hs1
   obtain ⟨cx2,hs2,he2,hw2⟩:=hs1p.le hps fun p hp=>hall p (List.mem_append.2 (.inr hp))
   obtain ⟨cx3,e3,hs3,ha3⟩:=hk d1 cx2 _ a1 _ hs2 (.of_ext he2)
   rw [eqX_eq hx, ←hw, ←hw2, ←e3]
   exact hQ d1 cx3 a1 hs3 ha3
  ·cases h1
 ·cases h
theorem Ok.loop {nt:Nat} {c:Code} {F:Nat→Sm} {m:Nat} {x:X} {J:Sm} (hr: ∀ k,k<m→Ok P nt c (F k).st .nrm (F (k+1)).st) (he:Ok P nt c (F m).st x J.st) (hx:x≠ .nrm):Ok P nt (.loop c) (F 0).st x J.st:=by
 intro d0 cx a hs Q hQ
 have key: ∀ n k,k+n=m→ ∀ (d1:Dfs) cx1 a1, @SRep d1 cx1 (F k).st a1 nt→(∀ (d2:Dfs) cx2 a2, @SRep d2 cx2 J.st a2 nt→After true d1 cx1 d2 cx2→Q x.to a2 cx2.w)→Code.rounds P c Q (n+1) a1 cx1.w:=by
  intro n
  induction n with
  |zero=>
   intro k hk d1 cx1 a1 hs1 hK
   obtain rfl:k=m:=by omega
   rw [rounds_succ]
   refine he d1 cx1 a1 hs1 _ fun d2 cx2 a2 hs2 ha2=> ?_
   have:=hK d2 cx2 a2 hs2 ha2
   cases x with
   |nrm=>exact absurd rfl hx
   |ext id=>exact this
   |ret=>exact this
  |succ n ih=>
   intro k hk d1 cx1 a1 hs1 hK
   rw [rounds_succ]
   refine hr k (by omega) d1 cx1 a1 hs1 _ fun d2 cx2 a2 hs2 ha2=> ?_
   obtain ⟨cx2p,hw,hs2p,hk2⟩:=ha2.plus hs2
   show Code.rounds _ _ _ _ _ cx2.w
   rw [←hw]
   exact ih (k+1) (by omega) d2 cx2p a2 hs2p fun d3 cx3 a3 hs3 ha3=>by
    obtain ⟨cx4,e4,hs4,ha4⟩:=hk2 d3 cx3 _ a3 _ hs3 ha3
    rw [←e4]
    exact hK d3 cx4 a3 hs4 ha4
 exact wp_loop_rounds (m+1) (key m 0 (by omega) d0 cx a hs hQ)
def rowL {α:Type} [Inhabited α] (g:α→Nat→AV) (l:List α):Nat→Nat→AV:=fun i j=>g (l.getD i default) j
theorem rowL_left {α:Type} [Inhabited α] {g:α→Nat→AV} {l l':List α} {i j:Nat} (h:i<l.length):rowL g (l++l') i j=rowL g l i j:=by
 unfold rowL
 rw [List.getD_eq_getElem?_getD,List.getD_eq_getElem?_getD,List.getElem?_append_left h]
theorem rowL_right {α:Type} [Inhabited α] {g:α→Nat→AV} {l l':List α} {i j:Nat} (h: ¬i<l.length):rowL g (l++l') i j=rowL g l' (i-l.length) j:=by
 unfold rowL
 rw [List.getD_eq_getElem?_getD,List.getD_eq_getElem?_getD,List.getElem?_append_right (Nat.not_lt.1 h)]
theorem rowL_last {α:Type} [Inhabited α] {g:α→Nat→AV} {l:List α} {x:α} {j:Nat}:rowL g (l++[x]) l.length j=g x j:=by
 rw [rowL_right (Nat.lt_irrefl _),Nat.sub_self]
 rfl
theorem row_if {n i:Nat} {a b c:AV} (h1:i<n→a=c) (h2: ¬i<n→b=c):(bif Nat.blt i n then a else b)=c:=by
 by_cases h:i<n
 ·have:Nat.blt i n=true:=by rw [Nat.blt_eq];exact h
  rw [this]
  exact h1 h
 ·have:Nat.blt i n=false:=by
   cases hb:Nat.blt i n with
   |false=>rfl
   |true=>rw [Nat.blt_eq] at hb;exact absurd hb h
  rw [this]
  exact h2 h
theorem in64 {n:Int} (h1: -9223372036854775808≤n) (h2:n≤9223372036854775807):inK .i64 n:=⟨h1,h2⟩
theorem Ok.cut {nt:Nat} {c d:Code} {I J K:St} {x:X} (h1:Ok P nt c I .nrm J) (h2:Ok P nt d J x K):Ok P nt (.seq c d) I x K:=by
 intro d0 cx a hs Q hQ
 refine wp_seq (h1 d0 cx a hs _ fun d1 cx1 a1 hs1 ha1=> ?_)
 obtain ⟨cx1p,hw,hs1p,hk⟩:=ha1.plus hs1
 show Code.wp _ _ _ _ cx1.w
 rw [←hw]
 exact h2 d1 cx1p a1 hs1p Q fun d2 cx2 a2 hs2 ha2=>by
  obtain ⟨cx3,e3,hs3,ha3⟩:=hk d2 cx2 _ a2 _ hs2 ha2
  rw [←e3]
  exact hQ d2 cx3 a2 hs3 ha3
end
end
end Go.Proofs.Ytfjapapiappacaa.Rx
namespace Go.Proofs.Ytfjapapiappacaa.Rx
section
open Go.RowKit
def frzS (t:Nat) (s:St):St:=⟨fun k=>bif Nat.beq k t then frz s.heap (s.env t) else s.env k,frzIds s.heap (idsF (s.env t)),s.next⟩
def vcZ (t:Nat) (I:Sm) (r:List (Nat×Nat)) (I':Sm):Prop:=
 match leS r (frzS t I.st) I' with
 |some ps=>allP ps
 |none=>False
section
variable {P:Program}
theorem Ok.freeze {nt:Nat} {c:Code} {I I':Sm} {r:List (Nat×Nat)} {x:X} {J:St} {t:Nat} (hv:Vc (vcZ t I r I')) (h:Ok P nt c I'.st x J):Ok P nt c I.st x J:=by
 replace hv:=hv.out
 unfold vcZ at hv
 split at hv
 ·rename_i ps hps
  intro d0 cx a hs Q hQ
  obtain ⟨cx1,e1,hc1,hs1,e2,e3,e4,e5⟩:=frzIds_ok (idsF (I.st.env t)) hs.c
  have hz:SRep cx1 (frzS t I.st) a nt:=by
   refine ⟨by rw [e1,hs.H];rfl,hc1,fun k=> ?_,fun i hi=> ?_,hs.sz,hs.df⟩
   ·show Rep cx1 (bif Nat.beq k t then frz I.st.heap (I.st.env t) else I.st.env k) _
    cases hk:Nat.beq k t with
    |true=>
     obtain rfl:=Nat.eq_of_beq_eq_true hk
     exact .pure (frz_rep hc1 (fun id b hb=>by rw [e1,hs.H];exact frzIds_gen _ _ _ _ hb) ((hs.env k).stab hs.c hs1) fun id hid b g c hb hg=>by
      obtain ⟨b',hb'⟩:=Option.isSome_iff_exists.1 (e5 id (by rw [hb];rfl))
      rw [e3] at hg
      exact e4 id b' g c hid hb' hg)
    |false=>exact (hs.env k).stab hs.c hs1
   ·have:(cx1.H i).isSome=true:=by rw [e1,hs.H];exact hi
    have:=e5 i this
    rw [hs.H] at this
    exact hs.lt i this
  obtain ⟨cx2,hs2,he2,hw2⟩:=hz.le hps fun p hp=>allP_mem hv p hp
  rw [←e2, ←hw2]
  exact h d0 cx2 a hs2 Q fun d3 cx3 a3 hs3 ha3=>hQ d3 cx3 a3 hs3 (ha3.pre (hs1.ext.trans he2) (hw2.trans e2))
 ·cases hv
theorem RepP.ints {w:World} {R:Nat→Prop} {k:IntKind} {n:Nat} {f:Nat→Nat→AV} {v:Value} {l:List Int} (h:RepP w R (.row 1 n f) v) (hR: ∀ g,R g→g<w.heap.size) (hn:n=l.length) (hf: ∀ i,i<n→f i 0= .int k (l.getD i 0)):
  ∃ A c,v= .slice A l.length c∧l.length≤c∧c≤maxLen∧Rd w w.heap.size A (l.map (Value.int k)):=by
 subst hn
 cases h with
 |row A cap u hn hc hA h1 hu=>
  refine ⟨A,cap,rfl,hn,hc,fun hl=> ?_⟩
  rw [List.length_map] at hl
  obtain ⟨g,o,rfl,hg,hcell⟩:=hA (by omega)
  refine ⟨⟨g,o,none⟩,rfl,hR g hg,fun j x hx=> ?_⟩
  have hj:j<l.length:=by
   have:=(List.getElem?_eq_some_iff.1 hx).1
   simpa using this
  have h2:=hu j hj 0 (by omega)
  rw [hf j hj] at h2
  have h3:u j 0= .int k (l.getD j 0):=by
   generalize u j 0=z at h2
   cases h2;rfl
  have h4:=hcell j hj 0 (by omega)
  rw [h3] at h4
  rw [List.getElem?_map,List.getElem?_eq_getElem hj,Option.map_some,Option.some.injEq] at hx
  rw [←hx,show Addr.add ⟨g,o,none⟩ j=⟨g,o+j,none⟩ from adr_mk g o j]
  rw [show o+(j*1+0)=o+j by omega] at h4
  rw [h4]
  simp [List.getD,hj]
theorem PureC.ofOwn {f:FuncId} {args:List AV} {t:TypeId} {k:IntKind} {l:List Int} {n:Nat} {g:Nat→Nat→AV} (hn:n=l.length) (hg: ∀ i,i<n→g i 0= .int k (l.getD i 0))
  (h: ∀ (w:World) (R:Nat→Prop) (vs:Array Value),(∀ g,R g→g<w.heap.size)→args.length=vs.size→(∀ (j:Nat) a v,args[j]? =some a→vs[j]? =some v→RepP w R a v)→Calls P f vs w (RetOwn w.heap.size t (l.map (Value.int k)) w)):
  PureC P f args (.own 0 0 1 0 n) [⟨0,false,t, .rows 1 n g⟩]:=by
 subst hn
 intro w R vs hR hl ha
 refine (h w R vs hR hl ha).mono ?_
 rintro e w' ⟨v,rfl,hown,hb⟩
 have hlen:(l.map (Value.int k)).length=l.length:=List.length_map _
 have hR': ∀ g,R g→g<w'.heap.size:=fun g hg=>Nat.lt_of_lt_of_le (hR g hg) hb.size
 rcases hown.2 with ⟨rfl,h0⟩|⟨gg,cap,cur,rfl,hge,hh,hnc,hcm,hsz,htk⟩
 ·rw [hlen] at h0
  refine ⟨_,⟨w',R,fun _=>none,fun i=>[(⟨0,false,t, .rows 1 l.length g⟩:Blk)][i]?,fun g=>g<w.heap.size⟩,rfl,rfl,rfl,⟨fun id b hb'=> ?_,fun _ _ _ _ _ _ _ h1 _=>(by cases h1),hR',fun g hg=>Nat.lt_of_lt_of_le hg hb.size⟩,rfl,fun _ h=>h,fun _ h=> .inl h,hb, ?_⟩
  ·cases id with
   |zero=>
    simp only [List.getElem?_cons_zero,Option.some.injEq] at hb'
    subst hb'
    exact .inl ⟨rfl,h0⟩
   |succ i=>simp at hb'
  ·exact .own (b:=⟨0,false,t, .rows 1 l.length g⟩) rfl (Nat.le_refl _) rfl fun _=>⟨l.length,g,rfl,by omega, .inl ⟨rfl,rfl,h0,rfl⟩⟩
 ·rw [hlen] at hnc htk
  have hlt:gg<w'.heap.size:=(Array.getElem?_eq_some_iff.1 hh).1
  refine ⟨_,⟨w',R,fun i=>if i=0 then some (gg,cap) else none,fun i=>[(⟨0,false,t, .rows 1 l.length g⟩:Blk)][i]?,fun g=>g<w.heap.size⟩,rfl,rfl,rfl,⟨fun id b hb'=> ?_,fun i j _ _ _ _ _ h1 h2=> ?_,hR',fun g hg=>Nat.lt_of_lt_of_le hg hb.size⟩,rfl,fun _ h=>h,fun _ h=> .inl h,hb, ?_⟩
  ·cases id with
   |zero=>
    simp only [List.getElem?_cons_zero,Option.some.injEq] at hb'
    subst hb'
    refine .inr ⟨gg,cap,cur,rfl,hh,hsz,hnc,hcm,fun i hi j hj=> ?_,Nat.not_lt.2 hge, ?_⟩
    ·obtain rfl:j=0:=by omega
     have h5:cur.toList[i]? =some (.int k (l.getD i 0)):=by
      have:=congrArg (fun (x:List Value)=>x[i]?) htk
      simp only [List.getElem?_map] at this
      rw [List.getElem?_take,if_pos (by omega)] at this
      rw [this]
      simp [List.getD,hi]
     refine ⟨.int k (l.getD i 0), ?_,rfl, ?_⟩
     ·rw [←Array.getElem?_toList,show i*1+0=i by omega]
      exact h5
     ·rw [hg i hi]
      exact .int _ _
    ·show ¬R gg
     intro hr
     have:=hR gg hr
     omega
   |succ i=>simp at hb'
  ·simp only at h1 h2
   split at h1
   ·split at h2
    ·omega
    ·cases h2
   ·cases h1
  ·refine .own (b:=⟨0,false,t, .rows 1 l.length g⟩) rfl (Nat.le_refl _) rfl fun _=>⟨l.length,g,rfl,by omega, .inr ⟨gg,cap,rfl, ?_⟩⟩
   rw [hlen]
   simp
end
end
end Go.Proofs.Ytfjapapiappacaa.Rx
namespace Go.Proofs.Ytfjapapiappacaa.Rx
section
open Go.RowKit
section
variable {P:Program}
theorem forget_rep {cx:Cx} (hc:CRep cx):CRep ⟨cx.w,cx.R,fun _=>none,fun i=>([]:List Blk)[i]?,cx.B⟩:=
 ⟨fun id b hb=>(by simp at hb),fun _ _ _ _ _ _ _ h1 _=>(by cases h1),hc.rlt,hc.blt⟩
theorem freeze_all {cx:Cx} {H:List Blk} (hc:CRep cx) (hH:cx.H=fun i=>H[i]?) (ids:List Nat): ∃ cx1,CRep cx1∧cx1.w=cx.w∧Stab cx cx1∧
  ∀ a v,Rep cx a v→(∀ id∈idsF a,id∈ids)→RepP cx1.w cx1.R (frz (fun i=>H[i]?) a) v:=by
 obtain ⟨cx1,e1,hc1,hs1,e2,e3,e4,e5⟩:=frzIds_ok ids hc
 refine ⟨cx1,hc1,e2,hs1,fun a v hr hi=>frz_rep hc1 (fun id b hb=>by rw [e1,hH];exact frzIds_gen _ _ _ _ hb) (hr.stab hc hs1) fun id hid b g c hb hg=> ?_⟩
 obtain ⟨b',hb'⟩:=Option.isSome_iff_exists.1 (e5 id (by rw [hb];rfl))
 rw [e3] at hg
 exact e4 id b' g c (hi id hid) hb' hg
theorem PureC.frozen {f:FuncId} {args:List AV} {a:AV} {H:List Blk} (h:PureC P f args a H):PureC P f args (frz (fun i=>H[i]?) a) []:=by
 intro w R vs hR hl ha
 refine (h w R vs hR hl ha).mono ?_
 rintro e w' ⟨z,cx,rfl,rfl,k1,k2,k3,k4,k5,k6,k7⟩
 obtain ⟨cx1,hc1,e2,hs1,hfr⟩:=freeze_all k2 k1 (idsF a)
 refine ⟨z,⟨cx1.w,cx1.R,fun _=>none,fun i=>([]:List Blk)[i]?,cx1.B⟩,rfl,e2.symm,rfl,forget_rep hc1,by rw [hs1.ext.B];exact k3,fun g hg=>hs1.ext.R g (k4 g hg),fun g hg=> ?_,k6, .pure (hfr a z k7 fun _ h=>h)⟩
 rcases hs1.ext.Rn g hg with h1 |h1
 ·exact k5 g h1
 ·rw [k3] at h1;exact .inr (Nat.not_lt.1 h1)
theorem PureC.frozen2 {f:FuncId} {args:List AV} {a b:AV} {H:List Blk} (h:PureC P f args (.tup [a,b]) H):PureC P f args (.tup [frz (fun i=>H[i]?) a,frz (fun i=>H[i]?) b]) []:=by
 intro w R vs hR hl ha
 refine (h w R vs hR hl ha).mono ?_
 rintro e w' ⟨z,cx,rfl,rfl,k1,k2,k3,k4,k5,k6,k7⟩
 obtain ⟨cx1,hc1,e2,hs1,hfr⟩:=freeze_all k2 k1 (idsF a++idsF b)
 have hz:RepP cx1.w cx1.R (.tup [frz (fun i=>H[i]?) a,frz (fun i=>H[i]?) b]) z:=by
  obtain ⟨us,rfl,h1,h2⟩: ∃ us:Array Value,z= .tuple us∧2=us.size∧ ∀ (j:Nat) x v,[a,b][j]? =some x→us[j]? =some v→Rep cx x v:=by
   cases k7 with
   |pure h=>cases h with
    |tup hl h=>exact ⟨_,rfl,hl,fun j x v h1 h2=> .pure (h j x v h1 h2)⟩
   |tup hl h=>exact ⟨_,rfl,hl,h⟩
  refine .tup h1 fun j x v hx hv=> ?_
  match j,hx with
  |0,hx=>
   simp only [List.getElem?_cons_zero,Option.some.injEq] at hx
   subst hx
   exact hfr a v (h2 0 a v rfl hv) fun _ h=>List.mem_append_left _ h
  |1,hx=>
   simp only [List.getElem?_cons_succ,List.getElem?_cons_zero,Option.some.injEq] at hx
   subst hx
   exact hfr b v (h2 1 b v rfl hv) fun _ h=>List.mem_append_right _ h
  |j+2,hx=>simp at hx
 refine ⟨z,⟨cx1.w,cx1.R,fun _=>none,fun i=>([]:List Blk)[i]?,cx1.B⟩,rfl,e2.symm,rfl,forget_rep hc1,by rw [hs1.ext.B];exact k3,fun g hg=>hs1.ext.R g (k4 g hg),fun g hg=> ?_,k6, .pure hz⟩
 rcases hs1.ext.Rn g hg with h1 |h1
 ·exact k5 g h1
 ·rw [k3] at h1;exact .inr (Nat.not_lt.1 h1)
theorem RepP.ofRd {w:World} {A:Option Addr} {c:Nat} {k:IntKind} {z:List Int} (hr:Rd w w.heap.size A (z.map (Value.int k))) (hc:z.length≤c) (hm:c≤maxLen):RepP w (fun g=>g<w.heap.size) (.row 1 z.length fun i _=> .int k (z.getD i 0)) (.slice A z.length c):=by
 refine .row A c (fun i _=> .int k (z.getD i 0)) hc hm (fun h=> ?_) (fun _ _ _ _=>rfl) (fun _ _ _ _=> .int _ _)
 obtain ⟨ad,rfl,hb,hcell⟩:=hr (by rw [List.length_map];omega)
 obtain ⟨g,o,sp⟩:=ad
 have h0:=hcell 0 _ (List.getElem?_eq_getElem (by rw [List.length_map];omega))
 rw [adr_zero] at h0
 have hsp:sp=none:=by
  unfold World.cell? at h0
  split at h0
  ·cases sp with
   |none=>rfl
   |some x=>simp at h0
  ·cases h0
 subst hsp
 refine ⟨g,o,rfl,hb,fun i hi j hj=> ?_⟩
 have h1:=hcell i (.int k (z.getD i 0)) (by simp [List.getD,hi])
 rw [show Addr.add ⟨g,o,none⟩ i=⟨g,o+i,none⟩ from adr_mk g o i] at h1
 rw [show o+(i*1+j)=o+i by omega]
 exact h1
theorem PureC.lawB {f:FuncId} {args:List AV} {b:Bool} (h:PureC P f args (.bool b) []) {W:World} {R:Nat→Prop} {vs:Array Value} (hR: ∀ g,R g→g<W.heap.size) (hl:args.length=vs.size) (ha: ∀ (j:Nat) a v,args[j]? =some a→vs[j]? =some v→RepP W R a v):Calls P f vs W (RetB (.bool b) W):=by
 refine (h W R vs hR hl ha).mono ?_
 rintro e w' ⟨z,cx,rfl,rfl,_,_,_,_,_,hb,hz⟩
 refine ⟨?_,hb⟩
 cases hz with
 |pure h=>cases h;rfl
end
end
end Go.Proofs.Ytfjapapiappacaa.Rx
namespace Go.Proofs.Ytfjapapiappacaa.Rx
section
open Go.RowKit
def shr1 (id n:Nat):AV→Option (List Prop)
 | .own i _ _ off len=>bif Nat.beq i id then some [off+len≤n] else some []
 | .eptr i _ _ _ _=>bif Nat.beq i id then none else some []
 | .bsl .. =>none
 | .agg _=>none
 | .tup _=>none
 | .clo _ (_::_)=>none
 |_=>some []
def shrL (id n:Nat):List AV→Option (List Prop)
 | []=>some []
 |a::l=>(shr1 id n a).bind fun p=>(shrL id n l).map (p++ ·)
def shrV (id n:Nat):AV→Option (List Prop)
 | .agg cs=>shrL id n cs
 | .clo _ (c::cs)=>shrL id n (c::cs)
 |a=>shr1 id n a
def shrE (id n:Nat):List (Nat×AV)→Option (List Prop)
 | []=>some []
 |q::l=>(shrV id n q.2).bind fun p=>(shrE id n l).map (p++ ·)
def shrB (id n:Nat) (q:Nat×Blk):Option (Blk×List Prop):=
 match q.2.c with
 | .box cs=>bif Nat.beq q.1 id then none else (shrL id n cs).map fun p=>(q.2,p)
 | .rows m k f=>bif Nat.beq q.1 id then some ({q.2 with c:= .rows m n f},[n≤k]) else some (q.2,[])
def shrH (id n:Nat):List (Nat×Blk)→Option (List (Nat×Blk)×List Prop)
 | []=>some ([],[])
 |q::l=>(shrB id n q).bind fun b=>(shrH id n l).map fun r=>((q.1,b.1)::r.1,b.2++r.2)
def shrS (id n:Nat) (J:Sm):Option (Sm×List Prop):=
 (shrH id n J.heap).bind fun h=>(shrE id n J.env).map fun p=>(⟨J.env,h.1,J.next⟩,h.2++p)
def vcShr (id n:Nat) (J:Sm) (r:List (Nat×Nat)) (K:Sm):Prop:=
 match shrS id n J with
 |some q=>match leS r q.1.st K with
  |some ps=>allP (q.2++ps)
  |none=>False
 |none=>False
section
variable {P:Program}
theorem shrH_get {id n:Nat}: ∀ {l:List (Nat×Blk)} {l':List (Nat×Blk)} {ps:List Prop},shrH id n l=some (l',ps)→(∀ p∈ps,p)→ ∀ k,(lookO l k=none∧lookO l' k=none)∨ ∃ b b' qs,lookO l k=some b∧lookO l' k=some b'∧shrB id n (k,b)=some (b',qs)∧ ∀ q∈qs,q
 | [],l',ps,h,hp,k=>by
  simp only [shrH,Option.some.injEq,Prod.mk.injEq] at h
  obtain ⟨rfl,rfl⟩:=h
  exact .inl ⟨rfl,rfl⟩
 | (i,b)::l,l',ps,h,hp,k=>by
  unfold shrH at h
  obtain ⟨q,hq,h⟩:=Option.bind_eq_some_iff.1 h
  obtain ⟨r,hr,h⟩:=Option.map_eq_some_iff.1 h
  simp only [Prod.mk.injEq] at h
  obtain ⟨rfl,rfl⟩:=h
  unfold lookO
  cases hk:Nat.beq k i with
  |true=>
   obtain rfl:=Nat.eq_of_beq_eq_true hk
   exact .inr ⟨b,q.1,q.2,rfl,rfl,hq,fun x hx=>hp x (List.mem_append_left _ hx)⟩
  |false=>exact shrH_get (by rw [hr]) (fun x hx=>hp x (List.mem_append_right _ hx)) k
theorem shrE_get {id n:Nat}: ∀ {l:List (Nat×AV)} {ps:List Prop},shrE id n l=some ps→(∀ p∈ps,p)→ ∀ t, ∃ qs,shrV id n (look .junk l t)=some qs∧ ∀ q∈qs,q
 | [],ps,h,hp,t=>⟨[],rfl,fun q hq=>by cases hq⟩
 | (i,a)::l,ps,h,hp,t=>by
  unfold shrE at h
  obtain ⟨q,hq,h⟩:=Option.bind_eq_some_iff.1 h
  obtain ⟨r,hr,rfl⟩:=Option.map_eq_some_iff.1 h
  unfold look
  cases hk:Nat.beq t i with
  |true=>exact ⟨q,hq,fun x hx=>hp x (List.mem_append_left _ hx)⟩
  |false=>exact shrE_get hr (fun x hx=>hp x (List.mem_append_right _ hx)) t
theorem shrL_get {id n:Nat}: ∀ {l:List AV} {ps:List Prop},shrL id n l=some ps→(∀ p∈ps,p)→ ∀ (j:Nat) a,l[j]? =some a→ ∃ qs,shr1 id n a=some qs∧ ∀ q∈qs,q
 | [],ps,h,hp,j,a,ha=>by simp at ha
 |x::l,ps,h,hp,j,a,ha=>by
  unfold shrL at h
  obtain ⟨q,hq,h⟩:=Option.bind_eq_some_iff.1 h
  obtain ⟨r,hr,rfl⟩:=Option.map_eq_some_iff.1 h
  cases j with
  |zero=>
   simp only [List.getElem?_cons_zero,Option.some.injEq] at ha
   subst ha
   exact ⟨q,hq,fun x hx=>hp x (List.mem_append_left _ hx)⟩
  |succ j=>exact shrL_get hr (fun x hx=>hp x (List.mem_append_right _ hx)) j a (by simpa using ha)
theorem SRep.shr [Dfs] {cx:Cx} {J J':Sm} {a:Act} {nt id n:Nat} {ps:List Prop} (hs:SRep cx J.st a nt) (h:shrS id n J=some (J',ps)) (hp: ∀ p∈ps,p): ∃ cx',SRep cx' J'.st a nt∧Ext cx cx'∧cx'.w=cx.w:=by
 unfold shrS at h
 obtain ⟨q,hq,h⟩:=Option.bind_eq_some_iff.1 h
 obtain ⟨pe,he,h⟩:=Option.map_eq_some_iff.1 h
 simp only [Prod.mk.injEq] at h
 obtain ⟨rfl,rfl⟩:=h
 have hget:=shrH_get (l':=q.1) (ps:=q.2) hq fun p hp'=>hp p (List.mem_append_left _ hp')
 have hget':=shrE_get he fun p hp'=>hp p (List.mem_append_right _ hp')
 have hH:cx.H=lookO J.heap:=hs.H
 have one: ∀ (x:AV) (v:Value) (qs:List Prop),shr1 id n x=some qs→(∀ q∈qs,q)→Rep cx x v→Rep ⟨cx.w,cx.R,cx.φ,lookO q.1,cx.B⟩ x v:=by
  intro x v qs hx hqs hr
  cases x with
  |own i g m off len=>
   obtain ⟨b,hb,hle,hO⟩:=hr.own_inv
   have ho:=hr.own_one
   rw [hH] at hb
   rcases hget i with ⟨h1,_⟩|⟨b1,b2,rs,h1,h2,h3,h4⟩
   ·rw [hb] at h1;cases h1
   ·rw [hb] at h1;cases h1
    have hgen:b2.gen=b.gen:=by
     unfold shrB at h3
     split at h3
     ·obtain ⟨_,h3⟩:Nat.beq i id=false∧_:=by
       cases hk:Nat.beq i id with
       |true=>rw [hk] at h3;cases h3
       |false=>exact ⟨rfl,by rw [hk] at h3;exact h3⟩
      simp only [cond_false] at h3
      obtain ⟨p,_,h3⟩:=Option.map_eq_some_iff.1 h3
      cases h3;rfl
     ·cases hk:Nat.beq i id with
      |true=>rw [hk] at h3;simp only [cond_true,Option.some.injEq,Prod.mk.injEq] at h3;rw [←h3.1]
      |false=>rw [hk] at h3;simp only [cond_false,Option.some.injEq,Prod.mk.injEq] at h3;rw [←h3.1]
    refine .own h2 (by rw [hgen];exact hle) ho fun e=> ?_
    obtain ⟨k,f,k1,k2,k3⟩:=hO (by rw [←hgen];exact e)
    unfold shrB at h3
    simp only [k1] at h3
    simp only [shr1] at hx
    cases hk:Nat.beq i id with
    |true=>
     rw [hk] at h3 hx
     simp only [cond_true,Option.some.injEq,Prod.mk.injEq] at h3 hx
     subst hx
     have hlen:=hqs _ (List.mem_singleton.2 rfl)
     exact ⟨n,f,by rw [←h3.1],hlen,k3⟩
    |false=>
     rw [hk] at h3
     simp only [cond_false,Option.some.injEq,Prod.mk.injEq] at h3
     exact ⟨k,f,by rw [←h3.1];exact k1,k2,k3⟩
  |bptr i off=>
   obtain ⟨g,cap,b,h1,h2,h3,rfl⟩:=hr.bptr_inv
   rw [hH] at h1
   rcases hget i with ⟨h4,_⟩|⟨b1,b2,rs,h4,h5,h6,h7⟩
   ·rw [h1] at h4;cases h4
   ·rw [h1] at h4;cases h4
    refine .bptr h5 ?_ h3
    unfold shrB at h6
    split at h6
    ·cases hk:Nat.beq i id with
     |true=>rw [hk] at h6;cases h6
     |false=>
      rw [hk] at h6
      simp only [cond_false] at h6
      obtain ⟨p,_,h6⟩:=Option.map_eq_some_iff.1 h6
      cases h6;exact h2
    ·rename_i m kk f hc
     have hc':b.c= .rows m kk f:=hc
     rw [hc'] at h2;cases h2
  |eptr i g m k j=>
   simp only [shr1] at hx
   obtain ⟨b,hb,hle,hE⟩:=hr.eptr_inv
   have ho:=hr.eptr_ptr
   rw [hH] at hb
   cases hk:Nat.beq i id with
   |true=>rw [hk] at hx;cases hx
   |false=>
    rcases hget i with ⟨h1,_⟩|⟨b1,b2,rs,h1,h2,h3,h4⟩
    ·rw [hb] at h1;cases h1
    ·rw [hb] at h1;cases h1
     have e2:b2=b:=by
      unfold shrB at h3
      simp only [hk,cond_false] at h3
      split at h3
      ·obtain ⟨p,_,h3⟩:=Option.map_eq_some_iff.1 h3
       cases h3;rfl
      ·cases h3;rfl
     subst e2
     exact .eptr h2 hle ho hE
  |bsl i m k=>cases hx
  |agg cs=>cases hx
  |tup cs=>cases hx
  |clo f cs=>
   cases cs with
   |cons c cs=>cases hx
   |nil=>
    obtain ⟨vs,rfl,hl,_⟩:=hr.clo_inv
    exact .clo hl fun j a v ha _=>by simp at ha
  |_=>cases hr with |pure h=>exact .pure h
 have val: ∀ (x:AV) (v:Value) (qs:List Prop),shrV id n x=some qs→(∀ q∈qs,q)→Rep cx x v→Rep ⟨cx.w,cx.R,cx.φ,lookO q.1,cx.B⟩ x v:=by
  intro x v qs hx hqs hr
  cases x with
  |agg cs=>
   obtain ⟨vs,rfl,h1,h2,h3⟩:=hr.agg_inv
   refine .agg h1 h2 fun j y u hy hu=> ?_
   obtain ⟨rs,r1,r2⟩:=shrL_get hx hqs j y hy
   exact one y u rs r1 r2 (h3 j y u hy hu)
  |clo f cs=>
   cases cs with
   |nil=>exact one _ _ _ hx hqs hr
   |cons c cs=>
    obtain ⟨vs,rfl,hl,h3⟩:=hr.clo_inv
    refine .clo hl fun j y u hy hu=> ?_
    obtain ⟨rs,r1,r2⟩:=shrL_get hx hqs j y hy
    exact one y u rs r1 r2 (h3 j y u hy hu)
  |_=>exact one _ _ _ hx hqs hr
 refine ⟨⟨cx.w,cx.R,cx.φ,lookO q.1,cx.B⟩,⟨rfl,⟨fun k b hb=> ?_,fun k k' g c c' h1 h2 h3 h4=> ?_,hs.c.rlt,hs.c.blt⟩,fun t=> ?_,fun k hk=> ?_,hs.sz,hs.df⟩,⟨rfl,fun _ h=>h,fun _ h=> .inl h,rfl,rfl,rfl,Nat.le_refl _,fun _ _ _=>rfl⟩,rfl⟩
 ·rcases hget k with ⟨_,h1⟩|⟨b1,b2,rs,h1,h2,h3,h4⟩
  ·have hb':lookO q.1 k=some b:=hb
   rw [h1] at hb';cases hb'
  ·have hb':lookO q.1 k=some b:=hb
   rw [h2] at hb';cases hb'
   have hold:=hs.c.hb k b1 (by rw [hH];exact h1)
   unfold shrB at h3
   unfold HB at hold ⊢
   split at h3
   ·rename_i cs hcs'
    have hcs:b1.c= .box cs:=hcs'
    cases hk:Nat.beq k id with
    |true=>rw [hk] at h3;cases h3
    |false=>
     rw [hk] at h3
     simp only [cond_false] at h3
     obtain ⟨p,hp1,h3⟩:=Option.map_eq_some_iff.1 h3
     simp only [Prod.mk.injEq] at h3
     obtain ⟨rfl,rfl⟩:=h3
     rw [hcs] at hold ⊢
     simp only at hold ⊢
     obtain ⟨g,cur,c1,c2,c3,c4,c5,c6⟩:=hold
     refine ⟨g,cur,c1,c2,c3,fun j x hx=> ?_,c5,c6⟩
     obtain ⟨u,u1,u2,u3⟩:=c4 j x hx
     obtain ⟨ss,s1,s2⟩:=shrL_get hp1 h4 j x hx
     exact ⟨u,u1,u2,one x u ss s1 s2 u3⟩
   ·rename_i m kk f hcs'
    have hcs:b1.c= .rows m kk f:=hcs'
    rw [hcs] at hold
    simp only at hold
    cases hk:Nat.beq k id with
    |true=>
     rw [hk] at h3
     simp only [cond_true,Option.some.injEq,Prod.mk.injEq] at h3
     obtain ⟨rfl,rfl⟩:=h3
     have hle:=h4 _ (List.mem_singleton.2 rfl)
     rcases hold with ⟨c1,c2⟩|⟨g,cap,cur,c1,c2,c3,c4,c5,c6,c7⟩
     ·exact .inl ⟨c1,by omega⟩
     ·exact .inr ⟨g,cap,cur,c1,c2,c3,by omega,c5,fun i hi j hj=>c6 i (by omega) j hj,c7⟩
    |false=>
     rw [hk] at h3
     simp only [cond_false,Option.some.injEq,Prod.mk.injEq] at h3
     obtain ⟨rfl,rfl⟩:=h3
     rw [hcs]
     exact hold
 ·have conv: ∀ i,(lookO q.1 i).isSome=true→(cx.H i).isSome=true:=fun i hi=>by
   rw [hH]
   rcases hget i with ⟨_,e1⟩|⟨b1,b2,rs,e1,e2,_⟩
   ·rw [e1] at hi;cases hi
   ·rw [e1];rfl
  exact hs.c.inj k k' g c c' (conv k h1) (conv k' h2) h3 h4
 ·obtain ⟨rs,r1,r2⟩:=hget' t
  exact val _ _ rs r1 r2 (hs.env t)
 ·have hi:(lookO q.1 k).isSome=true:=hk
  have:(cx.H k).isSome=true:=by
   rw [hH]
   rcases hget k with ⟨_,e1⟩|⟨b1,b2,rs,e1,e2,_⟩
   ·rw [e1] at hi;cases hi
   ·rw [e1];rfl
  rw [hs.H] at this
  exact hs.lt k this
theorem Ok.shr {nt:Nat} {c:Code} {I:St} {x:X} {id n:Nat} {J K:Sm} {r:List (Nat×Nat)} (h:Ok P nt c I x J.st) (hv:Vc (vcShr id n J r K)):Ok P nt c I x K.st:=by
 replace hv:=hv.out
 unfold vcShr at hv
 split at hv
 ·rename_i q hq
  split at hv
  ·rename_i ps hps
   have hall:=allP_mem hv
   intro d0 cx a hs Q hQ
   refine h d0 cx a hs Q fun d1 cx1 a1 hs1 ha1=> ?_
   obtain ⟨cx1p,hw,hs1p,hk⟩:=ha1.plus hs1
   obtain ⟨cx2,hs2,he2,hw2⟩:=hs1p.shr hq fun p hp=>hall p (List.mem_append_left _ hp)
   obtain ⟨cx3,hs3,he3,hw3⟩:=hs2.le hps fun p hp=>hall p (List.mem_append_right _ hp)
   obtain ⟨cx4,e4,hs4,ha4⟩:=hk d1 cx3 _ a1 _ hs3 (.of_ext (he2.trans he3))
   rw [←hw, ←hw2, ←hw3, ←e4]
   exact hQ d1 cx4 a1 hs4 ha4
  ·cases hv
 ·cases hv
theorem PureC.frozenT {f:FuncId} {args l:List AV} {H:List Blk} (h:PureC P f args (.tup l) H):PureC P f args (.tup (l.map (frz (fun i=>H[i]?)))) []:=by
 intro w R vs hR hl ha
 refine (h w R vs hR hl ha).mono ?_
 rintro e w' ⟨z,cx,rfl,rfl,k1,k2,k3,k4,k5,k6,k7⟩
 obtain ⟨cx1,hc1,e2,hs1,hfr⟩:=freeze_all k2 k1 (l.flatMap idsF)
 have hz:RepP cx1.w cx1.R (.tup (l.map (frz (fun i=>H[i]?)))) z:=by
  obtain ⟨us,rfl,h1,h2⟩: ∃ us:Array Value,z= .tuple us∧l.length=us.size∧ ∀ (j:Nat) x v,l[j]? =some x→us[j]? =some v→Rep cx x v:=by
   cases k7 with
   |pure h=>cases h with
    |tup hl h=>exact ⟨_,rfl,hl,fun j x v h1 h2=> .pure (h j x v h1 h2)⟩
   |tup hl h=>exact ⟨_,rfl,hl,h⟩
  refine .tup (by simpa using h1) fun j x v hx hv=> ?_
  rw [List.getElem?_map] at hx
  obtain ⟨y,hy,rfl⟩:=Option.map_eq_some_iff.1 hx
  exact hfr y v (h2 j y v hy hv) fun i hi=>List.mem_flatMap.2 ⟨y,List.mem_of_getElem? hy,hi⟩
 refine ⟨z,⟨cx1.w,cx1.R,fun _=>none,fun i=>([]:List Blk)[i]?,cx1.B⟩,rfl,e2.symm,rfl,forget_rep hc1,by rw [hs1.ext.B];exact k3,fun g hg=>hs1.ext.R g (k4 g hg),fun g hg=> ?_,k6, .pure hz⟩
 rcases hs1.ext.Rn g hg with h1 |h1
 ·exact k5 g h1
 ·rw [k3] at h1;exact .inr (Nat.not_lt.1 h1)
end
end
end Go.Proofs.Ytfjapapiappacaa.Rx
namespace Go.Proofs.Ytfjapapiappacaa.Rx
section
open Go.RowKit
section
variable {P:Program} {ops:Array Oper} {Q:Exit→Act→World→Prop} {r n:Nat}
theorem upon_in {o:Oper} {a:Act} {K K':Act→World→Prop} (hK: ∀ a w,K a w→K' a w) (res:Result Next) (h:o.upon P a K Q res):o.uponIn (Fence.wide.inRound r) n P a K' Q res:=by
 cases res with
 |ok x w'=>
  cases x<;>simp only [Oper.upon,Oper.uponIn] at h ⊢
  case value=>exact hK _ _ h
  case skip=>exact hK _ _ h
  case defer=>exact hK _ _ h
  case enter f args=>exact ⟨by simp [Fence.wide,Fence.inRound],CallsIn.inRound r (callsIn_wide.2 (h.mono fun e w'' he=>by cases e<;>first |exact hK _ _ he |exact he))⟩
  case row row args=>exact ⟨by simp [Fence.wide,Fence.inRound],fun c cs _=>let ⟨v,w'',q,s⟩:=h c cs;⟨v,w'',hK _ _ q,stepsIn_wide.2 s⟩⟩
  all_goals exact h
 |halt x w'=>cases x<;>simp only [Oper.upon,Oper.uponIn] at h ⊢ <;>exact h
def noDefer (ops:Array Oper):Bool:=ops.toList.all fun o=>match o.op with | .defer _=>false |_=>true
theorem noDefer_op {i:Nat} {o:Oper} (h:noDefer ops=true) (ho:ops[i]? =some o): ∀ c,o.op≠ .defer c:=fun c e=>by
 unfold noDefer at h
 rw [List.all_eq_true] at h
 have:=h o (by have:=Array.mem_of_getElem? ho;simpa using this)
 rw [e] at this
 simp at this
theorem wpOpsIn_of (hL: ¬LetsOut Q) (hd:noDefer ops=true): ∀ (l:List Nat) (a:Act) (w:World),wpOps P ops Q l a w→wpOpsIn (Fence.wide.inRound r) n P ops Q l a w
 | [],a,w,h=>h
 |i::l,a,w,h=>by
  unfold wpOps at h
  unfold wpOpsIn
  cases ho:ops[i]? with
  |none=>rw [ho] at h;exact wpOpsIn_of hL hd l a w h
  |some o=>
   rw [ho] at h
   simp only at h ⊢
   split
   ·rename_i hw
    rw [if_pos hw] at h
    rcases h with h |h
    ·refine ⟨fun f _=>trivial, ?_⟩
     rw [show Oper.semAt (Fence.wide.inRound r).round a.eval o=execOp a.eval o from Oper.semAt_eq _ _ _ (noDefer_op hd ho)]
     exact upon_in (fun a w=>wpOpsIn_of hL hd l a w) _ h
    ·exact absurd h.2 hL
   ·rename_i hw
    rw [if_neg hw] at h
    exact ⟨fun f _=>trivial,wpOpsIn_of hL hd l _ w h⟩
theorem wpIn_any {id:Nat} {a:Act} {w:World} (hL: ¬LetsOut Q) (hd:noDefer ops=true) (hm:P.follows .mixedOrders=true)
  (h:wpAny P .any ops Q ops.size (Array.replicate ops.size false) a {w with drawn:=w.drawn+1}):(Code.region id ops true).wpIn (Fence.wide.inRound r) n P Q a w:=
 wpIn_region_draw fun t=>by
  simp only [Region.schedule,hm,Bool.true_or,if_true]
  exact wpOpsIn_of hL hd _ a _ (wpAny_sound ops.size t _ a _ h)
end
def plainC:Code→Bool
 | .skip | .exit _ | .ret=>true
 | .region _ ops _=>noDefer ops
 | .seq a b | .cond _ a b=>plainC a&&plainC b
 | .block _ c=>plainC c
 |_=>false
section
variable {P:Program}
abbrev nil0:Dfs:=⟨[]⟩
theorem evCodeR_sound {md:Bool} {call:CallF} (hcall:CallOk P call) {nt l n:Nat}: ∀ (c:Code) {st:St} {orc:List Orc} {q:X×St×List Orc×List Prop} {cx:Cx} {a:Act},plainC c=true→evCode P (drawA P md) false md call nt c st orc=some q→(∀ p∈q.2.2.2,p)→ @SRep nil0 cx st a nt→
  ∀ Q:Exit→Act→World→Prop, ¬LetsOut Q→(∀ cx' a', @SRep nil0 cx' q.2.1 a' nt→Stab cx cx'→Q q.1.to a' cx'.w)→c.wpIn (Fence.wide.inRound l) n P Q a cx.w
 | .skip,st,orc,q,cx,a,hc,h,hp,hs,Q,hL,hQ=>by
  simp only [evCode,Option.some.injEq] at h;subst h
  exact wpIn_skip (hQ cx a hs (Stab.refl cx))
 | .region id ops draw,st,orc,q,cx,a,hc,h,hp,hs,Q,hL,hQ=>by
  have hreg: ∀ {orc':List Orc} {q1:St×List Orc×List Prop},evReg P (drawA P md) md call nt ops draw st orc'=some q1→(∀ p∈q1.2.2,p)→(∀ cx' a', @SRep nil0 cx' q1.1 a' nt→Stab cx cx'→Q .normal a' cx'.w)→(Code.region id ops draw).wpIn (Fence.wide.inRound l) n P Q a cx.w:=by
   intro orc' q1 hq1 hp1 hQ1
   unfold evReg at hq1
   cases draw with
   |true=>
    obtain ⟨h1,h2⟩:= @drawA_any P nil0 md call hcall nt ops st orc' q1 cx a hq1 hp1 hs Q hQ1
    exact wpIn_any hL hc h1 h2
   |false=>exact wpIn_region (wpOpsIn_of hL hc _ a _ (@evOps_sound P nil0 md call hcall nt ops Q _ _ _ _ _ _ hq1 hp1 hs hQ1))
  unfold evCode at h
  split at h
  ·simp at h
  ·cases hdw:draw with
   |true=>rw [hdw] at h;simp at h
   |false=>
    rw [hdw] at h
    simp only [cond_false] at h
    obtain ⟨q1,hq1,rfl⟩:=Option.map_eq_some_iff.1 h
    rw [←hdw] at hq1 ⊢
    exact hreg hq1 hp hQ
  ·obtain ⟨q1,hq1,rfl⟩:=Option.map_eq_some_iff.1 h
   exact hreg hq1 hp hQ
 | .seq c d,st,orc,q,cx,a,hc,h,hp,hs,Q,hL,hQ=>by
  unfold evCode at h
  rw [plainC,Bool.and_eq_true] at hc
  obtain ⟨q1,hq1,h1⟩:=Option.bind_eq_some_iff.1 h
  clear h
  refine wpIn_seq ?_
  split at h1
  ·rename_i hx
   obtain ⟨q2,hq2,rfl⟩:=Option.map_eq_some_iff.1 h1
   refine evCodeR_sound hcall c hc.1 hq1 (fun p hp'=>hp p (by simp [hp'])) hs _ (fun ⟨a,w,h⟩=>hL ⟨a,w,h⟩) fun cx1 a1 hs1 ha1=> ?_
   rw [hx]
   exact evCodeR_sound hcall d hc.2 hq2 (fun p hp'=>hp p (by simp [hp'])) hs1 Q hL fun cx2 a2 hs2 ha2=>hQ cx2 a2 hs2 (ha1.trans ha2)
  ·rename_i hx
   simp only [Option.some.injEq] at h1;subst h1
   refine evCodeR_sound hcall c hc.1 hq1 hp hs _ (fun ⟨a,w,h⟩=>hL ⟨a,w,h⟩) fun cx1 a1 hs1 ha1=> ?_
   have:=hQ cx1 a1 hs1 ha1
   cases hxx:q1.1 with
   |nrm=>exact absurd hxx hx
   |ext id=>rw [hxx] at this;exact this
   |ret=>rw [hxx] at this;exact this
 | .cond x c d,st,orc,q,cx,a,hc,h,hp,hs,Q,hL,hQ=>by
  unfold evCode at h
  rw [plainC,Bool.and_eq_true] at hc
  split at h
  ·simp at h
  split at h
  ·rename_i t ht
   have hr:=rep_eval (cx:=cx) (a:=a) (@SRep.env nil0 _ _ _ _ hs) x
   rw [ht] at hr
   have hv:=hr.bool_inv
   split at h
   ·rename_i t' orc' _
    obtain ⟨q1,hq1,rfl⟩:=Option.map_eq_some_iff.1 h
    have e:=hp (t=t') (by simp)
    subst e
    refine wpIn_cond hv ?_
    cases t with
    |true=>exact evCodeR_sound hcall c hc.1 hq1 (fun p hp'=>hp p (by simp [hp'])) hs Q hL hQ
    |false=>exact evCodeR_sound hcall d hc.2 hq1 (fun p hp'=>hp p (by simp [hp'])) hs Q hL hQ
   ·refine wpIn_cond hv ?_
    cases t with
    |true=>exact evCodeR_sound hcall c hc.1 h hp hs Q hL hQ
    |false=>exact evCodeR_sound hcall d hc.2 h hp hs Q hL hQ
  ·cases h
 | .block id c,st,orc,q,cx,a,hc,h,hp,hs,Q,hL,hQ=>by
  unfold evCode at h
  split at h
  ·simp at h
  obtain ⟨q1,hq1,h1⟩:=Option.map_eq_some_iff.1 h
  clear h
  refine wpIn_block ?_
  have hcs:q1.2.2.2=q.2.2.2∧q1.2.1=q.2.1:=by
   rw [←h1]
   cases hx:q1.1 with
   |nrm=>exact ⟨rfl,rfl⟩
   |ext i=>
    simp only
    cases Nat.beq i id<;>exact ⟨rfl,rfl⟩
   |ret=>exact ⟨rfl,rfl⟩
  refine evCodeR_sound hcall c (by simpa [plainC] using hc) hq1 (by rw [hcs.1];exact hp) hs _ (fun ⟨a,w,h⟩=>hL ⟨a,w,h⟩) fun cx1 a1 hs1 ha1=> ?_
  have:=hQ cx1 a1 (by rw [←hcs.2];exact hs1) ha1
  cases hx:q1.1 with
  |nrm=>
   rw [hx] at h1
   simp only at h1
   rw [←h1,hx] at this
   exact this
  |ext i=>
   rw [hx] at h1
   simp only at h1
   cases hb:Nat.beq i id with
   |true=>
    rw [hb] at h1
    simp only [cond_true] at h1
    have e:=Nat.eq_of_beq_eq_true hb
    subst e
    rw [←h1] at this
    simp only [X.to,Exit.inBlock,if_true]
    exact this
   |false=>
    rw [hb] at h1
    simp only [cond_false] at h1
    rw [←h1,hx] at this
    have hne: ¬i=id:=fun e=>by rw [e,Nat.beq_refl] at hb;cases hb
    simp only [X.to,Exit.inBlock,hne,if_false]
    exact this
  |ret=>
   rw [hx] at h1
   simp only at h1
   rw [←h1,hx] at this
   exact this
 | .exit id,st,orc,q,cx,a,hc,h,hp,hs,Q,hL,hQ=>by
  simp only [evCode,Option.some.injEq] at h;subst h
  exact wpIn_exit (hQ cx a hs (Stab.refl cx))
 | .ret,st,orc,q,cx,a,hc,h,hp,hs,Q,hL,hQ=>by
  simp only [evCode,Option.some.injEq] at h;subst h
  exact wpIn_ret (hQ cx a hs (Stab.refl cx))
 | .loop _,st,orc,q,cx,a,hc,h,hp,hs,Q,hL,hQ=>by cases hc
 | .rangeFunc ..,st,orc,q,cx,a,hc,h,hp,hs,Q,hL,hQ=>by cases hc
 | .scope _,st,orc,q,cx,a,hc,h,hp,hs,Q,hL,hQ=>by cases hc
 | .label _,st,orc,q,cx,a,hc,h,hp,hs,Q,hL,hQ=>by cases hc
 | .goto _,st,orc,q,cx,a,hc,h,hp,hs,Q,hL,hQ=>by cases hc
 | .refuse _,st,orc,q,cx,a,hc,h,hp,hs,Q,hL,hQ=>by cases hc
end
end
end Go.Proofs.Ytfjapapiappacaa.Rx
namespace Go.Proofs.Ytfjapapiappacaa.Rx
section
open Go.RowKit
def IterC (P:Program) (gf:FuncId) (caps:List AV) (N:Nat) (xs:Nat→List AV):Prop:=
 ∀ (w:World) (R:Nat→Prop) (vs:Array Value),(∀ g,R g→g<w.heap.size)→caps.length=vs.size→(∀ (j:Nat) a v,caps[j]? =some a→vs[j]? =some v→RepP w R a v)→
  ∀ (n l:Nat) (J:Nat→World→Prop) (Jx:World→Prop),(∀ k W W',J k W→Below W.heap.size W W'→J k W')→(∀ k W,J k W→ ∀ g,R g→W.heap[g]? =w.heap[g]?)→
   (∀ k W (us:Array Value),J k W→k<N→(xs k).length=us.size→(∀ (j:Nat) a u,(xs k)[j]? =some a→us[j]? =some u→RepP W R a u)→
    YieldAt Fence.wide (n-1) P l us W fun e W'=>(e= .returned (.bool true)∧J (k+1) W')∨(e= .returned (.bool false)∧Jx W'))→
   ∀ W,J 0 W→CallsIn Fence.wide n P gf (#[.func (.yield l) #[] #[]]++vs) W fun e W'=>(∃ v,e= .returned v)∧(J N W'∨Jx W')
structure BSt (cx cx':Cx):Prop where
 ext:Ext cx cx'
 box: ∀ id b,cx.H id=some b→b.c.isBox=true→ ∃ b',cx'.H id=some b'∧b'.c.isBox=true∧cx'.φ id=cx.φ id
theorem Stab.bst {cx cx':Cx} (h:Stab cx cx'):BSt cx cx':=⟨h.ext,fun id b hb hx=>by
 obtain ⟨b',h1,h2,h3⟩:=h.ids id b hb
 obtain ⟨h4,h5⟩:=h2 (h3 hx)
 exact ⟨b',h1,h5.box hx,h4⟩⟩
theorem BSt.trans {a b c:Cx} (h:BSt a b) (k:BSt b c):BSt a c:=⟨h.ext.trans k.ext,fun id x hx hb=>by
 obtain ⟨y,h1,h2,h3⟩:=h.box id x hx hb
 obtain ⟨z,k1,k2,k3⟩:=k.box id y h1 h2
 exact ⟨z,k1,k2,k3.trans h3⟩⟩
def keepC:AV→Bool
 | .own .. | .eptr .. | .agg _ | .tup _ | .clo _ (_::_)=>false
 |_=>true
def keepA:AV→Bool
 | .agg cs=>cs.all keepC
 | .tup cs=>cs.all keepC
 | .clo _ cs=>cs.all keepC
 |a=>keepC a
theorem Rep.keepC {cx cx':Cx} {a:AV} {v:Value} (h:Rep cx a v) (ha:Rx.keepC a=true) (hc:CRep cx) (hs:BSt cx cx'):Rep cx' a v:=by
 cases h with
 |pure h=>exact .pure (h.ext hc hs.ext)
 |bptr hb hx hg=>
  obtain ⟨b',h1,h2,h3⟩:=hs.box _ _ hb hx
  exact .bptr h1 h2 (h3.trans hg)
 |bsl hb hx hg=>
  obtain ⟨b',h1,h2,h3⟩:=hs.box _ _ hb hx
  exact .bsl h1 h2 (h3.trans hg)
 |eptr hb hle ho h=>cases ha
 |own hb hle ho h=>cases ha
 |agg hl h1 h=>cases ha
 |tup hl h=>cases ha
 | @clo f cs vs hl h=>
  cases cs with
  |nil=>exact .clo hl fun j a v hj=>by simp at hj
  |cons c cs=>cases ha
theorem Rep.keep {cx cx':Cx} {a:AV} {v:Value} (h:Rep cx a v) (ha:keepA a=true) (hc:CRep cx) (hs:BSt cx cx'):Rep cx' a v:=by
 cases h with
 |agg hl h1 h=>exact .agg hl h1 fun j a v hj hv=>(h j a v hj hv).keepC (List.all_eq_true.1 ha a (List.mem_of_getElem? hj)) hc hs
 |tup hl h=>exact .tup hl fun j a v hj hv=>(h j a v hj hv).keepC (List.all_eq_true.1 ha a (List.mem_of_getElem? hj)) hc hs
 |clo hl h=>exact .clo hl fun j a v hj hv=>(h j a v hj hv).keepC (List.all_eq_true.1 ha a (List.mem_of_getElem? hj)) hc hs
 |pure h=>exact .pure (h.ext hc hs.ext)
 |bptr hb hx hg=>exact (Rep.bptr hb hx hg).keepC rfl hc hs
 |bsl hb hx hg=>exact (Rep.bsl hb hx hg).keepC rfl hc hs
 |eptr hb hle ho h=>cases ha
 |own hb hle ho h=>cases ha
def envP (env:Nat→AV):List Nat→List AV→(Nat→AV)
 |p::ps,x::xs=>envP (upd env p x) ps xs
 |_,_=>env
def boxOk (r:List (Nat×Nat)) (Hk Hk':List (Nat×Blk)):Bool:=Hk.all fun q=> !q.2.c.isBox||(match lookO r q.1,lookO Hk' q.1 with
 |some i,some b=>Nat.beq i q.1&&b.c.isBox
 |_,_=>false)
theorem boxOk_some {r:List (Nat×Nat)} {Hk Hk':List (Nat×Blk)} (h:boxOk r Hk Hk'=true) {id:Nat} {b:Blk} (hb:lookO Hk id=some b) (hx:b.c.isBox=true):lookO r id=some id∧ ∃ b',lookO Hk' id=some b'∧b'.c.isBox=true:=by
 have:=List.all_eq_true.1 h _ (lookO_mem hb)
 simp only [hx,Bool.not_true,Bool.false_or] at this
 split at this
 ·rename_i i b' h1 h2
  rw [Bool.and_eq_true] at this
  rw [Nat.eq_of_beq_eq_true this.1] at h1
  exact ⟨h1,b',h2,this.2⟩
 ·cases this
def PieceR (P:Program) (nt:Nat) (c:Code) (st:St) (x:X) (st':St):Prop:=
 ∀ (l n:Nat) (cx:Cx) (a:Act), @SRep nil0 cx st a nt→ ∀ Q:Exit→Act→World→Prop, ¬LetsOut Q→(∀ cx' a', @SRep nil0 cx' st' a' nt→Stab cx cx'→Q x.to a' cx'.w)→c.wpIn (Fence.wide.inRound l) n P Q a cx.w
def Rnd (P:Program) (nt:Nat) (ps:List Nat) (xk:List AV) (assign body:Code) (I:Sm) (Hk:List (Nat×Blk)) (x:X) (Hk':List (Nat×Blk)):Prop:=
 ∃ st1 st2 r qs,PieceR P nt assign ⟨envP I.st.env ps xk,lookO Hk,I.next⟩ .nrm st1∧PieceR P nt body st1 x st2∧boxOk r Hk Hk'=true∧leS r st2 ⟨[],Hk',I.next⟩=some qs∧ ∀ p∈qs,p
def vcRnd (P:Program) (md:Bool) (nt:Nat) (ps:List Nat) (xk:List AV) (assign body:Code) (I:Sm) (Hk:List (Nat×Blk)) (orc:List Orc) (x:X) (r:List (Nat×Nat)) (Hk':List (Nat×Blk)):Prop:=
 match evCode P (drawA P md) false md (callA P (evFn P (drawA P md) md 100 false)) nt assign ⟨envP I.st.env ps xk,lookO Hk,I.next⟩ orc with
 |some q=>match evCode P (drawA P md) false md (callA P (evFn P (drawA P md) md 100 false)) nt body q.2.1 q.2.2.1 with
  |some q2=>bif plainC assign&&plainC body&&eqX q.1 .nrm&&eqX q2.1 x&&boxOk r Hk Hk' then match leS r q2.2.1 ⟨[],Hk',I.next⟩ with
   |some qs=>allP (q.2.2.2++q2.2.2.2++qs)
   |none=>False
   else False
  |none=>False
 |none=>False
section
variable {P:Program}
theorem Rnd.vc {md:Bool} {nt:Nat} {ps:List Nat} {xk:List AV} {assign body:Code} {I:Sm} {Hk Hk':List (Nat×Blk)} {orc:List Orc} {x:X} {r:List (Nat×Nat)} (h:Vc (vcRnd P md nt ps xk assign body I Hk orc x r Hk')):Rnd P nt ps xk assign body I Hk x Hk':=by
 replace h:=h.out
 unfold vcRnd at h
 split at h
 ·rename_i q hq
  split at h
  ·rename_i q2 hq2
   cases hb:plainC assign&&plainC body&&eqX q.1 .nrm&&eqX q2.1 x&&boxOk r Hk Hk' with
   |false=>rw [hb] at h;exact h.elim
   |true=>
    rw [hb] at h
    simp only [cond_true] at h
    simp only [Bool.and_eq_true] at hb
    obtain ⟨⟨⟨⟨b1,b2⟩,b3⟩,b4⟩,b5⟩:=hb
    split at h
    ·rename_i qs hqs
     have hall:=allP_mem h
     refine ⟨q.2.1,q2.2.1,r,qs,fun l n cx a hs Q hL hQ=> ?_,fun l n cx a hs Q hL hQ=> ?_,b5,hqs,fun p hp=>hall p (by simp [hp])⟩
     ·exact evCodeR_sound (callA_evFn 100) assign b1 hq (fun p hp=>hall p (by simp [hp])) hs Q hL (by rw [eqX_eq b3];exact hQ)
     ·exact evCodeR_sound (callA_evFn 100) body b2 hq2 (fun p hp=>hall p (by simp [hp])) hs Q hL (by rw [eqX_eq b4];exact hQ)
    ·cases h
  ·cases h
 ·cases h
theorem envP_rep {cx:Cx}: ∀ (ps:List Nat) (xs:List AV) (us:List Value) (env:Nat→AV) (t:Array Value),xs.length=us.length→ps.length=us.length→(∀ p∈ps,p<t.size)→(∀ i,Rep cx (env i) (t.getD i undef))→(∀ (j:Nat) a u,xs[j]? =some a→us[j]? =some u→Rep cx a u)→
  ∀ i,Rep cx (envP env ps xs i) (((ps.zip us).foldl (fun t q=>t.setIfInBounds q.1 q.2) t).getD i undef)
 | [],xs,us,env,t,h1,h2,hp,he,hx,i=>by cases xs<;>simpa [envP] using he i
 |p::ps,[],us,env,t,h1,h2,hp,he,hx,i=>by simp at h1 h2;omega
 |p::ps,x::xs,[],env,t,h1,h2,hp,he,hx,i=>by simp at h2
 |p::ps,x::xs,u::us,env,t,h1,h2,hp,he,hx,i=>by
  refine envP_rep ps xs us (upd env p x) (t.setIfInBounds p u) (by simpa using h1) (by simpa using h2) (fun q hq=>by rw [Array.size_setIfInBounds];exact hp q (by simp [hq])) (fun k=> ?_) (fun j a v ha hv=>hx (j+1) a v (by simpa using ha) (by simpa using hv)) i
  rw [Array.getD_eq_getD_getElem?,Array.getElem?_setIfInBounds]
  by_cases e:k=p
  ·subst e
   rw [upd_same]
   have:=hp k (by simp)
   simpa [this] using hx 0 x u rfl rfl
  ·rw [upd_other _ _ _ _ e]
   have e': ¬p=k:=fun h=>e h.symm
   simp only [e',if_false]
   rw [←Array.getD_eq_getD_getElem?]
   exact he k
theorem fold_size: ∀ (l:List (Nat×Value)) (t:Array Value),(l.foldl (fun t q=>t.setIfInBounds q.1 q.2) t).size=t.size
 | [],t=>rfl
 |q::l,t=>by rw [List.foldl_cons,fold_size l,Array.size_setIfInBounds]
def recOf' (fn:FuncId) (a:Act) (ps:Array Tmp) (assign body:Code) (D:Nat) (st:LoopState) (pe:Option Code):Loop:={state:=st,pending:=pe,fn,tmps:=a.tmps,params:=ps,assign,body,defers:=D}
def e_post (P:Program) (l:Nat) (jump:Option Code) (w:World) (R:Ending→World→Prop):Prop:= ∃ v w',(Instr.endRound l jump).run P w= .ok v w'∧R (.returned v) w'
structure Btw (P:Program) (cx0:Cx) (I:Sm) (a:Act) (nt:Nat) (l D:Nat) (rec:Loop) (Hk:List (Nat×Blk)) (W:World) (cx:Cx):Prop where
 w:cx.w=W
 s: @SRep nil0 cx ⟨I.st.env,lookO Hk,I.next⟩ a nt
 bst:Ext cx0 cx
 hl:W.heap[l]? =some (.loop rec)
 hR: ¬cx.R l
 hD:W.heap[D]? =some (.deferred (some []))
 hRD: ¬cx.R D
theorem SRep.moved {d:Dfs} {cx cx':Cx} {st:St} {a:Act} {nt:Nat} (hs: @SRep d cx st a nt) (hc:CRep cx') (h:Stab cx cx') (hH:cx'.H=cx.H:=by rfl): @SRep d cx' st a nt:=
 ⟨hH.trans hs.H,hc,fun t=>(hs.env t).stab hs.c h,hs.lt,hs.sz,hs.df⟩
theorem Btw.below {cx0:Cx} {I:Sm} {a:Act} {nt l D:Nat} {rec:Loop} {Hk:List (Nat×Blk)} {W W':World} {cx:Cx} (h:Btw P cx0 I a nt l D rec Hk W cx) (hb:Below W.heap.size W W'):Btw P cx0 I a nt l D rec Hk W' ⟨W',cx.R,cx.φ,cx.H,cx.B⟩:=by
 have hw:=h.w
 subst hw
 obtain ⟨k1,k2⟩:=below_keep (@SRep.c nil0 _ _ _ _ h.s) hb
 have hk: ∀ (g:Nat) (o:Obj),cx.w.heap[g]? =some o→W'.heap[g]? =some o:=fun g o hg=>(hb.block g (Array.getElem?_eq_some_iff.1 hg).1).trans hg
 exact ⟨rfl,h.s.moved k1 k2,h.bst.trans k2.ext,hk _ _ h.hl,h.hR,hk _ _ h.hD,h.hRD⟩
theorem Btw.turn {cx0:Cx} {I:Sm} {a:Act} {nt l D:Nat} {rec:Loop} {Hk:List (Nat×Blk)} {W:World} {cx:Cx} (h:Btw P cx0 I a nt l D rec Hk W cx) (hB: ¬cx.B l) (hne:D≠l) (rec':Loop):Btw P cx0 I a nt l D rec' Hk (W.putObj l (.loop rec')) (cx.poke l (.loop rec')):=by
 have hw:=h.w
 subst hw
 exact ⟨rfl, @SRep.poke nil0 _ _ _ _ h.s l _ _ h.hl rfl h.hR hB,h.bst.trans (poke_stab _ h.hR hB).ext,World.putObj_heap_same (Array.getElem?_eq_some_iff.1 h.hl).1,h.hR,(World.putObj_heap_other hne).trans h.hD,h.hRD⟩
end
end
end Go.Proofs.Ytfjapapiappacaa.Rx
namespace Go.Proofs.Ytfjapapiappacaa.Rx
section
open Go.RowKit
section
variable {P:Program}
theorem Btw.round {nt:Nat} {ps:List Nat} {xk:List AV} {assign body:Code} {I:Sm} {Hk Hk':List (Nat×Blk)} {x:X} (hr:Rnd P nt ps xk assign body I Hk x Hk') {cx0:Cx} {a:Act} {l D fn:Nat} {pa:Array Tmp} {W:World} {cx:Cx}
  (h:Btw P cx0 I a nt l D (recOf' fn a pa assign body D .ready none) Hk W cx) (hB: ¬cx.B l) (hBD: ¬cx.B D) (hne:D≠l) (hkeep:(I.env.all fun q=>keepA q.2)=true) (hps:ps=pa.toList) (hlt: ∀ p∈ps,p<nt)
  {us:Array Value} (hl1:xk.length=us.size) (hl2:xk.length=ps.length) (hu: ∀ (j:Nat) a u,xk[j]? =some a→us[j]? =some u→Rep cx a u) {m:Nat} {jump:Option Code} (hj:jump=match x with | .nrm=>none | .ext id=>some (.exit id)| .ret=>some .ret):
  YieldAt Fence.wide m P l us W fun e W'=>e= .returned (.bool jump.isNone)∧ ∃ cx',Btw P cx0 I a nt l D (recOf' fn a pa assign body D (if jump.isNone then .ready else .done) jump) Hk' W' cx'∧cx'.B=cx.B:=by
 have hw:=h.w
 subst hw
 letI:Dfs:=nil0
 obtain ⟨st1,st2,r,qs,hP1,hP2,hbx,hle,hqs⟩:=hr
 have hs:=h.s
 have hy:=run_yield (P:=P) (args:=us) h.hl (by show us.size=pa.size;rw [←hl1,hl2,hps,Array.length_toList])
 refine ⟨fn,_,assign,body,hy,roundIn_of_wpIn trivial ?_⟩
 clear hy
 have ha0:(({tmps:=(pa.zip us).foldl (fun t q=>t.setIfInBounds q.1 q.2) a.tmps,defers:=[]}:Act)).tmps.size=nt:=by
  show ((pa.zip us).foldl (fun t q=>t.setIfInBounds q.1 q.2) a.tmps).size=nt
  rw [←Array.foldl_toList,fold_size]
  exact hs.sz
 have hs1: @SRep nil0 cx ⟨envP I.st.env ps xk,lookO Hk,I.next⟩ {tmps:=(pa.zip us).foldl (fun t q=>t.setIfInBounds q.1 q.2) a.tmps,defers:=[]} nt:=by
  refine @SRep.mk nil0 _ _ _ _ hs.H (@SRep.c nil0 _ _ _ _ hs) (fun t=> ?_) hs.lt ha0 rfl
  show Rep cx _ (((pa.zip us).foldl (fun t q=>t.setIfInBounds q.1 q.2) a.tmps).getD t undef)
  rw [←Array.foldl_toList,Array.toList_zip, ←hps]
  exact envP_rep ps xk us.toList I.st.env a.tmps (by simpa using hl1) (by rw [←hl2,hl1,Array.length_toList]) (fun p hp=>by rw [hs.sz];exact hlt p hp) (fun t=> @SRep.env nil0 _ _ _ _ hs t) (fun j a u h1 h2=>hu j a u h1 (by simpa using h2)) t
 have hS: ∀ E∈[l,D], ¬cx.R E∧ ∃ o,cx.w.heap[E]? =some o∧o.isCells=false:=fun E hE=>by
  rcases List.mem_cons.1 hE with rfl |hE
  ·exact ⟨h.hR,_,h.hl,rfl⟩
  ·rw [List.mem_singleton.1 hE];exact ⟨h.hRD,_,h.hD,rfl⟩
 refine hP1 l m (cx.plus [l,D]) _ (@SRep.plus nil0 _ _ _ _ hs1 [l,D] fun E hE=>(hS E hE).2) _ (by rintro ⟨_,_,h⟩;exact h) fun cxa aa hsa hta=> ?_
 have ka:=plus_keeps hta.ext hS
 have kl:=ka l (by simp);have kD:=ka D (by simp)
 have hal:cxa.w.heap[l]? =some (.loop (recOf' fn a pa assign body D .ready none)):=kl.1.trans h.hl
 have haD:cxa.w.heap[D]? =some (.deferred (some [])):=kD.1.trans h.hD
 have hsa': @SRep nil0 (cxa.back cx) st1 aa nt:= @SRep.back nil0 _ _ _ _ _ hsa fun g hg=>by rw [hta.ext.B];exact .inl hg
 refine ⟨_,run_beginRound hal rfl, ?_⟩
 have hlt1:l<cxa.w.heap.size:=(Array.getElem?_eq_some_iff.1 hal).1
 have hsb: @SRep nil0 ((cxa.back cx).poke l (.loop (recOf' fn a pa assign body D .busy none))) st1 aa nt:= @SRep.poke nil0 _ _ _ _ hsa' l _ _ hal rfl kl.2 hB
 have hbl:(cxa.w.putObj l (.loop (recOf' fn a pa assign body D .busy none))).heap[l]? =some (.loop (recOf' fn a pa assign body D .busy none)):=World.putObj_heap_same hlt1
 have hbD:(cxa.w.putObj l (.loop (recOf' fn a pa assign body D .busy none))).heap[D]? =some (.deferred (some [])):=(World.putObj_heap_other hne).trans haD
 have hS2: ∀ E∈[l,D], ¬((cxa.back cx).poke l (.loop (recOf' fn a pa assign body D .busy none))).R E∧ ∃ o,((cxa.back cx).poke l (.loop (recOf' fn a pa assign body D .busy none))).w.heap[E]? =some o∧o.isCells=false:=fun E hE=>by
  rcases List.mem_cons.1 hE with rfl |hE
  ·exact ⟨kl.2,_,hbl,rfl⟩
  ·rw [List.mem_singleton.1 hE];exact ⟨kD.2,_,hbD,rfl⟩
 have hstb:Stab cx ((cxa.back cx).poke l (.loop (recOf' fn a pa assign body D .busy none))):=hta.back.trans (poke_stab _ kl.2 hB)
 refine hP2 l m (((cxa.back cx).poke l (.loop (recOf' fn a pa assign body D .busy none))).plus [l,D]) _ (@SRep.plus nil0 _ _ _ _ hsb [l,D] fun E hE=>(hS2 E hE).2) _ (by rintro ⟨_,_,h⟩;exact h) fun cxc ac hsc htc=> ?_
 obtain ⟨m1,m2,m3⟩:=leS_sound (@SRep.c nil0 _ _ _ _ hsc) (@SRep.H nil0 _ _ _ _ hsc) hle hqs (@SRep.env nil0 _ _ _ _ hsc)
 have hre:=ren_ext (@SRep.c nil0 _ _ _ _ hsc) r (lookO Hk')
 have hed:Ext (((cxa.back cx).poke l (.loop (recOf' fn a pa assign body D .busy none))).plus [l,D]) (cxc.ren r (lookO Hk')):=htc.ext.trans hre
 have kc:=plus_keeps hed hS2
 have ml:=kc l (by simp);have mD:=kc D (by simp)
 have hcl:cxc.w.heap[l]? =some (.loop (recOf' fn a pa assign body D .busy none)):=ml.1.trans hbl
 have hcD:cxc.w.heap[D]? =some (.deferred (some [])):=mD.1.trans hbD
 have hbst:BSt cx ((cxc.ren r (lookO Hk')).back ((cxa.back cx).poke l (.loop (recOf' fn a pa assign body D .busy none)))):=by
  refine ⟨hstb.ext.trans hed.back,fun id b hb hx=> ?_⟩
  obtain ⟨b1,h1,h2,h3⟩:=hstb.bst.box id b hb hx
  obtain ⟨b2,h4,h5,h6⟩:=htc.bst.box id b1 h1 h2
  have hb':lookO Hk id=some b:=by rw [←hb, @SRep.H nil0 _ _ _ _ hs]
  obtain ⟨q1,b',q2,q3⟩:=boxOk_some hbx hb' hx
  refine ⟨b',q2,q3, ?_⟩
  show (lookO r id).bind cxc.φ=cx.φ id
  rw [q1]
  exact h6.trans h3
 have hsd: @SRep nil0 ((cxc.ren r (lookO Hk')).back ((cxa.back cx).poke l (.loop (recOf' fn a pa assign body D .busy none)))) ⟨I.st.env,lookO Hk',I.next⟩ a nt:=by
  have hB2: ∀ g,cx.B g→(cxc.ren r (lookO Hk')).B g:=fun g hg=>by rw [hed.B];exact .inl hg
  have hc2: @SRep nil0 (cxc.ren r (lookO Hk')) ⟨fun _=> .junk,lookO Hk',I.next⟩ ac nt:= @SRep.mk nil0 _ _ _ _ rfl m1 (fun t=> .pure (.junk _)) m3 (@SRep.sz nil0 _ _ _ _ hsc) (@SRep.df nil0 _ _ _ _ hsc)
  have hc3:= @SRep.back nil0 ((cxa.back cx).poke l (.loop (recOf' fn a pa assign body D .busy none))) _ _ _ _ hc2 hB2
  refine @SRep.mk nil0 _ _ _ _ rfl (@SRep.c nil0 _ _ _ _ hc3) (fun t=> ?_) m3 (@SRep.sz nil0 _ _ _ _ hs) (@SRep.df nil0 _ _ _ _ hs)
  refine (@SRep.env nil0 _ _ _ _ hs t).keep ?_ (@SRep.c nil0 _ _ _ _ hs) hbst
  show keepA (look .junk I.env t)=true
  have: ∀ (L:List (Nat×AV)),(L.all fun q=>keepA q.2)=true→keepA (look .junk L t)=true:=fun L=>by
   induction L with
   |nil=>intro _;rfl
   |cons q L ih=>
    obtain ⟨k,v⟩:=q
    intro hL
    rw [List.all_cons,Bool.and_eq_true] at hL
    rw [look]
    cases Nat.beq t k with
    |true=>exact hL.1
    |false=>exact ih hL.2
  exact this I.env hkeep
 have hbtw:Btw P cx0 I a nt l D (recOf' fn a pa assign body D .busy none) Hk' cxc.w ((cxc.ren r (lookO Hk')).back ((cxa.back cx).poke l (.loop (recOf' fn a pa assign body D .busy none)))):=
  ⟨rfl,hsd,h.bst.trans hbst.ext,hcl,ml.2,hcD,mD.2⟩
 have hend:=run_endRound (P:=P) jump hcl
 have hfin:e_post P l jump cxc.w (fun e W'=>e= .returned (.bool jump.isNone)∧ ∃ cx',Btw P cx0 I a nt l D (recOf' fn a pa assign body D (if jump.isNone then .ready else .done) jump) Hk' W' cx'∧cx'.B=cx.B):=
  ⟨_,_,hend,rfl,_,hbtw.turn hB hne _,rfl⟩
 subst hj
 cases x with
 |nrm=>exact hfin
 |ext id=>exact hfin
 |ret=>exact hfin
theorem Ok.range {nt:Nat} {g:Operand} {pa:Array Tmp} {assign body:Code} {gf:FuncId} {caps:List AV} {N m:Nat} {xs:Nat→List AV} {I:Sm} {F:Nat→List (Nat×Blk)} {x:X} {G:List (Nat×Blk)}
  (hg:evalA I.st.env g= .clo gf caps) (hcb:caps.all baseA=true) (hkeep:(I.env.all fun q=>keepA q.2)=true) (hfo:fnOk P gf=true) (hit:IterC P gf caps N xs) (hpl: ∀ k,(xs k).length=pa.size) (hlt: ∀ p∈pa.toList,p<nt) (hF0:F 0=I.heap) (hm:m≤N)
  (hr: ∀ k,k<m→Rnd P nt pa.toList (xs k) assign body I (F k) .nrm (F (k+1)))
  (hend:(m=N∧x= .nrm∧G=F N)∨(m<N∧x≠ .nrm∧Rnd P nt pa.toList (xs m) assign body I (F m) x G)):Ok P nt (.rangeFunc g pa assign body) I.st x (⟨I.env,G,I.next⟩:Sm).st:=by
 intro d cx a hs Q hQ
 obtain ⟨fo,g1,g2,g3⟩:=fnOk_some hfo
 obtain ⟨bd,hbd⟩:=Option.isSome_iff_exists.1 g2
 have hge:=rep_eval hs.env g
 rw [hg] at hge
 obtain ⟨vs,hv,hvl,hvr⟩:=hge.clo_inv
 refine (wpIn_wide (n:=2)).1 (wpIn_rangeFunc ?_)
 intro fn hfn
 obtain ⟨l,hl⟩: ∃ l,l=cx.w.heap.size+1:=⟨_,rfl⟩
 obtain ⟨D,hD⟩: ∃ D,D=cx.w.heap.size:=⟨_,rfl⟩
 obtain ⟨a0,ha0⟩: ∃ a0:Act,a0={tmps:=a.tmps,defers:=[]}:=⟨_,rfl⟩
 have hat:a0.tmps=a.tmps:=by rw [ha0]
 obtain ⟨W1,hW1⟩: ∃ W1,(cx.w.alloc (.deferred (some []))).alloc (.loop (recOf' fn a0 pa assign body D .ready none))=W1:=⟨_,rfl⟩
 have hb1:Below cx.w.heap.size cx.w W1:=by rw [←hW1];exact (((Below.refl _ _).alloc (Nat.le_refl _) _).alloc (by simp) _)
 have hW1l:W1.heap[l]? =some (.loop (recOf' fn a0 pa assign body D .ready none)):=by
  rw [←hW1,hl];have:=World.alloc_heap_new (cx.w.alloc (.deferred (some []))) (.loop (recOf' fn a0 pa assign body D .ready none));rwa [World.size_alloc] at this
 have hW1D:W1.heap[D]? =some (.deferred (some [])):=by
  rw [←hW1,hD];exact (Below.heap_alloc _ _ _ (by simp)).trans (World.alloc_heap_new cx.w _)
 have hne:D≠l:=by omega
 have hnB: ∀ c:Cx,c.B=cx.B→ ¬c.B l∧ ¬c.B D:=fun c e=>by
  rw [e]
  exact ⟨fun h=>by have:=hs.c.blt l h;omega,fun h=>by have:=hs.c.blt D h;omega⟩
 have hs0: @SRep nil0 cx ⟨I.st.env,lookO I.heap,I.next⟩ a0 nt:= @SRep.mk nil0 _ _ _ _ hs.H hs.c (by rw [ha0];exact hs.env) hs.lt (by rw [ha0];exact hs.sz) (by rw [ha0];rfl)
 have h0:Btw P cx I a0 nt l D (recOf' fn a0 pa assign body D .ready none) (F 0) W1 ⟨W1,cx.R,cx.φ,cx.H,cx.B⟩:=by
  obtain ⟨k1,k2⟩:=below_keep hs.c hb1
  rw [hF0]
  exact ⟨rfl,SRep.moved hs0 k1 k2,k2.ext,hW1l,fun h=>by have:=hs.c.rlt l h;omega,hW1D,fun h=>by have:=hs.c.rlt D h;omega⟩
 refine ⟨l,[{target:= .collected D,args:= #[]}],W1,{target:= .fn (.func gf) vs,args:= #[.func (.yield l) #[] #[]]},W1,gf, #[.func (.yield l) #[] #[]]++vs,W1, ?_, ?_, ?_, ?_,by simp [Fence.wide], ?_⟩
 ·rw [←hW1,hl,hD,ha0];exact run_enterLoop_outer _ _ _ _ _
 ·simp only [resolve,hv]
  simp [go_sem]
 ·intro f' hf';trivial
 ·simp [invoke,go_sem,callFunc,g1,hbd,g3]
 have hfin: ∀ (st0:LoopState) (pe:Option Code) (H:List (Nat×Blk)) (W2:World) (c:Cx),Btw P cx I a0 nt l D (recOf' fn a0 pa assign body D st0 pe) H W2 c→c.B=cx.B→H=G→
   Q x.to {a with defers:=[{target:= .collected D,args:= #[]}]++a.defers} (W2.putObj l (.loop {recOf' fn a0 pa assign body D st0 pe with state:= .exhausted})):=by
  intro st0 pe H W2 c hb hcB hH
  subst hH
  have ht:=hb.turn (hnB c hcB).1 hne {recOf' fn a0 pa assign body D st0 pe with state:= .exhausted}
  have hw:(c.poke l (.loop {recOf' fn a0 pa assign body D st0 pe with state:= .exhausted})).w=W2.putObj l (.loop {recOf' fn a0 pa assign body D st0 pe with state:= .exhausted}):=by
   show c.w.putObj l _=_
   rw [hb.w]
  rw [←hw]
  have htmp:=ht.s
  refine hQ ⟨D::d.l⟩ (c.poke l (.loop {recOf' fn a0 pa assign body D st0 pe with state:= .exhausted})) _ (@SRep.mk ⟨D::d.l⟩ _ _ _ _ (@SRep.H nil0 _ _ _ _ htmp) (@SRep.c nil0 _ _ _ _ htmp) (fun t=> ?_) (@SRep.lt nil0 _ _ _ _ htmp) ?_ ?_) ⟨ht.bst,fun e=>(by cases e),[D],rfl,by simp,fun E hE=> ?_⟩
  ·show Rep _ _ (a.tmps.getD t undef)
   rw [←hat]
   exact @SRep.env nil0 _ _ _ _ htmp t
  ·show a.tmps.size=nt
   rw [←hat]
   exact @SRep.sz nil0 _ _ _ _ htmp
  ·show [_]++a.defers=_
   rw [hs.df]
   rfl
  ·rw [List.mem_singleton.1 hE]
   exact ⟨by omega,ht.hRD,by rw [hw];exact ht.hD⟩
 refine (hit cx.w cx.R vs hs.c.rlt hvl (fun j b v h1 h2=>(hvr j b v h1 h2).base (List.all_eq_true.1 hcb b (List.mem_of_getElem? h1))) (2-1) l
  (fun k W=>k≤m∧ ∃ c,Btw P cx I a0 nt l D (recOf' fn a0 pa assign body D .ready none) (F k) W c∧c.B=cx.B)
  (fun W=>m<N∧ ∃ c,Btw P cx I a0 nt l D (recOf' fn a0 pa assign body D .done (match x with | .nrm=>none | .ext id=>some (.exit id)| .ret=>some .ret)) G W c∧c.B=cx.B)
  (fun k W W' ⟨hk,c,hb,hcB⟩ hbl=>⟨hk,_,hb.below hbl,hcB⟩)
  (fun k W ⟨hk,c,hb,hcB⟩ g hg=>by rw [←hb.w];exact hb.bst.block g (hs.c.rlt g hg) (.inr hg)) ?_ W1 ⟨Nat.zero_le _,_,h0,rfl⟩).mono ?_
 ·rintro k W us ⟨hk,c,hb,hcB⟩ hkN hul hu
  obtain ⟨hBl,hBD⟩:=hnB c hcB
  have hus: ∀ (j:Nat) a u,(xs k)[j]? =some a→us[j]? =some u→Rep c a u:=fun j b u h1 h2=>by
   have:=hu j b u h1 h2
   rw [←hb.w] at this
   exact .pure (this.mono (fun g hg=>hb.bst.R g hg) fun _ _=>rfl)
  have hpl':(xs k).length=pa.toList.length:=by rw [Array.length_toList];exact hpl k
  by_cases hkm:k<m
  ·obtain ⟨f1,f2,f3,f4,f5,f6⟩:=hb.round (hr k hkm) hBl hBD hne hkeep rfl hlt hul hpl' hus (m:=2-1-1) (jump:=none) rfl
   refine ⟨f1,f2,f3,f4,f5,f6.mono ?_⟩
   rintro e W' ⟨rfl,c',k1,k2⟩
   exact .inl ⟨rfl,hkm,c',k1,k2.trans hcB⟩
  ·obtain rfl:k=m:=by omega
   rcases hend with ⟨h1,_⟩|⟨h1,h2,h3⟩
   ·omega
   ·obtain ⟨f1,f2,f3,f4,f5,f6⟩:=hb.round h3 hBl hBD hne hkeep rfl hlt hul hpl' hus (m:=2-1-1) rfl
    refine ⟨f1,f2,f3,f4,f5,f6.mono ?_⟩
    rintro e W' ⟨rfl,c',k1,k2⟩
    right
    cases x with
    |nrm=>exact absurd rfl h2
    |ext id=>exact ⟨rfl,h1,c',k1,k2.trans hcB⟩
    |ret=>exact ⟨rfl,h1,c',k1,k2.trans hcB⟩
 ·rintro e W2 ⟨⟨v,rfl⟩,(⟨hN,c,hb,hcB⟩|⟨hlt',c,hb,hcB⟩)⟩
  ·rcases hend with ⟨h1,h2,h3⟩|⟨h1,_⟩
   ·have:=hfin _ _ _ _ c hb hcB h3.symm
    rw [h2] at this
    exact ⟨none,_,run_endLoop hb.hl (by simp [recOf']),this⟩
   ·omega
  ·have:=hfin _ _ _ _ c hb hcB rfl
   rcases hend with ⟨h1,_⟩|⟨h1,h2,h3⟩
   ·omega
   cases x with
   |nrm=>exact absurd rfl h2
   |ext id=>exact ⟨some (.exit id),_,run_endLoop hb.hl (by simp [recOf']),wpIn_exit this⟩
   |ret=>exact ⟨some .ret,_,run_endLoop hb.hl (by simp [recOf']),wpIn_ret this⟩
end
end
end Go.Proofs.Ytfjapapiappacaa.Rx
namespace Go.Proofs.Ytfjapapiappacaa.Rx
section
open Go.RowKit
def OkN (P:Program) (nt:Nat) (c:Code) (I:St) (x:X) (J:St):Prop:=
 ∀ (d:Dfs) cx a,SRep cx I a nt→ ∀ Q:Exit→Act→World→Prop,(∀ cx' a', @SRep d cx' J a' nt→Ext cx cx'→cx'.φ 0=cx.φ 0→Q x.to a' cx'.w)→c.wp P Q a cx.w
def isBx (h:Nat→Option Blk):Bool:=match h 0 with
 |some ⟨_,_,_, .box _⟩=>true
 |_=>false
def keep0 (r:List (Nat×Nat)):Bool:=match lookO r 0 with
 |some 0=>true
 |_=>false
section
variable (P:Program)
def evK (dr:DrawF) (md:Bool) (call:CallF) (nt:Nat):Code→St→List Orc→CodeR
 | .seq a b,st,orc=>(evK dr md call nt a st orc).bind fun q=>match q.1 with
  | .nrm=>(evK dr md call nt b q.2.1 q.2.2.1).map fun r=>(r.1,r.2.1,r.2.2.1,q.2.2.2++r.2.2.2)
  |x=>some q
 | .block id c,st,orc=>(evK dr md call nt c st orc).map fun q=>match q.1 with
  | .ext i=>bif Nat.beq i id then (.nrm,q.2) else q
  |x=>q
 | .loop c,st,orc=>match orc with
  | .lp r I x J::orc=>bif keep0 r then (leS r st I).map fun p=>(x,J.st,orc,p++[OkN P nt (.loop c) I.st x J.st]) else none
  |orc=>bif isBx st.heap then evCode P dr false md call nt (.loop c) st orc else none
 |c,st,orc=>bif isBx st.heap then evCode P dr false md call nt c st orc else none
def vcK (md:Bool) (f:FuncId) (args:List AV) (t:TypeId) (cs0:List AV) (orc:List Orc) (ρ:List (Nat×Nat)) (res:AV) (cs1:List AV) (N:List Blk):Prop:=
 match P.funcs[f]? with
 |none=>False
 |some fn=>match fn.body with
  |none=>False
  |some c=>bif fnOk P f&&(Nat.ble args.length fn.ntmps&&keep0 ρ) then
    match evK P (drawA P md) md (callA P (evFn P (drawA P md) md 100 false)) fn.ntmps c ⟨fun t=>args.getD t .junk,boxH t cs0 [],1⟩ orc with
    |some q=>bif (match q.1 with | .ext _=>false |_=>true) then match resultsA P md q.2.1 fn.results.toList with
     |some rs=>match leS ρ ⟨fun _=>oneA rs.1,q.2.1.heap,q.2.1.next⟩ ⟨[(0,res)],idxH (⟨0,false,t, .box cs1⟩::N),(⟨0,false,t, .box cs1⟩::N:List Blk).length⟩ with
      |some ps=>allP (q.2.2.2++(rs.2++ps))
      |none=>False
     |none=>False
     else False
    |none=>False
   else False
def vcN (md:Bool) (nt:Nat) (c:Code) (I:Sm) (orc:List Orc) (x:X) (r:List (Nat×Nat)) (J:Sm):Prop:=
 match evK P (drawA P md) md (callA P (evFn P (drawA P md) md 100 false)) nt c I.st orc with
 |some q=>bif eqX q.1 x&&keep0 r then match leS r q.2.1 J with
  |some ps=>allP (q.2.2.2++ps)
  |none=>False
  else False
 |none=>False
end
section
variable {P:Program}
theorem keep0_some {r:List (Nat×Nat)} (h:keep0 r=true):lookO r 0=some 0:=by
 unfold keep0 at h
 split at h
 ·rename_i h';exact h'
 ·cases h
theorem isBx_keep {cx cx':Cx} (h:isBx cx.H=true) (hs:Stab cx cx'):cx'.φ 0=cx.φ 0:=by
 unfold isBx at h
 split at h
 ·rename_i g fz t cs heq
  obtain ⟨b',h1,h2,h3⟩:=hs.ids 0 _ heq
  exact (h2 (h3 rfl)).1
 ·cases h
theorem ren_keep {cx:Cx} {r:List (Nat×Nat)} {hI:Nat→Option Blk} (h:keep0 r=true):(cx.ren r hI).φ 0=cx.φ 0:=by
 show (lookO r 0).bind cx.φ=_
 rw [keep0_some h];rfl
theorem evK_base {dr:DrawF} (hdr:DrawOk P dr) {md:Bool} {call:CallF} (hcall:CallOk P call) {nt:Nat} (c:Code) {D0:Dfs} {st:St} {orc:List Orc} {q:X×St×List Orc×List Prop} {cx:Cx} {a:Act} (h:(bif isBx st.heap then evCode P dr false md call nt c st orc else none)=some q) (hp: ∀ p∈q.2.2.2,p) (hs:SRep cx st a nt)
  (Q:Exit→Act→World→Prop) (hQ: ∀ cx' a', @SRep D0 cx' q.2.1 a' nt→Ext cx cx'→cx'.φ 0=cx.φ 0→Q q.1.to a' cx'.w):c.wp P Q a cx.w:=by
 obtain ⟨hb,h1⟩:=bif_some h
 refine evCode_sound hdr hcall c h1 hp hs Q fun d1 cx1 a1 hs1 ha1=> ?_
 obtain ⟨k1,rfl⟩:=ha1.st rfl
 exact hQ cx1 a1 hs1 k1.ext (isBx_keep (by rw [hs.H];exact hb) k1)
theorem evK_sound {dr:DrawF} (hdr:DrawOk P dr) {md:Bool} {call:CallF} (hcall:CallOk P call) {nt:Nat}: ∀ (c:Code) [D0:Dfs] {st:St} {orc:List Orc} {q:X×St×List Orc×List Prop} {cx:Cx} {a:Act},evK P dr md call nt c st orc=some q→(∀ p∈q.2.2.2,p)→SRep cx st a nt→
  ∀ Q:Exit→Act→World→Prop,(∀ cx' a', @SRep D0 cx' q.2.1 a' nt→Ext cx cx'→cx'.φ 0=cx.φ 0→Q q.1.to a' cx'.w)→c.wp P Q a cx.w
 | .seq c d,D0,st,orc,q,cx,a,h,hp,hs,Q,hQ=>by
  unfold evK at h
  obtain ⟨q1,hq1,h1⟩:=Option.bind_eq_some_iff.1 h
  clear h
  refine wp_seq ?_
  split at h1
  ·rename_i hx
   obtain ⟨q2,hq2,rfl⟩:=Option.map_eq_some_iff.1 h1
   refine evK_sound hdr hcall c hq1 (fun p hp'=>hp p (by simp [hp'])) hs _ fun cx1 a1 hs1 he1 hk1=> ?_
   rw [hx]
   exact evK_sound hdr hcall d hq2 (fun p hp'=>hp p (by simp [hp'])) hs1 Q fun cx2 a2 hs2 he2 hk2=>hQ cx2 a2 hs2 (he1.trans he2) (hk2.trans hk1)
  ·rename_i hx
   simp only [Option.some.injEq] at h1;subst h1
   refine evK_sound hdr hcall c hq1 hp hs _ fun cx1 a1 hs1 he1 hk1=> ?_
   have:=hQ cx1 a1 hs1 he1 hk1
   cases hxx:q1.1 with
   |nrm=>exact absurd hxx hx
   |ext id=>rw [hxx] at this;exact this
   |ret=>rw [hxx] at this;exact this
 | .block id c,D0,st,orc,q,cx,a,h,hp,hs,Q,hQ=>by
  unfold evK at h
  obtain ⟨q1,hq1,h1⟩:=Option.map_eq_some_iff.1 h
  clear h
  refine wp_block ?_
  have hcs:q1.2.2.2=q.2.2.2∧q1.2.1=q.2.1:=by
   rw [←h1]
   cases hx:q1.1 with
   |nrm=>exact ⟨rfl,rfl⟩
   |ext i=>
    simp only
    cases Nat.beq i id<;>exact ⟨rfl,rfl⟩
   |ret=>exact ⟨rfl,rfl⟩
  refine evK_sound hdr hcall c hq1 (by rw [hcs.1];exact hp) hs _ fun cx1 a1 hs1 he1 hk1=> ?_
  have:=hQ cx1 a1 (by rw [←hcs.2];exact hs1) he1 hk1
  cases hx:q1.1 with
  |nrm=>
   rw [hx] at h1
   simp only at h1
   rw [←h1,hx] at this
   exact this
  |ext i=>
   rw [hx] at h1
   simp only at h1
   cases hb:Nat.beq i id with
   |true=>
    rw [hb] at h1
    simp only [cond_true] at h1
    have e:=Nat.eq_of_beq_eq_true hb
    subst e
    rw [←h1] at this
    simp only [X.to,Exit.inBlock,if_true]
    exact this
   |false=>
    rw [hb] at h1
    simp only [cond_false] at h1
    rw [←h1,hx] at this
    have hne: ¬i=id:=fun e=>by rw [e,Nat.beq_refl] at hb;cases hb
    simp only [X.to,Exit.inBlock,hne,if_false]
    exact this
  |ret=>
   rw [hx] at h1
   simp only at h1
   rw [←h1,hx] at this
   exact this
 | .loop c,D0,st,orc,q,cx,a,h,hp,hs,Q,hQ=>by
  unfold evK at h
  split at h
  ·obtain ⟨hk,h1⟩:=bif_some h
   clear h
   obtain ⟨p,hpp,rfl⟩:=Option.map_eq_some_iff.1 h1
   rename_i r I x J _
   obtain ⟨m1,m2,m3⟩:=leS_sound hs.c hs.H hpp (fun x hx=>hp x (by simp [hx])) hs.env
   exact hp (OkN P nt _ _ _ _) (by simp) D0 (cx.ren r (lookO I.heap)) a ⟨rfl,m1,m2,m3,hs.sz,hs.df⟩ Q fun cx2 a2 hs2 he2 hk2=>hQ cx2 a2 hs2 ((ren_ext hs.c r _).trans he2) (hk2.trans (ren_keep hk))
  ·exact evK_base hdr hcall (.loop c) h hp hs Q hQ
 | .skip,D0,st,orc,q,cx,a,h,hp,hs,Q,hQ=>evK_base hdr hcall _ h hp hs Q hQ
 | .region _ _ _,D0,st,orc,q,cx,a,h,hp,hs,Q,hQ=>evK_base hdr hcall _ h hp hs Q hQ
 | .cond _ _ _,D0,st,orc,q,cx,a,h,hp,hs,Q,hQ=>evK_base hdr hcall _ h hp hs Q hQ
 | .rangeFunc _ _ _ _,D0,st,orc,q,cx,a,h,hp,hs,Q,hQ=>evK_base hdr hcall _ h hp hs Q hQ
 | .exit _,D0,st,orc,q,cx,a,h,hp,hs,Q,hQ=>evK_base hdr hcall _ h hp hs Q hQ
 | .ret,D0,st,orc,q,cx,a,h,hp,hs,Q,hQ=>evK_base hdr hcall _ h hp hs Q hQ
 | .scope _,D0,st,orc,q,cx,a,h,hp,hs,Q,hQ=>evK_base hdr hcall _ h hp hs Q hQ
 | .label _,D0,st,orc,q,cx,a,h,hp,hs,Q,hQ=>evK_base hdr hcall _ h hp hs Q hQ
 | .goto _,D0,st,orc,q,cx,a,h,hp,hs,Q,hQ=>evK_base hdr hcall _ h hp hs Q hQ
 | .refuse _,D0,st,orc,q,cx,a,h,hp,hs,Q,hQ=>evK_base hdr hcall _ h hp hs Q hQ
theorem OkN.vc {md:Bool} {nt:Nat} {c:Code} {I J:Sm} {orc:List Orc} {x:X} {r:List (Nat×Nat)} (h:Vc (vcN P md nt c I orc x r J)):OkN P nt c I.st x J.st:=by
 replace h:=h.out
 unfold vcN at h
 split at h
 ·rename_i q hq
  obtain ⟨hx,h1⟩:(eqX q.1 x&&keep0 r)=true∧(match leS r q.2.1 J with |some ps=>allP (q.2.2.2++ps)|none=>False):=by
   cases hb:eqX q.1 x&&keep0 r with
   |true=>rw [hb] at h;exact ⟨rfl,h⟩
   |false=>rw [hb] at h;exact h.elim
  rw [Bool.and_eq_true] at hx
  split at h1
  ·rename_i ps hps
   have hall:=allP_mem h1
   intro d0 cx a hs Q hQ
   refine evK_sound (drawA_ok md) (callA_evFn 100) c hq (fun p hp=>hall p (List.mem_append.2 (.inl hp))) hs Q fun cx1 a1 hs1 he1 hk1=> ?_
   obtain ⟨m1,m2,m3⟩:=leS_sound hs1.c hs1.H hps (fun p hp=>hall p (List.mem_append.2 (.inr hp))) hs1.env
   rw [eqX_eq hx.1]
   exact hQ (cx1.ren r (lookO J.heap)) a1 ⟨rfl,m1,m2,m3,hs1.sz,hs1.df⟩ (he1.trans (ren_ext hs1.c r _)) ((ren_keep hx.2).trans hk1)
  ·cases h1
 ·cases h
theorem OkN.loop {nt:Nat} {c:Code} {F:Nat→Sm} {m:Nat} {x:X} {J:Sm} (hr: ∀ k,k<m→OkN P nt c (F k).st .nrm (F (k+1)).st) (he:OkN P nt c (F m).st x J.st) (hx:x≠ .nrm):OkN P nt (.loop c) (F 0).st x J.st:=by
 intro d0 cx a hs Q hQ
 have key: ∀ n k,k+n=m→ ∀ cx1 a1, @SRep d0 cx1 (F k).st a1 nt→(∀ cx2 a2, @SRep d0 cx2 J.st a2 nt→Ext cx1 cx2→cx2.φ 0=cx1.φ 0→Q x.to a2 cx2.w)→Code.rounds P c Q (n+1) a1 cx1.w:=by
  intro n
  induction n with
  |zero=>
   intro k hk cx1 a1 hs1 hK
   obtain rfl:k=m:=by omega
   rw [rounds_succ]
   refine he d0 cx1 a1 hs1 _ fun cx2 a2 hs2 he2 hk2=> ?_
   have:=hK cx2 a2 hs2 he2 hk2
   cases x with
   |nrm=>exact absurd rfl hx
   |ext id=>exact this
   |ret=>exact this
  |succ n ih=>
   intro k hk cx1 a1 hs1 hK
   rw [rounds_succ]
   refine hr k (by omega) d0 cx1 a1 hs1 _ fun cx2 a2 hs2 he2 hk2=> ?_
   exact ih (k+1) (by omega) cx2 a2 hs2 fun cx3 a3 hs3 he3 hk3=>hK cx3 a3 hs3 (he2.trans he3) (hk3.trans hk2)
 exact wp_loop_rounds (m+1) (key m 0 (by omega) cx a hs hQ)
theorem KeepC.vc {md:Bool} {f:FuncId} {args:List AV} {t:TypeId} {cs0:List AV} {orc:List Orc} {ρ:List (Nat×Nat)} {res:AV} {cs1:List AV} {N:List Blk} (h:Vc (vcK P md f args t cs0 orc ρ res cs1 N)):KeepC P f args t cs0 res cs1 N:=by
 replace h:=h.out
 unfold vcK at h
 split at h
 ·cases h
 ·rename_i fn hf
  split at h
  ·cases h
  ·rename_i c hbody
   cases hb:fnOk P f&&(Nat.ble args.length fn.ntmps&&keep0 ρ) with
   |false=>rw [hb] at h;exact h.elim
   |true=>
    rw [hb] at h
    simp only [cond_true] at h
    simp only [Bool.and_eq_true,Nat.ble_eq] at hb
    split at h
    ·rename_i q hq
     cases hx:(match q.1 with | .ext _=>false |_=>true:Bool) with
     |false=>rw [hx] at h;exact h.elim
     |true=>
      rw [hx] at h
      simp only [cond_true] at h
      split at h
      ·rename_i rs hrs
       split at h
       ·rename_i ps hps
        have hall:=allP_mem h
        intro cx vs hH hc hlen hargs
        refine callsIn_wide.1 (callsIn_of_wp_marks (n:=0) hf hbody trivial (wpIn_wide.2 ?_))
        letI d0:Dfs:=⟨[]⟩
        have hs:SRep cx ⟨fun t=>args.getD t .junk,boxH t cs0 [],1⟩ {tmps:=vs++Array.replicate (fn.ntmps-vs.size) undef,defers:=[]} fn.ntmps:=by
         refine ⟨hH,hc,fun t=> ?_,fun i hi=> ?_, ?_,rfl⟩
         ·show Rep cx (args.getD t .junk) ((vs++Array.replicate _ undef).getD t undef)
          rw [getD_args]
          exact env_args hlen hargs t
         ·obtain ⟨b,hb'⟩:=Option.isSome_iff_exists.1 hi
          have:=(List.getElem?_eq_some_iff.1 (show [(⟨0,false,t, .box cs0⟩:Blk)][i]? =some b from hb')).1
          simpa using this
         ·simp only [Array.size_append,Array.size_replicate]
          omega
        refine evK_sound (drawA_ok md) (callA_evFn 100) c hq (fun p hp=>hall p (List.mem_append.2 (.inl hp))) hs _ fun cx1 a1 hs1 he1 hk1=> ?_
        have hpost:LeavesInM Fence.wide 0 P fn a1.tmps (fun e w'=> ∃ z cx',e= .returned z∧w'=cx'.w∧cx'.H=boxH t cs1 N∧CRep cx'∧Ext cx cx'∧cx'.φ 0=cx.φ 0∧Rep cx' res z) a1.defers .returning cx1.w:=by
         rw [hs1.df]
         show LeavesIn Fence.wide 0 P fn a1.tmps _ [] .returning cx1.w
         obtain ⟨z,k1,k2⟩:=results_sound hs1 hrs (fun p hp=>hall p (List.mem_append.2 (.inr (List.mem_append.2 (.inl hp)))))
         obtain ⟨m1,m2,m3⟩:=leS_sound hs1.c (st:=⟨fun _=>oneA rs.1,q.2.1.heap,q.2.1.next⟩) hs1.H hps (fun p hp=>hall p (List.mem_append.2 (.inr (List.mem_append.2 (.inr hp))))) (tmp:=fun _=>z) (fun _=>k2)
         refine ⟨z,k1,z,cx1.ren ρ (lookO (idxH (⟨0,false,t, .box cs1⟩::N))),rfl,rfl,lookO_idxH _,m1,he1.trans (ren_ext hs1.c ρ _),(ren_keep hb.2.2).trans hk1, ?_⟩
         have:=m2 0
         exact this
        cases hxx:q.1 with
        |nrm=>exact hpost
        |ret=>exact hpost
        |ext i=>rw [hxx] at hx;cases hx
       ·cases h
      ·cases h
    ·cases h
end
end
end Go.Proofs.Ytfjapapiappacaa.Rx
namespace Go.Proofs.Ytfjapapiappacaa.Px
section
open Go.RowKit Go.Proofs.Ytfjapapiappacaa.Rx
def rowI (l:List Int):Nat→Nat→AV:=fun i _=> .int .i64 (l.getD i 0)
def rowB (l:List Int):Nat→Nat→AV:=fun i _=> .int .u8 (l.getD i 0)
def lR (l:List Int):AV:= .row 1 l.length (rowI l)
end
end Go.Proofs.Ytfjapapiappacaa.Px
namespace Go.Proofs.Ytfjapapiappacaa
section
open Go.RowKit
namespace Wd
def okB (w:Int):Bool:=decide (1≤w)&&decide (w≤16)
def sizeV (w:Int):Int:=if okB w=true then 2^w.toNat else 0
def maskV (w n:Int):Int:=if okB w=true then n%2^w.toNat else 0
def andI (x y:Int):Int:=((x.toNat&&&y.toNat:Nat):Int)
def orI (x y:Int):Int:=((x.toNat|||y.toNat:Nat):Int)
def xorI (x y:Int):Int:=((x.toNat^^^y.toNat:Nat):Int)
def rawV (op x y:Int):Int:=
 if op=1 then x+y else if op=2 then x-y else if op=3 then andI x y else if op=4 then orI x y else if op=5 then xorI x y
 else if op=6 then x*2^y.toNat else if op=7 then x/2^y.toNat else if op=8 then x*y
 else if op=9 then (if x<y then 1 else 0) else if op=10 then (if x=y then 1 else 0) else 0
def opB (op:Int):Bool:=decide (1≤op)&&decide (op≤10)
def doV (w op a b:Int):Int:=maskV w (rawV op (maskV w a) (maskV w b))
def doB (w op:Int):Bool:=okB w&&opB op
theorem okB_iff {w:Int}:okB w=true↔1≤w∧w≤16:=by simp [okB]
theorem okB_nat {w:Int} (h:okB w=true): ∃ k:Nat,w=k∧1≤k∧k≤16:=by
 rw [okB_iff] at h;exact ⟨w.toNat,by omega,by omega,by omega⟩
theorem pow_le {k:Nat} (h:k≤16):(2:Int)^k≤65536:=by
 have:(2:Nat)^k≤2^16:=Nat.pow_le_pow_right (by omega) h
 have h2:((2^k:Nat):Int)≤((2^16:Nat):Int):=by exact_mod_cast this
 simpa using h2
theorem pow_pos (k:Nat):(1:Int)≤2^k:=by
 have:1≤2^k:=Nat.one_le_two_pow
 have h2:((1:Nat):Int)≤((2^k:Nat):Int):=by exact_mod_cast this
 simpa using h2
theorem maskV_bd (w n:Int):0≤maskV w n∧maskV w n<65536:=by
 unfold maskV;split
 ·rename_i h
  obtain ⟨k,rfl,_,hk⟩:=okB_nat h
  have h1:=pow_le hk;have h2:=pow_pos k
  simp only [Int.toNat_natCast]
  have:=Int.emod_nonneg n (b:=2^k) (by omega);have:=Int.emod_lt_of_pos n (b:=2^k) (by omega);omega
 ·omega
theorem sizeV_bd (w:Int):0≤sizeV w∧sizeV w≤65536:=by
 unfold sizeV;split
 ·rename_i h;obtain ⟨k,rfl,_,hk⟩:=okB_nat h;have:=pow_le hk;have:=pow_pos k;simp only [Int.toNat_natCast];omega
 ·omega
theorem maskV_lt {w n:Int} (h:okB w=true):maskV w n<sizeV w:=by
 unfold maskV sizeV;rw [if_pos h,if_pos h]
 exact Int.emod_lt_of_pos _ (by have:=pow_pos w.toNat;omega)
theorem maskV_of_lt {w n:Int} (h:okB w=true) (h0:0≤n) (h1:n<sizeV w):maskV w n=n:=by
 unfold maskV;unfold sizeV at h1;rw [if_pos h] at*;exact Int.emod_eq_of_lt h0 h1
theorem bits_mask (n:Int) (k:Nat) (hk:k≤16):bits .and .i64 n (2^k-1)=n%2^k:=by
 have e:(BitVec.ofInt 64 n&&&BitVec.ofInt 64 (2^k-1)).toNat=(n%2^k).toNat:=by
  have h2:(2:Int)^k≤65536:=pow_le hk
  have h3:=pow_pos k
  have e1:(BitVec.ofInt 64 ((2:Int)^k-1)).toNat=2^k-1:=by
   have h4:2^k≤65536:=by have:=Nat.pow_le_pow_right (n:=2) (by omega) hk;simpa using this
   have h5:1≤2^k:=Nat.one_le_two_pow
   have:((2:Int)^k-1)=((2^k-1:Nat):Int):=by
    rw [Int.ofNat_sub h5];simp
   rw [this,BitVec.ofInt_natCast,BitVec.toNat_ofNat];omega
  rw [BitVec.toNat_and,e1,Nat.and_two_pow_sub_one_eq_mod,BitVec.toNat_ofInt]
  have h6:(2:Nat)^64=2^k*2^(64-k):=by rw [←Nat.pow_add];congr 1;omega
  have h7:((2^64:Nat):Int)=2^k*2^(64-k):=by rw [h6];simp
  have h8:(((n%((2^64:Nat):Int)).toNat%2^k:Nat):Int)=n%2^k:=by
   have:=Int.emod_nonneg n (b:=((2^64:Nat):Int)) (by omega)
   rw [Int.natCast_emod,Int.toNat_of_nonneg this,Int.natCast_pow]
   exact Int.emod_emod_of_dvd n ⟨2^(64-k),h7⟩
  omega
 show IntKind.i64.wrap (((BitVec.ofInt 64 n&&&BitVec.ofInt 64 (2^k-1):BitVec 64).toNat:Nat):Int)=_
 have h2:(2:Int)^k≤65536:=pow_le hk
 have h3:=pow_pos k
 have:=Int.emod_nonneg n (b:=2^k) (by omega);have:=Int.emod_lt_of_pos n (b:=2^k) (by omega)
 rw [e,Int.toNat_of_nonneg (by omega)]
 exact IntWalk.i64_in _ (by omega)
theorem ofInt_toNat {x:Int} (h0:0≤x) (h1:x<65536):(BitVec.ofInt 64 x).toNat=x.toNat:=by
 rw [BitVec.toNat_ofInt];congr 1;exact Int.emod_eq_of_lt h0 (by omega)
theorem bits_and {x y:Int} (h0:0≤x) (h1:x<65536) (h2:0≤y) (h3:y<65536):bits .and .i64 x y=andI x y:=by
 show IntKind.i64.wrap (((BitVec.ofInt 64 x&&&BitVec.ofInt 64 y:BitVec 64).toNat:Nat):Int)=((x.toNat&&&y.toNat:Nat):Int)
 rw [BitVec.toNat_and,ofInt_toNat h0 h1,ofInt_toNat h2 h3]
 have:=Nat.and_lt_two_pow (n:=16) x.toNat (show y.toNat<2^16 by omega)
 exact IntWalk.i64_in _ (by omega)
theorem bits_or {x y:Int} (h0:0≤x) (h1:x<65536) (h2:0≤y) (h3:y<65536):bits .or .i64 x y=orI x y:=by
 show IntKind.i64.wrap (((BitVec.ofInt 64 x|||BitVec.ofInt 64 y:BitVec 64).toNat:Nat):Int)=((x.toNat|||y.toNat:Nat):Int)
 rw [BitVec.toNat_or,ofInt_toNat h0 h1,ofInt_toNat h2 h3]
 have:=Nat.or_lt_two_pow (n:=16) (show x.toNat<2^16 by omega) (show y.toNat<2^16 by omega)
 exact IntWalk.i64_in _ (by omega)
theorem bits_xor {x y:Int} (h0:0≤x) (h1:x<65536) (h2:0≤y) (h3:y<65536):bits .xor .i64 x y=xorI x y:=by
 show IntKind.i64.wrap (((BitVec.ofInt 64 x^^^BitVec.ofInt 64 y:BitVec 64).toNat:Nat):Int)=((x.toNat^^^y.toNat:Nat):Int)
 rw [BitVec.toNat_xor,ofInt_toNat h0 h1,ofInt_toNat h2 h3]
 have:=Nat.xor_lt_two_pow (n:=16) (show x.toNat<2^16 by omega) (show y.toNat<2^16 by omega)
 exact IntWalk.i64_in _ (by omega)
def recV (op x y:Int):Int:=if op=6 then wrap64 (x*2^(min y.toNat 64)) else rawV op x y
def tI (b:Bool):Int:=if b=true then 1 else 0
theorem mul_bd {x y:Int} (h0:0≤x) (h1:x<65536) (h2:0≤y) (h3:y<65536):0≤x*y∧x*y≤4294836225:=by
 have a:=Int.mul_nonneg h0 h2
 have b:x*y≤65535*65535:=Int.mul_le_mul (by omega) (by omega) h2 (by omega)
 omega
theorem shr_far {x:Int} (h0:0≤x) (h1:x<65536) {n:Nat} (hn:16≤n):x/2^n=0:=by
 refine Int.ediv_eq_zero_of_lt h0 ?_
 have:(2:Nat)^16≤2^n:=Nat.pow_le_pow_right (by omega) hn
 have h2:((2^16:Nat):Int)≤((2^n:Nat):Int):=by exact_mod_cast this
 simp only [Int.natCast_pow] at h2
 have:((2:Nat):Int)^16=65536:=by decide
 have e:(((2:Nat):Int))^n=2^n:=rfl
 omega
theorem shr_min {x y:Int} (h0:0≤x) (h1:x<65536):x/2^(min y.toNat 64)=x/2^y.toNat:=by
 by_cases h:y.toNat≤64
 ·rw [Nat.min_eq_left h]
 ·rw [Nat.min_eq_right (by omega),shr_far h0 h1 (by omega),shr_far h0 h1 (by omega)]
theorem wrap64_emod (n:Int) (k:Nat) (hk:k≤16):wrap64 n%2^k=n%2^k:=by
 have h6:(2:Nat)^64=2^k*2^(64-k):=by rw [←Nat.pow_add];congr 1;omega
 have h7:((2^64:Nat):Int)=2^k*2^(64-k):=by rw [h6];simp
 have h8:((2^64:Nat):Int)=18446744073709551616:=by decide
 obtain ⟨q,hq⟩: ∃ q,wrap64 n=n+18446744073709551616*q:=⟨-((n+9223372036854775808)/18446744073709551616),by unfold wrap64;omega⟩
 rw [hq, ←h8,h7,Int.mul_assoc]
 exact Int.add_mul_emod_self_left ..
theorem pow_mod {x:Int} {k n:Nat} (h:k≤n):(x*2^n)%2^k=0:=by
 have:n=k+(n-k):=by omega
 rw [this,Int.pow_add, ←Int.mul_assoc,Int.mul_comm x,Int.mul_assoc]
 exact Int.mul_emod_right ..
theorem recV_mask (w op x y:Int):maskV w (recV op x y)=maskV w (rawV op x y):=by
 unfold recV
 split
 ·rename_i h
  subst h
  have e:rawV 6 x y=x*2^y.toNat:=by simp [rawV]
  rw [e]
  unfold maskV
  split
  ·rename_i h
   obtain ⟨k,rfl,_,hk⟩:=okB_nat h
   simp only [Int.toNat_natCast]
   rw [wrap64_emod _ _ hk]
   by_cases h2:y.toNat≤64
   ·rw [Nat.min_eq_left h2]
   ·rw [pow_mod (by omega),pow_mod (by omega)]
  ·rfl
 ·rfl
theorem raw_no {op x y:Int} (h:op<1∨10<op):rawV op x y=0:=by
 simp [rawV,show op≠1 by omega,show op≠2 by omega,show op≠3 by omega,show op≠4 by omega,show op≠5 by omega,show op≠6 by omega,show op≠7 by omega,show op≠8 by omega,show op≠9 by omega,show op≠10 by omega]
theorem rec9 (x y:Int):tI (decide (x<y))=recV 9 x y:=by simp [tI,recV,rawV]
theorem rec10 (x y:Int):tI (x==y)=recV 10 x y:=by simp [tI,recV,rawV]
theorem opB_no {op:Int} (h:op<1∨10<op):opB op=false:=by simp [opB];omega
end Wd
end
end Go.Proofs.Ytfjapapiappacaa
namespace Go.Proofs.Ytfjapapiappacaa.Rx
section
open Go.RowKit
theorem rf {α:Type} (a:α):a=a:=rfl
theorem rr (n m:Nat) (f:Nat→Nat→AV): ∀ i,i<n→ ∀ j,j<m→f i j=f i j:=fun _ _ _ _=>rfl
abbrev RF {α:Type} (a:α) (Z:Prop):Prop:=a=a∧Z
abbrev RR (n m:Nat) (f:Nat→Nat→AV) (Z:Prop):Prop:=(∀ i,i<n→ ∀ j,j<m→f i j=f i j)∧Z
theorem cj {a b:Prop} (x:a) (y:b):a∧b:=⟨x,y⟩
theorem vc_by {p q:Prop} (hq:q) (h:p=q):Vc p:=⟨h.mpr hq⟩
theorem i6 (n:Int) (h1: -9223372036854775808≤n:=by omega) (h2:n≤9223372036854775807:=by omega):inK .i64 n:=⟨h1,h2⟩
theorem dt (p:Prop) [Decidable p] (h:p:=by first |omega | (simp;omega)| (simp;done)):decide p=true:=decide_eq_true h
theorem df (p:Prop) [Decidable p] (h: ¬p:=by first |omega | (simp;omega)| (simp;done)):decide p=false:=decide_eq_false h
theorem pv (p:Prop) (h:p:=by first |omega |rfl | (simp;done)| (simp;omega)):p:=h
abbrev aI (n:Int):AV:= .int .i64 n
theorem ap (x y s:Nat) (h:(x+y)*s≤140737488355328:=by omega) (h2:x+y≤140737488355328:=by omega):(0:Nat)=0∧x=x∧(x+y)*s≤140737488355328∧x+y≤140737488355328:=⟨rfl,rfl,h,h2⟩
theorem bi (a b:Int) (h:0≤a:=by omega) (h2:a<b:=by omega):0≤a∧a<b:=⟨h,h2⟩
theorem za (n:Nat):0+n=n:=Nat.zero_add n
theorem lz (k n:Nat) (h:k<n:=by omega):k+0<0+n:=by omega
theorem e1 (a b:Int) (h:a=b:=by omega):(a==b)=true:=beq_iff_eq.2 h
theorem e0 (a b:Int) (h:a≠b:=by omega):(a==b)=false:=beq_eq_false_iff_ne.2 h
theorem n1 (a b:Int) (h:a≠b:=by omega):(a !=b)=true:=bne_iff_ne.2 h
theorem n0 (a b:Int) (h:a=b:=by omega):(a !=b)=false:=bne_eq_false_iff_eq.2 h
section
variable {P:Program}
def OkL (P:Program) (nt:Nat) (c:Code) (I:St) (x:X) (J:St):Prop:=
 ∃ n, ∀ (d:Dfs) cx a,SRep cx I a nt→ ∀ Q:Exit→Act→World→Prop,(∀ (d':Dfs) cx' a', @SRep d' cx' J a' nt→After true d cx d' cx'→Q x.to a' cx'.w)→Code.rounds P c Q n a cx.w
theorem OkL.exit {nt:Nat} {c:Code} {I J:St} {x:X} (h:Ok P nt c I x J) (hx:x≠ .nrm):OkL P nt c I x J:=by
 refine ⟨1,fun d cx a hs Q hQ=> ?_⟩
 rw [rounds_succ]
 refine h d cx a hs _ fun d2 cx2 a2 hs2 he2=> ?_
 have:=hQ d2 cx2 a2 hs2 he2
 cases x with
 |nrm=>exact absurd rfl hx
 |ext id=>exact this
 |ret=>exact this
theorem OkL.step {nt:Nat} {c:Code} {I J K:St} {x:X} (h1:Ok P nt c I .nrm K) (h2:OkL P nt c K x J):OkL P nt c I x J:=by
 obtain ⟨n,h2⟩:=h2
 refine ⟨n+1,fun d cx a hs Q hQ=> ?_⟩
 rw [rounds_succ]
 refine h1 d cx a hs _ fun d2 cx2 a2 hs2 ha2=> ?_
 obtain ⟨cx2p,hw,hs2p,hk⟩:=ha2.plus hs2
 show Code.rounds _ _ _ _ _ cx2.w
 rw [←hw]
 exact h2 d2 cx2p a2 hs2p Q fun d3 cx3 a3 hs3 ha3=>by
  obtain ⟨cx4,e4,hs4,ha4⟩:=hk d3 cx3 _ a3 _ hs3 ha3
  rw [←e4]
  exact hQ d3 cx4 a3 hs4 ha4
theorem OkL.ok {nt:Nat} {c:Code} {I J:St} {x:X} (h:OkL P nt c I x J):Ok P nt (.loop c) I x J:=by
 obtain ⟨n,h⟩:=h
 exact fun d cx a hs Q hQ=>wp_loop_rounds n (h d cx a hs Q hQ)
end
end
end Go.Proofs.Ytfjapapiappacaa.Rx
namespace Go.Proofs.Ytfjapapiappacaa.Px
section
open Go.RowKit Go.Proofs.Ytfjapapiappacaa.Rx
structure Mm where
 nm:ByteArray
 sec:Bool
 n:Nat
instance:Inhabited Mm:=⟨⟨.empty,false,0⟩⟩
structure Pl where
 reg:Bool
 n:Nat
 sec:Bool
 deriving Inhabited
def mmC (m:Mm) (j:Nat):AV:=[.str m.nm, .bool m.sec, .int .i64 m.n].getD j .junk
def plC (p:Pl) (j:Nat):AV:=[.bool p.reg, .int .i64 p.n, .bool p.sec].getD j .junk
def progL (W r0 r1 r2 r3:Int) (M:AV):List AV:=[.int .i64 W, .junk, .junk, .int .i64 r0, .int .i64 r1, .int .i64 r2, .int .i64 r3,M, .junk, .junk]
def memR (ms:List Mm):AV:= .row 3 ms.length (rowL mmC ms)
def sumN:List Mm→Nat
 | []=>0
 |m::l=>m.n+sumN l
def rg (r0 r1 r2 r3:Int) (i:Nat):Int:=[r0,r1,r2,r3].getD i 0
def regL (r:Nat→Int):Nat→List Pl
 |0=>[]
 |k+1=>regL r k++(if r k=0 then [] else [⟨true,k,r k==2⟩])
def celL (sec:Bool) (at_ k:Nat):List Pl:=(List.range k).map fun i=>⟨false,at_+i,sec⟩
def memL:Nat→List Mm→List Pl
 |_,[]=>[]
 |at_,m::l=>celL m.sec at_ m.n++memL (at_+m.n) l
def box0 (e:TypeId) (cs:List AV):Nat×Blk:=(0,⟨0,false,e, .box cs⟩)
def plB (l:List Pl):Blk:=⟨0,false,89, .rows 3 l.length (rowL plC l)⟩
def places (r:Nat→Int) (ms:List Mm):List Pl:=regL r 4++memL 0 ms
theorem sumN_take {ms:List Mm} {k:Nat} (hk:k<ms.length):sumN (ms.take (k+1))=sumN (ms.take k)+(ms.getD k default).n:=by
 induction ms generalizing k with
 |nil=>simp at hk
 |cons m l ih=>
  cases k with
  |zero=>simp [sumN]
  |succ k=>
   have:=ih (k:=k) (by simpa using hk)
   simp only [List.take_succ_cons,sumN,this,List.getD_cons_succ]
   omega
theorem sumN_take_le (ms:List Mm) (k:Nat):sumN (ms.take k)≤sumN ms:=by
 induction ms generalizing k with
 |nil=>simp
 |cons m l ih=>
  cases k with
  |zero=>simp [sumN]
  |succ k=>simp only [List.take_succ_cons,sumN];have:=ih k;omega
theorem celL_succ (sec:Bool) (at_ k:Nat):celL sec at_ (k+1)=celL sec at_ k++[⟨false,at_+k,sec⟩]:=by simp [celL,List.range_succ]
theorem celL_length (sec:Bool) (at_ k:Nat):(celL sec at_ k).length=k:=by simp [celL]
theorem memL_take {ms:List Mm} {k:Nat} {at_:Nat} (hk:k<ms.length):memL at_ (ms.take (k+1))=memL at_ (ms.take k)++celL (ms.getD k default).sec (at_+sumN (ms.take k)) (ms.getD k default).n:=by
 induction ms generalizing k at_ with
 |nil=>simp at hk
 |cons m l ih=>
  cases k with
  |zero=>simp [sumN,memL]
  |succ k=>
   have:=ih (k:=k) (at_:=at_+m.n) (by simpa using hk)
   simp only [List.take_succ_cons,sumN,memL,this,List.getD_cons_succ,List.append_assoc,Nat.add_assoc]
theorem memL_length (at_:Nat) (ms:List Mm):(memL at_ ms).length=sumN ms:=by
 induction ms generalizing at_ with
 |nil=>rfl
 |cons m l ih=>simp only [memL,List.length_append,celL_length,ih,sumN]
theorem regL_zero {r:Nat→Int} {k:Nat} (h:r k=0):regL r (k+1)=regL r k:=by
 show regL r k++_=_
 rw [if_pos h,List.append_nil]
theorem regL_pos {r:Nat→Int} {k:Nat} (h: ¬r k=0):regL r (k+1)=regL r k++[⟨true,k,r k==2⟩]:=by
 show regL r k++_=_
 rw [if_neg h]
theorem regL_le (r:Nat→Int) (k:Nat):(regL r k).length≤k:=by
 induction k with
 |zero=>simp [regL]
 |succ k ih=>
  simp only [regL,List.length_append]
  split<;>simp<;>omega
def f7c (cs:List AV) (s:Nat) (k:Nat):Sm:=⟨[(1, .bptr 0 0),(4, .int .i64 k),(3, .int .i64 s)],[box0 44 cs],1⟩
theorem zA7a0 (W:Int) (r0:Int) (r1:Int) (r2:Int) (r3:Int) (ms:List Mm) {Z:Prop} (z:Z):(RF (W) (RF (r0) (RF (r1) (RF (r2) (RF (r3) (RF (ms.length) (RR (ms.length) (3) (fun i j=>rowL mmC ms i j) Z))))))):=⟨rfl,rfl,rfl,rfl,rfl,rfl,fun _ _ _ _=>rfl,z⟩
theorem f7c_step (W r0 r1 r2 r3:Int) (ms:List Mm) (s k:Nat) (hk:k<ms.length) (h64:ms.length<4611686018427387904) (hs:s+(ms.getD k default).n<4611686018427387904):Vc (vcC Try.prog false (ntOf Try.prog 49) (lpC Try.prog 49 0) (f7c (progL W r0 r1 r2 r3 (memR ms)) s k) [.b true] .nrm [(0,0)] (f7c (progL W r0 r1 r2 r3 (memR ms)) (s+(ms.getD k default).n) (k+1))):=vc_by (cj (dt ((k:Int)<(ms.length:Int))) (cj (pv ((0:Int)≤(k:Int)∧(k:Int)<(ms.length:Int))) (cj (i6 ((s:Int)+(↑(Mm.n (List.getD ms k default)):Int))) (cj (i6 ((k:Int)+1)) (zA7a0 W r0 r1 r2 r3 ms (cj (pv ((k:Int)+1=(↑(k+1):Int))) (cj (pv ((s:Int)+(↑(Mm.n (List.getD ms k default)):Int)=(↑(s+Mm.n (List.getD ms k default)):Int))) trivial))))))) (by kernel_rfl)
theorem f7c_end (W r0 r1 r2 r3:Int) (ms:List Mm) (s:Nat):Vc (vcC Try.prog false (ntOf Try.prog 49) (lpC Try.prog 49 0) (f7c (progL W r0 r1 r2 r3 (memR ms)) s ms.length) [.b false] (.ext 0) [(0,0)] (f7c (progL W r0 r1 r2 r3 (memR ms)) s ms.length)):=vc_by (cj (df ((ms.length:Int)<(ms.length:Int))) (cj (rf (W)) (cj (rf (r0)) (cj (rf (r1)) (cj (rf (r2)) (cj (rf (r3)) (cj (rf (ms.length)) (cj (rr (ms.length) (3) fun i j=>rowL mmC ms i j) (cj (rf ((ms.length:Int))) (cj (rf ((s:Int))) trivial)))))))))) (by kernel_rfl)
theorem f7c_loop (W r0 r1 r2 r3:Int) (ms:List Mm) (h64:ms.length<4611686018427387904) (hs:sumN ms<4611686018427387904):Ok Try.prog (ntOf Try.prog 49) (.loop (lpC Try.prog 49 0)) (f7c (progL W r0 r1 r2 r3 (memR ms)) 0 0).st (.ext 0) (f7c (progL W r0 r1 r2 r3 (memR ms)) (sumN ms) ms.length).st:=by
 have:=Ok.loop (P:=Try.prog) (nt:=ntOf Try.prog 49) (c:=lpC Try.prog 49 0) (F:=fun k=>f7c (progL W r0 r1 r2 r3 (memR ms)) (sumN (ms.take k)) k) (m:=ms.length) (x:= .ext 0) (J:=f7c (progL W r0 r1 r2 r3 (memR ms)) (sumN ms) ms.length) (fun k hk=>by
  have h1:=sumN_take hk
  have h2:=sumN_take_le ms (k+1)
  show Ok _ _ _ _ _ (f7c (progL W r0 r1 r2 r3 (memR ms)) (sumN (ms.take (k+1))) (k+1)).st
  rw [h1]
  exact Ok.vc (f7c_step W r0 r1 r2 r3 ms _ k hk h64 (by omega))) (by
  show Ok _ _ _ (f7c (progL W r0 r1 r2 r3 (memR ms)) (sumN (ms.take ms.length)) ms.length).st _ _
  rw [List.take_length]
  exact Ok.vc (f7c_end W r0 r1 r2 r3 ms _)) (by simp)
 simpa [sumN] using this
theorem f7c_vc (W r0 r1 r2 r3:Int) (ms:List Mm) (h64:ms.length<4611686018427387904) (hs:sumN ms<4611686018427387904):Vc (vcFn Try.prog false 49 [.agg (progL W r0 r1 r2 r3 (memR ms))] [.lp [(0,0)] (f7c (progL W r0 r1 r2 r3 (memR ms)) 0 0) (.ext 0) (f7c (progL W r0 r1 r2 r3 (memR ms)) (sumN ms) ms.length)] [] (.int .i64 (sumN ms)) []):=vc_by (zA7a0 W r0 r1 r2 r3 ms (cj (pv ((0:Int)=((0:Nat):Int))) (cj (pv ((0:Int)=((0:Nat):Int))) (cj (f7c_loop W r0 r1 r2 r3 ms h64 hs) (cj (rf ((↑(sumN ms):Int))) trivial))))) (by kernel_rfl)
theorem refCells (W r0 r1 r2 r3:Int) (ms:List Mm) (h64:ms.length<4611686018427387904) (hs:sumN ms<4611686018427387904):PureC Try.prog 49 [.agg (progL W r0 r1 r2 r3 (memR ms))] (.int .i64 (sumN ms)) []:=PureC.vc (f7c_vc W r0 r1 r2 r3 ms h64 hs)
def h7 (cs:List AV) (l:List Pl):List (Nat×Blk):=[box0 44 cs,(1,plB l)]
def own7 (l:List Pl):AV:= .own 1 0 3 0 l.length
def f7r (cs:List AV) (k:Nat) (l:List Pl):Sm:=⟨[(1, .bptr 0 0),(4, .int .i64 k),(3,own7 l)],h7 cs l,2⟩
def f7o (cs:List AV) (i a:Nat) (l:List Pl):Sm:=⟨[(1, .bptr 0 0),(6, .int .i64 i),(5, .int .i64 a),(3,own7 l)],h7 cs l,2⟩
def f7i (cs:List AV) (i k a:Nat) (l:List Pl):Sm:=⟨[(1, .bptr 0 0),(6, .int .i64 i),(5, .int .i64 a),(7, .int .i64 k),(3,own7 l)],h7 cs l,2⟩
theorem zA7a1 (W:Int) (r0:Int) (r1:Int) (r2:Int) (r3:Int) (ms:List Mm) (l:List Pl) {Z:Prop} (z:Z):(RF (W) (RF (r0) (RF (r1) (RF (r2) (RF (r3) (RF (ms.length) (RR (ms.length) (3) (fun i j=>rowL mmC ms i j) (RF (l.length) (RR (l.length) (3) (fun i j=>rowL plC l i j) Z))))))))):=⟨rfl,rfl,rfl,rfl,rfl,rfl,fun _ _ _ _=>rfl,rfl,fun _ _ _ _=>rfl,z⟩
theorem f7r_no0 (W r0 r1 r2 r3:Int) (ms:List Mm) (l:List Pl) (hz:r0=0):Vc (vcC Try.prog false (ntOf Try.prog 31) (lpC Try.prog 31 0) (f7r (progL W r0 r1 r2 r3 (memR ms)) 0 l) [.b true, .b false] .nrm [(0,0),(1,1)] (f7r (progL W r0 r1 r2 r3 (memR ms)) 1 l)):=vc_by (cj (dt (((0:Nat):Int)<4)) (cj (show (r0 !=(0:Int))=false from by simp [hz]) (cj (i6 (((0:Nat):Int)+1)) (zA7a1 W r0 r1 r2 r3 ms l (cj (pv (((0:Nat):Int)+1=((1:Nat):Int))) (cj (rf ((0:Nat))) (cj (rf (l.length)) trivial))))))) (by kernel_rfl)
theorem f7r_yes0 (W r0 r1 r2 r3:Int) (ms:List Mm) (l:List Pl) (hz: ¬r0=0) (hl:l.length<1000000):Vc (vcC Try.prog false (ntOf Try.prog 31) (lpC Try.prog 31 0) (f7r (progL W r0 r1 r2 r3 (memR ms)) 0 l) [.b true, .b true] .nrm [(0,0),(1,1)] (f7r (progL W r0 r1 r2 r3 (memR ms)) 1 (l++[⟨true,0,r0==2⟩]))):=vc_by (cj (dt (((0:Nat):Int)<4)) (cj (show (r0 !=(0:Int))=true from by simp [hz]) (cj (pv ((0:Nat)=0∧l.length=l.length∧(l.length+1)*24≤140737488355328∧l.length+1≤140737488355328)) (cj (i6 (((0:Nat):Int)+1)) (zA7a0 W r0 r1 r2 r3 ms (cj (pv (l.length+1=List.length (l++[Pl.mk true (0:Nat) (r0==(2:Int))]))) (cj (show ∀ (i:Nat),i<l.length+1→ ∀ (j:Nat),j<3→(bif Nat.blt i l.length then rowL plC l i j else List.getD [AV.bool true,AV.int IntKind.i64 ((0:Nat):Int),AV.bool (r0==(2:Int))] ((i-l.length+0)*3+j) AV.junk)=rowL plC (l++[Pl.mk true (0:Nat) (r0==(2:Int))]) i j from (fun i hi j hj=>row_if (fun h=>(rowL_left h).symm) (fun h=>by obtain rfl:i=_:=Nat.le_antisymm (Nat.lt_succ_iff.mp hi) (Nat.not_lt.mp h);rw [rowL_last,Nat.sub_self];match j,hj with |0,_=>rfl |1,_=>rfl |2,_=>rfl))) (cj (pv (((0:Nat):Int)+1=((1:Nat):Int))) (cj (rf ((0:Nat))) (cj (pv (l.length+1=List.length (l++[Pl.mk true (0:Nat) (r0==(2:Int))]))) trivial)))))))))) (by kernel_rfl)
theorem f7r_no1 (W r0 r1 r2 r3:Int) (ms:List Mm) (l:List Pl) (hz:r1=0):Vc (vcC Try.prog false (ntOf Try.prog 31) (lpC Try.prog 31 0) (f7r (progL W r0 r1 r2 r3 (memR ms)) 1 l) [.b true, .b false] .nrm [(0,0),(1,1)] (f7r (progL W r0 r1 r2 r3 (memR ms)) 2 l)):=vc_by (cj (dt (((1:Nat):Int)<4)) (cj (show (r1 !=(0:Int))=false from by simp [hz]) (cj (i6 (((1:Nat):Int)+1)) (zA7a1 W r0 r1 r2 r3 ms l (cj (pv (((1:Nat):Int)+1=((2:Nat):Int))) (cj (rf ((0:Nat))) (cj (rf (l.length)) trivial))))))) (by kernel_rfl)
theorem f7r_yes1 (W r0 r1 r2 r3:Int) (ms:List Mm) (l:List Pl) (hz: ¬r1=0) (hl:l.length<1000000):Vc (vcC Try.prog false (ntOf Try.prog 31) (lpC Try.prog 31 0) (f7r (progL W r0 r1 r2 r3 (memR ms)) 1 l) [.b true, .b true] .nrm [(0,0),(1,1)] (f7r (progL W r0 r1 r2 r3 (memR ms)) 2 (l++[⟨true,1,r1==2⟩]))):=vc_by (cj (dt (((1:Nat):Int)<4)) (cj (show (r1 !=(0:Int))=true from by simp [hz]) (cj (pv ((0:Nat)=0∧l.length=l.length∧(l.length+1)*24≤140737488355328∧l.length+1≤140737488355328)) (cj (i6 (((1:Nat):Int)+1)) (zA7a0 W r0 r1 r2 r3 ms (cj (pv (l.length+1=List.length (l++[Pl.mk true (1:Nat) (r1==(2:Int))]))) (cj (show ∀ (i:Nat),i<l.length+1→ ∀ (j:Nat),j<3→(bif Nat.blt i l.length then rowL plC l i j else List.getD [AV.bool true,AV.int IntKind.i64 ((1:Nat):Int),AV.bool (r1==(2:Int))] ((i-l.length+0)*3+j) AV.junk)=rowL plC (l++[Pl.mk true (1:Nat) (r1==(2:Int))]) i j from (fun i hi j hj=>row_if (fun h=>(rowL_left h).symm) (fun h=>by obtain rfl:i=_:=Nat.le_antisymm (Nat.lt_succ_iff.mp hi) (Nat.not_lt.mp h);rw [rowL_last,Nat.sub_self];match j,hj with |0,_=>rfl |1,_=>rfl |2,_=>rfl))) (cj (pv (((1:Nat):Int)+1=((2:Nat):Int))) (cj (rf ((0:Nat))) (cj (pv (l.length+1=List.length (l++[Pl.mk true (1:Nat) (r1==(2:Int))]))) trivial)))))))))) (by kernel_rfl)
theorem f7r_no2 (W r0 r1 r2 r3:Int) (ms:List Mm) (l:List Pl) (hz:r2=0):Vc (vcC Try.prog false (ntOf Try.prog 31) (lpC Try.prog 31 0) (f7r (progL W r0 r1 r2 r3 (memR ms)) 2 l) [.b true, .b false] .nrm [(0,0),(1,1)] (f7r (progL W r0 r1 r2 r3 (memR ms)) 3 l)):=vc_by (cj (dt (((2:Nat):Int)<4)) (cj (show (r2 !=(0:Int))=false from by simp [hz]) (cj (i6 (((2:Nat):Int)+1)) (zA7a1 W r0 r1 r2 r3 ms l (cj (pv (((2:Nat):Int)+1=((3:Nat):Int))) (cj (rf ((0:Nat))) (cj (rf (l.length)) trivial))))))) (by kernel_rfl)
theorem f7r_yes2 (W r0 r1 r2 r3:Int) (ms:List Mm) (l:List Pl) (hz: ¬r2=0) (hl:l.length<1000000):Vc (vcC Try.prog false (ntOf Try.prog 31) (lpC Try.prog 31 0) (f7r (progL W r0 r1 r2 r3 (memR ms)) 2 l) [.b true, .b true] .nrm [(0,0),(1,1)] (f7r (progL W r0 r1 r2 r3 (memR ms)) 3 (l++[⟨true,2,r2==2⟩]))):=vc_by (cj (dt (((2:Nat):Int)<4)) (cj (show (r2 !=(0:Int))=true from by simp [hz]) (cj (pv ((0:Nat)=0∧l.length=l.length∧(l.length+1)*24≤140737488355328∧l.length+1≤140737488355328)) (cj (i6 (((2:Nat):Int)+1)) (zA7a0 W r0 r1 r2 r3 ms (cj (pv (l.length+1=List.length (l++[Pl.mk true (2:Nat) (r2==(2:Int))]))) (cj (show ∀ (i:Nat),i<l.length+1→ ∀ (j:Nat),j<3→(bif Nat.blt i l.length then rowL plC l i j else List.getD [AV.bool true,AV.int IntKind.i64 ((2:Nat):Int),AV.bool (r2==(2:Int))] ((i-l.length+0)*3+j) AV.junk)=rowL plC (l++[Pl.mk true (2:Nat) (r2==(2:Int))]) i j from (fun i hi j hj=>row_if (fun h=>(rowL_left h).symm) (fun h=>by obtain rfl:i=_:=Nat.le_antisymm (Nat.lt_succ_iff.mp hi) (Nat.not_lt.mp h);rw [rowL_last,Nat.sub_self];match j,hj with |0,_=>rfl |1,_=>rfl |2,_=>rfl))) (cj (pv (((2:Nat):Int)+1=((3:Nat):Int))) (cj (rf ((0:Nat))) (cj (pv (l.length+1=List.length (l++[Pl.mk true (2:Nat) (r2==(2:Int))]))) trivial)))))))))) (by kernel_rfl)
theorem f7r_no3 (W r0 r1 r2 r3:Int) (ms:List Mm) (l:List Pl) (hz:r3=0):Vc (vcC Try.prog false (ntOf Try.prog 31) (lpC Try.prog 31 0) (f7r (progL W r0 r1 r2 r3 (memR ms)) 3 l) [.b true, .b false] .nrm [(0,0),(1,1)] (f7r (progL W r0 r1 r2 r3 (memR ms)) 4 l)):=vc_by (cj (dt (((3:Nat):Int)<4)) (cj (show (r3 !=(0:Int))=false from by simp [hz]) (cj (i6 (((3:Nat):Int)+1)) (zA7a1 W r0 r1 r2 r3 ms l (cj (pv (((3:Nat):Int)+1=((4:Nat):Int))) (cj (rf ((0:Nat))) (cj (rf (l.length)) trivial))))))) (by kernel_rfl)
theorem f7r_yes3 (W r0 r1 r2 r3:Int) (ms:List Mm) (l:List Pl) (hz: ¬r3=0) (hl:l.length<1000000):Vc (vcC Try.prog false (ntOf Try.prog 31) (lpC Try.prog 31 0) (f7r (progL W r0 r1 r2 r3 (memR ms)) 3 l) [.b true, .b true] .nrm [(0,0),(1,1)] (f7r (progL W r0 r1 r2 r3 (memR ms)) 4 (l++[⟨true,3,r3==2⟩]))):=vc_by (cj (dt (((3:Nat):Int)<4)) (cj (show (r3 !=(0:Int))=true from by simp [hz]) (cj (pv ((0:Nat)=0∧l.length=l.length∧(l.length+1)*24≤140737488355328∧l.length+1≤140737488355328)) (cj (i6 (((3:Nat):Int)+1)) (zA7a0 W r0 r1 r2 r3 ms (cj (pv (l.length+1=List.length (l++[Pl.mk true (3:Nat) (r3==(2:Int))]))) (cj (show ∀ (i:Nat),i<l.length+1→ ∀ (j:Nat),j<3→(bif Nat.blt i l.length then rowL plC l i j else List.getD [AV.bool true,AV.int IntKind.i64 ((3:Nat):Int),AV.bool (r3==(2:Int))] ((i-l.length+0)*3+j) AV.junk)=rowL plC (l++[Pl.mk true (3:Nat) (r3==(2:Int))]) i j from (fun i hi j hj=>row_if (fun h=>(rowL_left h).symm) (fun h=>by obtain rfl:i=_:=Nat.le_antisymm (Nat.lt_succ_iff.mp hi) (Nat.not_lt.mp h);rw [rowL_last,Nat.sub_self];match j,hj with |0,_=>rfl |1,_=>rfl |2,_=>rfl))) (cj (pv (((3:Nat):Int)+1=((4:Nat):Int))) (cj (rf ((0:Nat))) (cj (pv (l.length+1=List.length (l++[Pl.mk true (3:Nat) (r3==(2:Int))]))) trivial)))))))))) (by kernel_rfl)
theorem f7r_end (W r0 r1 r2 r3:Int) (ms:List Mm) (l:List Pl):Vc (vcC Try.prog false (ntOf Try.prog 31) (lpC Try.prog 31 0) (f7r (progL W r0 r1 r2 r3 (memR ms)) 4 l) [] (.ext 0) [(0,0),(1,1)] (f7r (progL W r0 r1 r2 r3 (memR ms)) 4 l)):=vc_by (zA7a1 W r0 r1 r2 r3 ms l (cj (rf (((4:Nat):Int))) (cj (rf ((0:Nat))) (cj (rf (l.length)) trivial)))) (by kernel_rfl)
theorem f7r_loop (W r0 r1 r2 r3:Int) (ms:List Mm):Ok Try.prog (ntOf Try.prog 31) (.loop (lpC Try.prog 31 0)) (f7r (progL W r0 r1 r2 r3 (memR ms)) 0 []).st (.ext 0) (f7r (progL W r0 r1 r2 r3 (memR ms)) 4 (regL (rg r0 r1 r2 r3) 4)).st:=
 Ok.loop (P:=Try.prog) (nt:=ntOf Try.prog 31) (c:=lpC Try.prog 31 0) (F:=fun k=>f7r (progL W r0 r1 r2 r3 (memR ms)) k (regL (rg r0 r1 r2 r3) k)) (m:=4) (x:= .ext 0) (J:=f7r (progL W r0 r1 r2 r3 (memR ms)) 4 (regL (rg r0 r1 r2 r3) 4)) (fun k hk=>by
  match k,hk with
  |0,_=>
   by_cases hz:r0=0
   ·have e:regL (rg r0 r1 r2 r3) 1=regL (rg r0 r1 r2 r3) 0:=regL_zero (k:=0) hz
    show Ok _ _ _ _ _ (f7r _ 1 (regL (rg r0 r1 r2 r3) 1)).st
    rw [e]
    exact Ok.vc (f7r_no0 W r0 r1 r2 r3 ms _ hz)
   ·have e:regL (rg r0 r1 r2 r3) 1=regL (rg r0 r1 r2 r3) 0++[⟨true,0,r0==2⟩]:=regL_pos (k:=0) hz
    show Ok _ _ _ _ _ (f7r _ 1 (regL (rg r0 r1 r2 r3) 1)).st
    rw [e]
    exact Ok.vc (f7r_yes0 W r0 r1 r2 r3 ms _ hz (by have:=regL_le (rg r0 r1 r2 r3) 0;omega))
  |1,_=>
   by_cases hz:r1=0
   ·have e:regL (rg r0 r1 r2 r3) 2=regL (rg r0 r1 r2 r3) 1:=regL_zero (k:=1) hz
    show Ok _ _ _ _ _ (f7r _ 2 (regL (rg r0 r1 r2 r3) 2)).st
    rw [e]
    exact Ok.vc (f7r_no1 W r0 r1 r2 r3 ms _ hz)
   ·have e:regL (rg r0 r1 r2 r3) 2=regL (rg r0 r1 r2 r3) 1++[⟨true,1,r1==2⟩]:=regL_pos (k:=1) hz
    show Ok _ _ _ _ _ (f7r _ 2 (regL (rg r0 r1 r2 r3) 2)).st
    rw [e]
    exact Ok.vc (f7r_yes1 W r0 r1 r2 r3 ms _ hz (by have:=regL_le (rg r0 r1 r2 r3) 1;omega))
  |2,_=>
   by_cases hz:r2=0
   ·have e:regL (rg r0 r1 r2 r3) 3=regL (rg r0 r1 r2 r3) 2:=regL_zero (k:=2) hz
    show Ok _ _ _ _ _ (f7r _ 3 (regL (rg r0 r1 r2 r3) 3)).st
    rw [e]
    exact Ok.vc (f7r_no2 W r0 r1 r2 r3 ms _ hz)
   ·have e:regL (rg r0 r1 r2 r3) 3=regL (rg r0 r1 r2 r3) 2++[⟨true,2,r2==2⟩]:=regL_pos (k:=2) hz
    show Ok _ _ _ _ _ (f7r _ 3 (regL (rg r0 r1 r2 r3) 3)).st
    rw [e]
    exact Ok.vc (f7r_yes2 W r0 r1 r2 r3 ms _ hz (by have:=regL_le (rg r0 r1 r2 r3) 2;omega))
  |3,_=>
   by_cases hz:r3=0
   ·have e:regL (rg r0 r1 r2 r3) 4=regL (rg r0 r1 r2 r3) 3:=regL_zero (k:=3) hz
    show Ok _ _ _ _ _ (f7r _ 4 (regL (rg r0 r1 r2 r3) 4)).st
    rw [e]
    exact Ok.vc (f7r_no3 W r0 r1 r2 r3 ms _ hz)
   ·have e:regL (rg r0 r1 r2 r3) 4=regL (rg r0 r1 r2 r3) 3++[⟨true,3,r3==2⟩]:=regL_pos (k:=3) hz
    show Ok _ _ _ _ _ (f7r _ 4 (regL (rg r0 r1 r2 r3) 4)).st
    rw [e]
    exact Ok.vc (f7r_yes3 W r0 r1 r2 r3 ms _ hz (by have:=regL_le (rg r0 r1 r2 r3) 3;omega))) (Ok.vc (f7r_end W r0 r1 r2 r3 ms _)) (by simp)
theorem f7i_step (W r0 r1 r2 r3:Int) (ms:List Mm) (i k a:Nat) (l:List Pl) (h64:ms.length<4611686018427387904) (hi:i<ms.length) (hl:l.length<1000000000000) (ha:a<4611686018427387904) (hn:k<4611686018427387904) (hk:k<(ms.getD i default).n):Vc (vcC Try.prog false (ntOf Try.prog 31) (lpC Try.prog 31 2) (f7i (progL W r0 r1 r2 r3 (memR ms)) i k a l) [.b true] .nrm [(0,0),(1,1)] (f7i (progL W r0 r1 r2 r3 (memR ms)) i (k+1) (a+1) (l++[⟨false,a,(ms.getD i default).sec⟩]))):=vc_by (cj (pv ((0:Int)≤(i:Int)∧(i:Int)<(ms.length:Int))) (cj (dt ((k:Int)<(↑(Mm.n (List.getD ms i default)):Int))) (cj (pv ((0:Int)≤(i:Int)∧(i:Int)<(ms.length:Int))) (cj (pv ((0:Nat)=0∧l.length=l.length∧(l.length+1)*24≤140737488355328∧l.length+1≤140737488355328)) (cj (i6 ((a:Int)+1)) (cj (i6 ((k:Int)+1)) (zA7a0 W r0 r1 r2 r3 ms (cj (pv (l.length+1=List.length (l++[Pl.mk false a (Mm.sec (List.getD ms i default))]))) (cj (show ∀ (i_1:Nat),i_1<l.length+1→ ∀ (j:Nat),j<3→(bif Nat.blt i_1 l.length then rowL plC l i_1 j else List.getD [AV.bool false,AV.int IntKind.i64 (a:Int),AV.bool (Mm.sec (List.getD ms i default))] ((i_1-l.length+0)*3+j) AV.junk)=rowL plC (l++[Pl.mk false a (Mm.sec (List.getD ms i default))]) i_1 j from (fun i hi j hj=>row_if (fun h=>(rowL_left h).symm) (fun h=>by obtain rfl:i=_:=Nat.le_antisymm (Nat.lt_succ_iff.mp hi) (Nat.not_lt.mp h);rw [rowL_last,Nat.sub_self];match j,hj with |0,_=>rfl |1,_=>rfl |2,_=>rfl))) (cj (rf ((i:Int))) (cj (pv ((a:Int)+1=(↑(a+1):Int))) (cj (pv ((k:Int)+1=(↑(k+1):Int))) (cj (rf ((0:Nat))) (cj (pv (l.length+1=List.length (l++[Pl.mk false a (Mm.sec (List.getD ms i default))]))) trivial)))))))))))))) (by kernel_rfl)
theorem f7i_end (W r0 r1 r2 r3:Int) (ms:List Mm) (i k a:Nat) (l:List Pl) (h64:ms.length<4611686018427387904) (hi:i<ms.length) (hl:l.length<1000000000000) (ha:a<4611686018427387904) (hn:k<4611686018427387904) (hk:k=(ms.getD i default).n):Vc (vcC Try.prog false (ntOf Try.prog 31) (lpC Try.prog 31 2) (f7i (progL W r0 r1 r2 r3 (memR ms)) i k a l) [.b false] (.ext 4) [(0,0),(1,1)] (f7i (progL W r0 r1 r2 r3 (memR ms)) i k a l)):=vc_by (cj (pv ((0:Int)≤(i:Int)∧(i:Int)<(ms.length:Int))) (cj (df ((k:Int)<(↑(Mm.n (List.getD ms i default)):Int))) (zA7a1 W r0 r1 r2 r3 ms l (cj (rf ((i:Int))) (cj (rf ((a:Int))) (cj (rf ((k:Int))) (cj (rf ((0:Nat))) (cj (rf (l.length)) trivial)))))))) (by kernel_rfl)
theorem f7i_loop (W r0 r1 r2 r3:Int) (ms:List Mm) (i a:Nat) (l:List Pl) (h64:ms.length<4611686018427387904) (hi:i<ms.length) (hb:l.length+(ms.getD i default).n<1000000000000) (ha:a+(ms.getD i default).n<4611686018427387904):Ok Try.prog (ntOf Try.prog 31) (.loop (lpC Try.prog 31 2)) (f7i (progL W r0 r1 r2 r3 (memR ms)) i 0 a l).st (.ext 4) (f7i (progL W r0 r1 r2 r3 (memR ms)) i (ms.getD i default).n (a+(ms.getD i default).n) (l++celL (ms.getD i default).sec a (ms.getD i default).n)).st:=by
 have:=Ok.loop (P:=Try.prog) (nt:=ntOf Try.prog 31) (c:=lpC Try.prog 31 2) (F:=fun k=>f7i (progL W r0 r1 r2 r3 (memR ms)) i k (a+k) (l++celL (ms.getD i default).sec a k)) (m:=(ms.getD i default).n) (x:= .ext 4) (J:=f7i (progL W r0 r1 r2 r3 (memR ms)) i (ms.getD i default).n (a+(ms.getD i default).n) (l++celL (ms.getD i default).sec a (ms.getD i default).n)) (fun k hk=>by
  show Ok _ _ _ _ _ (f7i _ i (k+1) (a+(k+1)) (l++celL (ms.getD i default).sec a (k+1))).st
  rw [celL_succ, ←List.append_assoc]
  exact Ok.vc (f7i_step W r0 r1 r2 r3 ms i k (a+k) _ h64 hi (by simp only [List.length_append,celL_length];omega) (by omega) (by omega) hk))
  (Ok.vc (f7i_end W r0 r1 r2 r3 ms i _ _ _ h64 hi (by simp only [List.length_append,celL_length];omega) (by omega) (by omega) rfl)) (by simp)
 simpa [celL] using this
theorem f7o_step (W r0 r1 r2 r3:Int) (ms:List Mm) (i a:Nat) (l:List Pl) (h64:ms.length<4611686018427387904) (hi:i<ms.length) (hb:l.length+(ms.getD i default).n<1000000000000) (ha:a+(ms.getD i default).n<4611686018427387904):Vc (vcC Try.prog false (ntOf Try.prog 31) (lpC Try.prog 31 1) (f7o (progL W r0 r1 r2 r3 (memR ms)) i a l) [.b true, .lp [(0,0),(1,1)] (f7i (progL W r0 r1 r2 r3 (memR ms)) i 0 a l) (.ext 4) (f7i (progL W r0 r1 r2 r3 (memR ms)) i (ms.getD i default).n (a+(ms.getD i default).n) (l++celL (ms.getD i default).sec a (ms.getD i default).n))] .nrm [(0,0),(1,1)] (f7o (progL W r0 r1 r2 r3 (memR ms)) (i+1) (a+(ms.getD i default).n) (l++celL (ms.getD i default).sec a (ms.getD i default).n))):=vc_by (cj (dt ((i:Int)<(ms.length:Int))) (zA7a1 W r0 r1 r2 r3 ms l (cj (rf ((i:Int))) (cj (rf ((a:Int))) (cj (pv ((0:Int)=((0:Nat):Int))) (cj (rf ((0:Nat))) (cj (rf (l.length)) (cj (f7i_loop W r0 r1 r2 r3 ms i a l h64 hi hb ha) (cj (i6 ((i:Int)+1)) (cj (rf (W)) (cj (rf (r0)) (cj (rf (r1)) (cj (rf (r2)) (cj (rf (r3)) (cj (rf (ms.length)) (cj (rr (ms.length) (3) fun i j=>rowL mmC ms i j) (cj (rf (List.length (l++celL (Mm.sec (List.getD ms i default)) a (Mm.n (List.getD ms i default))))) (cj (rr (List.length (l++celL (Mm.sec (List.getD ms i default)) a (Mm.n (List.getD ms i default)))) (3) fun i_1 j=>rowL plC (l++celL (Mm.sec (List.getD ms i default)) a (Mm.n (List.getD ms i default))) i_1 j) (cj (pv ((i:Int)+1=(↑(i+1):Int))) (cj (rf ((↑(a+Mm.n (List.getD ms i default)):Int))) (cj (rf ((0:Nat))) (cj (rf (List.length (l++celL (Mm.sec (List.getD ms i default)) a (Mm.n (List.getD ms i default))))) trivial)))))))))))))))))))))) (by kernel_rfl)
theorem f7o_end (W r0 r1 r2 r3:Int) (ms:List Mm) (a:Nat) (l:List Pl):Vc (vcC Try.prog false (ntOf Try.prog 31) (lpC Try.prog 31 1) (f7o (progL W r0 r1 r2 r3 (memR ms)) ms.length a l) [.b false] (.ext 2) [(0,0),(1,1)] (f7o (progL W r0 r1 r2 r3 (memR ms)) ms.length a l)):=vc_by (cj (df ((ms.length:Int)<(ms.length:Int))) (zA7a1 W r0 r1 r2 r3 ms l (cj (rf ((ms.length:Int))) (cj (rf ((a:Int))) (cj (rf ((0:Nat))) (cj (rf (l.length)) trivial)))))) (by kernel_rfl)
theorem f7o_loop (W r0 r1 r2 r3:Int) (ms:List Mm) (l:List Pl) (h64:ms.length<4611686018427387904) (hb:l.length+sumN ms<1000000000000):Ok Try.prog (ntOf Try.prog 31) (.loop (lpC Try.prog 31 1)) (f7o (progL W r0 r1 r2 r3 (memR ms)) 0 0 l).st (.ext 2) (f7o (progL W r0 r1 r2 r3 (memR ms)) ms.length (sumN ms) (l++memL 0 ms)).st:=by
 have:=Ok.loop (P:=Try.prog) (nt:=ntOf Try.prog 31) (c:=lpC Try.prog 31 1) (F:=fun k=>f7o (progL W r0 r1 r2 r3 (memR ms)) k (sumN (ms.take k)) (l++memL 0 (ms.take k))) (m:=ms.length) (x:= .ext 2) (J:=f7o (progL W r0 r1 r2 r3 (memR ms)) ms.length (sumN ms) (l++memL 0 ms)) (fun k hk=>by
  have h1:=sumN_take hk
  have h2:=sumN_take_le ms (k+1)
  show Ok _ _ _ _ _ (f7o _ (k+1) (sumN (ms.take (k+1))) (l++memL 0 (ms.take (k+1)))).st
  rw [memL_take hk,Nat.zero_add, ←List.append_assoc,h1]
  exact Ok.vc (f7o_step W r0 r1 r2 r3 ms k _ _ h64 hk (by simp only [List.length_append,memL_length];omega) (by omega)))
  (by
   show Ok _ _ _ (f7o _ ms.length (sumN (ms.take ms.length)) (l++memL 0 (ms.take ms.length))).st _ _
   rw [List.take_length]
   exact Ok.vc (f7o_end W r0 r1 r2 r3 ms _ _)) (by simp)
 simpa [sumN,memL] using this
theorem f7p_vc (W r0 r1 r2 r3:Int) (ms:List Mm) (h64:ms.length<4611686018427387904) (hb:sumN ms<100000000000):Vc (vcFn Try.prog false 31 [.agg (progL W r0 r1 r2 r3 (memR ms))] [.lp [(0,0)] (f7r (progL W r0 r1 r2 r3 (memR ms)) 0 []) (.ext 0) (f7r (progL W r0 r1 r2 r3 (memR ms)) 4 (regL (rg r0 r1 r2 r3) 4)), .lp [(0,0),(1,1)] (f7o (progL W r0 r1 r2 r3 (memR ms)) 0 0 (regL (rg r0 r1 r2 r3) 4)) (.ext 2) (f7o (progL W r0 r1 r2 r3 (memR ms)) ms.length (sumN ms) ((regL (rg r0 r1 r2 r3) 4)++memL 0 ms))] [(0,1)] (.own 0 0 3 0 (places (rg r0 r1 r2 r3) ms).length) [plB (places (rg r0 r1 r2 r3) ms)]):=vc_by (cj (rf (W)) (cj (rf (r0)) (cj (rf (r1)) (cj (rf (r2)) (cj (rf (r3)) (cj (rf (ms.length)) (cj (rr (ms.length) (3) fun i j=>rowL mmC ms i j) (cj (rf ((0:Nat))) (cj (pv ((0:Int)=((0:Nat):Int))) (cj (rf ((0:Nat))) (cj (rf ((0:Nat))) (cj (f7r_loop W r0 r1 r2 r3 ms) (cj (rf (W)) (cj (rf (r0)) (cj (rf (r1)) (cj (rf (r2)) (cj (rf (r3)) (cj (rf (ms.length)) (cj (rr (ms.length) (3) fun i j=>rowL mmC ms i j) (cj (rf (List.length (regL (rg r0 r1 r2 r3) (4:Nat)))) (cj (rr (List.length (regL (rg r0 r1 r2 r3) (4:Nat))) (3) fun i j=>rowL plC (regL (rg r0 r1 r2 r3) (4:Nat)) i j) (cj (pv ((0:Int)=((0:Nat):Int))) (cj (pv ((0:Int)=((0:Nat):Int))) (cj (rf ((0:Nat))) (cj (rf (List.length (regL (rg r0 r1 r2 r3) (4:Nat)))) (cj (show Ok Try.prog (ntOf Try.prog 31) (.loop (lpC Try.prog 31 1)) (f7o (progL W r0 r1 r2 r3 (memR ms)) 0 0 (regL (rg r0 r1 r2 r3) 4)).st (.ext 2) (f7o (progL W r0 r1 r2 r3 (memR ms)) ms.length (sumN ms) ((regL (rg r0 r1 r2 r3) 4)++memL 0 ms)).st from f7o_loop W r0 r1 r2 r3 ms _ h64 (by have:=regL_le (rg r0 r1 r2 r3) 4;omega)) (cj (pv (List.length (regL (rg r0 r1 r2 r3) (4:Nat)++memL (0:Nat) ms)=List.length (places (rg r0 r1 r2 r3) ms))) (cj (show ∀ (i:Nat),i<List.length (regL (rg r0 r1 r2 r3) (4:Nat)++memL (0:Nat) ms)→ ∀ (j:Nat),j<3→rowL plC (regL (rg r0 r1 r2 r3) (4:Nat)++memL (0:Nat) ms) i j=rowL plC (places (rg r0 r1 r2 r3) ms) i j from fun _ _ _ _=>rfl) (cj (rf ((0:Nat))) (cj (pv (List.length (regL (rg r0 r1 r2 r3) (4:Nat)++memL (0:Nat) ms)=List.length (places (rg r0 r1 r2 r3) ms))) trivial)))))))))))))))))))))))))))))) (by kernel_rfl)
theorem refPlaces (W r0 r1 r2 r3:Int) (ms:List Mm) (h64:ms.length<4611686018427387904) (hb:sumN ms<100000000000):PureC Try.prog 31 [.agg (progL W r0 r1 r2 r3 (memR ms))] (.own 0 0 3 0 (places (rg r0 r1 r2 r3) ms).length) [plB (places (rg r0 r1 r2 r3) ms)]:=PureC.vc (f7p_vc W r0 r1 r2 r3 ms h64 hb)
end
end Go.Proofs.Ytfjapapiappacaa.Px
namespace Go.Proofs.Ytfjapapiappacaa.Px
section
open Go.RowKit Go.Proofs.Ytfjapapiappacaa.Rx
structure S7 where
 r0:Int
 r1:Int
 r2:Int
 r3:Int
 m:List Int
def put7 (s:S7) (p:Pl) (v:Int):S7:=
 if p.reg=true then (if p.n=0 then {s with r0:=v} else if p.n=1 then {s with r1:=v} else if p.n=2 then {s with r2:=v} else {s with r3:=v}) else {s with m:=s.m.set p.n v}
def putK (W:Int) (pl:List Pl) (l:List Int) (s0:S7):Nat→S7
 |0=>s0
 |k+1=>put7 (putK W pl l s0 k) (pl.getD k default) (Wd.maskV W (l.getD k 0))
def zer7 (N:Nat):S7:=⟨0,0,0,0,List.replicate N 0⟩
def plOk (N:Nat) (p:Pl):Prop:=(p.reg=true→p.n<4)∧(p.reg=false→p.n<N)
def stZ (a:AV):List AV:=[.int .i64 0, .int .i64 0, .int .i64 0, .int .i64 0,a, .nils, .int .i64 0]
def stC (s:S7) (a:AV):List AV:=[.int .i64 s.r0, .int .i64 s.r1, .int .i64 s.r2, .int .i64 s.r3,a, .nils, .int .i64 0]
def bx (e:TypeId) (cs:List AV):Blk:=⟨0,false,e, .box cs⟩
def blkI (l:List Int):Blk:=⟨0,false,3, .rows 1 l.length (rowI l)⟩
theorem put7_len (s:S7) (p:Pl) (v:Int):(put7 s p v).m.length=s.m.length:=by
 unfold put7
 repeat' split
 all_goals first |rfl |simp
theorem putK_len (W:Int) (pl:List Pl) (l:List Int) (s:S7) (k:Nat):(putK W pl l s k).m.length=s.m.length:=by
 induction k with
 |zero=>rfl
 |succ k ih=>rw [putK,put7_len,ih]
theorem rowI_set {m:List Int} {n i j:Nat} {v:Int} {a:AV} (hi:i<m.length) (ha:a= .int .i64 v):(bif Nat.beq i n then a else rowI m i j)=rowI (m.set n v) i j:=by
 unfold rowI
 subst ha
 by_cases h:i=n
 ·subst h
  simp [List.getD,hi]
 ·have:Nat.beq i n=false:=by
   cases hb:Nat.beq i n with
   |false=>rfl
   |true=>exact absurd (Nat.eq_of_beq_eq_true hb) h
  rw [this]
  simp [List.getD,List.getElem?_set,Ne.symm h]
theorem set_row {m:List Int} {n:Nat} {v:Int}: ∀ i,i<m.length→ ∀ j,j<1→(bif Nat.ble 0 j&&Nat.blt j 1&&Nat.beq i (n+0) then [AV.int .i64 v].getD (j-0) .junk else AV.int .i64 (m.getD i 0))= .int .i64 ((m.set n v).getD i 0):=by
 intro i hi j hj
 obtain rfl:j=0:=by omega
 show (bif Nat.beq i n then AV.int .i64 v else AV.int .i64 (m.getD i 0))=_
 exact rowI_set (m:=m) (i:=i) (j:=0) (n:=n) (v:=v) hi rfl
theorem rowI_rep {N:Nat} {a:AV} (ha:a= .int .i64 0) (i j:Nat) (hi:i<N):a=rowI (List.replicate N 0) i j:=by
 unfold rowI
 rw [ha]
 simp [List.getD,hi]
theorem places_ok (r:Nat→Int) (ms:List Mm): ∀ p∈places r ms,plOk (sumN ms) p:=by
 intro p hp
 rcases List.mem_append.1 hp with hp |hp
 ·have key: ∀ k,p∈regL r k→p.reg=true∧p.n<k:=by
   intro k
   induction k with
   |zero=>intro h;cases h
   |succ k ih=>
    intro h
    rcases List.mem_append.1 h with h |h
    ·have:=ih h;exact ⟨this.1,by omega⟩
    ·split at h
     ·cases h
     ·rw [List.mem_singleton] at h
      subst h
      exact ⟨rfl,Nat.lt_succ_self k⟩
  have:=key 4 hp
  exact ⟨fun _=>this.2,fun h=>by rw [this.1] at h;cases h⟩
 ·have key: ∀ (l:List Mm) (at_:Nat),p∈memL at_ l→p.reg=false∧p.n<at_+sumN l:=by
   intro l
   induction l with
   |nil=>intro at_ h;cases h
   |cons m l ih=>
    intro at_ h
    rcases List.mem_append.1 h with h |h
    ·obtain ⟨i,hi,rfl⟩:=List.mem_map.1 h
     rw [List.mem_range] at hi
     refine ⟨rfl, ?_⟩
     show at_+i<_
     simp only [sumN];omega
    ·have:=ih _ h
     refine ⟨this.1, ?_⟩
     simp only [sumN];omega
  have:=key ms 0 hp
  exact ⟨fun h=>(by rw [this.1] at h;cases h),fun _=>by omega⟩
theorem places_length (r:Nat→Int) (ms:List Mm):(places r ms).length≤4+sumN ms:=by
 have:=regL_le r 4
 have h2:=memL_length 0 ms
 simp only [places,List.length_append];omega
theorem getD_mem {pl:List Pl} {k:Nat} (h:k<pl.length):pl.getD k default∈pl:=by
 simp [List.getD,h]
structure Vl where
 reg:Bool
 n:Int
structure In where
 kind:Int
 op:Int
 d:Int
 a:Vl
 b:Vl
 nm:ByteArray
 tg:Int
structure Lb where
 nm:ByteArray
 at_:Int
structure Pg where
 W:Int
 win:Int
 fuel:Int
 r0:Int
 r1:Int
 r2:Int
 r3:Int
 ms:List Mm
 ls:List Lb
 is:List In
structure S8 where
 r0:Int
 r1:Int
 r2:Int
 r3:Int
 m:List Int
 st:List Int
 pc:Int
structure Ob where
 k:Int
 a:Int
def In0:In:=⟨0,0,0,⟨false,0⟩,⟨false,0⟩,⟨#[]⟩,0⟩
instance:Inhabited In:=⟨In0⟩
instance:Inhabited Lb:=⟨⟨⟨#[]⟩,0⟩⟩
instance:Inhabited Ob:=⟨⟨0,0⟩⟩
def inA (i:In):List AV:=[.int .i64 i.kind, .int .i64 i.op, .int .i64 i.d, .bool i.a.reg, .int .i64 i.a.n, .bool i.b.reg, .int .i64 i.b.n, .str i.nm, .int .i64 i.tg]
def inC (i:In) (j:Nat):AV:=(inA i).getD j .junk
def inR (l:List In):AV:= .row 9 l.length (rowL inC l)
def vlA (v:Vl):List AV:=[.bool v.reg, .int .i64 v.n]
def lbC (l:Lb) (j:Nat):AV:=[AV.str l.nm, .int .i64 l.at_].getD j .junk
def lbR (l:List Lb):AV:= .row 2 l.length (rowL lbC l)
def obC (o:Ob) (j:Nat):AV:=[AV.int .i64 o.k, .int .i64 o.a].getD j .junk
def obR (l:List Ob):AV:= .row 2 l.length (rowL obC l)
def pgA (p:Pg):List AV:=[.int .i64 p.W, .int .i64 p.win, .int .i64 p.fuel, .int .i64 p.r0, .int .i64 p.r1, .int .i64 p.r2, .int .i64 p.r3,memR p.ms,lbR p.ls,inR p.is]
def s8A (s:S8) (am ak:AV):List AV:=[.int .i64 s.r0, .int .i64 s.r1, .int .i64 s.r2, .int .i64 s.r3,am,ak, .int .i64 s.pc]
def atI (p:Pg) (pc:Int):In:=if 0≤pc∧pc<p.is.length then p.is.getD pc.toNat default else {In0 with kind:=12}
def S8.reg (s:S8) (n:Int):Int:=if n=0 then s.r0 else if n=1 then s.r1 else if n=2 then s.r2 else s.r3
def S8.set (s:S8) (n v:Int):S8:=⟨if n=0 then v else s.r0,if n=1 then v else s.r1,if n=2 then v else s.r2,if n=3 then v else s.r3,s.m,s.st,s.pc⟩
def okV (v:Vl):Prop:=v.reg=true→0≤v.n∧v.n<4
def okR (s:S8):Prop:=(0≤s.r0∧s.r0<65536)∧(0≤s.r1∧s.r1<65536)∧(0≤s.r2∧s.r2<65536)∧(0≤s.r3∧s.r3<65536)
def OkI (i:In) (len:Int):Prop:=(1≤i.kind∧i.kind≤12)∧okV i.a∧okV i.b∧(0≤i.d∧i.d<4)∧(0≤i.tg∧i.tg≤len)
structure OkP (p:Pg):Prop where
 ins: ∀ i∈p.is,OkI i p.is.length
 len:p.is.length<1000
 ms:p.ms.length<1000
 sum:sumN p.ms≤16
structure OkS (c len:Int) (s:S8):Prop where
 reg:okR s
 mem: ∀ x∈s.m,0≤x∧x<65536
 c:c=s.m.length
 pc: -1≤s.pc∧s.pc≤len
 st:s.st.length≤100
 stk: ∀ x∈s.st, -1≤x∧x≤len
def s8R (s:S8):List AV:=s8A s (lR s.m) (lR s.st)
def s8N (s:S8):List AV:=s8A s (lR s.m) .nils
theorem four {n:Int} (h0:0≤n) (h1:n<4):n=0∨n=1∨n=2∨n=3:=by omega
theorem S8.reg_bd {s:S8} (h:okR s) (n:Int):0≤s.reg n∧s.reg n<65536:=by
 obtain ⟨h0,h1,h2,h3⟩:=h
 unfold S8.reg
 repeat' split
 all_goals assumption
theorem atI_in {p:Pg} {pc:Int} (h0:0≤pc) (h1:pc<p.is.length):atI p pc=p.is.getD pc.toNat default:=if_pos ⟨h0,h1⟩
theorem atI_out {p:Pg} {pc:Int} (h: ¬(0≤pc∧pc<p.is.length)):atI p pc={In0 with kind:=12}:=if_neg h
theorem okV0:okV ⟨false,0⟩:=fun h=>by cases h
theorem atI_ok {p:Pg} (h:OkP p) (pc:Int):OkI (atI p pc) p.is.length∧((atI p pc).kind≠12→0≤pc∧pc<p.is.length):=by
 by_cases hp:0≤pc∧pc<p.is.length
 ·rw [atI_in hp.1 hp.2]
  refine ⟨h.ins _ ?_,fun _=>hp⟩
  have hlt:pc.toNat<p.is.length:=by omega
  simp [List.getD,hlt]
 ·rw [atI_out hp]
  exact ⟨⟨⟨by show (1:Int)≤12;decide,by show (12:Int)≤12;decide⟩,okV0,okV0,⟨by show (0:Int)≤0;decide,by show (0:Int)<4;decide⟩,by show (0:Int)≤0;decide,by show (0:Int)≤_;omega⟩,fun hk=>absurd rfl hk⟩
theorem set_ok {s:S8} (h:okR s) (n:Int) {v:Int} (hv:0≤v∧v<65536):okR (s.set n v):=by
 obtain ⟨h0,h1,h2,h3⟩:=h
 refine ⟨?_, ?_, ?_, ?_⟩<;>(show 0≤(if _ then v else _)∧(if _ then v else _)<65536)<;>split<;>assumption
theorem doV_bd (W op a b:Int):0≤Wd.doV W op a b∧Wd.doV W op a b<65536:=Wd.maskV_bd _ _
theorem mem_bd {m:List Int} (h: ∀ x∈m,0≤x∧x<65536) (n:Nat):0≤m.getD n 0∧m.getD n 0<65536:=by
 by_cases hn:n<m.length
 ·exact h _ (by simp [List.getD,hn])
 ·simp [List.getD,List.getElem?_eq_none (Nat.not_lt.1 hn)]
theorem tmod_bd {a:Int} {b:Int} (h0:0≤a) (hb:0<b):0≤a.tmod b∧a.tmod b<b:=⟨Int.tmod_nonneg _ h0,Int.tmod_lt_of_pos _ hb⟩
theorem mx0 (a:Int):(if a<0 then 0 else a)=max a 0:=by split<;>omega
theorem mnI (a b:Int):(if b<a then b else a)=min a b:=by split<;>omega
end
end Go.Proofs.Ytfjapapiappacaa.Px
namespace Go.Proofs.Ytfjapapiappacaa
section
open Go.RowKit
namespace Wd
theorem sizeV_pos {w:Int} (h:okB w=true):2≤sizeV w:=by
 obtain ⟨k,rfl,h1,hk⟩:=okB_nat h
 unfold sizeV;rw [if_pos h,Int.toNat_natCast]
 have:(2:Nat)^1≤2^k:=Nat.pow_le_pow_right (by omega) h1
 have h2:((2^1:Nat):Int)≤((2^k:Nat):Int):=by exact_mod_cast this
 simpa using h2
theorem tmod_mask {w n:Int} (h:okB w=true):(n.tmod (sizeV w)+sizeV w)%sizeV w=maskV w n∧ -sizeV w<n.tmod (sizeV w)∧n.tmod (sizeV w)<sizeV w:=by
 have hs:=sizeV_pos h
 have h1:=Int.tmod_lt_of_pos n (b:=sizeV w) (by omega)
 have h2: -sizeV w<n.tmod (sizeV w):=by
  by_cases hn:0≤n
  ·have:=Int.tmod_nonneg (sizeV w) hn;omega
  ·have:=Int.tmod_lt_of_pos (-n) (b:=sizeV w) (by omega)
   rw [Int.neg_tmod] at this;omega
 refine ⟨?_,h2,h1⟩
 rw [Int.add_emod_right]
 have e:maskV w n=n%sizeV w:=by unfold maskV sizeV;rw [if_pos h,if_pos h]
 rw [e,Int.tmod_eq_emod]
 split
 ·simp
 ·rw [Int.natAbs_of_nonneg (by omega),Int.sub_emod,Int.emod_self,Int.sub_zero,Int.emod_emod,Int.emod_emod]
end Wd
namespace Wd
theorem lt_pow {w x:Int} (h:okB w=true) (h1:x<sizeV w) (h0:0≤x):x.toNat<2^w.toNat:=by
 unfold sizeV at h1;rw [if_pos h] at h1
 have:((2^w.toNat:Nat):Int)=2^w.toNat:=by simp
 omega
theorem mask_nat {w:Int} {m:Nat} (h:okB w=true) (h1:m<2^w.toNat):maskV w (m:Int)=(m:Int):=by
 refine maskV_of_lt h (by omega) ?_
 unfold sizeV;rw [if_pos h]
 have:((2^w.toNat:Nat):Int)=2^w.toNat:=by simp
 omega
theorem ref3 {w a b:Int} (h:okB w=true):bits .and .i64 (maskV w a) (maskV w b)=doV w 3 a b:=by
 have ha:=maskV_bd w a;have hb:=maskV_bd w b
 rw [bits_and ha.1 ha.2 hb.1 hb.2];unfold doV;simp only [rawV];simp
 refine (mask_nat h ?_).symm
 exact Nat.and_lt_two_pow _ (lt_pow h (maskV_lt h) hb.1)
theorem ref4 {w a b:Int} (h:okB w=true):bits .or .i64 (maskV w a) (maskV w b)=doV w 4 a b:=by
 have ha:=maskV_bd w a;have hb:=maskV_bd w b
 rw [bits_or ha.1 ha.2 hb.1 hb.2];unfold doV;simp only [rawV];simp
 refine (mask_nat h ?_).symm
 exact Nat.or_lt_two_pow (lt_pow h (maskV_lt h) ha.1) (lt_pow h (maskV_lt h) hb.1)
theorem ref5 {w a b:Int} (h:okB w=true):bits .xor .i64 (maskV w a) (maskV w b)=doV w 5 a b:=by
 have ha:=maskV_bd w a;have hb:=maskV_bd w b
 rw [bits_xor ha.1 ha.2 hb.1 hb.2];unfold doV;simp only [rawV];simp
 refine (mask_nat h ?_).symm
 exact Nat.xor_lt_two_pow (lt_pow h (maskV_lt h) ha.1) (lt_pow h (maskV_lt h) hb.1)
theorem do6_far {w a b:Int} (h:w≤maskV w b):doV w 6 a b=0:=by
 unfold doV;simp only [rawV];simp
 unfold maskV;split
 ·rename_i ho
  have:=okB_iff.1 ho
  refine pow_mod ?_
  unfold maskV at h;rw [if_pos ho] at h;omega
 ·rfl
theorem do7_far {w a b:Int} (hw:okB w=true) (h:w≤maskV w b):doV w 7 a b=0:=by
 have ha:=maskV_bd w a
 have ho:=okB_iff.1 hw
 have hl:=maskV_lt (n:=a) hw
 have e:maskV w a/2^(maskV w b).toNat=0:=by
  refine Int.ediv_eq_zero_of_lt ha.1 ?_
  unfold sizeV at hl;rw [if_pos hw] at hl
  have:(2:Nat)^w.toNat≤2^(maskV w b).toNat:=Nat.pow_le_pow_right (by omega) (by omega)
  have h2:((2^w.toNat:Nat):Int)≤((2^(maskV w b).toNat:Nat):Int):=by exact_mod_cast this
  simp at h2;omega
 unfold doV;simp only [rawV];simp
 rw [e];simp [maskV]
theorem ref7 {w a b:Int} (hw:okB w=true):maskV w a/2^(maskV w b).toNat=doV w 7 a b:=by
 have ha:=maskV_bd w a
 have hl:=maskV_lt (n:=a) hw
 unfold doV;simp only [rawV];simp
 refine (maskV_of_lt hw ?_ ?_).symm
 ·exact Int.ediv_nonneg ha.1 (by have:=pow_pos (maskV w b).toNat;omega)
 ·have:=Int.ediv_le_self (2^(maskV w b).toNat) ha.1;omega
theorem ref7' {w a b:Int} (hw:okB w=true):maskV w a/2^min (maskV w b).toNat 64=doV w 7 a b:=by
 rw [shr_min (maskV_bd w a).1 (maskV_bd w a).2];exact ref7 hw
theorem mask_one {w:Int} (hw:okB w=true) (b:Bool):maskV w (tI b)=tI b:=by
 have:=sizeV_pos hw
 exact maskV_of_lt hw (by unfold tI;split<;>omega) (by unfold tI;split<;>omega)
theorem ref6 {w a b:Int}:maskV w (wrap64 (maskV w a*2^(min (maskV w b).toNat 64)))=doV w 6 a b:=by
 unfold doV;rw [←recV_mask];rfl
theorem ref0 {w a b op:Int} (h:op<1∨10<op):0=doV w op a b:=by
 unfold doV;rw [raw_no h];simp [maskV]
theorem ref9 {w a b:Int} (hw:okB w=true):tI (decide (maskV w a<maskV w b))=doV w 9 a b:=by
 rw [←mask_one hw];unfold doV;rw [rec9,recV_mask]
theorem ref10 {w a b:Int} (hw:okB w=true):tI (maskV w a==maskV w b)=doV w 10 a b:=by
 rw [←mask_one hw];unfold doV;rw [rec10,recV_mask]
end Wd
end
end Go.Proofs.Ytfjapapiappacaa
