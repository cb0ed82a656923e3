import Derived.Test.YtfjapapiappacaaMaC
import Derived.Test.YtfjapapiappacaaMaA
import Derived.RangeFuncNested
import Derived.RangeFuncLeaves
import Derived.WalkKit
import Derived.Outline
import Derived.Test.YtfjapapiappacaaMaB
import Derived.Lib.AppendZeros
import Derived.Deep.QuietTactic
import Derived.Laws.Rows
import Derived.Test.YtfjapapiappacaaRows
import Derived.Lib.Bytes
import Derived.Lib.Bytealg
import Derived.BigQuiet
set_option linter.unusedVariables false
set_option linter.unusedSimpArgs false
set_option maxRecDepth 100000
namespace Go.Proofs.Ytfjapapiappacaa.Rx
section
open Go.RowKit
section
variable {P:Program} {T:Nat→Tch} {md:Bool} {call:CallF} {nt:Nat} {ops:Array Oper} {st:St} {D:Nat→DS}
def HpI (T:Nat→Tch) (ops:Array Oper) (st:St) (D:Nat→DS) (listed:Array Bool) (H:Nat→Option Blk):Prop:=
 ∀ id,(∃ k,k<ops.size∧Up listed k∧wrsT (T k) id∧(∀ j,j<ops.size→Up listed j→wrsT (T j) id→j≤k)∧H id=(D (k+1)).st.heap id)∨((∀ j,j<ops.size→Up listed j→ ¬wrsT (T j) id)∧H id=st.heap id)
structure EnvI (ops:Array Oper) (st:St) (D:Nat→DS) (listed:Array Bool) (e:Nat→AV):Prop where
 e1: ∀ (k:Nat) o t,ops[k]? =some o→o.dst=some t→Up listed k→e t=(D (k+1)).st.env t
 e2: ∀ t,(∀ (k:Nat) o,ops[k]? =some o→o.dst=some t→ ¬Up listed k)→e t=st.env t
theorem EnvI.put {listed:Array Bool} {e:Nat→AV} (h:EnvI ops st D listed e) (hs:statOk ops (befs ops)=true) {i:Nat} {o:Oper} (ho:ops[i]? =some o) (hi:i<listed.size) {v:AV} (hv:(D (i+1)).st.env=putE (D i).st.env o.dst v):EnvI ops st D (listed.setIfInBounds i true) (putE e o.dst v):=by
 refine ⟨fun k p t hp hd hu=> ?_,fun t hno=> ?_⟩
 ·rcases (up_set hi).1 hu with rfl |hu'
  ·rw [ho] at hp;cases hp
   rw [hv,putE_same hd,putE_same hd]
  ·by_cases hk:k=i
   ·subst hk
    rw [ho] at hp;cases hp
    rw [hv,putE_same hd,putE_same hd]
   ·have:=(statOk_dst hs ho hp hd).1
    rw [putE_other (this.resolve_left hk)]
    exact h.e1 k p t hp hd hu'
 ·rw [putE_other fun hd=>hno i o ho hd ((up_set hi).2 (.inl rfl))]
  exact h.e2 t fun k p hp hd hu=>hno k p hp hd ((up_set hi).2 (.inr hu))
theorem EnvI.agree {listed:Array Bool} {e:Nat→AV} (h:EnvI ops st D listed e) (hD:SeqD P T md call nt ops st D) (hs:statOk ops (befs ops)=true) (hc:Closed ops listed) {i:Nat} (hr:i∈Region.ready .any ops listed) {o:Oper} (ho:ops[i]? =some o) {t:Tmp} (ht:t∈tmpsOf o ops):e t=(D i).st.env t:=by
 obtain ⟨hnu,hi,hc'⟩:=hc.ready hr
 have hi':i<listed.size:=by rw [hc.sz];exact hi
 have uniq: ∀ (k k':Nat) p p',ops[k]? =some p→ops[k']? =some p'→p.dst=some t→p'.dst=some t→k=k':=fun k k' p p' h1 h2 h3 h4=>by
  have:=(statOk_dst hs h2 h1 h3).1
  exact this.resolve_right fun hn=>hn h4
 by_cases hex: ∃ (k:Nat) (p:Oper),ops[k]? =some p∧p.dst=some t
 ·obtain ⟨k,p,hp,hd⟩:=hex
  have hk:k<ops.size:=(Array.getElem?_eq_some_iff.1 hp).1
  have late: ¬k<i→ ¬Up listed k→e t=(D i).st.env t:=fun h1 h2=>by
   rw [h.e2 t fun k' p' hp' hd' hu=>h2 (uniq k k' p p' hp hp' hd hd'▸hu)]
   have:=hD.env_keep (t:=t) (a:=0) i (by omega) (by omega) fun j o' j1 j2 j3 j4=>by
    have:=uniq k j p o' hp j3 hd j4
    omega
   rw [this,hD.st0]
  rcases (statOk_dst hs ho hp hd).2 ht with rfl |⟨h1,h2⟩|⟨h1,h2⟩
  ·exact late (by omega) hnu
  ·have hu:Up listed k:=by
    have:=(hc'.bef hs i ((up_set hi').2 (.inl rfl)) k h2)
    rcases (up_set hi').1 this with rfl |hu
    ·omega
    ·exact hu
   rw [h.e1 k p t hp hd hu]
   exact (hD.env_keep (t:=t) (a:=k+1) i (by omega) (by omega) fun j o' j1 j2 j3 j4=>by
    have:=uniq k j p o' hp j3 hd j4
    omega).symm
  ·exact late h1 fun hu=>hnu (hc.bef hs k hu i h2)
 ·rw [h.e2 t fun k p hp hd=>absurd ⟨k,p,hp,hd⟩ hex]
  have:=hD.env_keep (t:=t) (a:=0) i (by omega) (by omega) fun j o' j1 j2 j3 j4=>hex ⟨j,o',j3,j4⟩
  rw [this,hD.st0]
theorem agree_eval {o:Oper} {e e':Nat→AV} (h: ∀ t∈tmpsOf o ops,e t=e' t): ∀ x∈o.op.operands.toList,evalA e x=evalA e' x:=fun x hx=>by
 cases x with
 |tmp t=>exact h t (by
   unfold tmpsOf
   rw [List.mem_append]
   exact .inl (List.mem_filterMap.2 ⟨.tmp t,hx,rfl⟩))
 |_=>rfl
theorem agree_guard {o:Oper} {e e':Nat→AV} (h: ∀ t∈tmpsOf o ops,e t=e' t) {orc:List Orc}:guardA ops o e orc=guardA ops o e' orc:=by
 unfold guardA
 cases hg:o.guard with
 |none=>rfl
 |some p=>
  obtain ⟨j,want⟩:=p
  simp only
  cases hd:(ops[j]?).bind (·.dst) with
  |none=>rfl
  |some d=>
   simp only
   rw [h d (by
    unfold tmpsOf
    rw [List.mem_append]
    refine .inr ?_
    rw [hg]
    simp only [hd,Option.toList,List.mem_singleton])]
theorem evMake_next {md:Bool} {op:Op} {ρ:Operand→AV} {h:Nat→Option Blk} {next:Nat} {orc:List Orc} {r:Res} (hv:fvO orc=false) (hr:evMake P md op ρ h next orc=some r):next<r.next:=by
 cases hb:bxO op orc with
 |true=>
  rw [evMake_bx hb] at hr
  obtain ⟨b,q1,q2,q3⟩:=evBx_any h hr
  omega
 |false=>
 rw [evMake_0 hv hb] at hr
 cases op with
 |alloc t=>
  obtain ⟨z,hz,rfl⟩:=Option.map_eq_some_iff.1 hr
  exact Nat.lt_succ_self _
 |box t x=>
  obtain ⟨z,hz,rfl⟩:=Option.map_eq_some_iff.1 hr
  cases hfz:fzO orc&&z.all baseA with
  |false=>exact Nat.lt_succ_self _
  |true=>exact Nat.lt_succ_self _
 |makeSlice t x y=>
  unfold evMake0 at hr
  simp only at hr
  split at hr
  ·split at hr
   ·obtain ⟨i,hi,hr⟩:=Option.bind_eq_some_iff.1 hr
    obtain ⟨z,hz,hr⟩:=Option.bind_eq_some_iff.1 hr
    obtain ⟨hb,hr⟩:=bif_some hr
    obtain ⟨p,hp,rfl⟩:=Option.map_eq_some_iff.1 hr
    exact Nat.lt_succ_self _
   ·cases hr
  ·cases hr
 |buildSlice t len parts=>
  unfold evMake0 at hr
  simp only at hr
  split at hr
  ·obtain ⟨s,hs,hr⟩:=Option.bind_eq_some_iff.1 hr
   obtain ⟨hb,hr⟩:=bif_some hr
   obtain ⟨z,hz,hr⟩:=Option.bind_eq_some_iff.1 hr
   obtain ⟨cs,hcs,rfl⟩:=Option.map_eq_some_iff.1 hr
   exact Nat.lt_succ_self _
  ·cases hr
 |call c=>
  obtain ⟨callee,args,at_⟩:=c
  cases callee with
  |builtin b=>
   cases b with
   |append=>
    have hr:apz P md args at_ ρ h next orc=some r:=hr
    obtain ⟨b,q1,q2,q3⟩:=apz_any h hr
    omega
   |_=>cases hr
  |_=>cases hr
 |_=>cases hr
structure InvD [Dfs] (T:Nat→Tch) (ops:Array Oper) (st:St) (D:Nat→DS) (nt:Nat) (cx0:Cx) (listed:Array Bool) (a:Act) (cx:Cx) (e:Nat→AV) (N:Nat):Prop where
 cl:Closed ops listed
 stab:Stab cx0 cx
 s:SRep cx ⟨e,cx.H,N⟩ a nt
 env:EnvI ops st D listed e
 hp:HpI T ops st D listed cx.H
 bd: ∀ k,k<ops.size→Up listed k→(T k).all=true→Bnd (D (k+1))
theorem hp_at (hD:SeqD P T md call nt ops st D) {listed:Array Bool} {H:Nat→Option Blk} (hp:HpI T ops st D listed H) {i id:Nat} (hi:i≤ops.size) (h1: ∀ k,k<i→wrsT (T k) id→Up listed k) (h2: ∀ k,i≤k→k<ops.size→wrsT (T k) id→ ¬Up listed k):H id=(D i).st.heap id:=by
 rcases hp id with ⟨k,k1,k2,k3,k4,k5⟩|⟨k1,k2⟩
 ·have hk:k<i:=by
   rcases Nat.lt_or_ge k i with h |h
   ·exact h
   ·exact absurd k2 (h2 k h k1 k3)
  rw [k5]
  exact (hD.keepId (a:=k+1) (id:=id) i (by omega) hi fun j j1 j2 hw=>by
   have:=k4 j (by omega) (h1 j j2 hw) hw
   omega).symm
 ·rw [k2, ←hD.st0]
  exact (hD.keepId (a:=0) (id:=id) i (by omega) hi fun j j1 j2 hw=>k1 j (by omega) (h1 j j2 hw) hw).symm
theorem hp_quiet {listed:Array Bool} {H:Nat→Option Blk} {i:Nat} (hi:i<listed.size) (hq: ∀ id, ¬wrsT (T i) id) (hp:HpI T ops st D listed H):HpI T ops st D (listed.setIfInBounds i true) H:=by
 intro id
 have hu: ∀ j,Up (listed.setIfInBounds i true) j→wrsT (T j) id→Up listed j:=fun j hj hw=>by
  rcases (up_set hi).1 hj with rfl |hj
  ·exact absurd hw (hq id)
  ·exact hj
 rcases hp id with ⟨k,k1,k2,k3,k4,k5⟩|⟨k1,k2⟩
 ·exact .inl ⟨k,k1,(up_set hi).2 (.inr k2),k3,fun j j1 j2 j3=>k4 j j1 (hu j j2 j3) j3,k5⟩
 ·exact .inr ⟨fun j j1 j2 j3=>k1 j j1 (hu j j2 j3) j3,k2⟩
theorem hp_wrote {listed:Array Bool} {H H':Nat→Option Blk} {i:Nat} (hi:i<listed.size) (hio:i<ops.size) (hlast: ∀ id,wrsT (T i) id→ ∀ j,j<ops.size→Up listed j→wrsT (T j) id→j≤i) (h1: ∀ id,wrsT (T i) id→H' id=(D (i+1)).st.heap id) (h2: ∀ id, ¬wrsT (T i) id→H' id=H id) (hp:HpI T ops st D listed H):HpI T ops st D (listed.setIfInBounds i true) H':=by
 intro id
 by_cases hw:wrsT (T i) id
 ·refine .inl ⟨i,hio,(up_set hi).2 (.inl rfl),hw,fun j j1 j2 j3=> ?_,h1 id hw⟩
  rcases (up_set hi).1 j2 with rfl |hu
  ·exact Nat.le_refl _
  ·exact hlast id hw j j1 hu j3
 ·have hu: ∀ j,Up (listed.setIfInBounds i true) j→wrsT (T j) id→Up listed j:=fun j hj hw'=>by
   rcases (up_set hi).1 hj with rfl |hj
   ·exact absurd hw' hw
   ·exact hj
  rw [h2 id hw]
  rcases hp id with ⟨k,k1,k2,k3,k4,k5⟩|⟨k1,k2⟩
  ·exact .inl ⟨k,k1,(up_set hi).2 (.inr k2),k3,fun j j1 j2 j3=>k4 j j1 (hu j j2 j3) j3,k5⟩
  ·exact .inr ⟨fun j j1 j2 j3=>k1 j j1 (hu j j2 j3) j3,k2⟩
theorem InvD.step [Dfs] {cx0 cx:Cx} {listed:Array Bool} {a:Act} {e:Nat→AV} {N:Nat} (hI:InvD T ops st D nt cx0 listed a cx e N) (hD:SeqD P T md call nt ops st D) (hcall:CallOk P call) (hs:statOk ops (befs ops)=true) {i:Nat} (hr:i∈Region.ready .any ops listed)
  {K:Act→World→Prop} {Q:Exit→Act→World→Prop} (hK: ∀ cx' a' e' N',InvD T ops st D nt cx0 (listed.setIfInBounds i true) a' cx' e' N'→K a' cx'.w):wpOp P ops Q i K a cx.w:=by
 obtain ⟨hnu,hi,hc'⟩:=hI.cl.ready hr
 have hi':i<listed.size:=by rw [hI.cl.sz];exact hi
 obtain ⟨o,g,ho,hd,hg,h1,hbef⟩:=hD.at_ hi
 have hag: ∀ t∈tmpsOf o ops,(D i).st.env t=e t:=fun t ht=>(hI.env.agree hD hs hI.cl hr ho ht).symm
 have hev:=agree_eval hag
 rw [agree_guard hag] at hg
 have upB: ∀ k,k<i→cfl (T i) (T k)=true→Up listed k:=fun k hk hc=>by
  have:=hc'.bef hs i ((up_set hi').2 (.inl rfl)) k (hbef k hk hc)
  rcases (up_set hi').1 this with rfl |hu
  ·omega
  ·exact hu
 have upA: ∀ k,i<k→k<ops.size→cfl (T k) (T i)=true→ ¬Up listed k:=fun k hk hkn hc hu=>by
  obtain ⟨_,_,_,_,_,_,hb⟩:=hD.at_ hkn
  exact hnu (hI.cl.bef hs k hu i (hb i hk hc))
 have seen: ∀ id,tchT (T i) id→cx.H id=(D i).st.heap id:=fun id ht=>hp_at hD hI.hp (Nat.le_of_lt hi) (fun k hk hw=>upB k hk (cfl_wt hw ht).2) (fun k hk hkn hw=>by
  by_cases hki:k=i
  ·subst hki;exact hnu
  ·exact upA k (by omega) hkn (cfl_wt hw ht).1)
 have hlast: ∀ id,wrsT (T i) id→ ∀ j,j<ops.size→Up listed j→wrsT (T j) id→j≤i:=fun id hw j hj hu hwj=>by
  rcases Nat.lt_or_ge i j with h |h
  ·exact absurd hu (upA j h hj (cfl_wt hwj (hw.imp_right .inl)).1)
  ·exact h
 have bdI:(T i).any=true→Bnd (D i):=fun hany=>by
  have hdec:DecidablePred fun k=>(T k).all=true:=fun k=>inferInstance
  rcases lastW (fun k=>(T k).all=true) i with ⟨k,k1,k2,k3⟩|h0
  ·have hu:Up listed k:=upB k k1 (by unfold cfl;rw [k2,hany];simp)
   refine hD.bnd (a:=k+1) (hI.bd k (by omega) hu k2) i (by omega) (by omega) fun j j1 j2=> ?_
   cases hx:(T j).all with
   |false=>rfl
   |true=>have:=k3 j j2 hx;omega
  ·refine hD.bnd (a:=0) (fun id hid=> ?_) i (by omega) (by omega) fun j _ j2=> ?_
   ·rw [hD.st0] at hid ⊢;exact hD.lt id hid
   ·cases hx:(T j).all with
    |false=>rfl
    |true=>exact absurd hx (h0 j j2)
 unfold wpOp
 rw [ho]
 simp only
 rcases h1 with ⟨hgf,hv,_,_,hT,hp⟩|⟨hgt,r,hrr,hpg,hpr,hv,e1,e2,hT⟩
 ·have hw:=guardA_sound hg hp hI.s
  rw [hgf] at hw
  rw [hw]
  simp only [Bool.false_eq_true,if_false]
  refine hK cx _ _ N ⟨hc',hI.stab,hI.s.put (Stab.refl cx) hI.s.c rfl hI.s.lt hd (.pure (.val _)),hI.env.put hs ho hi' hv,hp_quiet hi' (fun id hw=>by rw [hT] at hw;rcases hw with h |h<;>cases h) hI.hp,fun k k1 k2 k3=> ?_⟩
  rcases (up_set hi').1 k2 with rfl |hu
  ·rw [hT] at k3;cases k3
  ·exact hI.bd k k1 hu k3
 ·have hw:=guardA_sound hg hpg hI.s
  rw [hgt] at hw
  rw [hw]
  simp only [if_true]
  refine .inl ?_
  cases hall:(T i).all with
  |true=>
   have hH:cx.H=(D i).st.heap:=funext fun id=>seen id (.inl hall)
   have hbnd:Bnd (D i):=bdI (by unfold Tch.any;rw [hall];rfl)
   have hrr':evD P md call o.op (evalA e) (D i).st.heap (D i).st.next g.2.1=some r:=evD_congr hev▸hrr
   have hs0:SRep cx ⟨e,(D i).st.heap,(D i).st.next⟩ a nt:=⟨hH,hI.s.c,hI.s.env,hbnd,hI.s.sz,hI.s.df⟩
   have fin: ∀ cx' a',SRep cx' ⟨putE e o.dst r.v,r.heap,r.next⟩ a' nt→Stab cx cx'→K a' cx'.w:=fun cx' a' hs' hst'=>by
    have hHe:cx'.H=r.heap:=hs'.H
    refine hK cx' a' _ r.next ⟨hc',hI.stab.trans hst',by rw [hHe];exact hs',hI.env.put hs ho hi' hv,hp_wrote hi' hi hlast (fun id _=>by rw [hHe,e1]) (fun id hn=>absurd (.inl hall) hn) hI.hp,fun k k1 k2 k3=> ?_⟩
    rcases (up_set hi').1 k2 with rfl |hu
    ·intro id hid
     rw [e2]
     rw [e1] at hid
     exact hs'.lt id hid
    ·exact hI.bd k k1 hu k3
   cases hcl:isCl o.op (evalA e) g.2.1 with
   |true=>
    refine callC_wp hcl (by rw [hH];exact hrr') hpr hI.s.c hI.s.env (fun id h5 h6=> ?_) fun cx' z m1 m2 m3 m4 m5=>fin cx' _ (hI.s.put m3 m2 m1 (m5.lt fun id hid=>hbnd id (by rw [←hH];exact hid)) hd m4) m3
    cases hx:cx.H id with
    |none=>rfl
    |some b=>have:=hbnd id (by rw [←hH,hx];rfl);omega
   |false=>
    cases hcp:isCp o.op (evalA e) g.2.1 with
    |true=>
     refine callP_wp hcp (by rw [hH];exact hrr') hpr hI.s.c hI.s.env fun cx' z m1 m2 m3 m4 m5 m6=>fin cx' _ (hI.s.put m3 m2 m1 (fun id hid=> ?_) hd m4) m3
     rw [m6]
     exact hbnd id (by rw [←hH, ←m5];exact hid)
    |false=>
     cases hcm:isCm o.op (evalA e) g.2.1 with
     |true=>
      refine callN_wp hcm (by rw [hH];exact hrr') hpr hI.s.c hI.s.env (fun id h5 h6=> ?_) fun cx' z m1 m2 m3 m4 m5=>fin cx' _ (hI.s.put m3 m2 m1 (m5.lt fun id hid=>hbnd id (by rw [←hH];exact hid)) hd m4) m3
      cases hx:cx.H id with
      |none=>rfl
      |some b=>have:=hbnd id (by rw [←hH,hx];rfl);omega
     |false=>
      unfold evD at hrr'
      rw [hcl,hcp,hcm] at hrr'
      exact evOp_sound hcall hrr' hpr hs0 hd fin
  |false=>
   have hall':=hall
   rw [hT] at hall'
   have L:=evD_loc hrr hall'
   rw [←hT] at L
   have wr_iff: ∀ id,wrsT (T i) id↔id∈(T i).wr:=fun id=>⟨fun h=>h.resolve_left (by rw [hall];simp), .inr⟩
   have notall: ∀ k,k<ops.size→Up (listed.setIfInBounds i true) k→(T k).all=true→Bnd (D (k+1)):=fun k k1 k2 k3=>by
    rcases (up_set hi').1 k2 with rfl |hu
    ·rw [hall] at k3;cases k3
    ·exact hI.bd k k1 hu k3
   have done: ∀ cx' a' r' N',evD P md call o.op (evalA e) cx.H N' g.2.1=some r'→r'.v=r.v→(∀ id∈(T i).wr,r'.heap id=r.heap id)→(∀ id,id ∉ (T i).wr→r'.heap id=cx.H id)→cx'.H=r'.heap→ ∀ M,SRep cx' ⟨putE e o.dst r.v,cx'.H,M⟩ a' nt→Stab cx cx'→K a' cx'.w:=fun cx' a' r' N' _ _ q1 q2 hHe M hs' hst'=>by
    refine hK cx' a' _ M ⟨hc',hI.stab.trans hst',hs',hI.env.put hs ho hi' hv,hp_wrote hi' hi hlast (fun id hw=>by rw [hHe,q1 id ((wr_iff id).1 hw),e1]) (fun id hn=>by rw [hHe,q2 id fun hm=>hn ((wr_iff id).2 hm)]) hI.hp,notall⟩
   have rdH: ∀ id∈(T i).rd,cx.H id=(D i).st.heap id:=fun id hid=>seen id (.inr (.inr hid))
   have wrH: ∀ id∈(T i).wr,cx.H id=(D i).st.heap id:=fun id hid=>seen id (.inr (.inl hid))
   cases hnw:(T i).nw with
   |false=>
    obtain ⟨r',k1,k2,k3,k4,_,k6,k7,k8⟩:=L.loc cx.H N (fun h=>by rw [hnw] at h;cases h) rdH wrH
    rw [evD_congr hev] at k1
    have hpr': ∀ p∈r'.cs,p:=by rw [k4];exact hpr
    have hlt': ∀ id,(r'.heap id).isSome=true→id<N:=fun id hid=>by
     by_cases hm:id∈(T i).wr
     ·rcases L.wrs id hm with h2 |h2
      ·exact hI.s.lt id (by show (cx.H id).isSome=true;rw [wrH id hm];exact h2)
      ·have:=L.nonew hnw
       omega
     ·rw [k8 id hm] at hid
      exact hI.s.lt id hid
    have finz: ∀ cx' z,cx'.H=r'.heap→CRep cx'→Stab cx cx'→Rep cx' r'.v z→K (a.put o.dst z) cx'.w:=fun cx' z m1 m2 m3 m4=>by
     have hs':=hI.s.put (next:=N) m3 m2 m1 hlt' hd m4
     rw [k2, ←m1] at hs'
     exact done cx' _ r' N k1 k2 k7 k8 m1 N hs' m3
    cases hcl:isCl o.op (evalA e) g.2.1 with
    |true=>
     exfalso
     have hcls:=isCl_cls (P:=P) (op:=o.op) (ρ:=evalA e) (orc:=g.2.1) hcl
     rw [hT] at hnw hall
     unfold tchOf at hnw hall
     rw [hcls] at hnw hall
     rw [isCl_congr hev,hcl] at hnw hall
     simp only [cond_true] at hnw hall
     cases hf:frzd (D i).st.heap (rdD o.op (evalA (D i).st.env)) with
     |true=>rw [hf] at hnw;cases hnw
     |false=>rw [hf] at hall;cases hall
    |false=>
     cases hcp:isCp o.op (evalA e) g.2.1 with
     |true=>exact callP_wp hcp k1 hpr' hI.s.c hI.s.env fun cx' z m1 m2 m3 m4 _ _=>finz cx' z m1 m2 m3 m4
     |false=>
      have hcm:isCm o.op (evalA e) g.2.1=false:=by
       cases hcm:isCm o.op (evalA e) g.2.1 with
       |false=>rfl
       |true=>
        exfalso
        rw [hT] at hnw
        unfold tchOf at hnw
        rw [isCm_cls (P:=P) hcm,isCl_congr hev,hcl,isCp_congr hev,hcp,isCm_congr hev,hcm] at hnw
        cases hnw
      have hrl:=k1
      unfold evD at hrl
      rw [hcl,hcp,hcm] at hrl
      simp only [cond_false] at hrl
      by_cases hcc:clsOf P o.op= .call
      ·exfalso
       rw [hT] at hall
       unfold tchOf at hall
       rw [hcc,isCl_congr hev,hcl,isCp_congr hev,hcp,isCm_congr hev,hcm] at hall
       cases hall
      ·exact evOp_base hrl hcc hpr' rfl hI.s.c hI.s.env (by
        cases hx:cx.H N with
        |none=>rfl
        |some b=>exact absurd (hI.s.lt N (by show (cx.H N).isSome=true;rw [hx];rfl)) (Nat.lt_irrefl _)) fun cx' z m1 m2 m3 m4 _=>finz cx' z m1 m2 m3 m4
   |true=>
    have hany:(T i).any=true:=by unfold Tch.any;rw [hnw];simp
    have hbnd:=bdI hany
    obtain ⟨r',k1,k2,k3,k4,k5,_,k7,k8⟩:=L.loc cx.H (D i).st.next (fun _=>rfl) rdH wrH
    rw [evD_congr hev] at k1
    have k5':=k5 hnw
    have hpr': ∀ p∈r'.cs,p:=by rw [k4];exact hpr
    have hfree: ∀ id,(D i).st.next≤id→id<r.next→cx.H id=none:=fun id h5 h6=>by
     rw [wrH id (L.new id h5 h6)]
     cases hx:(D i).st.heap id with
     |none=>rfl
     |some b=>have:=hbnd id (by rw [hx];rfl);omega
    have hlt': ∀ id,(r'.heap id).isSome=true→id<max N r.next:=fun id hid=>by
     by_cases hm:id∈(T i).wr
     ·rcases L.wrs id hm with h2 |h2
      ·have:id<N:=hI.s.lt id (by show (cx.H id).isSome=true;rw [wrH id hm];exact h2)
       omega
      ·omega
     ·rw [k8 id hm] at hid
      have:id<N:=hI.s.lt id hid
      omega
    have finz: ∀ cx' z,cx'.H=r'.heap→CRep cx'→Stab cx cx'→Rep cx' r'.v z→K (a.put o.dst z) cx'.w:=fun cx' z m1 m2 m3 m4=>by
     have hs':=hI.s.put (next:=max N r.next) m3 m2 m1 hlt' hd m4
     rw [k2, ←m1] at hs'
     exact done cx' _ r' _ k1 k2 k7 k8 m1 _ hs' m3
    cases hcl:isCl o.op (evalA e) g.2.1 with
    |true=>exact callC_wp hcl k1 hpr' hI.s.c hI.s.env (fun id h5 h6=>hfree id h5 (by rw [k5'] at h6;exact h6)) fun cx' z m1 m2 m3 m4 _=>finz cx' z m1 m2 m3 m4
    |false=>
     cases hcp:isCp o.op (evalA e) g.2.1 with
     |true=>exact callP_wp hcp k1 hpr' hI.s.c hI.s.env fun cx' z m1 m2 m3 m4 _ _=>finz cx' z m1 m2 m3 m4
     |false=>
      cases hcm:isCm o.op (evalA e) g.2.1 with
      |true=>exact callN_wp hcm k1 hpr' hI.s.c hI.s.env (fun id h5 h6=>hfree id h5 (by rw [k5'] at h6;exact h6)) fun cx' z m1 m2 m3 m4 _=>finz cx' z m1 m2 m3 m4
      |false=>
      have hrl:=k1
      unfold evD at hrl
      rw [hcl,hcp,hcm] at hrl
      simp only [cond_false] at hrl
      by_cases hcc:clsOf P o.op= .call
      ·exfalso
       rw [hT] at hall
       unfold tchOf at hall
       rw [hcc,isCl_congr hev,hcl,isCp_congr hev,hcp,isCm_congr hev,hcm] at hall
       cases hall
      ·refine evOp_base hrl hcc hpr' rfl hI.s.c hI.s.env ?_ fun cx' z m1 m2 m3 m4 _=>finz cx' z m1 m2 m3 m4
       cases hx:cx.H (D i).st.next with
       |none=>rfl
       |some b=>
        exfalso
        have hlt:(D i).st.next<r.next:=by
         cases hcz:clsOf P o.op with
         |pur=>rw [hT] at hnw;unfold tchOf at hnw;rw [hcz] at hnw;cases hnw
         |read=>
          rw [hT] at hnw;unfold tchOf at hnw;rw [hcz] at hnw
          simp only at hnw
          cases ha:adrOnly o.op (evalA (D i).st.env) with
          |true=>rw [ha] at hnw;cases hnw
          |false=>rw [ha] at hnw;cases hnw
         |call=>exact absurd hcz hcc
         |make=>
          have hfv:fvO g.2.1=false:=by
           rw [hT] at hnw;unfold tchOf at hnw;rw [hcz] at hnw
           simp only at hnw
           cases hx2:fvO g.2.1 with
           |false=>rfl
           |true=>rw [hx2] at hnw;cases hnw
          have h9:=hrr
          unfold evD evOp at h9
          rw [hcz] at h9
          exact evMake_next hfv h9
         |write=>
          have hm:(D i).st.next∈(T i).wr:=by
           rw [hT] at hnw hall ⊢
           exact tch_write hcz hnw hall
          rcases L.wrs _ hm with h2 |h2
          ·have:=hbnd _ h2;omega
          ·exact h2.2
        rw [hfree _ (Nat.le_refl _) hlt] at hx
        cases hx
end
end
end Go.Proofs.Ytfjapapiappacaa.Rx
namespace Go.Proofs.Ytfjapapiappacaa.Rx
section
open Go.RowKit
section
variable {P:Program}
def Cx.drew (cx:Cx):Cx:=⟨{cx.w with drawn:=cx.w.drawn+1},cx.R,cx.φ,cx.H,cx.B⟩
theorem drew_stab (cx:Cx):Stab cx cx.drew:=
 ⟨⟨rfl,fun _ h=>h,fun _ h=> .inl h,rfl,rfl,rfl,Nat.le_refl _,fun _ _ _=>rfl⟩,fun id b h=>⟨b,h,fun _=>⟨rfl,sameShape.rfl' b⟩,fun _=>rfl⟩,fun id b b' h h'=>by
  have h2:cx.H id=some b':=h'
  rw [h] at h2;cases h2;exact Nat.le_refl _⟩
theorem drew_crep {cx:Cx} (hc:CRep cx):CRep cx.drew:=by
 refine ⟨fun id b hb=> ?_,hc.inj,hc.rlt,hc.blt⟩
 have h:=hc.hb id b hb
 unfold HB at h ⊢
 split
 ·rename_i cs hcs
  rw [hcs] at h
  obtain ⟨g,cur,h1,h2,h3,h4,h5⟩:=h
  refine ⟨g,cur,h1,h2,h3,fun j a ha=> ?_,h5⟩
  obtain ⟨u,u1,u2,u3⟩:=h4 j a ha
  exact ⟨u,u1,u2,u3.stab hc (drew_stab cx)⟩
 ·rename_i m n f hcs
  rw [hcs] at h
  rcases h with h |⟨g,cap,cur,h1,h2,h3,h4,h5,h6,h7⟩
  ·exact .inl h
  ·refine .inr ⟨g,cap,cur,h1,h2,h3,h4,h5,fun i hi j hj=> ?_,h7⟩
   obtain ⟨u,u1,u2,u3⟩:=h6 i hi j hj
   exact ⟨u,u1,u2,u3.mono (fun _ h=>h) fun _ _=>rfl⟩
theorem drew_srep [Dfs] {cx:Cx} {st:St} {a:Act} {nt:Nat} (hs:SRep cx st a nt):SRep cx.drew st a nt:=
 ⟨hs.H,drew_crep hs.c,fun t=>(hs.env t).stab hs.c (drew_stab cx),hs.lt,hs.sz,hs.df⟩
theorem InvD.any [Dfs] {T:Nat→Tch} {md:Bool} {call:CallF} {nt:Nat} {ops:Array Oper} {st:St} {D:Nat→DS} {cx0:Cx} (hD:SeqD P T md call nt ops st D) (hcall:CallOk P call) (hs:statOk ops (befs ops)=true)
  {Q:Exit→Act→World→Prop} (hQ: ∀ cx' a',SRep cx' (D ops.size).st a' nt→Stab cx0 cx'→Q .normal a' cx'.w):
  ∀ (fuel:Nat) {listed:Array Bool} {a:Act} {cx:Cx} {e:Nat→AV} {N:Nat},InvD T ops st D nt cx0 listed a cx e N→(List.range ops.size).countP (fun i=> !(listed.getD i false))≤fuel→wpAny P .any ops Q fuel listed a cx.w:=by
 have fin: ∀ {listed:Array Bool} {a:Act} {cx:Cx} {e:Nat→AV} {N:Nat},InvD T ops st D nt cx0 listed a cx e N→Region.ready .any ops listed=[]→Q .normal a cx.w:=by
  intro listed a cx e N hI hr
  have hall:=hI.cl.done hs hr
  have hH:cx.H=(D ops.size).st.heap:=funext fun id=>hp_at hD hI.hp (Nat.le_refl _) (fun k hk _=>hall k hk) (fun k h1 h2 _=>by omega)
  have hlt:Bnd (D ops.size):=by
   have hdec:DecidablePred fun k=>(T k).all=true:=fun k=>inferInstance
   rcases lastW (fun k=>(T k).all=true) ops.size with ⟨k,k1,k2,k3⟩|h0
   ·refine hD.bnd (a:=k+1) (hI.bd k k1 (hall k k1) k2) ops.size (by omega) (Nat.le_refl _) fun j j1 j2=> ?_
    cases hx:(T j).all with
    |false=>rfl
    |true=>have:=k3 j j2 hx;omega
   ·refine hD.bnd (a:=0) (fun id hid=> ?_) ops.size (by omega) (Nat.le_refl _) fun j _ j2=> ?_
    ·rw [hD.st0] at hid ⊢;exact hD.lt id hid
    ·cases hx:(T j).all with
     |false=>rfl
     |true=>exact absurd hx (h0 j j2)
  have he:e=(D ops.size).st.env:=by
   funext t
   by_cases hex: ∃ (k:Nat) (p:Oper),ops[k]? =some p∧p.dst=some t
   ·obtain ⟨k,p,hp,hd⟩:=hex
    have hk:k<ops.size:=(Array.getElem?_eq_some_iff.1 hp).1
    rw [hI.env.e1 k p t hp hd (hall k hk)]
    exact (hD.env_keep (t:=t) (a:=k+1) ops.size (by omega) (Nat.le_refl _) fun j o' j1 j2 j3 j4=>by
     have:=(statOk_dst hs j3 hp hd).1
     rcases this with rfl |h5
     ·omega
     ·exact h5 j4).symm
   ·rw [hI.env.e2 t fun k p hp hd=>absurd ⟨k,p,hp,hd⟩ hex]
    have:=hD.env_keep (t:=t) (a:=0) ops.size (by omega) (Nat.le_refl _) fun j o' j1 j2 j3 j4=>hex ⟨j,o',j3,j4⟩
    rw [this,hD.st0]
  refine hQ cx a ⟨hH,hI.s.c, ?_,hlt,hI.s.sz,hI.s.df⟩ hI.stab
  rw [←he]
  exact hI.s.env
 intro fuel
 induction fuel with
 |zero=>
  intro listed a cx e N hI hcnt
  have hr:Region.ready .any ops listed=[]:=by
   rw [List.eq_nil_iff_forall_not_mem]
   intro i hi
   obtain ⟨hnu,hlt,_⟩:=hI.cl.ready hi
   have:=List.countP_eq_zero.1 (Nat.le_zero.1 hcnt) i (List.mem_range.2 hlt)
   unfold Up at hnu
   simp at this
   exact hnu (by simpa using this)
  exact ⟨hr,fin hI hr⟩
 |succ fuel ih=>
  intro listed a cx e N hI hcnt
  refine ⟨fin hI,fun i hi=> ?_⟩
  refine hI.step hD hcall hs hi fun cx' a' e' N' hI'=>ih hI' ?_
  obtain ⟨hnu,hlt,_⟩:=hI.cl.ready hi
  have hi':i<listed.size:=by rw [hI.cl.sz];exact hlt
  have hx:= @up_set listed i
  have:=count_lt (p:=fun i=> !(listed.getD i false)) (p':=fun k=> !((listed.setIfInBounds i true).getD k false)) (List.mem_range.2 hlt) (by
    unfold Up at hnu
    simp only [Bool.not_eq_true'] at hnu ⊢
    cases hb:listed.getD i false with
    |false=>rfl
    |true=>exact absurd hb hnu) (by
    have:=(hx (k:=i) hi').2 (.inl rfl)
    unfold Up at this
    simp only [this,Bool.not_true]) (fun k hk=>by
    simp only [Bool.not_eq_true'] at hk ⊢
    cases hb:listed.getD k false with
    |false=>rfl
    |true=>
     have:=(hx (k:=k) hi').2 (.inr hb)
     unfold Up at this
     rw [this] at hk;cases hk)
  omega
theorem drawA_any [Dfs] {md:Bool} {call:CallF} (hcall:CallOk P call) {nt:Nat} {ops:Array Oper} {st:St} {orc:List Orc} {q:St×List Orc×List Prop} {cx:Cx} {a:Act} (h:drawA P md call nt ops st orc=some q) (hp: ∀ p∈q.2.2,p) (hs:SRep cx st a nt) {Q:Exit→Act→World→Prop}
  (hQ: ∀ cx' a',SRep cx' q.1 a' nt→Stab cx cx'→Q .normal a' cx'.w):P.follows .mixedOrders=true∧wpAny P .any ops Q ops.size (Array.replicate ops.size false) a {cx.w with drawn:=cx.w.drawn+1}:=by
 unfold drawA at h
 obtain ⟨h1,h2⟩:=bif_some h
 rw [Bool.and_eq_true] at h1
 obtain ⟨q',hq,rfl⟩:=Option.map_eq_some_iff.1 h2
 obtain ⟨s',ps⟩:=q'
 obtain ⟨D,d0,d1,d2⟩:=runD_seq ops.size 0 hq hp
 rw [Nat.zero_add] at d1
 have htr: ∀ j,j<ops.size→ ∃ t,(D (j+1)).tr=(j,t)::(D j).tr:=fun j hj=>by
  obtain ⟨q,hq,_⟩:=d2 j (Nat.zero_le _) (by omega)
  obtain ⟨o,g,_,_,_,h3⟩:=stepD_inv hq
  rcases h3 with ⟨_,_,_,_,e,_⟩|⟨_,r,_,_,_,_,_,e,_⟩
  ·exact ⟨_,e⟩
  ·exact ⟨_,e⟩
 have hT: ∃ T:Nat→Tch, ∀ j,j<ops.size→(D (j+1)).tr=(j,T j)::(D j).tr:=
  ⟨fun j=>((D (j+1)).tr.head?.map (·.2)).getD tch0,fun j hj=>by
   obtain ⟨t,ht⟩:=htr j hj
   have e:((D (j+1)).tr.head?.map (·.2)).getD tch0=t:=by rw [ht];rfl
   show (D (j+1)).tr=(j,((D (j+1)).tr.head?.map (·.2)).getD tch0)::(D j).tr
   rw [e];exact ht⟩
 obtain ⟨T,hT⟩:=hT
 have hD:SeqD P T md call nt ops st D:=⟨by rw [d0],by rw [d0],fun j hj=>d2 j (Nat.zero_le _) (by omega),hT,hs.lt⟩
 refine ⟨h1.1, ?_⟩
 have hs':=drew_srep hs
 have hno: ∀ k, ¬Up (Array.replicate ops.size false) k:=fun k hk=>by
  unfold Up at hk
  rw [Array.getD_eq_getD_getElem?,Array.getElem?_replicate] at hk
  split at hk<;>cases hk
 refine InvD.any hD hcall h1.2 (cx0:=cx.drew) (Q:=Q) (fun cx' a' hs2 hst2=> ?_) ops.size (cx:=cx.drew) (e:=st.env) (N:=st.next) ⟨⟨by simp,fun k o _ hu=>absurd hu (hno k)⟩,Stab.refl _, ?_,⟨fun k o t _ _ hu=>absurd hu (hno k),fun t _=>rfl⟩,fun id=> .inr ⟨fun j _ hu=>absurd hu (hno j), ?_⟩,fun k _ hu=>absurd hu (hno k)⟩ ?_
 ·rw [d1] at hs2
  exact hQ cx' a' hs2 ((drew_stab cx).trans hst2)
 ·have:cx.drew.H=st.heap:=hs'.H
  rw [this]
  exact hs'
 ·rw [show cx.drew.H=st.heap from hs'.H]
 ·exact Nat.le_trans List.countP_le_length (by simp)
theorem drawA_ok (md:Bool):DrawOk P (drawA P md):=by
 intro D0 call hcall nt ops st orc q cx a id h hp hs Q hQ
 obtain ⟨h1,h2⟩:=drawA_any hcall h hp hs hQ
 exact wp_region_any h1 h2
end
end
end Go.Proofs.Ytfjapapiappacaa.Rx
namespace Go.Proofs.Ytfjapapiappacaa.Rx
section
open Go.RowKit
structure Vc (p:Prop):Prop where
 out:p
def allP:List Prop→Prop
 | []=>True
 |p::l=>p∧allP l
theorem allP_mem: ∀ {l:List Prop},allP l→ ∀ p∈l,p
 | [],_,p,hp=>by cases hp
 |q::l,h,p,hp=>by
  rcases List.mem_cons.1 hp with rfl |hp
  ·exact h.1
  ·exact allP_mem h.2 p hp
def eqX:X→X→Bool
 | .nrm, .nrm=>true
 | .ext i, .ext j=>Nat.beq i j
 | .ret, .ret=>true
 |_,_=>false
theorem eqX_eq {x y:X} (h:eqX x y=true):x=y:=by
 cases x<;>cases y<;>first |rfl |cases h | (unfold eqX at h;rw [Nat.eq_of_beq_eq_true h])
def cSub:Code→List Nat→Code
 |c,[]=>c
 | .seq a b,i::p=>bif Nat.beq i 0 then cSub a p else cSub b p
 | .cond _ a b,i::p=>bif Nat.beq i 0 then cSub a p else cSub b p
 | .block _ c,_::p=>cSub c p
 | .loop c,_::p=>cSub c p
 |c,_=>c
def loops:Code→List Code
 | .seq a b=>loops a++loops b
 | .cond _ a b=>loops a++loops b
 | .block _ c=>loops c
 | .loop c=>c::loops c
 |_=>[]
section
variable (P:Program)
def codeOf (f:FuncId):Code:=((P.funcs[f]?).bind (·.body)).getD .skip
def subC (f:FuncId) (p:List Nat):Code:=cSub (codeOf P f) p
def lpC (f:FuncId) (k:Nat):Code:=(loops (codeOf P f)).getD k .skip
def ntOf (f:FuncId):Nat:=((P.funcs[f]?).map (·.ntmps)).getD 0
def vcFn (md:Bool) (f:FuncId) (args:List AV) (orc:List Orc) (ρ:List (Nat×Nat)) (res:AV) (H:List Blk):Prop:=
 match evFn P (drawA P md) md 100 true f args (fun _=>none) 0 orc with
 |some r=>match leS ρ ⟨fun _=>r.v,r.heap,r.next⟩ ⟨[(0,res)],idxH H,H.length⟩ with
  |some ps=>allP (r.cs++ps)
  |none=>False
 |none=>False
def vcMut (md:Bool) (f:FuncId) (args:List AV) (H0:List Blk) (orc:List Orc) (ρ:List (Nat×Nat)) (res:AV) (H:List Blk):Prop:=
 match evFn P (drawA P md) md 100 true f args (fun i=>H0[i]?) H0.length orc with
 |some r=>match leS ρ ⟨fun _=>r.v,r.heap,r.next⟩ ⟨[(0,res)],idxH H,H.length⟩ with
  |some ps=>allP (r.cs++ps)
  |none=>False
 |none=>False
def vcC (md:Bool) (nt:Nat) (c:Code) (I:Sm) (orc:List Orc) (x:X) (r:List (Nat×Nat)) (J:Sm):Prop:=
 match evCode P (drawA P md) true md (callA P (evFn P (drawA P md) md 100 false)) nt c I.st orc with
 |some q=>bif eqX q.1 x then match leS r q.2.1 J with
  |some ps=>allP (q.2.2.2++ps)
  |none=>False
  else False
 |none=>False
end
section
variable {P:Program}
theorem PureC.vc {md:Bool} {f:FuncId} {args:List AV} {orc:List Orc} {ρ:List (Nat×Nat)} {res:AV} {H:List Blk} (h:Vc (vcFn P md f args orc ρ res H)):PureC P f args res H:=by
 replace h:=h.out
 unfold vcFn at h
 split at h
 ·rename_i r hr
  split at h
  ·rename_i ps hps
   have hall:=allP_mem h
   exact PureC.of (drawA_ok md) hr (fun p hp=>hall p (List.mem_append.2 (.inl hp))) hps fun p hp=>hall p (List.mem_append.2 (.inr hp))
  ·cases h
 ·cases h
theorem MutC.vc {md:Bool} {f:FuncId} {args:List AV} {H0:List Blk} {orc:List Orc} {ρ:List (Nat×Nat)} {res:AV} {H:List Blk} (h:Vc (vcMut P md f args H0 orc ρ res H)):MutC P f args H0 res H:=by
 replace h:=h.out
 unfold vcMut at h
 split at h
 ·rename_i r hr
  split at h
  ·rename_i ps hps
   have hall:=allP_mem h
   exact MutC.of (drawA_ok md) hr (fun p hp=>hall p (List.mem_append.2 (.inl hp))) hps fun p hp=>hall p (List.mem_append.2 (.inr hp))
  ·cases h
 ·cases h
theorem callA_evFn {md:Bool} (n:Nat):CallOk P (callA P (evFn P (drawA P md) md n false)):=callA_ok fun f args h next orc r h1 h2 cx h3 h4 h5 vs h6 h7=>by
 obtain ⟨k1,k2⟩:=evFn_run (drawA_ok md) n false h1 h2 cx h3 h4 h5 vs h6 h7
 refine ⟨k1,k2.mono ?_⟩
 rintro e w' ⟨z,cx',m1,m2,m3,m4,m5,m6,m7⟩
 exact ⟨z,cx',m1,m2,m3,m4,m5.2 rfl,m6,m7⟩
theorem Ok.vc {md:Bool} {nt:Nat} {c:Code} {I J:Sm} {orc:List Orc} {x:X} {r:List (Nat×Nat)} (h:Vc (vcC P md nt c I orc x r J)):Ok P nt c I.st x J.st:=by
 replace h:=h.out
 unfold vcC at h
 split at h
 ·rename_i q hq
  obtain ⟨hx,h1⟩:eqX q.1 x=true∧(match leS r q.2.1 J with |some ps=>allP (q.2.2.2++ps)|none=>False):=by
   cases hb:eqX q.1 x with
   |true=>rw [hb] at h;exact ⟨rfl,h⟩
   |false=>rw [hb] at h;exact h.elim
  split at h1
  ·rename_i ps hps
   have hall:=allP_mem h1
   intro d0 cx a hs Q hQ
   refine evCode_sound (drawA_ok md) (callA_evFn 100) c hq (fun p hp=>hall p (List.mem_append.2 (.inl hp))) hs Q fun d1 cx1 a1 hs1 ha1=> ?_
   obtain ⟨cx1p,hw,hs1p,hk⟩:=ha1.plus hs1
   obtain ⟨cx2,hs2,he2,hw2⟩:=hs1p.le hps fun p hp=>hall p (List.mem_append.2 (.inr hp))
   obtain ⟨cx3,e3,hs3,ha3⟩:=hk d1 cx2 _ a1 _ hs2 (.of_ext he2)
   rw [eqX_eq hx, ←hw, ←hw2, ←e3]
   exact hQ d1 cx3 a1 hs3 ha3
  ·cases h1
 ·cases h
theorem Ok.loop {nt:Nat} {c:Code} {F:Nat→Sm} {m:Nat} {x:X} {J:Sm} (hr: ∀ k,k<m→Ok P nt c (F k).st .nrm (F (k+1)).st) (he:Ok P nt c (F m).st x J.st) (hx:x≠ .nrm):Ok P nt (.loop c) (F 0).st x J.st:=by
 intro d0 cx a hs Q hQ
 have key: ∀ n k,k+n=m→ ∀ (d1:Dfs) cx1 a1, @SRep d1 cx1 (F k).st a1 nt→(∀ (d2:Dfs) cx2 a2, @SRep d2 cx2 J.st a2 nt→After true d1 cx1 d2 cx2→Q x.to a2 cx2.w)→Code.rounds P c Q (n+1) a1 cx1.w:=by
  intro n
  induction n with
  |zero=>
   intro k hk d1 cx1 a1 hs1 hK
   obtain rfl:k=m:=by omega
   rw [rounds_succ]
   refine he d1 cx1 a1 hs1 _ fun d2 cx2 a2 hs2 ha2=> ?_
   have:=hK d2 cx2 a2 hs2 ha2
   cases x with
   |nrm=>exact absurd rfl hx
   |ext id=>exact this
   |ret=>exact this
  |succ n ih=>
   intro k hk d1 cx1 a1 hs1 hK
   rw [rounds_succ]
   refine hr k (by omega) d1 cx1 a1 hs1 _ fun d2 cx2 a2 hs2 ha2=> ?_
   obtain ⟨cx2p,hw,hs2p,hk2⟩:=ha2.plus hs2
   show Code.rounds _ _ _ _ _ cx2.w
   rw [←hw]
   exact ih (k+1) (by omega) d2 cx2p a2 hs2p fun d3 cx3 a3 hs3 ha3=>by
    obtain ⟨cx4,e4,hs4,ha4⟩:=hk2 d3 cx3 _ a3 _ hs3 ha3
    rw [←e4]
    exact hK d3 cx4 a3 hs4 ha4
 exact wp_loop_rounds (m+1) (key m 0 (by omega) d0 cx a hs hQ)
def rowL {α:Type} [Inhabited α] (g:α→Nat→AV) (l:List α):Nat→Nat→AV:=fun i j=>g (l.getD i default) j
theorem rowL_left {α:Type} [Inhabited α] {g:α→Nat→AV} {l l':List α} {i j:Nat} (h:i<l.length):rowL g (l++l') i j=rowL g l i j:=by
 unfold rowL
 rw [List.getD_eq_getElem?_getD,List.getD_eq_getElem?_getD,List.getElem?_append_left h]
theorem rowL_right {α:Type} [Inhabited α] {g:α→Nat→AV} {l l':List α} {i j:Nat} (h: ¬i<l.length):rowL g (l++l') i j=rowL g l' (i-l.length) j:=by
 unfold rowL
 rw [List.getD_eq_getElem?_getD,List.getD_eq_getElem?_getD,List.getElem?_append_right (Nat.not_lt.1 h)]
theorem rowL_last {α:Type} [Inhabited α] {g:α→Nat→AV} {l:List α} {x:α} {j:Nat}:rowL g (l++[x]) l.length j=g x j:=by
 rw [rowL_right (Nat.lt_irrefl _),Nat.sub_self]
 rfl
theorem row_if {n i:Nat} {a b c:AV} (h1:i<n→a=c) (h2: ¬i<n→b=c):(bif Nat.blt i n then a else b)=c:=by
 by_cases h:i<n
 ·have:Nat.blt i n=true:=by rw [Nat.blt_eq];exact h
  rw [this]
  exact h1 h
 ·have:Nat.blt i n=false:=by
   cases hb:Nat.blt i n with
   |false=>rfl
   |true=>rw [Nat.blt_eq] at hb;exact absurd hb h
  rw [this]
  exact h2 h
theorem in64 {n:Int} (h1: -9223372036854775808≤n) (h2:n≤9223372036854775807):inK .i64 n:=⟨h1,h2⟩
theorem Ok.cut {nt:Nat} {c d:Code} {I J K:St} {x:X} (h1:Ok P nt c I .nrm J) (h2:Ok P nt d J x K):Ok P nt (.seq c d) I x K:=by
 intro d0 cx a hs Q hQ
 refine wp_seq (h1 d0 cx a hs _ fun d1 cx1 a1 hs1 ha1=> ?_)
 obtain ⟨cx1p,hw,hs1p,hk⟩:=ha1.plus hs1
 show Code.wp _ _ _ _ cx1.w
 rw [←hw]
 exact h2 d1 cx1p a1 hs1p Q fun d2 cx2 a2 hs2 ha2=>by
  obtain ⟨cx3,e3,hs3,ha3⟩:=hk d2 cx2 _ a2 _ hs2 ha2
  rw [←e3]
  exact hQ d2 cx3 a2 hs3 ha3
end
end
end Go.Proofs.Ytfjapapiappacaa.Rx
namespace Go.Proofs.Ytfjapapiappacaa.Rx
section
open Go.RowKit
def frzS (t:Nat) (s:St):St:=⟨fun k=>bif Nat.beq k t then frz s.heap (s.env t) else s.env k,frzIds s.heap (idsF (s.env t)),s.next⟩
def vcZ (t:Nat) (I:Sm) (r:List (Nat×Nat)) (I':Sm):Prop:=
 match leS r (frzS t I.st) I' with
 |some ps=>allP ps
 |none=>False
section
variable {P:Program}
theorem Ok.freeze {nt:Nat} {c:Code} {I I':Sm} {r:List (Nat×Nat)} {x:X} {J:St} {t:Nat} (hv:Vc (vcZ t I r I')) (h:Ok P nt c I'.st x J):Ok P nt c I.st x J:=by
 replace hv:=hv.out
 unfold vcZ at hv
 split at hv
 ·rename_i ps hps
  intro d0 cx a hs Q hQ
  obtain ⟨cx1,e1,hc1,hs1,e2,e3,e4,e5⟩:=frzIds_ok (idsF (I.st.env t)) hs.c
  have hz:SRep cx1 (frzS t I.st) a nt:=by
   refine ⟨by rw [e1,hs.H];rfl,hc1,fun k=> ?_,fun i hi=> ?_,hs.sz,hs.df⟩
   ·show Rep cx1 (bif Nat.beq k t then frz I.st.heap (I.st.env t) else I.st.env k) _
    cases hk:Nat.beq k t with
    |true=>
     obtain rfl:=Nat.eq_of_beq_eq_true hk
     exact .pure (frz_rep hc1 (fun id b hb=>by rw [e1,hs.H];exact frzIds_gen _ _ _ _ hb) ((hs.env k).stab hs.c hs1) fun id hid b g c hb hg=>by
      obtain ⟨b',hb'⟩:=Option.isSome_iff_exists.1 (e5 id (by rw [hb];rfl))
      rw [e3] at hg
      exact e4 id b' g c hid hb' hg)
    |false=>exact (hs.env k).stab hs.c hs1
   ·have:(cx1.H i).isSome=true:=by rw [e1,hs.H];exact hi
    have:=e5 i this
    rw [hs.H] at this
    exact hs.lt i this
  obtain ⟨cx2,hs2,he2,hw2⟩:=hz.le hps fun p hp=>allP_mem hv p hp
  rw [←e2, ←hw2]
  exact h d0 cx2 a hs2 Q fun d3 cx3 a3 hs3 ha3=>hQ d3 cx3 a3 hs3 (ha3.pre (hs1.ext.trans he2) (hw2.trans e2))
 ·cases hv
theorem RepP.ints {w:World} {R:Nat→Prop} {k:IntKind} {n:Nat} {f:Nat→Nat→AV} {v:Value} {l:List Int} (h:RepP w R (.row 1 n f) v) (hR: ∀ g,R g→g<w.heap.size) (hn:n=l.length) (hf: ∀ i,i<n→f i 0= .int k (l.getD i 0)):
  ∃ A c,v= .slice A l.length c∧l.length≤c∧c≤maxLen∧Rd w w.heap.size A (l.map (Value.int k)):=by
 subst hn
 cases h with
 |row A cap u hn hc hA h1 hu=>
  refine ⟨A,cap,rfl,hn,hc,fun hl=> ?_⟩
  rw [List.length_map] at hl
  obtain ⟨g,o,rfl,hg,hcell⟩:=hA (by omega)
  refine ⟨⟨g,o,none⟩,rfl,hR g hg,fun j x hx=> ?_⟩
  have hj:j<l.length:=by
   have:=(List.getElem?_eq_some_iff.1 hx).1
   simpa using this
  have h2:=hu j hj 0 (by omega)
  rw [hf j hj] at h2
  have h3:u j 0= .int k (l.getD j 0):=by
   generalize u j 0=z at h2
   cases h2;rfl
  have h4:=hcell j hj 0 (by omega)
  rw [h3] at h4
  rw [List.getElem?_map,List.getElem?_eq_getElem hj,Option.map_some,Option.some.injEq] at hx
  rw [←hx,show Addr.add ⟨g,o,none⟩ j=⟨g,o+j,none⟩ from adr_mk g o j]
  rw [show o+(j*1+0)=o+j by omega] at h4
  rw [h4]
  simp [List.getD,hj]
theorem PureC.ofOwn {f:FuncId} {args:List AV} {t:TypeId} {k:IntKind} {l:List Int} {n:Nat} {g:Nat→Nat→AV} (hn:n=l.length) (hg: ∀ i,i<n→g i 0= .int k (l.getD i 0))
  (h: ∀ (w:World) (R:Nat→Prop) (vs:Array Value),(∀ g,R g→g<w.heap.size)→args.length=vs.size→(∀ (j:Nat) a v,args[j]? =some a→vs[j]? =some v→RepP w R a v)→Calls P f vs w (RetOwn w.heap.size t (l.map (Value.int k)) w)):
  PureC P f args (.own 0 0 1 0 n) [⟨0,false,t, .rows 1 n g⟩]:=by
 subst hn
 intro w R vs hR hl ha
 refine (h w R vs hR hl ha).mono ?_
 rintro e w' ⟨v,rfl,hown,hb⟩
 have hlen:(l.map (Value.int k)).length=l.length:=List.length_map _
 have hR': ∀ g,R g→g<w'.heap.size:=fun g hg=>Nat.lt_of_lt_of_le (hR g hg) hb.size
 rcases hown.2 with ⟨rfl,h0⟩|⟨gg,cap,cur,rfl,hge,hh,hnc,hcm,hsz,htk⟩
 ·rw [hlen] at h0
  refine ⟨_,⟨w',R,fun _=>none,fun i=>[(⟨0,false,t, .rows 1 l.length g⟩:Blk)][i]?,fun g=>g<w.heap.size⟩,rfl,rfl,rfl,⟨fun id b hb'=> ?_,fun _ _ _ _ _ _ _ h1 _=>(by cases h1),hR',fun g hg=>Nat.lt_of_lt_of_le hg hb.size⟩,rfl,fun _ h=>h,fun _ h=> .inl h,hb, ?_⟩
  ·cases id with
   |zero=>
    simp only [List.getElem?_cons_zero,Option.some.injEq] at hb'
    subst hb'
    exact .inl ⟨rfl,h0⟩
   |succ i=>simp at hb'
  ·exact .own (b:=⟨0,false,t, .rows 1 l.length g⟩) rfl (Nat.le_refl _) rfl fun _=>⟨l.length,g,rfl,by omega, .inl ⟨rfl,rfl,h0,rfl⟩⟩
 ·rw [hlen] at hnc htk
  have hlt:gg<w'.heap.size:=(Array.getElem?_eq_some_iff.1 hh).1
  refine ⟨_,⟨w',R,fun i=>if i=0 then some (gg,cap) else none,fun i=>[(⟨0,false,t, .rows 1 l.length g⟩:Blk)][i]?,fun g=>g<w.heap.size⟩,rfl,rfl,rfl,⟨fun id b hb'=> ?_,fun i j _ _ _ _ _ h1 h2=> ?_,hR',fun g hg=>Nat.lt_of_lt_of_le hg hb.size⟩,rfl,fun _ h=>h,fun _ h=> .inl h,hb, ?_⟩
  ·cases id with
   |zero=>
    simp only [List.getElem?_cons_zero,Option.some.injEq] at hb'
    subst hb'
    refine .inr ⟨gg,cap,cur,rfl,hh,hsz,hnc,hcm,fun i hi j hj=> ?_,Nat.not_lt.2 hge, ?_⟩
    ·obtain rfl:j=0:=by omega
     have h5:cur.toList[i]? =some (.int k (l.getD i 0)):=by
      have:=congrArg (fun (x:List Value)=>x[i]?) htk
      simp only [List.getElem?_map] at this
      rw [List.getElem?_take,if_pos (by omega)] at this
      rw [this]
      simp [List.getD,hi]
     refine ⟨.int k (l.getD i 0), ?_,rfl, ?_⟩
     ·rw [←Array.getElem?_toList,show i*1+0=i by omega]
      exact h5
     ·rw [hg i hi]
      exact .int _ _
    ·show ¬R gg
     intro hr
     have:=hR gg hr
     omega
   |succ i=>simp at hb'
  ·simp only at h1 h2
   split at h1
   ·split at h2
    ·omega
    ·cases h2
   ·cases h1
  ·refine .own (b:=⟨0,false,t, .rows 1 l.length g⟩) rfl (Nat.le_refl _) rfl fun _=>⟨l.length,g,rfl,by omega, .inr ⟨gg,cap,rfl, ?_⟩⟩
   rw [hlen]
   simp
end
end
end Go.Proofs.Ytfjapapiappacaa.Rx
namespace Go.Proofs.Ytfjapapiappacaa.Rx
section
open Go.RowKit
section
variable {P:Program}
theorem forget_rep {cx:Cx} (hc:CRep cx):CRep ⟨cx.w,cx.R,fun _=>none,fun i=>([]:List Blk)[i]?,cx.B⟩:=
 ⟨fun id b hb=>(by simp at hb),fun _ _ _ _ _ _ _ h1 _=>(by cases h1),hc.rlt,hc.blt⟩
theorem freeze_all {cx:Cx} {H:List Blk} (hc:CRep cx) (hH:cx.H=fun i=>H[i]?) (ids:List Nat): ∃ cx1,CRep cx1∧cx1.w=cx.w∧Stab cx cx1∧
  ∀ a v,Rep cx a v→(∀ id∈idsF a,id∈ids)→RepP cx1.w cx1.R (frz (fun i=>H[i]?) a) v:=by
 obtain ⟨cx1,e1,hc1,hs1,e2,e3,e4,e5⟩:=frzIds_ok ids hc
 refine ⟨cx1,hc1,e2,hs1,fun a v hr hi=>frz_rep hc1 (fun id b hb=>by rw [e1,hH];exact frzIds_gen _ _ _ _ hb) (hr.stab hc hs1) fun id hid b g c hb hg=> ?_⟩
 obtain ⟨b',hb'⟩:=Option.isSome_iff_exists.1 (e5 id (by rw [hb];rfl))
 rw [e3] at hg
 exact e4 id b' g c (hi id hid) hb' hg
theorem PureC.frozen {f:FuncId} {args:List AV} {a:AV} {H:List Blk} (h:PureC P f args a H):PureC P f args (frz (fun i=>H[i]?) a) []:=by
 intro w R vs hR hl ha
 refine (h w R vs hR hl ha).mono ?_
 rintro e w' ⟨z,cx,rfl,rfl,k1,k2,k3,k4,k5,k6,k7⟩
 obtain ⟨cx1,hc1,e2,hs1,hfr⟩:=freeze_all k2 k1 (idsF a)
 refine ⟨z,⟨cx1.w,cx1.R,fun _=>none,fun i=>([]:List Blk)[i]?,cx1.B⟩,rfl,e2.symm,rfl,forget_rep hc1,by rw [hs1.ext.B];exact k3,fun g hg=>hs1.ext.R g (k4 g hg),fun g hg=> ?_,k6, .pure (hfr a z k7 fun _ h=>h)⟩
 rcases hs1.ext.Rn g hg with h1 |h1
 ·exact k5 g h1
 ·rw [k3] at h1;exact .inr (Nat.not_lt.1 h1)
theorem PureC.lawB {f:FuncId} {args:List AV} {b:Bool} (h:PureC P f args (.bool b) []) {W:World} {R:Nat→Prop} {vs:Array Value} (hR: ∀ g,R g→g<W.heap.size) (hl:args.length=vs.size) (ha: ∀ (j:Nat) a v,args[j]? =some a→vs[j]? =some v→RepP W R a v):Calls P f vs W (RetB (.bool b) W):=by
 refine (h W R vs hR hl ha).mono ?_
 rintro e w' ⟨z,cx,rfl,rfl,_,_,_,_,_,hb,hz⟩
 refine ⟨?_,hb⟩
 cases hz with
 |pure h=>cases h;rfl
end
end
end Go.Proofs.Ytfjapapiappacaa.Rx
namespace Go.Proofs.Ytfjapapiappacaa.Rx
section
open Go.RowKit
def shr1 (id n:Nat):AV→Option (List Prop)
 | .own i _ _ off len=>bif Nat.beq i id then some [off+len≤n] else some []
 | .eptr i _ _ _ _=>bif Nat.beq i id then none else some []
 | .bsl .. =>none
 | .agg _=>none
 | .tup _=>none
 | .clo _ (_::_)=>none
 |_=>some []
def shrL (id n:Nat):List AV→Option (List Prop)
 | []=>some []
 |a::l=>(shr1 id n a).bind fun p=>(shrL id n l).map (p++ ·)
def shrV (id n:Nat):AV→Option (List Prop)
 | .agg cs=>shrL id n cs
 | .clo _ (c::cs)=>shrL id n (c::cs)
 |a=>shr1 id n a
def shrE (id n:Nat):List (Nat×AV)→Option (List Prop)
 | []=>some []
 |q::l=>(shrV id n q.2).bind fun p=>(shrE id n l).map (p++ ·)
def shrB (id n:Nat) (q:Nat×Blk):Option (Blk×List Prop):=
 match q.2.c with
 | .box cs=>bif Nat.beq q.1 id then none else (shrL id n cs).map fun p=>(q.2,p)
 | .rows m k f=>bif Nat.beq q.1 id then some ({q.2 with c:= .rows m n f},[n≤k]) else some (q.2,[])
def shrH (id n:Nat):List (Nat×Blk)→Option (List (Nat×Blk)×List Prop)
 | []=>some ([],[])
 |q::l=>(shrB id n q).bind fun b=>(shrH id n l).map fun r=>((q.1,b.1)::r.1,b.2++r.2)
def shrS (id n:Nat) (J:Sm):Option (Sm×List Prop):=
 (shrH id n J.heap).bind fun h=>(shrE id n J.env).map fun p=>(⟨J.env,h.1,J.next⟩,h.2++p)
def vcShr (id n:Nat) (J:Sm) (r:List (Nat×Nat)) (K:Sm):Prop:=
 match shrS id n J with
 |some q=>match leS r q.1.st K with
  |some ps=>allP (q.2++ps)
  |none=>False
 |none=>False
section
variable {P:Program}
theorem shrH_get {id n:Nat}: ∀ {l:List (Nat×Blk)} {l':List (Nat×Blk)} {ps:List Prop},shrH id n l=some (l',ps)→(∀ p∈ps,p)→ ∀ k,(lookO l k=none∧lookO l' k=none)∨ ∃ b b' qs,lookO l k=some b∧lookO l' k=some b'∧shrB id n (k,b)=some (b',qs)∧ ∀ q∈qs,q
 | [],l',ps,h,hp,k=>by
  simp only [shrH,Option.some.injEq,Prod.mk.injEq] at h
  obtain ⟨rfl,rfl⟩:=h
  exact .inl ⟨rfl,rfl⟩
 | (i,b)::l,l',ps,h,hp,k=>by
  unfold shrH at h
  obtain ⟨q,hq,h⟩:=Option.bind_eq_some_iff.1 h
  obtain ⟨r,hr,h⟩:=Option.map_eq_some_iff.1 h
  simp only [Prod.mk.injEq] at h
  obtain ⟨rfl,rfl⟩:=h
  unfold lookO
  cases hk:Nat.beq k i with
  |true=>
   obtain rfl:=Nat.eq_of_beq_eq_true hk
   exact .inr ⟨b,q.1,q.2,rfl,rfl,hq,fun x hx=>hp x (List.mem_append_left _ hx)⟩
  |false=>exact shrH_get (by rw [hr]) (fun x hx=>hp x (List.mem_append_right _ hx)) k
theorem shrE_get {id n:Nat}: ∀ {l:List (Nat×AV)} {ps:List Prop},shrE id n l=some ps→(∀ p∈ps,p)→ ∀ t, ∃ qs,shrV id n (look .junk l t)=some qs∧ ∀ q∈qs,q
 | [],ps,h,hp,t=>⟨[],rfl,fun q hq=>by cases hq⟩
 | (i,a)::l,ps,h,hp,t=>by
  unfold shrE at h
  obtain ⟨q,hq,h⟩:=Option.bind_eq_some_iff.1 h
  obtain ⟨r,hr,rfl⟩:=Option.map_eq_some_iff.1 h
  unfold look
  cases hk:Nat.beq t i with
  |true=>exact ⟨q,hq,fun x hx=>hp x (List.mem_append_left _ hx)⟩
  |false=>exact shrE_get hr (fun x hx=>hp x (List.mem_append_right _ hx)) t
theorem shrL_get {id n:Nat}: ∀ {l:List AV} {ps:List Prop},shrL id n l=some ps→(∀ p∈ps,p)→ ∀ (j:Nat) a,l[j]? =some a→ ∃ qs,shr1 id n a=some qs∧ ∀ q∈qs,q
 | [],ps,h,hp,j,a,ha=>by simp at ha
 |x::l,ps,h,hp,j,a,ha=>by
  unfold shrL at h
  obtain ⟨q,hq,h⟩:=Option.bind_eq_some_iff.1 h
  obtain ⟨r,hr,rfl⟩:=Option.map_eq_some_iff.1 h
  cases j with
  |zero=>
   simp only [List.getElem?_cons_zero,Option.some.injEq] at ha
   subst ha
   exact ⟨q,hq,fun x hx=>hp x (List.mem_append_left _ hx)⟩
  |succ j=>exact shrL_get hr (fun x hx=>hp x (List.mem_append_right _ hx)) j a (by simpa using ha)
theorem SRep.shr [Dfs] {cx:Cx} {J J':Sm} {a:Act} {nt id n:Nat} {ps:List Prop} (hs:SRep cx J.st a nt) (h:shrS id n J=some (J',ps)) (hp: ∀ p∈ps,p): ∃ cx',SRep cx' J'.st a nt∧Ext cx cx'∧cx'.w=cx.w:=by
 unfold shrS at h
 obtain ⟨q,hq,h⟩:=Option.bind_eq_some_iff.1 h
 obtain ⟨pe,he,h⟩:=Option.map_eq_some_iff.1 h
 simp only [Prod.mk.injEq] at h
 obtain ⟨rfl,rfl⟩:=h
 have hget:=shrH_get (l':=q.1) (ps:=q.2) hq fun p hp'=>hp p (List.mem_append_left _ hp')
 have hget':=shrE_get he fun p hp'=>hp p (List.mem_append_right _ hp')
 have hH:cx.H=lookO J.heap:=hs.H
 have one: ∀ (x:AV) (v:Value) (qs:List Prop),shr1 id n x=some qs→(∀ q∈qs,q)→Rep cx x v→Rep ⟨cx.w,cx.R,cx.φ,lookO q.1,cx.B⟩ x v:=by
  intro x v qs hx hqs hr
  cases x with
  |own i g m off len=>
   obtain ⟨b,hb,hle,hO⟩:=hr.own_inv
   have ho:=hr.own_one
   rw [hH] at hb
   rcases hget i with ⟨h1,_⟩|⟨b1,b2,rs,h1,h2,h3,h4⟩
   ·rw [hb] at h1;cases h1
   ·rw [hb] at h1;cases h1
    have hgen:b2.gen=b.gen:=by
     unfold shrB at h3
     split at h3
     ·obtain ⟨_,h3⟩:Nat.beq i id=false∧_:=by
       cases hk:Nat.beq i id with
       |true=>rw [hk] at h3;cases h3
       |false=>exact ⟨rfl,by rw [hk] at h3;exact h3⟩
      simp only [cond_false] at h3
      obtain ⟨p,_,h3⟩:=Option.map_eq_some_iff.1 h3
      cases h3;rfl
     ·cases hk:Nat.beq i id with
      |true=>rw [hk] at h3;simp only [cond_true,Option.some.injEq,Prod.mk.injEq] at h3;rw [←h3.1]
      |false=>rw [hk] at h3;simp only [cond_false,Option.some.injEq,Prod.mk.injEq] at h3;rw [←h3.1]
    refine .own h2 (by rw [hgen];exact hle) ho fun e=> ?_
    obtain ⟨k,f,k1,k2,k3⟩:=hO (by rw [←hgen];exact e)
    unfold shrB at h3
    simp only [k1] at h3
    simp only [shr1] at hx
    cases hk:Nat.beq i id with
    |true=>
     rw [hk] at h3 hx
     simp only [cond_true,Option.some.injEq,Prod.mk.injEq] at h3 hx
     subst hx
     have hlen:=hqs _ (List.mem_singleton.2 rfl)
     exact ⟨n,f,by rw [←h3.1],hlen,k3⟩
    |false=>
     rw [hk] at h3
     simp only [cond_false,Option.some.injEq,Prod.mk.injEq] at h3
     exact ⟨k,f,by rw [←h3.1];exact k1,k2,k3⟩
  |bptr i off=>
   obtain ⟨g,cap,b,h1,h2,h3,rfl⟩:=hr.bptr_inv
   rw [hH] at h1
   rcases hget i with ⟨h4,_⟩|⟨b1,b2,rs,h4,h5,h6,h7⟩
   ·rw [h1] at h4;cases h4
   ·rw [h1] at h4;cases h4
    refine .bptr h5 ?_ h3
    unfold shrB at h6
    split at h6
    ·cases hk:Nat.beq i id with
     |true=>rw [hk] at h6;cases h6
     |false=>
      rw [hk] at h6
      simp only [cond_false] at h6
      obtain ⟨p,_,h6⟩:=Option.map_eq_some_iff.1 h6
      cases h6;exact h2
    ·rename_i m kk f hc
     have hc':b.c= .rows m kk f:=hc
     rw [hc'] at h2;cases h2
  |eptr i g m k j=>
   simp only [shr1] at hx
   obtain ⟨b,hb,hle,hE⟩:=hr.eptr_inv
   have ho:=hr.eptr_ptr
   rw [hH] at hb
   cases hk:Nat.beq i id with
   |true=>rw [hk] at hx;cases hx
   |false=>
    rcases hget i with ⟨h1,_⟩|⟨b1,b2,rs,h1,h2,h3,h4⟩
    ·rw [hb] at h1;cases h1
    ·rw [hb] at h1;cases h1
     have e2:b2=b:=by
      unfold shrB at h3
      simp only [hk,cond_false] at h3
      split at h3
      ·obtain ⟨p,_,h3⟩:=Option.map_eq_some_iff.1 h3
       cases h3;rfl
      ·cases h3;rfl
     subst e2
     exact .eptr h2 hle ho hE
  |bsl i m k=>cases hx
  |agg cs=>cases hx
  |tup cs=>cases hx
  |clo f cs=>
   cases cs with
   |cons c cs=>cases hx
   |nil=>
    obtain ⟨vs,rfl,hl,_⟩:=hr.clo_inv
    exact .clo hl fun j a v ha _=>by simp at ha
  |_=>cases hr with |pure h=>exact .pure h
 have val: ∀ (x:AV) (v:Value) (qs:List Prop),shrV id n x=some qs→(∀ q∈qs,q)→Rep cx x v→Rep ⟨cx.w,cx.R,cx.φ,lookO q.1,cx.B⟩ x v:=by
  intro x v qs hx hqs hr
  cases x with
  |agg cs=>
   obtain ⟨vs,rfl,h1,h2,h3⟩:=hr.agg_inv
   refine .agg h1 h2 fun j y u hy hu=> ?_
   obtain ⟨rs,r1,r2⟩:=shrL_get hx hqs j y hy
   exact one y u rs r1 r2 (h3 j y u hy hu)
  |clo f cs=>
   cases cs with
   |nil=>exact one _ _ _ hx hqs hr
   |cons c cs=>
    obtain ⟨vs,rfl,hl,h3⟩:=hr.clo_inv
    refine .clo hl fun j y u hy hu=> ?_
    obtain ⟨rs,r1,r2⟩:=shrL_get hx hqs j y hy
    exact one y u rs r1 r2 (h3 j y u hy hu)
  |_=>exact one _ _ _ hx hqs hr
 refine ⟨⟨cx.w,cx.R,cx.φ,lookO q.1,cx.B⟩,⟨rfl,⟨fun k b hb=> ?_,fun k k' g c c' h1 h2 h3 h4=> ?_,hs.c.rlt,hs.c.blt⟩,fun t=> ?_,fun k hk=> ?_,hs.sz,hs.df⟩,⟨rfl,fun _ h=>h,fun _ h=> .inl h,rfl,rfl,rfl,Nat.le_refl _,fun _ _ _=>rfl⟩,rfl⟩
 ·rcases hget k with ⟨_,h1⟩|⟨b1,b2,rs,h1,h2,h3,h4⟩
  ·have hb':lookO q.1 k=some b:=hb
   rw [h1] at hb';cases hb'
  ·have hb':lookO q.1 k=some b:=hb
   rw [h2] at hb';cases hb'
   have hold:=hs.c.hb k b1 (by rw [hH];exact h1)
   unfold shrB at h3
   unfold HB at hold ⊢
   split at h3
   ·rename_i cs hcs'
    have hcs:b1.c= .box cs:=hcs'
    cases hk:Nat.beq k id with
    |true=>rw [hk] at h3;cases h3
    |false=>
     rw [hk] at h3
     simp only [cond_false] at h3
     obtain ⟨p,hp1,h3⟩:=Option.map_eq_some_iff.1 h3
     simp only [Prod.mk.injEq] at h3
     obtain ⟨rfl,rfl⟩:=h3
     rw [hcs] at hold ⊢
     simp only at hold ⊢
     obtain ⟨g,cur,c1,c2,c3,c4,c5,c6⟩:=hold
     refine ⟨g,cur,c1,c2,c3,fun j x hx=> ?_,c5,c6⟩
     obtain ⟨u,u1,u2,u3⟩:=c4 j x hx
     obtain ⟨ss,s1,s2⟩:=shrL_get hp1 h4 j x hx
     exact ⟨u,u1,u2,one x u ss s1 s2 u3⟩
   ·rename_i m kk f hcs'
    have hcs:b1.c= .rows m kk f:=hcs'
    rw [hcs] at hold
    simp only at hold
    cases hk:Nat.beq k id with
    |true=>
     rw [hk] at h3
     simp only [cond_true,Option.some.injEq,Prod.mk.injEq] at h3
     obtain ⟨rfl,rfl⟩:=h3
     have hle:=h4 _ (List.mem_singleton.2 rfl)
     rcases hold with ⟨c1,c2⟩|⟨g,cap,cur,c1,c2,c3,c4,c5,c6,c7⟩
     ·exact .inl ⟨c1,by omega⟩
     ·exact .inr ⟨g,cap,cur,c1,c2,c3,by omega,c5,fun i hi j hj=>c6 i (by omega) j hj,c7⟩
    |false=>
     rw [hk] at h3
     simp only [cond_false,Option.some.injEq,Prod.mk.injEq] at h3
     obtain ⟨rfl,rfl⟩:=h3
     rw [hcs]
     exact hold
 ·have conv: ∀ i,(lookO q.1 i).isSome=true→(cx.H i).isSome=true:=fun i hi=>by
   rw [hH]
   rcases hget i with ⟨_,e1⟩|⟨b1,b2,rs,e1,e2,_⟩
   ·rw [e1] at hi;cases hi
   ·rw [e1];rfl
  exact hs.c.inj k k' g c c' (conv k h1) (conv k' h2) h3 h4
 ·obtain ⟨rs,r1,r2⟩:=hget' t
  exact val _ _ rs r1 r2 (hs.env t)
 ·have hi:(lookO q.1 k).isSome=true:=hk
  have:(cx.H k).isSome=true:=by
   rw [hH]
   rcases hget k with ⟨_,e1⟩|⟨b1,b2,rs,e1,e2,_⟩
   ·rw [e1] at hi;cases hi
   ·rw [e1];rfl
  rw [hs.H] at this
  exact hs.lt k this
theorem Ok.shr {nt:Nat} {c:Code} {I:St} {x:X} {id n:Nat} {J K:Sm} {r:List (Nat×Nat)} (h:Ok P nt c I x J.st) (hv:Vc (vcShr id n J r K)):Ok P nt c I x K.st:=by
 replace hv:=hv.out
 unfold vcShr at hv
 split at hv
 ·rename_i q hq
  split at hv
  ·rename_i ps hps
   have hall:=allP_mem hv
   intro d0 cx a hs Q hQ
   refine h d0 cx a hs Q fun d1 cx1 a1 hs1 ha1=> ?_
   obtain ⟨cx1p,hw,hs1p,hk⟩:=ha1.plus hs1
   obtain ⟨cx2,hs2,he2,hw2⟩:=hs1p.shr hq fun p hp=>hall p (List.mem_append_left _ hp)
   obtain ⟨cx3,hs3,he3,hw3⟩:=hs2.le hps fun p hp=>hall p (List.mem_append_right _ hp)
   obtain ⟨cx4,e4,hs4,ha4⟩:=hk d1 cx3 _ a1 _ hs3 (.of_ext (he2.trans he3))
   rw [←hw, ←hw2, ←hw3, ←e4]
   exact hQ d1 cx4 a1 hs4 ha4
  ·cases hv
 ·cases hv
theorem PureC.frozenT {f:FuncId} {args l:List AV} {H:List Blk} (h:PureC P f args (.tup l) H):PureC P f args (.tup (l.map (frz (fun i=>H[i]?)))) []:=by
 intro w R vs hR hl ha
 refine (h w R vs hR hl ha).mono ?_
 rintro e w' ⟨z,cx,rfl,rfl,k1,k2,k3,k4,k5,k6,k7⟩
 obtain ⟨cx1,hc1,e2,hs1,hfr⟩:=freeze_all k2 k1 (l.flatMap idsF)
 have hz:RepP cx1.w cx1.R (.tup (l.map (frz (fun i=>H[i]?)))) z:=by
  obtain ⟨us,rfl,h1,h2⟩: ∃ us:Array Value,z= .tuple us∧l.length=us.size∧ ∀ (j:Nat) x v,l[j]? =some x→us[j]? =some v→Rep cx x v:=by
   cases k7 with
   |pure h=>cases h with
    |tup hl h=>exact ⟨_,rfl,hl,fun j x v h1 h2=> .pure (h j x v h1 h2)⟩
   |tup hl h=>exact ⟨_,rfl,hl,h⟩
  refine .tup (by simpa using h1) fun j x v hx hv=> ?_
  rw [List.getElem?_map] at hx
  obtain ⟨y,hy,rfl⟩:=Option.map_eq_some_iff.1 hx
  exact hfr y v (h2 j y v hy hv) fun i hi=>List.mem_flatMap.2 ⟨y,List.mem_of_getElem? hy,hi⟩
 refine ⟨z,⟨cx1.w,cx1.R,fun _=>none,fun i=>([]:List Blk)[i]?,cx1.B⟩,rfl,e2.symm,rfl,forget_rep hc1,by rw [hs1.ext.B];exact k3,fun g hg=>hs1.ext.R g (k4 g hg),fun g hg=> ?_,k6, .pure hz⟩
 rcases hs1.ext.Rn g hg with h1 |h1
 ·exact k5 g h1
 ·rw [k3] at h1;exact .inr (Nat.not_lt.1 h1)
end
end
end Go.Proofs.Ytfjapapiappacaa.Rx
namespace Go.Proofs.Ytfjapapiappacaa.Rx
section
open Go.RowKit
section
variable {P:Program} {ops:Array Oper} {Q:Exit→Act→World→Prop} {r n:Nat}
theorem upon_in {o:Oper} {a:Act} {K K':Act→World→Prop} (hK: ∀ a w,K a w→K' a w) (res:Result Next) (h:o.upon P a K Q res):o.uponIn (Fence.wide.inRound r) n P a K' Q res:=by
 cases res with
 |ok x w'=>
  cases x<;>simp only [Oper.upon,Oper.uponIn] at h ⊢
  case value=>exact hK _ _ h
  case skip=>exact hK _ _ h
  case defer=>exact hK _ _ h
  case enter f args=>exact ⟨by simp [Fence.wide,Fence.inRound],CallsIn.inRound r (callsIn_wide.2 (h.mono fun e w'' he=>by cases e<;>first |exact hK _ _ he |exact he))⟩
  case row row args=>exact ⟨by simp [Fence.wide,Fence.inRound],fun c cs _=>let ⟨v,w'',q,s⟩:=h c cs;⟨v,w'',hK _ _ q,stepsIn_wide.2 s⟩⟩
  all_goals exact h
 |halt x w'=>cases x<;>simp only [Oper.upon,Oper.uponIn] at h ⊢ <;>exact h
def noDefer (ops:Array Oper):Bool:=ops.toList.all fun o=>match o.op with | .defer _=>false |_=>true
theorem noDefer_op {i:Nat} {o:Oper} (h:noDefer ops=true) (ho:ops[i]? =some o): ∀ c,o.op≠ .defer c:=fun c e=>by
 unfold noDefer at h
 rw [List.all_eq_true] at h
 have:=h o (by have:=Array.mem_of_getElem? ho;simpa using this)
 rw [e] at this
 simp at this
theorem wpOpsIn_of (hL: ¬LetsOut Q) (hd:noDefer ops=true): ∀ (l:List Nat) (a:Act) (w:World),wpOps P ops Q l a w→wpOpsIn (Fence.wide.inRound r) n P ops Q l a w
 | [],a,w,h=>h
 |i::l,a,w,h=>by
  unfold wpOps at h
  unfold wpOpsIn
  cases ho:ops[i]? with
  |none=>rw [ho] at h;exact wpOpsIn_of hL hd l a w h
  |some o=>
   rw [ho] at h
   simp only at h ⊢
   split
   ·rename_i hw
    rw [if_pos hw] at h
    rcases h with h |h
    ·refine ⟨fun f _=>trivial, ?_⟩
     rw [show Oper.semAt (Fence.wide.inRound r).round a.eval o=execOp a.eval o from Oper.semAt_eq _ _ _ (noDefer_op hd ho)]
     exact upon_in (fun a w=>wpOpsIn_of hL hd l a w) _ h
    ·exact absurd h.2 hL
   ·rename_i hw
    rw [if_neg hw] at h
    exact ⟨fun f _=>trivial,wpOpsIn_of hL hd l _ w h⟩
theorem wpIn_any {id:Nat} {a:Act} {w:World} (hL: ¬LetsOut Q) (hd:noDefer ops=true) (hm:P.follows .mixedOrders=true)
  (h:wpAny P .any ops Q ops.size (Array.replicate ops.size false) a {w with drawn:=w.drawn+1}):(Code.region id ops true).wpIn (Fence.wide.inRound r) n P Q a w:=
 wpIn_region_draw fun t=>by
  simp only [Region.schedule,hm,Bool.true_or,if_true]
  exact wpOpsIn_of hL hd _ a _ (wpAny_sound ops.size t _ a _ h)
end
def plainC:Code→Bool
 | .skip | .exit _ | .ret=>true
 | .region _ ops _=>noDefer ops
 | .seq a b | .cond _ a b=>plainC a&&plainC b
 | .block _ c=>plainC c
 |_=>false
section
variable {P:Program}
abbrev nil0:Dfs:=⟨[]⟩
theorem evCodeR_sound {md:Bool} {call:CallF} (hcall:CallOk P call) {nt l n:Nat}: ∀ (c:Code) {st:St} {orc:List Orc} {q:X×St×List Orc×List Prop} {cx:Cx} {a:Act},plainC c=true→evCode P (drawA P md) false md call nt c st orc=some q→(∀ p∈q.2.2.2,p)→ @SRep nil0 cx st a nt→
  ∀ Q:Exit→Act→World→Prop, ¬LetsOut Q→(∀ cx' a', @SRep nil0 cx' q.2.1 a' nt→Stab cx cx'→Q q.1.to a' cx'.w)→c.wpIn (Fence.wide.inRound l) n P Q a cx.w
 | .skip,st,orc,q,cx,a,hc,h,hp,hs,Q,hL,hQ=>by
  simp only [evCode,Option.some.injEq] at h;subst h
  exact wpIn_skip (hQ cx a hs (Stab.refl cx))
 | .region id ops draw,st,orc,q,cx,a,hc,h,hp,hs,Q,hL,hQ=>by
  have hreg: ∀ {orc':List Orc} {q1:St×List Orc×List Prop},evReg P (drawA P md) md call nt ops draw st orc'=some q1→(∀ p∈q1.2.2,p)→(∀ cx' a', @SRep nil0 cx' q1.1 a' nt→Stab cx cx'→Q .normal a' cx'.w)→(Code.region id ops draw).wpIn (Fence.wide.inRound l) n P Q a cx.w:=by
   intro orc' q1 hq1 hp1 hQ1
   unfold evReg at hq1
   cases draw with
   |true=>
    obtain ⟨h1,h2⟩:= @drawA_any P nil0 md call hcall nt ops st orc' q1 cx a hq1 hp1 hs Q hQ1
    exact wpIn_any hL hc h1 h2
   |false=>exact wpIn_region (wpOpsIn_of hL hc _ a _ (@evOps_sound P nil0 md call hcall nt ops Q _ _ _ _ _ _ hq1 hp1 hs hQ1))
  unfold evCode at h
  split at h
  ·simp at h
  ·cases hdw:draw with
   |true=>rw [hdw] at h;simp at h
   |false=>
    rw [hdw] at h
    simp only [cond_false] at h
    obtain ⟨q1,hq1,rfl⟩:=Option.map_eq_some_iff.1 h
    rw [←hdw] at hq1 ⊢
    exact hreg hq1 hp hQ
  ·obtain ⟨q1,hq1,rfl⟩:=Option.map_eq_some_iff.1 h
   exact hreg hq1 hp hQ
 | .seq c d,st,orc,q,cx,a,hc,h,hp,hs,Q,hL,hQ=>by
  unfold evCode at h
  rw [plainC,Bool.and_eq_true] at hc
  obtain ⟨q1,hq1,h1⟩:=Option.bind_eq_some_iff.1 h
  clear h
  refine wpIn_seq ?_
  split at h1
  ·rename_i hx
   obtain ⟨q2,hq2,rfl⟩:=Option.map_eq_some_iff.1 h1
   refine evCodeR_sound hcall c hc.1 hq1 (fun p hp'=>hp p (by simp [hp'])) hs _ (fun ⟨a,w,h⟩=>hL ⟨a,w,h⟩) fun cx1 a1 hs1 ha1=> ?_
   rw [hx]
   exact evCodeR_sound hcall d hc.2 hq2 (fun p hp'=>hp p (by simp [hp'])) hs1 Q hL fun cx2 a2 hs2 ha2=>hQ cx2 a2 hs2 (ha1.trans ha2)
  ·rename_i hx
   simp only [Option.some.injEq] at h1;subst h1
   refine evCodeR_sound hcall c hc.1 hq1 hp hs _ (fun ⟨a,w,h⟩=>hL ⟨a,w,h⟩) fun cx1 a1 hs1 ha1=> ?_
   have:=hQ cx1 a1 hs1 ha1
   cases hxx:q1.1 with
   |nrm=>exact absurd hxx hx
   |ext id=>rw [hxx] at this;exact this
   |ret=>rw [hxx] at this;exact this
 | .cond x c d,st,orc,q,cx,a,hc,h,hp,hs,Q,hL,hQ=>by
  unfold evCode at h
  rw [plainC,Bool.and_eq_true] at hc
  split at h
  ·simp at h
  split at h
  ·rename_i t ht
   have hr:=rep_eval (cx:=cx) (a:=a) (@SRep.env nil0 _ _ _ _ hs) x
   rw [ht] at hr
   have hv:=hr.bool_inv
   split at h
   ·rename_i t' orc' _
    obtain ⟨q1,hq1,rfl⟩:=Option.map_eq_some_iff.1 h
    have e:=hp (t=t') (by simp)
    subst e
    refine wpIn_cond hv ?_
    cases t with
    |true=>exact evCodeR_sound hcall c hc.1 hq1 (fun p hp'=>hp p (by simp [hp'])) hs Q hL hQ
    |false=>exact evCodeR_sound hcall d hc.2 hq1 (fun p hp'=>hp p (by simp [hp'])) hs Q hL hQ
   ·refine wpIn_cond hv ?_
    cases t with
    |true=>exact evCodeR_sound hcall c hc.1 h hp hs Q hL hQ
    |false=>exact evCodeR_sound hcall d hc.2 h hp hs Q hL hQ
  ·cases h
 | .block id c,st,orc,q,cx,a,hc,h,hp,hs,Q,hL,hQ=>by
  unfold evCode at h
  split at h
  ·simp at h
  obtain ⟨q1,hq1,h1⟩:=Option.map_eq_some_iff.1 h
  clear h
  refine wpIn_block ?_
  have hcs:q1.2.2.2=q.2.2.2∧q1.2.1=q.2.1:=by
   rw [←h1]
   cases hx:q1.1 with
   |nrm=>exact ⟨rfl,rfl⟩
   |ext i=>
    simp only
    cases Nat.beq i id<;>exact ⟨rfl,rfl⟩
   |ret=>exact ⟨rfl,rfl⟩
  refine evCodeR_sound hcall c (by simpa [plainC] using hc) hq1 (by rw [hcs.1];exact hp) hs _ (fun ⟨a,w,h⟩=>hL ⟨a,w,h⟩) fun cx1 a1 hs1 ha1=> ?_
  have:=hQ cx1 a1 (by rw [←hcs.2];exact hs1) ha1
  cases hx:q1.1 with
  |nrm=>
   rw [hx] at h1
   simp only at h1
   rw [←h1,hx] at this
   exact this
  |ext i=>
   rw [hx] at h1
   simp only at h1
   cases hb:Nat.beq i id with
   |true=>
    rw [hb] at h1
    simp only [cond_true] at h1
    have e:=Nat.eq_of_beq_eq_true hb
    subst e
    rw [←h1] at this
    simp only [X.to,Exit.inBlock,if_true]
    exact this
   |false=>
    rw [hb] at h1
    simp only [cond_false] at h1
    rw [←h1,hx] at this
    have hne: ¬i=id:=fun e=>by rw [e,Nat.beq_refl] at hb;cases hb
    simp only [X.to,Exit.inBlock,hne,if_false]
    exact this
  |ret=>
   rw [hx] at h1
   simp only at h1
   rw [←h1,hx] at this
   exact this
 | .exit id,st,orc,q,cx,a,hc,h,hp,hs,Q,hL,hQ=>by
  simp only [evCode,Option.some.injEq] at h;subst h
  exact wpIn_exit (hQ cx a hs (Stab.refl cx))
 | .ret,st,orc,q,cx,a,hc,h,hp,hs,Q,hL,hQ=>by
  simp only [evCode,Option.some.injEq] at h;subst h
  exact wpIn_ret (hQ cx a hs (Stab.refl cx))
 | .loop _,st,orc,q,cx,a,hc,h,hp,hs,Q,hL,hQ=>by cases hc
 | .rangeFunc ..,st,orc,q,cx,a,hc,h,hp,hs,Q,hL,hQ=>by cases hc
 | .scope _,st,orc,q,cx,a,hc,h,hp,hs,Q,hL,hQ=>by cases hc
 | .label _,st,orc,q,cx,a,hc,h,hp,hs,Q,hL,hQ=>by cases hc
 | .goto _,st,orc,q,cx,a,hc,h,hp,hs,Q,hL,hQ=>by cases hc
 | .refuse _,st,orc,q,cx,a,hc,h,hp,hs,Q,hL,hQ=>by cases hc
end
end
end Go.Proofs.Ytfjapapiappacaa.Rx
namespace Go.Proofs.Ytfjapapiappacaa.Rx
section
open Go.RowKit
def IterC (P:Program) (gf:FuncId) (caps:List AV) (N:Nat) (xs:Nat→List AV):Prop:=
 ∀ (w:World) (R:Nat→Prop) (vs:Array Value),(∀ g,R g→g<w.heap.size)→caps.length=vs.size→(∀ (j:Nat) a v,caps[j]? =some a→vs[j]? =some v→RepP w R a v)→
  ∀ (n l:Nat) (J:Nat→World→Prop) (Jx:World→Prop),(∀ k W W',J k W→Below W.heap.size W W'→J k W')→(∀ k W,J k W→ ∀ g,R g→W.heap[g]? =w.heap[g]?)→
   (∀ k W (us:Array Value),J k W→k<N→(xs k).length=us.size→(∀ (j:Nat) a u,(xs k)[j]? =some a→us[j]? =some u→RepP W R a u)→
    YieldAt Fence.wide (n-1) P l us W fun e W'=>(e= .returned (.bool true)∧J (k+1) W')∨(e= .returned (.bool false)∧Jx W'))→
   ∀ W,J 0 W→CallsIn Fence.wide n P gf (#[.func (.yield l) #[] #[]]++vs) W fun e W'=>(∃ v,e= .returned v)∧(J N W'∨Jx W')
structure BSt (cx cx':Cx):Prop where
 ext:Ext cx cx'
 box: ∀ id b,cx.H id=some b→b.c.isBox=true→ ∃ b',cx'.H id=some b'∧b'.c.isBox=true∧cx'.φ id=cx.φ id
theorem Stab.bst {cx cx':Cx} (h:Stab cx cx'):BSt cx cx':=⟨h.ext,fun id b hb hx=>by
 obtain ⟨b',h1,h2,h3⟩:=h.ids id b hb
 obtain ⟨h4,h5⟩:=h2 (h3 hx)
 exact ⟨b',h1,h5.box hx,h4⟩⟩
theorem BSt.trans {a b c:Cx} (h:BSt a b) (k:BSt b c):BSt a c:=⟨h.ext.trans k.ext,fun id x hx hb=>by
 obtain ⟨y,h1,h2,h3⟩:=h.box id x hx hb
 obtain ⟨z,k1,k2,k3⟩:=k.box id y h1 h2
 exact ⟨z,k1,k2,k3.trans h3⟩⟩
def keepC:AV→Bool
 | .own .. | .eptr .. | .agg _ | .tup _ | .clo _ (_::_)=>false
 |_=>true
def keepA:AV→Bool
 | .agg cs=>cs.all keepC
 | .tup cs=>cs.all keepC
 | .clo _ cs=>cs.all keepC
 |a=>keepC a
theorem Rep.keepC {cx cx':Cx} {a:AV} {v:Value} (h:Rep cx a v) (ha:Rx.keepC a=true) (hc:CRep cx) (hs:BSt cx cx'):Rep cx' a v:=by
 cases h with
 |pure h=>exact .pure (h.ext hc hs.ext)
 |bptr hb hx hg=>
  obtain ⟨b',h1,h2,h3⟩:=hs.box _ _ hb hx
  exact .bptr h1 h2 (h3.trans hg)
 |bsl hb hx hg=>
  obtain ⟨b',h1,h2,h3⟩:=hs.box _ _ hb hx
  exact .bsl h1 h2 (h3.trans hg)
 |eptr hb hle ho h=>cases ha
 |own hb hle ho h=>cases ha
 |agg hl h1 h=>cases ha
 |tup hl h=>cases ha
 | @clo f cs vs hl h=>
  cases cs with
  |nil=>exact .clo hl fun j a v hj=>by simp at hj
  |cons c cs=>cases ha
theorem Rep.keep {cx cx':Cx} {a:AV} {v:Value} (h:Rep cx a v) (ha:keepA a=true) (hc:CRep cx) (hs:BSt cx cx'):Rep cx' a v:=by
 cases h with
 |agg hl h1 h=>exact .agg hl h1 fun j a v hj hv=>(h j a v hj hv).keepC (List.all_eq_true.1 ha a (List.mem_of_getElem? hj)) hc hs
 |tup hl h=>exact .tup hl fun j a v hj hv=>(h j a v hj hv).keepC (List.all_eq_true.1 ha a (List.mem_of_getElem? hj)) hc hs
 |clo hl h=>exact .clo hl fun j a v hj hv=>(h j a v hj hv).keepC (List.all_eq_true.1 ha a (List.mem_of_getElem? hj)) hc hs
 |pure h=>exact .pure (h.ext hc hs.ext)
 |bptr hb hx hg=>exact (Rep.bptr hb hx hg).keepC rfl hc hs
 |bsl hb hx hg=>exact (Rep.bsl hb hx hg).keepC rfl hc hs
 |eptr hb hle ho h=>cases ha
 |own hb hle ho h=>cases ha
def envP (env:Nat→AV):List Nat→List AV→(Nat→AV)
 |p::ps,x::xs=>envP (upd env p x) ps xs
 |_,_=>env
def boxOk (r:List (Nat×Nat)) (Hk Hk':List (Nat×Blk)):Bool:=Hk.all fun q=> !q.2.c.isBox||(match lookO r q.1,lookO Hk' q.1 with
 |some i,some b=>Nat.beq i q.1&&b.c.isBox
 |_,_=>false)
theorem boxOk_some {r:List (Nat×Nat)} {Hk Hk':List (Nat×Blk)} (h:boxOk r Hk Hk'=true) {id:Nat} {b:Blk} (hb:lookO Hk id=some b) (hx:b.c.isBox=true):lookO r id=some id∧ ∃ b',lookO Hk' id=some b'∧b'.c.isBox=true:=by
 have:=List.all_eq_true.1 h _ (lookO_mem hb)
 simp only [hx,Bool.not_true,Bool.false_or] at this
 split at this
 ·rename_i i b' h1 h2
  rw [Bool.and_eq_true] at this
  rw [Nat.eq_of_beq_eq_true this.1] at h1
  exact ⟨h1,b',h2,this.2⟩
 ·cases this
def PieceR (P:Program) (nt:Nat) (c:Code) (st:St) (x:X) (st':St):Prop:=
 ∀ (l n:Nat) (cx:Cx) (a:Act), @SRep nil0 cx st a nt→ ∀ Q:Exit→Act→World→Prop, ¬LetsOut Q→(∀ cx' a', @SRep nil0 cx' st' a' nt→Stab cx cx'→Q x.to a' cx'.w)→c.wpIn (Fence.wide.inRound l) n P Q a cx.w
def Rnd (P:Program) (nt:Nat) (ps:List Nat) (xk:List AV) (assign body:Code) (I:Sm) (Hk:List (Nat×Blk)) (x:X) (Hk':List (Nat×Blk)):Prop:=
 ∃ st1 st2 r qs,PieceR P nt assign ⟨envP I.st.env ps xk,lookO Hk,I.next⟩ .nrm st1∧PieceR P nt body st1 x st2∧boxOk r Hk Hk'=true∧leS r st2 ⟨[],Hk',I.next⟩=some qs∧ ∀ p∈qs,p
def vcRnd (P:Program) (md:Bool) (nt:Nat) (ps:List Nat) (xk:List AV) (assign body:Code) (I:Sm) (Hk:List (Nat×Blk)) (orc:List Orc) (x:X) (r:List (Nat×Nat)) (Hk':List (Nat×Blk)):Prop:=
 match evCode P (drawA P md) false md (callA P (evFn P (drawA P md) md 100 false)) nt assign ⟨envP I.st.env ps xk,lookO Hk,I.next⟩ orc with
 |some q=>match evCode P (drawA P md) false md (callA P (evFn P (drawA P md) md 100 false)) nt body q.2.1 q.2.2.1 with
  |some q2=>bif plainC assign&&plainC body&&eqX q.1 .nrm&&eqX q2.1 x&&boxOk r Hk Hk' then match leS r q2.2.1 ⟨[],Hk',I.next⟩ with
   |some qs=>allP (q.2.2.2++q2.2.2.2++qs)
   |none=>False
   else False
  |none=>False
 |none=>False
section
variable {P:Program}
theorem Rnd.vc {md:Bool} {nt:Nat} {ps:List Nat} {xk:List AV} {assign body:Code} {I:Sm} {Hk Hk':List (Nat×Blk)} {orc:List Orc} {x:X} {r:List (Nat×Nat)} (h:Vc (vcRnd P md nt ps xk assign body I Hk orc x r Hk')):Rnd P nt ps xk assign body I Hk x Hk':=by
 replace h:=h.out
 unfold vcRnd at h
 split at h
 ·rename_i q hq
  split at h
  ·rename_i q2 hq2
   cases hb:plainC assign&&plainC body&&eqX q.1 .nrm&&eqX q2.1 x&&boxOk r Hk Hk' with
   |false=>rw [hb] at h;exact h.elim
   |true=>
    rw [hb] at h
    simp only [cond_true] at h
    simp only [Bool.and_eq_true] at hb
    obtain ⟨⟨⟨⟨b1,b2⟩,b3⟩,b4⟩,b5⟩:=hb
    split at h
    ·rename_i qs hqs
     have hall:=allP_mem h
     refine ⟨q.2.1,q2.2.1,r,qs,fun l n cx a hs Q hL hQ=> ?_,fun l n cx a hs Q hL hQ=> ?_,b5,hqs,fun p hp=>hall p (by simp [hp])⟩
     ·exact evCodeR_sound (callA_evFn 100) assign b1 hq (fun p hp=>hall p (by simp [hp])) hs Q hL (by rw [eqX_eq b3];exact hQ)
     ·exact evCodeR_sound (callA_evFn 100) body b2 hq2 (fun p hp=>hall p (by simp [hp])) hs Q hL (by rw [eqX_eq b4];exact hQ)
    ·cases h
  ·cases h
 ·cases h
theorem envP_rep {cx:Cx}: ∀ (ps:List Nat) (xs:List AV) (us:List Value) (env:Nat→AV) (t:Array Value),xs.length=us.length→ps.length=us.length→(∀ p∈ps,p<t.size)→(∀ i,Rep cx (env i) (t.getD i undef))→(∀ (j:Nat) a u,xs[j]? =some a→us[j]? =some u→Rep cx a u)→
  ∀ i,Rep cx (envP env ps xs i) (((ps.zip us).foldl (fun t q=>t.setIfInBounds q.1 q.2) t).getD i undef)
 | [],xs,us,env,t,h1,h2,hp,he,hx,i=>by cases xs<;>simpa [envP] using he i
 |p::ps,[],us,env,t,h1,h2,hp,he,hx,i=>by simp at h1 h2;omega
 |p::ps,x::xs,[],env,t,h1,h2,hp,he,hx,i=>by simp at h2
 |p::ps,x::xs,u::us,env,t,h1,h2,hp,he,hx,i=>by
  refine envP_rep ps xs us (upd env p x) (t.setIfInBounds p u) (by simpa using h1) (by simpa using h2) (fun q hq=>by rw [Array.size_setIfInBounds];exact hp q (by simp [hq])) (fun k=> ?_) (fun j a v ha hv=>hx (j+1) a v (by simpa using ha) (by simpa using hv)) i
  rw [Array.getD_eq_getD_getElem?,Array.getElem?_setIfInBounds]
  by_cases e:k=p
  ·subst e
   rw [upd_same]
   have:=hp k (by simp)
   simpa [this] using hx 0 x u rfl rfl
  ·rw [upd_other _ _ _ _ e]
   have e': ¬p=k:=fun h=>e h.symm
   simp only [e',if_false]
   rw [←Array.getD_eq_getD_getElem?]
   exact he k
theorem fold_size: ∀ (l:List (Nat×Value)) (t:Array Value),(l.foldl (fun t q=>t.setIfInBounds q.1 q.2) t).size=t.size
 | [],t=>rfl
 |q::l,t=>by rw [List.foldl_cons,fold_size l,Array.size_setIfInBounds]
def recOf' (fn:FuncId) (a:Act) (ps:Array Tmp) (assign body:Code) (D:Nat) (st:LoopState) (pe:Option Code):Loop:={state:=st,pending:=pe,fn,tmps:=a.tmps,params:=ps,assign,body,defers:=D}
def e_post (P:Program) (l:Nat) (jump:Option Code) (w:World) (R:Ending→World→Prop):Prop:= ∃ v w',(Instr.endRound l jump).run P w= .ok v w'∧R (.returned v) w'
structure Btw (P:Program) (cx0:Cx) (I:Sm) (a:Act) (nt:Nat) (l D:Nat) (rec:Loop) (Hk:List (Nat×Blk)) (W:World) (cx:Cx):Prop where
 w:cx.w=W
 s: @SRep nil0 cx ⟨I.st.env,lookO Hk,I.next⟩ a nt
 bst:Ext cx0 cx
 hl:W.heap[l]? =some (.loop rec)
 hR: ¬cx.R l
 hD:W.heap[D]? =some (.deferred (some []))
 hRD: ¬cx.R D
theorem SRep.moved {d:Dfs} {cx cx':Cx} {st:St} {a:Act} {nt:Nat} (hs: @SRep d cx st a nt) (hc:CRep cx') (h:Stab cx cx') (hH:cx'.H=cx.H:=by rfl): @SRep d cx' st a nt:=
 ⟨hH.trans hs.H,hc,fun t=>(hs.env t).stab hs.c h,hs.lt,hs.sz,hs.df⟩
theorem Btw.below {cx0:Cx} {I:Sm} {a:Act} {nt l D:Nat} {rec:Loop} {Hk:List (Nat×Blk)} {W W':World} {cx:Cx} (h:Btw P cx0 I a nt l D rec Hk W cx) (hb:Below W.heap.size W W'):Btw P cx0 I a nt l D rec Hk W' ⟨W',cx.R,cx.φ,cx.H,cx.B⟩:=by
 have hw:=h.w
 subst hw
 obtain ⟨k1,k2⟩:=below_keep (@SRep.c nil0 _ _ _ _ h.s) hb
 have hk: ∀ (g:Nat) (o:Obj),cx.w.heap[g]? =some o→W'.heap[g]? =some o:=fun g o hg=>(hb.block g (Array.getElem?_eq_some_iff.1 hg).1).trans hg
 exact ⟨rfl,h.s.moved k1 k2,h.bst.trans k2.ext,hk _ _ h.hl,h.hR,hk _ _ h.hD,h.hRD⟩
theorem Btw.turn {cx0:Cx} {I:Sm} {a:Act} {nt l D:Nat} {rec:Loop} {Hk:List (Nat×Blk)} {W:World} {cx:Cx} (h:Btw P cx0 I a nt l D rec Hk W cx) (hB: ¬cx.B l) (hne:D≠l) (rec':Loop):Btw P cx0 I a nt l D rec' Hk (W.putObj l (.loop rec')) (cx.poke l (.loop rec')):=by
 have hw:=h.w
 subst hw
 exact ⟨rfl, @SRep.poke nil0 _ _ _ _ h.s l _ _ h.hl rfl h.hR hB,h.bst.trans (poke_stab _ h.hR hB).ext,World.putObj_heap_same (Array.getElem?_eq_some_iff.1 h.hl).1,h.hR,(World.putObj_heap_other hne).trans h.hD,h.hRD⟩
end
end
end Go.Proofs.Ytfjapapiappacaa.Rx
namespace Go.Proofs.Ytfjapapiappacaa.Rx
section
open Go.RowKit
section
variable {P:Program}
theorem Btw.round {nt:Nat} {ps:List Nat} {xk:List AV} {assign body:Code} {I:Sm} {Hk Hk':List (Nat×Blk)} {x:X} (hr:Rnd P nt ps xk assign body I Hk x Hk') {cx0:Cx} {a:Act} {l D fn:Nat} {pa:Array Tmp} {W:World} {cx:Cx}
  (h:Btw P cx0 I a nt l D (recOf' fn a pa assign body D .ready none) Hk W cx) (hB: ¬cx.B l) (hBD: ¬cx.B D) (hne:D≠l) (hkeep:(I.env.all fun q=>keepA q.2)=true) (hps:ps=pa.toList) (hlt: ∀ p∈ps,p<nt)
  {us:Array Value} (hl1:xk.length=us.size) (hl2:xk.length=ps.length) (hu: ∀ (j:Nat) a u,xk[j]? =some a→us[j]? =some u→Rep cx a u) {m:Nat} {jump:Option Code} (hj:jump=match x with | .nrm=>none | .ext id=>some (.exit id)| .ret=>some .ret):
  YieldAt Fence.wide m P l us W fun e W'=>e= .returned (.bool jump.isNone)∧ ∃ cx',Btw P cx0 I a nt l D (recOf' fn a pa assign body D (if jump.isNone then .ready else .done) jump) Hk' W' cx'∧cx'.B=cx.B:=by
 have hw:=h.w
 subst hw
 letI:Dfs:=nil0
 obtain ⟨st1,st2,r,qs,hP1,hP2,hbx,hle,hqs⟩:=hr
 have hs:=h.s
 have hy:=run_yield (P:=P) (args:=us) h.hl (by show us.size=pa.size;rw [←hl1,hl2,hps,Array.length_toList])
 refine ⟨fn,_,assign,body,hy,roundIn_of_wpIn trivial ?_⟩
 clear hy
 have ha0:(({tmps:=(pa.zip us).foldl (fun t q=>t.setIfInBounds q.1 q.2) a.tmps,defers:=[]}:Act)).tmps.size=nt:=by
  show ((pa.zip us).foldl (fun t q=>t.setIfInBounds q.1 q.2) a.tmps).size=nt
  rw [←Array.foldl_toList,fold_size]
  exact hs.sz
 have hs1: @SRep nil0 cx ⟨envP I.st.env ps xk,lookO Hk,I.next⟩ {tmps:=(pa.zip us).foldl (fun t q=>t.setIfInBounds q.1 q.2) a.tmps,defers:=[]} nt:=by
  refine @SRep.mk nil0 _ _ _ _ hs.H (@SRep.c nil0 _ _ _ _ hs) (fun t=> ?_) hs.lt ha0 rfl
  show Rep cx _ (((pa.zip us).foldl (fun t q=>t.setIfInBounds q.1 q.2) a.tmps).getD t undef)
  rw [←Array.foldl_toList,Array.toList_zip, ←hps]
  exact envP_rep ps xk us.toList I.st.env a.tmps (by simpa using hl1) (by rw [←hl2,hl1,Array.length_toList]) (fun p hp=>by rw [hs.sz];exact hlt p hp) (fun t=> @SRep.env nil0 _ _ _ _ hs t) (fun j a u h1 h2=>hu j a u h1 (by simpa using h2)) t
 have hS: ∀ E∈[l,D], ¬cx.R E∧ ∃ o,cx.w.heap[E]? =some o∧o.isCells=false:=fun E hE=>by
  rcases List.mem_cons.1 hE with rfl |hE
  ·exact ⟨h.hR,_,h.hl,rfl⟩
  ·rw [List.mem_singleton.1 hE];exact ⟨h.hRD,_,h.hD,rfl⟩
 refine hP1 l m (cx.plus [l,D]) _ (@SRep.plus nil0 _ _ _ _ hs1 [l,D] fun E hE=>(hS E hE).2) _ (by rintro ⟨_,_,h⟩;exact h) fun cxa aa hsa hta=> ?_
 have ka:=plus_keeps hta.ext hS
 have kl:=ka l (by simp);have kD:=ka D (by simp)
 have hal:cxa.w.heap[l]? =some (.loop (recOf' fn a pa assign body D .ready none)):=kl.1.trans h.hl
 have haD:cxa.w.heap[D]? =some (.deferred (some [])):=kD.1.trans h.hD
 have hsa': @SRep nil0 (cxa.back cx) st1 aa nt:= @SRep.back nil0 _ _ _ _ _ hsa fun g hg=>by rw [hta.ext.B];exact .inl hg
 refine ⟨_,run_beginRound hal rfl, ?_⟩
 have hlt1:l<cxa.w.heap.size:=(Array.getElem?_eq_some_iff.1 hal).1
 have hsb: @SRep nil0 ((cxa.back cx).poke l (.loop (recOf' fn a pa assign body D .busy none))) st1 aa nt:= @SRep.poke nil0 _ _ _ _ hsa' l _ _ hal rfl kl.2 hB
 have hbl:(cxa.w.putObj l (.loop (recOf' fn a pa assign body D .busy none))).heap[l]? =some (.loop (recOf' fn a pa assign body D .busy none)):=World.putObj_heap_same hlt1
 have hbD:(cxa.w.putObj l (.loop (recOf' fn a pa assign body D .busy none))).heap[D]? =some (.deferred (some [])):=(World.putObj_heap_other hne).trans haD
 have hS2: ∀ E∈[l,D], ¬((cxa.back cx).poke l (.loop (recOf' fn a pa assign body D .busy none))).R E∧ ∃ o,((cxa.back cx).poke l (.loop (recOf' fn a pa assign body D .busy none))).w.heap[E]? =some o∧o.isCells=false:=fun E hE=>by
  rcases List.mem_cons.1 hE with rfl |hE
  ·exact ⟨kl.2,_,hbl,rfl⟩
  ·rw [List.mem_singleton.1 hE];exact ⟨kD.2,_,hbD,rfl⟩
 have hstb:Stab cx ((cxa.back cx).poke l (.loop (recOf' fn a pa assign body D .busy none))):=hta.back.trans (poke_stab _ kl.2 hB)
 refine hP2 l m (((cxa.back cx).poke l (.loop (recOf' fn a pa assign body D .busy none))).plus [l,D]) _ (@SRep.plus nil0 _ _ _ _ hsb [l,D] fun E hE=>(hS2 E hE).2) _ (by rintro ⟨_,_,h⟩;exact h) fun cxc ac hsc htc=> ?_
 obtain ⟨m1,m2,m3⟩:=leS_sound (@SRep.c nil0 _ _ _ _ hsc) (@SRep.H nil0 _ _ _ _ hsc) hle hqs (@SRep.env nil0 _ _ _ _ hsc)
 have hre:=ren_ext (@SRep.c nil0 _ _ _ _ hsc) r (lookO Hk')
 have hed:Ext (((cxa.back cx).poke l (.loop (recOf' fn a pa assign body D .busy none))).plus [l,D]) (cxc.ren r (lookO Hk')):=htc.ext.trans hre
 have kc:=plus_keeps hed hS2
 have ml:=kc l (by simp);have mD:=kc D (by simp)
 have hcl:cxc.w.heap[l]? =some (.loop (recOf' fn a pa assign body D .busy none)):=ml.1.trans hbl
 have hcD:cxc.w.heap[D]? =some (.deferred (some [])):=mD.1.trans hbD
 have hbst:BSt cx ((cxc.ren r (lookO Hk')).back ((cxa.back cx).poke l (.loop (recOf' fn a pa assign body D .busy none)))):=by
  refine ⟨hstb.ext.trans hed.back,fun id b hb hx=> ?_⟩
  obtain ⟨b1,h1,h2,h3⟩:=hstb.bst.box id b hb hx
  obtain ⟨b2,h4,h5,h6⟩:=htc.bst.box id b1 h1 h2
  have hb':lookO Hk id=some b:=by rw [←hb, @SRep.H nil0 _ _ _ _ hs]
  obtain ⟨q1,b',q2,q3⟩:=boxOk_some hbx hb' hx
  refine ⟨b',q2,q3, ?_⟩
  show (lookO r id).bind cxc.φ=cx.φ id
  rw [q1]
  exact h6.trans h3
 have hsd: @SRep nil0 ((cxc.ren r (lookO Hk')).back ((cxa.back cx).poke l (.loop (recOf' fn a pa assign body D .busy none)))) ⟨I.st.env,lookO Hk',I.next⟩ a nt:=by
  have hB2: ∀ g,cx.B g→(cxc.ren r (lookO Hk')).B g:=fun g hg=>by rw [hed.B];exact .inl hg
  have hc2: @SRep nil0 (cxc.ren r (lookO Hk')) ⟨fun _=> .junk,lookO Hk',I.next⟩ ac nt:= @SRep.mk nil0 _ _ _ _ rfl m1 (fun t=> .pure (.junk _)) m3 (@SRep.sz nil0 _ _ _ _ hsc) (@SRep.df nil0 _ _ _ _ hsc)
  have hc3:= @SRep.back nil0 ((cxa.back cx).poke l (.loop (recOf' fn a pa assign body D .busy none))) _ _ _ _ hc2 hB2
  refine @SRep.mk nil0 _ _ _ _ rfl (@SRep.c nil0 _ _ _ _ hc3) (fun t=> ?_) m3 (@SRep.sz nil0 _ _ _ _ hs) (@SRep.df nil0 _ _ _ _ hs)
  refine (@SRep.env nil0 _ _ _ _ hs t).keep ?_ (@SRep.c nil0 _ _ _ _ hs) hbst
  show keepA (look .junk I.env t)=true
  have: ∀ (L:List (Nat×AV)),(L.all fun q=>keepA q.2)=true→keepA (look .junk L t)=true:=fun L=>by
   induction L with
   |nil=>intro _;rfl
   |cons q L ih=>
    obtain ⟨k,v⟩:=q
    intro hL
    rw [List.all_cons,Bool.and_eq_true] at hL
    rw [look]
    cases Nat.beq t k with
    |true=>exact hL.1
    |false=>exact ih hL.2
  exact this I.env hkeep
 have hbtw:Btw P cx0 I a nt l D (recOf' fn a pa assign body D .busy none) Hk' cxc.w ((cxc.ren r (lookO Hk')).back ((cxa.back cx).poke l (.loop (recOf' fn a pa assign body D .busy none)))):=
  ⟨rfl,hsd,h.bst.trans hbst.ext,hcl,ml.2,hcD,mD.2⟩
 have hend:=run_endRound (P:=P) jump hcl
 have hfin:e_post P l jump cxc.w (fun e W'=>e= .returned (.bool jump.isNone)∧ ∃ cx',Btw P cx0 I a nt l D (recOf' fn a pa assign body D (if jump.isNone then .ready else .done) jump) Hk' W' cx'∧cx'.B=cx.B):=
  ⟨_,_,hend,rfl,_,hbtw.turn hB hne _,rfl⟩
 subst hj
 cases x with
 |nrm=>exact hfin
 |ext id=>exact hfin
 |ret=>exact hfin
theorem Ok.range {nt:Nat} {g:Operand} {pa:Array Tmp} {assign body:Code} {gf:FuncId} {caps:List AV} {N m:Nat} {xs:Nat→List AV} {I:Sm} {F:Nat→List (Nat×Blk)} {x:X} {G:List (Nat×Blk)}
  (hg:evalA I.st.env g= .clo gf caps) (hcb:caps.all baseA=true) (hkeep:(I.env.all fun q=>keepA q.2)=true) (hfo:fnOk P gf=true) (hit:IterC P gf caps N xs) (hpl: ∀ k,(xs k).length=pa.size) (hlt: ∀ p∈pa.toList,p<nt) (hF0:F 0=I.heap) (hm:m≤N)
  (hr: ∀ k,k<m→Rnd P nt pa.toList (xs k) assign body I (F k) .nrm (F (k+1)))
  (hend:(m=N∧x= .nrm∧G=F N)∨(m<N∧x≠ .nrm∧Rnd P nt pa.toList (xs m) assign body I (F m) x G)):Ok P nt (.rangeFunc g pa assign body) I.st x (⟨I.env,G,I.next⟩:Sm).st:=by
 intro d cx a hs Q hQ
 obtain ⟨fo,g1,g2,g3⟩:=fnOk_some hfo
 obtain ⟨bd,hbd⟩:=Option.isSome_iff_exists.1 g2
 have hge:=rep_eval hs.env g
 rw [hg] at hge
 obtain ⟨vs,hv,hvl,hvr⟩:=hge.clo_inv
 refine (wpIn_wide (n:=2)).1 (wpIn_rangeFunc ?_)
 intro fn hfn
 obtain ⟨l,hl⟩: ∃ l,l=cx.w.heap.size+1:=⟨_,rfl⟩
 obtain ⟨D,hD⟩: ∃ D,D=cx.w.heap.size:=⟨_,rfl⟩
 obtain ⟨a0,ha0⟩: ∃ a0:Act,a0={tmps:=a.tmps,defers:=[]}:=⟨_,rfl⟩
 have hat:a0.tmps=a.tmps:=by rw [ha0]
 obtain ⟨W1,hW1⟩: ∃ W1,(cx.w.alloc (.deferred (some []))).alloc (.loop (recOf' fn a0 pa assign body D .ready none))=W1:=⟨_,rfl⟩
 have hb1:Below cx.w.heap.size cx.w W1:=by rw [←hW1];exact (((Below.refl _ _).alloc (Nat.le_refl _) _).alloc (by simp) _)
 have hW1l:W1.heap[l]? =some (.loop (recOf' fn a0 pa assign body D .ready none)):=by
  rw [←hW1,hl];have:=World.alloc_heap_new (cx.w.alloc (.deferred (some []))) (.loop (recOf' fn a0 pa assign body D .ready none));rwa [World.size_alloc] at this
 have hW1D:W1.heap[D]? =some (.deferred (some [])):=by
  rw [←hW1,hD];exact (Below.heap_alloc _ _ _ (by simp)).trans (World.alloc_heap_new cx.w _)
 have hne:D≠l:=by omega
 have hnB: ∀ c:Cx,c.B=cx.B→ ¬c.B l∧ ¬c.B D:=fun c e=>by
  rw [e]
  exact ⟨fun h=>by have:=hs.c.blt l h;omega,fun h=>by have:=hs.c.blt D h;omega⟩
 have hs0: @SRep nil0 cx ⟨I.st.env,lookO I.heap,I.next⟩ a0 nt:= @SRep.mk nil0 _ _ _ _ hs.H hs.c (by rw [ha0];exact hs.env) hs.lt (by rw [ha0];exact hs.sz) (by rw [ha0];rfl)
 have h0:Btw P cx I a0 nt l D (recOf' fn a0 pa assign body D .ready none) (F 0) W1 ⟨W1,cx.R,cx.φ,cx.H,cx.B⟩:=by
  obtain ⟨k1,k2⟩:=below_keep hs.c hb1
  rw [hF0]
  exact ⟨rfl,SRep.moved hs0 k1 k2,k2.ext,hW1l,fun h=>by have:=hs.c.rlt l h;omega,hW1D,fun h=>by have:=hs.c.rlt D h;omega⟩
 refine ⟨l,[{target:= .collected D,args:= #[]}],W1,{target:= .fn (.func gf) vs,args:= #[.func (.yield l) #[] #[]]},W1,gf, #[.func (.yield l) #[] #[]]++vs,W1, ?_, ?_, ?_, ?_,by simp [Fence.wide], ?_⟩
 ·rw [←hW1,hl,hD,ha0];exact run_enterLoop_outer _ _ _ _ _
 ·simp only [resolve,hv]
  simp [go_sem]
 ·intro f' hf';trivial
 ·simp [invoke,go_sem,callFunc,g1,hbd,g3]
 have hfin: ∀ (st0:LoopState) (pe:Option Code) (H:List (Nat×Blk)) (W2:World) (c:Cx),Btw P cx I a0 nt l D (recOf' fn a0 pa assign body D st0 pe) H W2 c→c.B=cx.B→H=G→
   Q x.to {a with defers:=[{target:= .collected D,args:= #[]}]++a.defers} (W2.putObj l (.loop {recOf' fn a0 pa assign body D st0 pe with state:= .exhausted})):=by
  intro st0 pe H W2 c hb hcB hH
  subst hH
  have ht:=hb.turn (hnB c hcB).1 hne {recOf' fn a0 pa assign body D st0 pe with state:= .exhausted}
  have hw:(c.poke l (.loop {recOf' fn a0 pa assign body D st0 pe with state:= .exhausted})).w=W2.putObj l (.loop {recOf' fn a0 pa assign body D st0 pe with state:= .exhausted}):=by
   show c.w.putObj l _=_
   rw [hb.w]
  rw [←hw]
  have htmp:=ht.s
  refine hQ ⟨D::d.l⟩ (c.poke l (.loop {recOf' fn a0 pa assign body D st0 pe with state:= .exhausted})) _ (@SRep.mk ⟨D::d.l⟩ _ _ _ _ (@SRep.H nil0 _ _ _ _ htmp) (@SRep.c nil0 _ _ _ _ htmp) (fun t=> ?_) (@SRep.lt nil0 _ _ _ _ htmp) ?_ ?_) ⟨ht.bst,fun e=>(by cases e),[D],rfl,by simp,fun E hE=> ?_⟩
  ·show Rep _ _ (a.tmps.getD t undef)
   rw [←hat]
   exact @SRep.env nil0 _ _ _ _ htmp t
  ·show a.tmps.size=nt
   rw [←hat]
   exact @SRep.sz nil0 _ _ _ _ htmp
  ·show [_]++a.defers=_
   rw [hs.df]
   rfl
  ·rw [List.mem_singleton.1 hE]
   exact ⟨by omega,ht.hRD,by rw [hw];exact ht.hD⟩
 refine (hit cx.w cx.R vs hs.c.rlt hvl (fun j b v h1 h2=>(hvr j b v h1 h2).base (List.all_eq_true.1 hcb b (List.mem_of_getElem? h1))) (2-1) l
  (fun k W=>k≤m∧ ∃ c,Btw P cx I a0 nt l D (recOf' fn a0 pa assign body D .ready none) (F k) W c∧c.B=cx.B)
  (fun W=>m<N∧ ∃ c,Btw P cx I a0 nt l D (recOf' fn a0 pa assign body D .done (match x with | .nrm=>none | .ext id=>some (.exit id)| .ret=>some .ret)) G W c∧c.B=cx.B)
  (fun k W W' ⟨hk,c,hb,hcB⟩ hbl=>⟨hk,_,hb.below hbl,hcB⟩)
  (fun k W ⟨hk,c,hb,hcB⟩ g hg=>by rw [←hb.w];exact hb.bst.block g (hs.c.rlt g hg) (.inr hg)) ?_ W1 ⟨Nat.zero_le _,_,h0,rfl⟩).mono ?_
 ·rintro k W us ⟨hk,c,hb,hcB⟩ hkN hul hu
  obtain ⟨hBl,hBD⟩:=hnB c hcB
  have hus: ∀ (j:Nat) a u,(xs k)[j]? =some a→us[j]? =some u→Rep c a u:=fun j b u h1 h2=>by
   have:=hu j b u h1 h2
   rw [←hb.w] at this
   exact .pure (this.mono (fun g hg=>hb.bst.R g hg) fun _ _=>rfl)
  have hpl':(xs k).length=pa.toList.length:=by rw [Array.length_toList];exact hpl k
  by_cases hkm:k<m
  ·obtain ⟨f1,f2,f3,f4,f5,f6⟩:=hb.round (hr k hkm) hBl hBD hne hkeep rfl hlt hul hpl' hus (m:=2-1-1) (jump:=none) rfl
   refine ⟨f1,f2,f3,f4,f5,f6.mono ?_⟩
   rintro e W' ⟨rfl,c',k1,k2⟩
   exact .inl ⟨rfl,hkm,c',k1,k2.trans hcB⟩
  ·obtain rfl:k=m:=by omega
   rcases hend with ⟨h1,_⟩|⟨h1,h2,h3⟩
   ·omega
   ·obtain ⟨f1,f2,f3,f4,f5,f6⟩:=hb.round h3 hBl hBD hne hkeep rfl hlt hul hpl' hus (m:=2-1-1) rfl
    refine ⟨f1,f2,f3,f4,f5,f6.mono ?_⟩
    rintro e W' ⟨rfl,c',k1,k2⟩
    right
    cases x with
    |nrm=>exact absurd rfl h2
    |ext id=>exact ⟨rfl,h1,c',k1,k2.trans hcB⟩
    |ret=>exact ⟨rfl,h1,c',k1,k2.trans hcB⟩
 ·rintro e W2 ⟨⟨v,rfl⟩,(⟨hN,c,hb,hcB⟩|⟨hlt',c,hb,hcB⟩)⟩
  ·rcases hend with ⟨h1,h2,h3⟩|⟨h1,_⟩
   ·have:=hfin _ _ _ _ c hb hcB h3.symm
    rw [h2] at this
    exact ⟨none,_,run_endLoop hb.hl (by simp [recOf']),this⟩
   ·omega
  ·have:=hfin _ _ _ _ c hb hcB rfl
   rcases hend with ⟨h1,_⟩|⟨h1,h2,h3⟩
   ·omega
   cases x with
   |nrm=>exact absurd rfl h2
   |ext id=>exact ⟨some (.exit id),_,run_endLoop hb.hl (by simp [recOf']),wpIn_exit this⟩
   |ret=>exact ⟨some .ret,_,run_endLoop hb.hl (by simp [recOf']),wpIn_ret this⟩
end
end
end Go.Proofs.Ytfjapapiappacaa.Rx
namespace Go.Proofs.Ytfjapapiappacaa.Rx
section
open Go.RowKit
def OkN (P:Program) (nt:Nat) (c:Code) (I:St) (x:X) (J:St):Prop:=
 ∀ (d:Dfs) cx a,SRep cx I a nt→ ∀ Q:Exit→Act→World→Prop,(∀ cx' a', @SRep d cx' J a' nt→Ext cx cx'→cx'.φ 0=cx.φ 0→Q x.to a' cx'.w)→c.wp P Q a cx.w
def isBx (h:Nat→Option Blk):Bool:=match h 0 with
 |some ⟨_,_,_, .box _⟩=>true
 |_=>false
def keep0 (r:List (Nat×Nat)):Bool:=match lookO r 0 with
 |some 0=>true
 |_=>false
section
variable (P:Program)
def evK (dr:DrawF) (md:Bool) (call:CallF) (nt:Nat):Code→St→List Orc→CodeR
 | .seq a b,st,orc=>(evK dr md call nt a st orc).bind fun q=>match q.1 with
  | .nrm=>(evK dr md call nt b q.2.1 q.2.2.1).map fun r=>(r.1,r.2.1,r.2.2.1,q.2.2.2++r.2.2.2)
  |x=>some q
 | .block id c,st,orc=>(evK dr md call nt c st orc).map fun q=>match q.1 with
  | .ext i=>bif Nat.beq i id then (.nrm,q.2) else q
  |x=>q
 | .loop c,st,orc=>match orc with
  | .lp r I x J::orc=>bif keep0 r then (leS r st I).map fun p=>(x,J.st,orc,p++[OkN P nt (.loop c) I.st x J.st]) else none
  |orc=>bif isBx st.heap then evCode P dr false md call nt (.loop c) st orc else none
 |c,st,orc=>bif isBx st.heap then evCode P dr false md call nt c st orc else none
def vcK (md:Bool) (f:FuncId) (args:List AV) (t:TypeId) (cs0:List AV) (orc:List Orc) (ρ:List (Nat×Nat)) (res:AV) (cs1:List AV) (N:List Blk):Prop:=
 match P.funcs[f]? with
 |none=>False
 |some fn=>match fn.body with
  |none=>False
  |some c=>bif fnOk P f&&(Nat.ble args.length fn.ntmps&&keep0 ρ) then
    match evK P (drawA P md) md (callA P (evFn P (drawA P md) md 100 false)) fn.ntmps c ⟨fun t=>args.getD t .junk,boxH t cs0 [],1⟩ orc with
    |some q=>bif (match q.1 with | .ext _=>false |_=>true) then match resultsA P md q.2.1 fn.results.toList with
     |some rs=>match leS ρ ⟨fun _=>oneA rs.1,q.2.1.heap,q.2.1.next⟩ ⟨[(0,res)],idxH (⟨0,false,t, .box cs1⟩::N),(⟨0,false,t, .box cs1⟩::N:List Blk).length⟩ with
      |some ps=>allP (q.2.2.2++(rs.2++ps))
      |none=>False
     |none=>False
     else False
    |none=>False
   else False
def vcN (md:Bool) (nt:Nat) (c:Code) (I:Sm) (orc:List Orc) (x:X) (r:List (Nat×Nat)) (J:Sm):Prop:=
 match evK P (drawA P md) md (callA P (evFn P (drawA P md) md 100 false)) nt c I.st orc with
 |some q=>bif eqX q.1 x&&keep0 r then match leS r q.2.1 J with
  |some ps=>allP (q.2.2.2++ps)
  |none=>False
  else False
 |none=>False
end
section
variable {P:Program}
theorem keep0_some {r:List (Nat×Nat)} (h:keep0 r=true):lookO r 0=some 0:=by
 unfold keep0 at h
 split at h
 ·rename_i h';exact h'
 ·cases h
theorem isBx_keep {cx cx':Cx} (h:isBx cx.H=true) (hs:Stab cx cx'):cx'.φ 0=cx.φ 0:=by
 unfold isBx at h
 split at h
 ·rename_i g fz t cs heq
  obtain ⟨b',h1,h2,h3⟩:=hs.ids 0 _ heq
  exact (h2 (h3 rfl)).1
 ·cases h
theorem ren_keep {cx:Cx} {r:List (Nat×Nat)} {hI:Nat→Option Blk} (h:keep0 r=true):(cx.ren r hI).φ 0=cx.φ 0:=by
 show (lookO r 0).bind cx.φ=_
 rw [keep0_some h];rfl
theorem evK_base {dr:DrawF} (hdr:DrawOk P dr) {md:Bool} {call:CallF} (hcall:CallOk P call) {nt:Nat} (c:Code) {D0:Dfs} {st:St} {orc:List Orc} {q:X×St×List Orc×List Prop} {cx:Cx} {a:Act} (h:(bif isBx st.heap then evCode P dr false md call nt c st orc else none)=some q) (hp: ∀ p∈q.2.2.2,p) (hs:SRep cx st a nt)
  (Q:Exit→Act→World→Prop) (hQ: ∀ cx' a', @SRep D0 cx' q.2.1 a' nt→Ext cx cx'→cx'.φ 0=cx.φ 0→Q q.1.to a' cx'.w):c.wp P Q a cx.w:=by
 obtain ⟨hb,h1⟩:=bif_some h
 refine evCode_sound hdr hcall c h1 hp hs Q fun d1 cx1 a1 hs1 ha1=> ?_
 obtain ⟨k1,rfl⟩:=ha1.st rfl
 exact hQ cx1 a1 hs1 k1.ext (isBx_keep (by rw [hs.H];exact hb) k1)
theorem evK_sound {dr:DrawF} (hdr:DrawOk P dr) {md:Bool} {call:CallF} (hcall:CallOk P call) {nt:Nat}: ∀ (c:Code) [D0:Dfs] {st:St} {orc:List Orc} {q:X×St×List Orc×List Prop} {cx:Cx} {a:Act},evK P dr md call nt c st orc=some q→(∀ p∈q.2.2.2,p)→SRep cx st a nt→
  ∀ Q:Exit→Act→World→Prop,(∀ cx' a', @SRep D0 cx' q.2.1 a' nt→Ext cx cx'→cx'.φ 0=cx.φ 0→Q q.1.to a' cx'.w)→c.wp P Q a cx.w
 | .seq c d,D0,st,orc,q,cx,a,h,hp,hs,Q,hQ=>by
  unfold evK at h
  obtain ⟨q1,hq1,h1⟩:=Option.bind_eq_some_iff.1 h
  clear h
  refine wp_seq ?_
  split at h1
  ·rename_i hx
   obtain ⟨q2,hq2,rfl⟩:=Option.map_eq_some_iff.1 h1
   refine evK_sound hdr hcall c hq1 (fun p hp'=>hp p (by simp [hp'])) hs _ fun cx1 a1 hs1 he1 hk1=> ?_
   rw [hx]
   exact evK_sound hdr hcall d hq2 (fun p hp'=>hp p (by simp [hp'])) hs1 Q fun cx2 a2 hs2 he2 hk2=>hQ cx2 a2 hs2 (he1.trans he2) (hk2.trans hk1)
  ·rename_i hx
   simp only [Option.some.injEq] at h1;subst h1
   refine evK_sound hdr hcall c hq1 hp hs _ fun cx1 a1 hs1 he1 hk1=> ?_
   have:=hQ cx1 a1 hs1 he1 hk1
   cases hxx:q1.1 with
   |nrm=>exact absurd hxx hx
   |ext id=>rw [hxx] at this;exact this
   |ret=>rw [hxx] at this;exact this
 | .block id c,D0,st,orc,q,cx,a,h,hp,hs,Q,hQ=>by
  unfold evK at h
  obtain ⟨q1,hq1,h1⟩:=Option.map_eq_some_iff.1 h
  clear h
  refine wp_block ?_
  have hcs:q1.2.2.2=q.2.2.2∧q1.2.1=q.2.1:=by
   rw [←h1]
   cases hx:q1.1 with
   |nrm=>exact ⟨rfl,rfl⟩
   |ext i=>
    simp only
    cases Nat.beq i id<;>exact ⟨rfl,rfl⟩
   |ret=>exact ⟨rfl,rfl⟩
  refine evK_sound hdr hcall c hq1 (by rw [hcs.1];exact hp) hs _ fun cx1 a1 hs1 he1 hk1=> ?_
  have:=hQ cx1 a1 (by rw [←hcs.2];exact hs1) he1 hk1
  cases hx:q1.1 with
  |nrm=>
   rw [hx] at h1
   simp only at h1
   rw [←h1,hx] at this
   exact this
  |ext i=>
   rw [hx] at h1
   simp only at h1
   cases hb:Nat.beq i id with
   |true=>
    rw [hb] at h1
    simp only [cond_true] at h1
    have e:=Nat.eq_of_beq_eq_true hb
    subst e
    rw [←h1] at this
    simp only [X.to,Exit.inBlock,if_true]
    exact this
   |false=>
    rw [hb] at h1
    simp only [cond_false] at h1
    rw [←h1,hx] at this
    have hne: ¬i=id:=fun e=>by rw [e,Nat.beq_refl] at hb;cases hb
    simp only [X.to,Exit.inBlock,hne,if_false]
    exact this
  |ret=>
   rw [hx] at h1
   simp only at h1
   rw [←h1,hx] at this
   exact this
 | .loop c,D0,st,orc,q,cx,a,h,hp,hs,Q,hQ=>by
  unfold evK at h
  split at h
  ·obtain ⟨hk,h1⟩:=bif_some h
   clear h
   obtain ⟨p,hpp,rfl⟩:=Option.map_eq_some_iff.1 h1
   rename_i r I x J _
   obtain ⟨m1,m2,m3⟩:=leS_sound hs.c hs.H hpp (fun x hx=>hp x (by simp [hx])) hs.env
   exact hp (OkN P nt _ _ _ _) (by simp) D0 (cx.ren r (lookO I.heap)) a ⟨rfl,m1,m2,m3,hs.sz,hs.df⟩ Q fun cx2 a2 hs2 he2 hk2=>hQ cx2 a2 hs2 ((ren_ext hs.c r _).trans he2) (hk2.trans (ren_keep hk))
  ·exact evK_base hdr hcall (.loop c) h hp hs Q hQ
 | .skip,D0,st,orc,q,cx,a,h,hp,hs,Q,hQ=>evK_base hdr hcall _ h hp hs Q hQ
 | .region _ _ _,D0,st,orc,q,cx,a,h,hp,hs,Q,hQ=>evK_base hdr hcall _ h hp hs Q hQ
 | .cond _ _ _,D0,st,orc,q,cx,a,h,hp,hs,Q,hQ=>evK_base hdr hcall _ h hp hs Q hQ
 | .rangeFunc _ _ _ _,D0,st,orc,q,cx,a,h,hp,hs,Q,hQ=>evK_base hdr hcall _ h hp hs Q hQ
 | .exit _,D0,st,orc,q,cx,a,h,hp,hs,Q,hQ=>evK_base hdr hcall _ h hp hs Q hQ
 | .ret,D0,st,orc,q,cx,a,h,hp,hs,Q,hQ=>evK_base hdr hcall _ h hp hs Q hQ
 | .scope _,D0,st,orc,q,cx,a,h,hp,hs,Q,hQ=>evK_base hdr hcall _ h hp hs Q hQ
 | .label _,D0,st,orc,q,cx,a,h,hp,hs,Q,hQ=>evK_base hdr hcall _ h hp hs Q hQ
 | .goto _,D0,st,orc,q,cx,a,h,hp,hs,Q,hQ=>evK_base hdr hcall _ h hp hs Q hQ
 | .refuse _,D0,st,orc,q,cx,a,h,hp,hs,Q,hQ=>evK_base hdr hcall _ h hp hs Q hQ
theorem OkN.vc {md:Bool} {nt:Nat} {c:Code} {I J:Sm} {orc:List Orc} {x:X} {r:List (Nat×Nat)} (h:Vc (vcN P md nt c I orc x r J)):OkN P nt c I.st x J.st:=by
 replace h:=h.out
 unfold vcN at h
 split at h
 ·rename_i q hq
  obtain ⟨hx,h1⟩:(eqX q.1 x&&keep0 r)=true∧(match leS r q.2.1 J with |some ps=>allP (q.2.2.2++ps)|none=>False):=by
   cases hb:eqX q.1 x&&keep0 r with
   |true=>rw [hb] at h;exact ⟨rfl,h⟩
   |false=>rw [hb] at h;exact h.elim
  rw [Bool.and_eq_true] at hx
  split at h1
  ·rename_i ps hps
   have hall:=allP_mem h1
   intro d0 cx a hs Q hQ
   refine evK_sound (drawA_ok md) (callA_evFn 100) c hq (fun p hp=>hall p (List.mem_append.2 (.inl hp))) hs Q fun cx1 a1 hs1 he1 hk1=> ?_
   obtain ⟨m1,m2,m3⟩:=leS_sound hs1.c hs1.H hps (fun p hp=>hall p (List.mem_append.2 (.inr hp))) hs1.env
   rw [eqX_eq hx.1]
   exact hQ (cx1.ren r (lookO J.heap)) a1 ⟨rfl,m1,m2,m3,hs1.sz,hs1.df⟩ (he1.trans (ren_ext hs1.c r _)) ((ren_keep hx.2).trans hk1)
  ·cases h1
 ·cases h
theorem OkN.loop {nt:Nat} {c:Code} {F:Nat→Sm} {m:Nat} {x:X} {J:Sm} (hr: ∀ k,k<m→OkN P nt c (F k).st .nrm (F (k+1)).st) (he:OkN P nt c (F m).st x J.st) (hx:x≠ .nrm):OkN P nt (.loop c) (F 0).st x J.st:=by
 intro d0 cx a hs Q hQ
 have key: ∀ n k,k+n=m→ ∀ cx1 a1, @SRep d0 cx1 (F k).st a1 nt→(∀ cx2 a2, @SRep d0 cx2 J.st a2 nt→Ext cx1 cx2→cx2.φ 0=cx1.φ 0→Q x.to a2 cx2.w)→Code.rounds P c Q (n+1) a1 cx1.w:=by
  intro n
  induction n with
  |zero=>
   intro k hk cx1 a1 hs1 hK
   obtain rfl:k=m:=by omega
   rw [rounds_succ]
   refine he d0 cx1 a1 hs1 _ fun cx2 a2 hs2 he2 hk2=> ?_
   have:=hK cx2 a2 hs2 he2 hk2
   cases x with
   |nrm=>exact absurd rfl hx
   |ext id=>exact this
   |ret=>exact this
  |succ n ih=>
   intro k hk cx1 a1 hs1 hK
   rw [rounds_succ]
   refine hr k (by omega) d0 cx1 a1 hs1 _ fun cx2 a2 hs2 he2 hk2=> ?_
   exact ih (k+1) (by omega) cx2 a2 hs2 fun cx3 a3 hs3 he3 hk3=>hK cx3 a3 hs3 (he2.trans he3) (hk3.trans hk2)
 exact wp_loop_rounds (m+1) (key m 0 (by omega) cx a hs hQ)
theorem KeepC.vc {md:Bool} {f:FuncId} {args:List AV} {t:TypeId} {cs0:List AV} {orc:List Orc} {ρ:List (Nat×Nat)} {res:AV} {cs1:List AV} {N:List Blk} (h:Vc (vcK P md f args t cs0 orc ρ res cs1 N)):KeepC P f args t cs0 res cs1 N:=by
 replace h:=h.out
 unfold vcK at h
 split at h
 ·cases h
 ·rename_i fn hf
  split at h
  ·cases h
  ·rename_i c hbody
   cases hb:fnOk P f&&(Nat.ble args.length fn.ntmps&&keep0 ρ) with
   |false=>rw [hb] at h;exact h.elim
   |true=>
    rw [hb] at h
    simp only [cond_true] at h
    simp only [Bool.and_eq_true,Nat.ble_eq] at hb
    split at h
    ·rename_i q hq
     cases hx:(match q.1 with | .ext _=>false |_=>true:Bool) with
     |false=>rw [hx] at h;exact h.elim
     |true=>
      rw [hx] at h
      simp only [cond_true] at h
      split at h
      ·rename_i rs hrs
       split at h
       ·rename_i ps hps
        have hall:=allP_mem h
        intro cx vs hH hc hlen hargs
        refine callsIn_wide.1 (callsIn_of_wp_marks (n:=0) hf hbody trivial (wpIn_wide.2 ?_))
        letI d0:Dfs:=⟨[]⟩
        have hs:SRep cx ⟨fun t=>args.getD t .junk,boxH t cs0 [],1⟩ {tmps:=vs++Array.replicate (fn.ntmps-vs.size) undef,defers:=[]} fn.ntmps:=by
         refine ⟨hH,hc,fun t=> ?_,fun i hi=> ?_, ?_,rfl⟩
         ·show Rep cx (args.getD t .junk) ((vs++Array.replicate _ undef).getD t undef)
          rw [getD_args]
          exact env_args hlen hargs t
         ·obtain ⟨b,hb'⟩:=Option.isSome_iff_exists.1 hi
          have:=(List.getElem?_eq_some_iff.1 (show [(⟨0,false,t, .box cs0⟩:Blk)][i]? =some b from hb')).1
          simpa using this
         ·simp only [Array.size_append,Array.size_replicate]
          omega
        refine evK_sound (drawA_ok md) (callA_evFn 100) c hq (fun p hp=>hall p (List.mem_append.2 (.inl hp))) hs _ fun cx1 a1 hs1 he1 hk1=> ?_
        have hpost:LeavesInM Fence.wide 0 P fn a1.tmps (fun e w'=> ∃ z cx',e= .returned z∧w'=cx'.w∧cx'.H=boxH t cs1 N∧CRep cx'∧Ext cx cx'∧cx'.φ 0=cx.φ 0∧Rep cx' res z) a1.defers .returning cx1.w:=by
         rw [hs1.df]
         show LeavesIn Fence.wide 0 P fn a1.tmps _ [] .returning cx1.w
         obtain ⟨z,k1,k2⟩:=results_sound hs1 hrs (fun p hp=>hall p (List.mem_append.2 (.inr (List.mem_append.2 (.inl hp)))))
         obtain ⟨m1,m2,m3⟩:=leS_sound hs1.c (st:=⟨fun _=>oneA rs.1,q.2.1.heap,q.2.1.next⟩) hs1.H hps (fun p hp=>hall p (List.mem_append.2 (.inr (List.mem_append.2 (.inr hp))))) (tmp:=fun _=>z) (fun _=>k2)
         refine ⟨z,k1,z,cx1.ren ρ (lookO (idxH (⟨0,false,t, .box cs1⟩::N))),rfl,rfl,lookO_idxH _,m1,he1.trans (ren_ext hs1.c ρ _),(ren_keep hb.2.2).trans hk1, ?_⟩
         have:=m2 0
         exact this
        cases hxx:q.1 with
        |nrm=>exact hpost
        |ret=>exact hpost
        |ext i=>rw [hxx] at hx;cases hx
       ·cases h
      ·cases h
    ·cases h
end
end
end Go.Proofs.Ytfjapapiappacaa.Rx
namespace Go.Proofs.Ytfjapapiappacaa.Px
section
open Go.RowKit Go.Proofs.Ytfjapapiappacaa.Rx
def rowI (l:List Int):Nat→Nat→AV:=fun i _=> .int .i64 (l.getD i 0)
def rowB (l:List Int):Nat→Nat→AV:=fun i _=> .int .u8 (l.getD i 0)
def lR (l:List Int):AV:= .row 1 l.length (rowI l)
end
end Go.Proofs.Ytfjapapiappacaa.Px
namespace Go.Proofs.Ytfjapapiappacaa
section
open Go.RowKit
namespace Wd
def okB (w:Int):Bool:=decide (1≤w)&&decide (w≤16)
def maskV (w n:Int):Int:=if okB w=true then n%2^w.toNat else 0
theorem okB_iff {w:Int}:okB w=true↔1≤w∧w≤16:=by simp [okB]
theorem okB_nat {w:Int} (h:okB w=true): ∃ k:Nat,w=k∧1≤k∧k≤16:=by
 rw [okB_iff] at h;exact ⟨w.toNat,by omega,by omega,by omega⟩
theorem pow_le {k:Nat} (h:k≤16):(2:Int)^k≤65536:=by
 have:(2:Nat)^k≤2^16:=Nat.pow_le_pow_right (by omega) h
 have h2:((2^k:Nat):Int)≤((2^16:Nat):Int):=by exact_mod_cast this
 simpa using h2
theorem pow_pos (k:Nat):(1:Int)≤2^k:=by
 have:1≤2^k:=Nat.one_le_two_pow
 have h2:((1:Nat):Int)≤((2^k:Nat):Int):=by exact_mod_cast this
 simpa using h2
theorem maskV_bd (w n:Int):0≤maskV w n∧maskV w n<65536:=by
 unfold maskV;split
 ·rename_i h
  obtain ⟨k,rfl,_,hk⟩:=okB_nat h
  have h1:=pow_le hk;have h2:=pow_pos k
  simp only [Int.toNat_natCast]
  have:=Int.emod_nonneg n (b:=2^k) (by omega);have:=Int.emod_lt_of_pos n (b:=2^k) (by omega);omega
 ·omega
theorem bits_mask (n:Int) (k:Nat) (hk:k≤16):bits .and .i64 n (2^k-1)=n%2^k:=by
 have e:(BitVec.ofInt 64 n&&&BitVec.ofInt 64 (2^k-1)).toNat=(n%2^k).toNat:=by
  have h2:(2:Int)^k≤65536:=pow_le hk
  have h3:=pow_pos k
  have e1:(BitVec.ofInt 64 ((2:Int)^k-1)).toNat=2^k-1:=by
   have h4:2^k≤65536:=by have:=Nat.pow_le_pow_right (n:=2) (by omega) hk;simpa using this
   have h5:1≤2^k:=Nat.one_le_two_pow
   have:((2:Int)^k-1)=((2^k-1:Nat):Int):=by
    rw [Int.ofNat_sub h5];simp
   rw [this,BitVec.ofInt_natCast,BitVec.toNat_ofNat];omega
  rw [BitVec.toNat_and,e1,Nat.and_two_pow_sub_one_eq_mod,BitVec.toNat_ofInt]
  have h6:(2:Nat)^64=2^k*2^(64-k):=by rw [←Nat.pow_add];congr 1;omega
  have h7:((2^64:Nat):Int)=2^k*2^(64-k):=by rw [h6];simp
  have h8:(((n%((2^64:Nat):Int)).toNat%2^k:Nat):Int)=n%2^k:=by
   have:=Int.emod_nonneg n (b:=((2^64:Nat):Int)) (by omega)
   rw [Int.natCast_emod,Int.toNat_of_nonneg this,Int.natCast_pow]
   exact Int.emod_emod_of_dvd n ⟨2^(64-k),h7⟩
  omega
 show IntKind.i64.wrap (((BitVec.ofInt 64 n&&&BitVec.ofInt 64 (2^k-1):BitVec 64).toNat:Nat):Int)=_
 have h2:(2:Int)^k≤65536:=pow_le hk
 have h3:=pow_pos k
 have:=Int.emod_nonneg n (b:=2^k) (by omega);have:=Int.emod_lt_of_pos n (b:=2^k) (by omega)
 rw [e,Int.toNat_of_nonneg (by omega)]
 exact IntWalk.i64_in _ (by omega)
def tI (b:Bool):Int:=if b=true then 1 else 0
end Wd
end
end Go.Proofs.Ytfjapapiappacaa
namespace Go.Proofs.Ytfjapapiappacaa.Rx
section
open Go.RowKit
theorem rf {α:Type} (a:α):a=a:=rfl
theorem rr (n m:Nat) (f:Nat→Nat→AV): ∀ i,i<n→ ∀ j,j<m→f i j=f i j:=fun _ _ _ _=>rfl
abbrev RF {α:Type} (a:α) (Z:Prop):Prop:=a=a∧Z
abbrev RR (n m:Nat) (f:Nat→Nat→AV) (Z:Prop):Prop:=(∀ i,i<n→ ∀ j,j<m→f i j=f i j)∧Z
theorem cj {a b:Prop} (x:a) (y:b):a∧b:=⟨x,y⟩
theorem vc_by {p q:Prop} (hq:q) (h:p=q):Vc p:=⟨h.mpr hq⟩
theorem i6 (n:Int) (h1: -9223372036854775808≤n:=by omega) (h2:n≤9223372036854775807:=by omega):inK .i64 n:=⟨h1,h2⟩
theorem dt (p:Prop) [Decidable p] (h:p:=by first |omega | (simp;omega)| (simp;done)):decide p=true:=decide_eq_true h
theorem df (p:Prop) [Decidable p] (h: ¬p:=by first |omega | (simp;omega)| (simp;done)):decide p=false:=decide_eq_false h
theorem pv (p:Prop) (h:p:=by first |omega |rfl | (simp;done)| (simp;omega)):p:=h
abbrev aI (n:Int):AV:= .int .i64 n
theorem ap (x y s:Nat) (h:(x+y)*s≤140737488355328:=by omega) (h2:x+y≤140737488355328:=by omega):(0:Nat)=0∧x=x∧(x+y)*s≤140737488355328∧x+y≤140737488355328:=⟨rfl,rfl,h,h2⟩
theorem bi (a b:Int) (h:0≤a:=by omega) (h2:a<b:=by omega):0≤a∧a<b:=⟨h,h2⟩
theorem e1 (a b:Int) (h:a=b:=by omega):(a==b)=true:=beq_iff_eq.2 h
theorem e0 (a b:Int) (h:a≠b:=by omega):(a==b)=false:=beq_eq_false_iff_ne.2 h
theorem n1 (a b:Int) (h:a≠b:=by omega):(a !=b)=true:=bne_iff_ne.2 h
theorem n0 (a b:Int) (h:a=b:=by omega):(a !=b)=false:=bne_eq_false_iff_eq.2 h
section
variable {P:Program}
def OkL (P:Program) (nt:Nat) (c:Code) (I:St) (x:X) (J:St):Prop:=
 ∃ n, ∀ (d:Dfs) cx a,SRep cx I a nt→ ∀ Q:Exit→Act→World→Prop,(∀ (d':Dfs) cx' a', @SRep d' cx' J a' nt→After true d cx d' cx'→Q x.to a' cx'.w)→Code.rounds P c Q n a cx.w
theorem OkL.exit {nt:Nat} {c:Code} {I J:St} {x:X} (h:Ok P nt c I x J) (hx:x≠ .nrm):OkL P nt c I x J:=by
 refine ⟨1,fun d cx a hs Q hQ=> ?_⟩
 rw [rounds_succ]
 refine h d cx a hs _ fun d2 cx2 a2 hs2 he2=> ?_
 have:=hQ d2 cx2 a2 hs2 he2
 cases x with
 |nrm=>exact absurd rfl hx
 |ext id=>exact this
 |ret=>exact this
theorem OkL.step {nt:Nat} {c:Code} {I J K:St} {x:X} (h1:Ok P nt c I .nrm K) (h2:OkL P nt c K x J):OkL P nt c I x J:=by
 obtain ⟨n,h2⟩:=h2
 refine ⟨n+1,fun d cx a hs Q hQ=> ?_⟩
 rw [rounds_succ]
 refine h1 d cx a hs _ fun d2 cx2 a2 hs2 ha2=> ?_
 obtain ⟨cx2p,hw,hs2p,hk⟩:=ha2.plus hs2
 show Code.rounds _ _ _ _ _ cx2.w
 rw [←hw]
 exact h2 d2 cx2p a2 hs2p Q fun d3 cx3 a3 hs3 ha3=>by
  obtain ⟨cx4,e4,hs4,ha4⟩:=hk d3 cx3 _ a3 _ hs3 ha3
  rw [←e4]
  exact hQ d3 cx4 a3 hs4 ha4
theorem OkL.ok {nt:Nat} {c:Code} {I J:St} {x:X} (h:OkL P nt c I x J):Ok P nt (.loop c) I x J:=by
 obtain ⟨n,h⟩:=h
 exact fun d cx a hs Q hQ=>wp_loop_rounds n (h d cx a hs Q hQ)
end
end
end Go.Proofs.Ytfjapapiappacaa.Rx
namespace Go.Proofs.Ytfjapapiappacaa.Px
section
open Go.RowKit Go.Proofs.Ytfjapapiappacaa.Rx
structure Mm where
 nm:ByteArray
 sec:Bool
 n:Nat
instance:Inhabited Mm:=⟨⟨.empty,false,0⟩⟩
structure Pl where
 reg:Bool
 n:Nat
 sec:Bool
 deriving Inhabited
def plC (p:Pl) (j:Nat):AV:=[.bool p.reg, .int .i64 p.n, .bool p.sec].getD j .junk
def sumN:List Mm→Nat
 | []=>0
 |m::l=>m.n+sumN l
def regL (r:Nat→Int):Nat→List Pl
 |0=>[]
 |k+1=>regL r k++(if r k=0 then [] else [⟨true,k,r k==2⟩])
def celL (sec:Bool) (at_ k:Nat):List Pl:=(List.range k).map fun i=>⟨false,at_+i,sec⟩
def memL:Nat→List Mm→List Pl
 |_,[]=>[]
 |at_,m::l=>celL m.sec at_ m.n++memL (at_+m.n) l
def box0 (e:TypeId) (cs:List AV):Nat×Blk:=(0,⟨0,false,e, .box cs⟩)
def plB (l:List Pl):Blk:=⟨0,false,89, .rows 3 l.length (rowL plC l)⟩
def places (r:Nat→Int) (ms:List Mm):List Pl:=regL r 4++memL 0 ms
def h7 (cs:List AV) (l:List Pl):List (Nat×Blk):=[box0 44 cs,(1,plB l)]
end
end Go.Proofs.Ytfjapapiappacaa.Px
namespace Go.Proofs.Ytfjapapiappacaa.Px
section
open Go.RowKit Go.Proofs.Ytfjapapiappacaa.Rx
structure S7 where
 r0:Int
 r1:Int
 r2:Int
 r3:Int
 m:List Int
def bx (e:TypeId) (cs:List AV):Blk:=⟨0,false,e, .box cs⟩
def blkI (l:List Int):Blk:=⟨0,false,3, .rows 1 l.length (rowI l)⟩
structure Vl where
 reg:Bool
 n:Int
structure In where
 kind:Int
 op:Int
 d:Int
 a:Vl
 b:Vl
 nm:ByteArray
 tg:Int
structure Lb where
 nm:ByteArray
 at_:Int
structure Pg where
 W:Int
 win:Int
 fuel:Int
 r0:Int
 r1:Int
 r2:Int
 r3:Int
 ms:List Mm
 ls:List Lb
 is:List In
structure S8 where
 r0:Int
 r1:Int
 r2:Int
 r3:Int
 m:List Int
 st:List Int
 pc:Int
structure Ob where
 k:Int
 a:Int
def In0:In:=⟨0,0,0,⟨false,0⟩,⟨false,0⟩,⟨#[]⟩,0⟩
instance:Inhabited In:=⟨In0⟩
instance:Inhabited Lb:=⟨⟨⟨#[]⟩,0⟩⟩
instance:Inhabited Ob:=⟨⟨0,0⟩⟩
def s8A (s:S8) (am ak:AV):List AV:=[.int .i64 s.r0, .int .i64 s.r1, .int .i64 s.r2, .int .i64 s.r3,am,ak, .int .i64 s.pc]
def atI (p:Pg) (pc:Int):In:=if 0≤pc∧pc<p.is.length then p.is.getD pc.toNat default else {In0 with kind:=12}
def S8.reg (s:S8) (n:Int):Int:=if n=0 then s.r0 else if n=1 then s.r1 else if n=2 then s.r2 else s.r3
def S8.set (s:S8) (n v:Int):S8:=⟨if n=0 then v else s.r0,if n=1 then v else s.r1,if n=2 then v else s.r2,if n=3 then v else s.r3,s.m,s.st,s.pc⟩
def okV (v:Vl):Prop:=v.reg=true→0≤v.n∧v.n<4
def okR (s:S8):Prop:=(0≤s.r0∧s.r0<65536)∧(0≤s.r1∧s.r1<65536)∧(0≤s.r2∧s.r2<65536)∧(0≤s.r3∧s.r3<65536)
def OkI (i:In) (len:Int):Prop:=(1≤i.kind∧i.kind≤12)∧okV i.a∧okV i.b∧(0≤i.d∧i.d<4)∧(0≤i.tg∧i.tg≤len)
structure OkP (p:Pg):Prop where
 ins: ∀ i∈p.is,OkI i p.is.length
 len:p.is.length<1000
 ms:p.ms.length<1000
 sum:sumN p.ms≤16
structure OkS (c len:Int) (s:S8):Prop where
 reg:okR s
 mem: ∀ x∈s.m,0≤x∧x<65536
 c:c=s.m.length
 pc: -1≤s.pc∧s.pc≤len
 st:s.st.length≤100
 stk: ∀ x∈s.st, -1≤x∧x≤len
def s8R (s:S8):List AV:=s8A s (lR s.m) (lR s.st)
theorem S8.reg_bd {s:S8} (h:okR s) (n:Int):0≤s.reg n∧s.reg n<65536:=by
 obtain ⟨h0,h1,h2,h3⟩:=h
 unfold S8.reg
 repeat' split
 all_goals assumption
theorem atI_in {p:Pg} {pc:Int} (h0:0≤pc) (h1:pc<p.is.length):atI p pc=p.is.getD pc.toNat default:=if_pos ⟨h0,h1⟩
theorem atI_out {p:Pg} {pc:Int} (h: ¬(0≤pc∧pc<p.is.length)):atI p pc={In0 with kind:=12}:=if_neg h
theorem okV0:okV ⟨false,0⟩:=fun h=>by cases h
theorem atI_ok {p:Pg} (h:OkP p) (pc:Int):OkI (atI p pc) p.is.length∧((atI p pc).kind≠12→0≤pc∧pc<p.is.length):=by
 by_cases hp:0≤pc∧pc<p.is.length
 ·rw [atI_in hp.1 hp.2]
  refine ⟨h.ins _ ?_,fun _=>hp⟩
  have hlt:pc.toNat<p.is.length:=by omega
  simp [List.getD,hlt]
 ·rw [atI_out hp]
  exact ⟨⟨⟨by show (1:Int)≤12;decide,by show (12:Int)≤12;decide⟩,okV0,okV0,⟨by show (0:Int)≤0;decide,by show (0:Int)<4;decide⟩,by show (0:Int)≤0;decide,by show (0:Int)≤_;omega⟩,fun hk=>absurd rfl hk⟩
theorem tmod_bd {a:Int} {b:Int} (h0:0≤a) (hb:0<b):0≤a.tmod b∧a.tmod b<b:=⟨Int.tmod_nonneg _ h0,Int.tmod_lt_of_pos _ hb⟩
end
end Go.Proofs.Ytfjapapiappacaa.Px
namespace Go.Proofs.Ytfjapapiappacaa
section
open Go.RowKit
namespace Wd
end Wd
namespace Wd
end Wd
end
end Go.Proofs.Ytfjapapiappacaa
namespace Go.Proofs.Ytfjapapiappacaa.Px
section
open Go.RowKit Go.Proofs.Ytfjapapiappacaa.Rx
end
end Go.Proofs.Ytfjapapiappacaa.Px
namespace Go.Proofs.Ytfjapapiappacaa.Px
section
open Go.RowKit Go.Proofs.Ytfjapapiappacaa.Rx
structure En where
 pc:Int
 val:Int
 adr:Int
 frm:Int
 nxt:Int
 dn:Bool
 kn:Bool
 ft:Bool
 deriving DecidableEq
def En0:En:=⟨0,0,0,0,0,false,false,false⟩
instance:Inhabited En:=⟨En0⟩
def enA (e:En):List AV:=[.int .i64 e.pc, .int .i64 e.val, .int .i64 e.adr, .int .i64 e.frm, .int .i64 e.nxt, .bool e.dn, .bool e.kn, .bool e.ft]
def enC (e:En) (j:Nat):AV:=(enA e).getD j .junk
def enR (l:List En):AV:= .row 8 l.length (rowL enC l)
def enB (l:List En):Blk:=⟨0,false,59, .rows 8 l.length (rowL enC l)⟩
end
end Go.Proofs.Ytfjapapiappacaa.Px
namespace Go.Proofs.Ytfjapapiappacaa.Px
section
open Go.RowKit Go.Proofs.Ytfjapapiappacaa.Rx
structure Cf where
 s:S8
 b:List En
 r:List Int
 e:Int
def dstB (i:In):Bool:=i.kind==1||i.kind==2||i.kind==4
def enI (p:Pg) (l:List En) (k:Nat):In:=atI p (l.getD k default).pc
def regF (p:Pg) (l:List En) (r:Int):Nat→Option (Int×Bool)
 |0=>none
 |k+1=>if dstB (enI p l k)=true∧(enI p l k).d=r then some (if (l.getD k default).dn then ((l.getD k default).val,true) else (0,false)) else regF p l r k
def cl0 (i:Int) (n:Nat):Nat:=(min (max i 0) (n:Int)).toNat
def regV (p:Pg) (s:S8) (l:List En) (i r:Int):Int×Bool:=if 0≤r∧r<4 then (match regF p l r (cl0 i l.length) with |some x=>x |none=>(s.reg r,true)) else (0,false)
def valF (p:Pg) (s:S8) (l:List En) (i:Int) (v:Vl):Int×Bool:=if v.reg then regV p s l i v.n else (Wd.maskV p.W v.n,true)
end
end Go.Proofs.Ytfjapapiappacaa.Px
namespace Go.Proofs.Ytfjapapiappacaa.Px
section
open Go.RowKit Go.Proofs.Ytfjapapiappacaa.Rx
def hzB (p:Pg) (l:List En) (i a:Int) (k:Nat):Prop:=(enI p l k).kind=2∧(l.getD k default).kn=true∧(l.getD k default).adr=a∧(l.getD k default).frm<i
instance (p:Pg) (l:List En) (i a:Int) (k:Nat):Decidable (hzB p l i a k):=inferInstanceAs (Decidable (_∧_))
def hz0 (i:Int) (n:Nat):Nat:=(min (max i (-1)) (n:Int)+1).toNat
end
end Go.Proofs.Ytfjapapiappacaa.Px
namespace Go.Proofs.Ytfjapapiappacaa.Px
section
open Go.RowKit Go.Proofs.Ytfjapapiappacaa.Rx
def reG (p:Pg) (l:List En):Nat→Nat→List Int→Option (List Int)
 |_,0,st=>some st
 |k,j+1,st=>if (enI p l k).kind=8 then (if 4≤st.length then none else reG p l (k+1) j (st++[(l.getD k default).pc+1]))
  else if (enI p l k).kind=9 then (if st.length=0 then none else reG p l (k+1) j (st.take (st.length-1))) else reG p l (k+1) j st
end
end Go.Proofs.Ytfjapapiappacaa.Px
namespace Go.Proofs.Ytfjapapiappacaa.Px
section
open Go.RowKit Go.Proofs.Ytfjapapiappacaa.Rx
def cfA (c:Cf):List AV:=s8R c.s++[enR c.b,lR c.r, .int .i64 c.e]
def Cf0:Cf:=⟨⟨0,0,0,0,[],[],0⟩,[],[],0⟩
def S8.go (s:S8) (pc:Int):S8:={s with pc:=pc}
end
end Go.Proofs.Ytfjapapiappacaa.Px
namespace Go.Proofs.Ytfjapapiappacaa.Px
section
open Go.RowKit Go.Proofs.Ytfjapapiappacaa.Rx
def tA (p:Pg) (c:Cf) (i:Int) (x:In):Int×Bool:=valF p c.s c.b i x.a
def tB (p:Pg) (c:Cf) (i:Int) (x:In):Int×Bool:=valF p c.s c.b i x.b
def enX (p:Pg) (c:Cf) (k:Nat):In:=atI p (c.b.getD k default).pc
def Sml (p:Pg) (c:Cf):Prop:= ∀ i x,0≤(tA p c i x).1∧(tA p c i x).1≤65535∧0≤(tB p c i x).1∧(tB p c i x).1≤65535
theorem Sml.add {p:Pg} {c:Cf} (h:Sml p c) (i:Int) (x:In): -1000000≤(tA p c i x).1+(tB p c i x).1∧(tA p c i x).1+(tB p c i x).1≤1000000:=by
 have:=h i x;omega
end
end Go.Proofs.Ytfjapapiappacaa.Px
namespace Go.Proofs.Ytfjapapiappacaa.Px
section
open Go.RowKit Go.Proofs.Ytfjapapiappacaa.Rx
end
end Go.Proofs.Ytfjapapiappacaa.Px
namespace Go.Proofs.Ytfjapapiappacaa.Px
section
open Go.RowKit Go.Proofs.Ytfjapapiappacaa.Rx
def upE (c:Cf) (k:Nat) (g:En→En):Cf:=⟨c.s,c.b.set k (g (c.b.getD k default)),c.r,c.e⟩
def En.done (e:En):En:={e with dn:=true}
def En.ad (a:Int) (e:En):En:={e with adr:=a,kn:=true}
def En.to (t:Int) (e:En):En:={e with nxt:=t}
end
end Go.Proofs.Ytfjapapiappacaa.Px
namespace Go.Proofs.Ytfjapapiappacaa.Px
section
open Go.RowKit Go.Proofs.Ytfjapapiappacaa.Rx
end
end Go.Proofs.Ytfjapapiappacaa.Px
namespace Go.Proofs.Ytfjapapiappacaa.Px
section
open Go.RowKit Go.Proofs.Ytfjapapiappacaa.Rx
end
end Go.Proofs.Ytfjapapiappacaa.Px
namespace Go.Proofs.Ytfjapapiappacaa.Px
section
open Go.RowKit Go.Proofs.Ytfjapapiappacaa.Rx
end
end Go.Proofs.Ytfjapapiappacaa.Px
namespace Go.Proofs.Ytfjapapiappacaa.Px
section
open Go.RowKit Go.Proofs.Ytfjapapiappacaa.Rx
end
end Go.Proofs.Ytfjapapiappacaa.Px
namespace Go.Proofs.Ytfjapapiappacaa.Px
section
open Go.RowKit Go.Proofs.Ytfjapapiappacaa.Rx
structure RtOk (p:Pg) (c:Cf):Prop where
 d:dstB (enX p c 0)=true→0≤(enX p c 0).d∧(enX p c 0).d<4
 m:(enX p c 0).kind=3→(c.b.getD 0 default).ft=false→(c.b.getD 0 default).kn=true→0≤(c.b.getD 0 default).adr∧(c.b.getD 0 default).adr<c.s.m.length
 st:(enX p c 0).kind=9→(c.b.getD 0 default).ft=false→(c.b.getD 0 default).dn=true→c.s.st.length≠0
 sl:c.s.st.length≤1000
 ml:c.s.m.length≤1000000
 bl:c.b.length<900000
 pc:0≤(c.b.getD 0 default).pc∧(c.b.getD 0 default).pc≤1000000
end
end Go.Proofs.Ytfjapapiappacaa.Px
namespace Go.Proofs.Ytfjapapiappacaa.Px
section
open Go.RowKit Go.Proofs.Ytfjapapiappacaa.Rx
end
end Go.Proofs.Ytfjapapiappacaa.Px
namespace Go.Proofs.Ytfjapapiappacaa.Px
section
open Go.RowKit Go.Proofs.Ytfjapapiappacaa.Rx
structure Dr where
 k:Int
 n:Int
 deriving DecidableEq
instance:Inhabited Dr:=⟨⟨0,0⟩⟩
def cfP (c:Cf):AV:= .rptr 10 (fun q=>(cfA c).getD q .junk) 0
end
end Go.Proofs.Ytfjapapiappacaa.Px
namespace Go.Proofs.Ytfjapapiappacaa.Px
section
open Go.RowKit Go.Proofs.Ytfjapapiappacaa.Rx
structure MOk (p:Pg) (c:Cf):Prop where
 il:p.is.length<1000
 bl:c.b.length<900000
 ml:c.s.m.length<1000000
 sm:Sml p c
 sm': ∀ k,Sml p (upE c k En.done)
 st:c.s.st.length≤1000
 bp: ∀ e∈c.b, -1≤e.pc∧e.pc≤1000000
 bf: ∀ e∈c.b, -1000000≤e.frm∧e.frm≤1000000
 pc: -1≤c.s.pc∧c.s.pc≤1000
 rl:c.r.length<1000
 rt:RtOk p c
end
end Go.Proofs.Ytfjapapiappacaa.Px
namespace Go.Proofs.Ytfjapapiappacaa.Px
section
open Go.RowKit Go.Proofs.Ytfjapapiappacaa.Rx
structure Rs where
 l:List Int
 w:Bool
def rdA (l:List Int) (w:Bool):List AV:=[lR l, .bool w]
def Rs.hd (s:Rs):Int:=s.l.headD 0
def Rs.nx (s:Rs):Rs:=⟨s.l.tail,s.w||s.l.isEmpty⟩
def flB (n:Int):Bool:=decide (n=1)
def flO (n:Int):Bool:=decide (n=0)||decide (n=1)
def Rs.fl (s:Rs):Rs:=⟨s.l.tail,(s.w||s.l.isEmpty)|| !(flO s.hd)⟩
def cnO (k:Nat) (n:Int) (m:Nat):Bool:=decide (0≤n)&&decide (n≤((m/k:Nat):Int))
def Rs.cn (s:Rs) (k:Nat):Nat:=if cnO k s.hd s.l.tail.length=true then s.hd.toNat else 0
def Rs.ct (s:Rs) (k:Nat):Rs:=⟨s.l.tail,(s.w||s.l.isEmpty)|| !(cnO k s.hd s.l.tail.length)⟩
def Rs.ns (s:Rs):Rs:=⟨s.l.tail.drop (s.cn 1),(s.ct 1).w⟩
def Rs.nl (s:Rs):List Int:=s.l.tail.take (s.cn 1)
theorem dr_row {l:List Int} {n i j:Nat}:rowI l (i+n) j=rowI (l.drop n) i j:=by
 unfold rowI;rw [List.getD_eq_getElem?_getD,List.getD_eq_getElem?_getD,List.getElem?_drop,Nat.add_comm]
theorem tk_row {l:List Int} {n i j:Nat} (h:i<n):rowI l i j=rowI (l.take n) i j:=by
 unfold rowI;rw [List.getD_eq_getElem?_getD,List.getD_eq_getElem?_getD,List.getElem?_take,if_pos h]
theorem num_0 (w:Bool):Vc (vcK Try.prog false 47 [.bptr 0 0] 70 (rdA [] w) [.bd true] [(0,0)] (.int .i64 0) (rdA [] true) []):=vc_by (cj (e1 ((0:Nat):Int) 0) (cj (rf (0:Nat)) (cj (rr 0 1 fun i j=>aI (List.getD [] i (0:Int))) (cj (rf true) (cj (rf (0:Int)) trivial))))) (by kernel_rfl)
theorem num_1 (x:Int) (l:List Int) (w:Bool) (hb:l.length<1000000):Vc (vcK Try.prog false 47 [.bptr 0 0] 70 (rdA (x::l) w) [.bd false] [(0,0)] (.int .i64 x) (rdA l w) []):=vc_by (cj (rf false) (cj (show (0:Int)≤0∧(0:Int)<(↑((x::l).length):Int) from by rw [List.length_cons];omega) (cj (show (0:Int)≤1∧(1:Int)≤(↑((x::l).length):Int)∧(↑((x::l).length):Int)≤(↑((x::l).length):Int) from by rw [List.length_cons];omega) (cj (rf l.length) (cj (rr ((x::l).length-1) 1 fun i j=>aI (l.getD i 0)) (cj (rf w) (cj (rf x) trivial))))))) (by kernel_rfl)
theorem numC (s:Rs) (hb:s.l.length<1000000):KeepC Try.prog 47 [.bptr 0 0] 70 (rdA s.l s.w) (.int .i64 s.hd) (rdA s.nx.l s.nx.w) []:=by
 obtain ⟨l,w⟩:=s
 cases l with
 |nil=>unfold Rs.nx;rw [show (w||List.isEmpty ([]:List Int))=true by cases w<;>rfl];exact KeepC.vc (num_0 w)
 |cons x l=>unfold Rs.nx;rw [show (w||List.isEmpty (x::l))=w by cases w<;>rfl];exact KeepC.vc (num_1 x l w (Nat.lt_of_succ_lt hb))
theorem nb_true:Vc (vcFn Try.prog false 39 [.bool true] [.b true] [] (.int .i64 1) []):=vc_by (cj (rf true) (cj (rf (1:Int)) trivial)) (by kernel_rfl)
theorem nb_false:Vc (vcFn Try.prog false 39 [.bool false] [.b false] [] (.int .i64 0) []):=vc_by (cj (rf false) (cj (rf (0:Int)) trivial)) (by kernel_rfl)
theorem zC10 (l:List Int) (w:Bool) {Z:Prop} (z:Z):(RF l.length (RR l.length 1 (fun i j=>aI (l.getD i 0)) (RF w Z))):=⟨rfl,fun _ _ _ _=>rfl,rfl,z⟩
theorem fl_1 (l l1:List Int) (w w1:Bool) (h:KeepC Try.prog 47 [.bptr 0 0] 70 (rdA l w) (.int .i64 1) (rdA l1 w1) []):Vc (vcK Try.prog false 78 [.bptr 0 0] 70 (rdA l w) [.ck [.bptr 0 0] 0 70 (rdA l w) (.int .i64 1) (rdA l1 w1) [], .bd true, .cl [.bool true] (.int .i64 1) [], .bd false, .bd true] [(0,0)] (.bool true) (rdA l1 w1) []):=vc_by (zC10 l w (cj h (cj (e1 (1:Int) 1) (cj (rf true) (cj (PureC.vc nb_true) (cj (n0 (1:Int) 1) (cj (e1 (1:Int) 1) (cj (rf l1.length) (cj (rr l1.length 1 fun i j=>aI (l1.getD i 0)) (cj (rf w1) (cj (rf true) trivial))))))))))) (by kernel_rfl)
theorem fl_0 (l l1:List Int) (w w1:Bool) (h:KeepC Try.prog 47 [.bptr 0 0] 70 (rdA l w) (.int .i64 0) (rdA l1 w1) []):Vc (vcK Try.prog false 78 [.bptr 0 0] 70 (rdA l w) [.ck [.bptr 0 0] 0 70 (rdA l w) (.int .i64 0) (rdA l1 w1) [], .bd false, .cl [.bool false] (.int .i64 0) [], .bd false, .bd false] [(0,0)] (.bool false) (rdA l1 w1) []):=vc_by (zC10 l w (cj h (cj (e0 (0:Int) 1) (cj (rf false) (cj (PureC.vc nb_false) (cj (n0 (0:Int) 0) (cj (e0 (0:Int) 1) (cj (rf l1.length) (cj (rr l1.length 1 fun i j=>aI (l1.getD i 0)) (cj (rf w1) (cj (rf false) trivial))))))))))) (by kernel_rfl)
abbrev qC10 (l:List Int) (l1:List Int) (w:Bool) (w1:Bool) (n:Int):Prop:=KeepC Try.prog 47 [.bptr 0 0] 70 (rdA l w) (.int .i64 n) (rdA l1 w1) []
theorem fl_x (l l1:List Int) (w w1:Bool) (n:Int) (h0:n≠0) (h1:n≠1) (h:qC10 l l1 w w1 n):Vc (vcK Try.prog false 78 [.bptr 0 0] 70 (rdA l w) [.ck [.bptr 0 0] 0 70 (rdA l w) (.int .i64 n) (rdA l1 w1) [], .bd false, .cl [.bool false] (.int .i64 0) [], .bd true, .bd false] [(0,0)] (.bool false) (rdA l1 true) []):=vc_by (zC10 l w (cj h (cj (e0 n 1) (cj (rf false) (cj (PureC.vc nb_false) (cj (n1 n 0) (cj (e0 n 1) (cj (rf l1.length) (cj (rr l1.length 1 fun i j=>aI (l1.getD i 0)) (cj (rf true) (cj (rf false) trivial))))))))))) (by kernel_rfl)
theorem flagC (s:Rs) (hb:s.l.length<1000000):KeepC Try.prog 78 [.bptr 0 0] 70 (rdA s.l s.w) (.bool (flB s.hd)) (rdA s.fl.l s.fl.w) []:=by
 have h:=numC s hb
 unfold Rs.fl
 by_cases h1:s.hd=1
 ·rw [h1] at h
  rw [h1,show flB 1=true from rfl,show flO 1=true from rfl,Bool.not_true,Bool.or_false]
  exact KeepC.vc (fl_1 _ _ _ _ h)
 ·by_cases h0:s.hd=0
  ·rw [h0] at h
   rw [h0,show flB 0=false from rfl,show flO 0=true from rfl,Bool.not_true,Bool.or_false]
   exact KeepC.vc (fl_0 _ _ _ _ h)
  ·rw [show flB s.hd=false from decide_eq_false h1,show flO s.hd=false by unfold flO;rw [decide_eq_false h0,decide_eq_false h1];rfl,Bool.not_false,Bool.or_true]
   exact KeepC.vc (fl_x _ _ _ _ _ h0 h1 h)
theorem zC11 (l1:List Int) {Z:Prop} (z:Z):(RF l1.length (RR l1.length 1 (fun i j=>aI (l1.getD i 0)) (RF true (RF (0:Int) Z)))):=⟨rfl,fun _ _ _ _=>rfl,rfl,rfl,z⟩
theorem ct1_n (l l1:List Int) (w w1:Bool) (n:Int) (hb:l1.length<1000000) (ht:Int.tdiv (l1.length:Int) 1=((l1.length/1:Nat):Int)) (h:qC10 l l1 w w1 n) (h0:n<0):Vc (vcK Try.prog false 65 [.bptr 0 0, .int .i64 1] 70 (rdA l w) [.ck [.bptr 0 0] 0 70 (rdA l w) (.int .i64 n) (rdA l1 w1) [], .bd true] [(0,0)] (.int .i64 0) (rdA l1 true) []):=vc_by (zC10 l w (cj h (cj (dt (n<0)) (zC11 l1 trivial)))) (by kernel_rfl)
theorem ct1_b (l l1:List Int) (w w1:Bool) (n:Int) (hb:l1.length<1000000) (ht:Int.tdiv (l1.length:Int) 1=((l1.length/1:Nat):Int)) (h:qC10 l l1 w w1 n) (h0: ¬n<0) (h1:((l1.length/1:Nat):Int)<n):Vc (vcK Try.prog false 65 [.bptr 0 0, .int .i64 1] 70 (rdA l w) [.ck [.bptr 0 0] 0 70 (rdA l w) (.int .i64 n) (rdA l1 w1) [], .bd false, .bd true] [(0,0)] (.int .i64 0) (rdA l1 true) []):=vc_by (zC10 l w (cj h (cj (df (n<0)) (cj (pv ((1:Int)≠0)) (cj (i6 (Int.tdiv (l1.length:Int) (1:Int))) (cj (dt (n>Int.tdiv (l1.length:Int) (1:Int))) (zC11 l1 trivial))))))) (by kernel_rfl)
theorem zC12 (l1:List Int) (w1:Bool) (n:Int) {Z:Prop} (z:Z):(RF l1.length (RR l1.length 1 (fun i j=>aI (l1.getD i 0)) (RF w1 (RF n Z)))):=⟨rfl,fun _ _ _ _=>rfl,rfl,rfl,z⟩
theorem ct1_y (l l1:List Int) (w w1:Bool) (n:Int) (hb:l1.length<1000000) (ht:Int.tdiv (l1.length:Int) 1=((l1.length/1:Nat):Int)) (h:qC10 l l1 w w1 n) (h0: ¬n<0) (h1: ¬((l1.length/1:Nat):Int)<n):Vc (vcK Try.prog false 65 [.bptr 0 0, .int .i64 1] 70 (rdA l w) [.ck [.bptr 0 0] 0 70 (rdA l w) (.int .i64 n) (rdA l1 w1) [], .bd false, .bd false] [(0,0)] (.int .i64 n) (rdA l1 w1) []):=vc_by (zC10 l w (cj h (cj (df (n<0)) (cj (pv ((1:Int)≠0)) (cj (i6 (Int.tdiv (l1.length:Int) (1:Int))) (cj (df (n>Int.tdiv (l1.length:Int) (1:Int))) (zC12 l1 w1 n trivial))))))) (by kernel_rfl)
theorem ct8_n (l l1:List Int) (w w1:Bool) (n:Int) (hb:l1.length<1000000) (ht:Int.tdiv (l1.length:Int) 8=((l1.length/8:Nat):Int)) (h:qC10 l l1 w w1 n) (h0:n<0):Vc (vcK Try.prog false 65 [.bptr 0 0, .int .i64 8] 70 (rdA l w) [.ck [.bptr 0 0] 0 70 (rdA l w) (.int .i64 n) (rdA l1 w1) [], .bd true] [(0,0)] (.int .i64 0) (rdA l1 true) []):=vc_by (zC10 l w (cj h (cj (dt (n<0)) (zC11 l1 trivial)))) (by kernel_rfl)
theorem ct8_b (l l1:List Int) (w w1:Bool) (n:Int) (hb:l1.length<1000000) (ht:Int.tdiv (l1.length:Int) 8=((l1.length/8:Nat):Int)) (h:qC10 l l1 w w1 n) (h0: ¬n<0) (h1:((l1.length/8:Nat):Int)<n):Vc (vcK Try.prog false 65 [.bptr 0 0, .int .i64 8] 70 (rdA l w) [.ck [.bptr 0 0] 0 70 (rdA l w) (.int .i64 n) (rdA l1 w1) [], .bd false, .bd true] [(0,0)] (.int .i64 0) (rdA l1 true) []):=vc_by (zC10 l w (cj h (cj (df (n<0)) (cj (pv ((8:Int)≠0)) (cj (i6 (Int.tdiv (l1.length:Int) (8:Int))) (cj (dt (n>Int.tdiv (l1.length:Int) (8:Int))) (zC11 l1 trivial))))))) (by kernel_rfl)
theorem ct8_y (l l1:List Int) (w w1:Bool) (n:Int) (hb:l1.length<1000000) (ht:Int.tdiv (l1.length:Int) 8=((l1.length/8:Nat):Int)) (h:qC10 l l1 w w1 n) (h0: ¬n<0) (h1: ¬((l1.length/8:Nat):Int)<n):Vc (vcK Try.prog false 65 [.bptr 0 0, .int .i64 8] 70 (rdA l w) [.ck [.bptr 0 0] 0 70 (rdA l w) (.int .i64 n) (rdA l1 w1) [], .bd false, .bd false] [(0,0)] (.int .i64 n) (rdA l1 w1) []):=vc_by (zC10 l w (cj h (cj (df (n<0)) (cj (pv ((8:Int)≠0)) (cj (i6 (Int.tdiv (l1.length:Int) (8:Int))) (cj (df (n>Int.tdiv (l1.length:Int) (8:Int))) (zC12 l1 w1 n trivial))))))) (by kernel_rfl)
theorem cnt1C (s:Rs) (hb:s.l.length<1000000):KeepC Try.prog 65 [.bptr 0 0, .int .i64 1] 70 (rdA s.l s.w) (.int .i64 (s.cn 1:Nat)) (rdA (s.ct 1).l (s.ct 1).w) []:=by
 have h:=numC s hb
 have hl:s.nx.l.length<1000000:=by show s.l.tail.length<_;rw [List.length_tail];omega
 have ht:Int.tdiv (s.nx.l.length:Int) 1=((s.nx.l.length/1:Nat):Int):=by rw [Int.tdiv_eq_ediv_of_nonneg (by omega)];omega
 unfold Rs.ct Rs.cn
 by_cases h0:s.hd<0
 ·have e:cnO 1 s.hd s.l.tail.length=false:=by unfold cnO;rw [decide_eq_false (by omega)];rfl
  rw [e,if_neg (by decide),Bool.not_false,Bool.or_true]
  exact KeepC.vc (ct1_n _ _ _ _ _ hl ht h h0)
 ·by_cases h1:((s.l.tail.length/1:Nat):Int)<s.hd
  ·have e:cnO 1 s.hd s.l.tail.length=false:=by unfold cnO;rw [decide_eq_false (p:=s.hd≤_) (by omega),Bool.and_false]
   rw [e,if_neg (by decide),Bool.not_false,Bool.or_true]
   exact KeepC.vc (ct1_b _ _ _ _ _ hl ht h h0 h1)
  ·have e:cnO 1 s.hd s.l.tail.length=true:=by unfold cnO;rw [decide_eq_true (by omega),decide_eq_true (by omega)];rfl
   rw [e,if_pos rfl,Bool.not_true,Bool.or_false,Int.toNat_of_nonneg (by omega)]
   exact KeepC.vc (ct1_y _ _ _ _ _ hl ht h h0 h1)
theorem cnt8C (s:Rs) (hb:s.l.length<1000000):KeepC Try.prog 65 [.bptr 0 0, .int .i64 8] 70 (rdA s.l s.w) (.int .i64 (s.cn 8:Nat)) (rdA (s.ct 8).l (s.ct 8).w) []:=by
 have h:=numC s hb
 have hl:s.nx.l.length<1000000:=by show s.l.tail.length<_;rw [List.length_tail];omega
 have ht:Int.tdiv (s.nx.l.length:Int) 8=((s.nx.l.length/8:Nat):Int):=by rw [Int.tdiv_eq_ediv_of_nonneg (by omega)];omega
 unfold Rs.ct Rs.cn
 by_cases h0:s.hd<0
 ·have e:cnO 8 s.hd s.l.tail.length=false:=by unfold cnO;rw [decide_eq_false (by omega)];rfl
  rw [e,if_neg (by decide),Bool.not_false,Bool.or_true]
  exact KeepC.vc (ct8_n _ _ _ _ _ hl ht h h0)
 ·by_cases h1:((s.l.tail.length/8:Nat):Int)<s.hd
  ·have e:cnO 8 s.hd s.l.tail.length=false:=by unfold cnO;rw [decide_eq_false (p:=s.hd≤_) (by omega),Bool.and_false]
   rw [e,if_neg (by decide),Bool.not_false,Bool.or_true]
   exact KeepC.vc (ct8_b _ _ _ _ _ hl ht h h0 h1)
  ·have e:cnO 8 s.hd s.l.tail.length=true:=by unfold cnO;rw [decide_eq_true (by omega),decide_eq_true (by omega)];rfl
   rw [e,if_pos rfl,Bool.not_true,Bool.or_false,Int.toNat_of_nonneg (by omega)]
   exact KeepC.vc (ct8_y _ _ _ _ _ hl ht h h0 h1)
end
end Go.Proofs.Ytfjapapiappacaa.Px
namespace Go.Proofs.Ytfjapapiappacaa.Px
section
open Go.RowKit Go.Proofs.Ytfjapapiappacaa.Rx
def Rs.x4 (s:Rs):Rs:=s.nx.nx.nx.nx
def Rs.x5 (s:Rs):Rs:=s.nx.nx.nx.nx.nx
def Rs.en (s:Rs):En:=⟨s.hd,s.nx.hd,s.nx.nx.hd,s.nx.nx.nx.hd,s.x4.hd,flB s.x5.hd,flB s.x5.fl.hd,flB s.x5.fl.fl.hd⟩
def Rs.es (s:Rs):Rs:=s.x5.fl.fl.fl
def Rs.ek (s:Rs):Nat→Rs
 |0=>s
 |k+1=>(s.ek k).es
def Rs.el (s:Rs):Nat→List En
 |0=>[]
 |k+1=>s.el k++[(s.ek k).en]
def rdB (s:Rs):Blk:=⟨0,false,70, .box (rdA s.l s.w)⟩
def esS (s:Rs) (l:List En) (n k:Nat):Sm:=⟨[(0, .bptr 0 0),(3, .own 1 0 8 0 l.length),(5, .int .i64 n),(6, .int .i64 k)],[(0,rdB s),(1,enB l)],2⟩
def Rs.st (s:Rs):S8:=⟨s.hd,s.nx.hd,s.nx.nx.hd,s.nx.nx.nx.hd,s.x4.nl,s.x4.ns.nl,s.x4.ns.ns.hd⟩
def Rs.ss (s:Rs):Rs:=s.x4.ns.ns.nx
def Rs.bl (s:Rs):List En:=(s.ct 8).el (s.cn 8)
def Rs.bs (s:Rs):Rs:=(s.ct 8).ek (s.cn 8)
def Rs.cf (s:Rs):Cf:=⟨s.st,s.ss.bl,s.ss.bs.nl,s.ss.bs.ns.hd⟩
def Rs.cs (s:Rs):Rs:=s.ss.bs.ns.nx
theorem cn1_le (s:Rs):s.cn 1≤s.l.tail.length:=by
 unfold Rs.cn
 split
 ·rename_i h
  unfold cnO at h
  rw [Bool.and_eq_true,decide_eq_true_eq,decide_eq_true_eq] at h
  omega
 ·exact Nat.zero_le _
theorem cn8_le (s:Rs):s.cn 8*8≤s.l.tail.length:=by
 unfold Rs.cn
 split
 ·rename_i h
  unfold cnO at h
  rw [Bool.and_eq_true,decide_eq_true_eq,decide_eq_true_eq] at h
  omega
 ·omega
theorem nx_len (s:Rs):s.nx.l.length≤s.l.length:=by show s.l.tail.length≤_;rw [List.length_tail];omega
theorem fl_len (s:Rs):s.fl.l.length≤s.l.length:=nx_len s
theorem ns_len (s:Rs):s.ns.l.length≤s.l.length:=by show (s.l.tail.drop _).length≤_;rw [List.length_drop,List.length_tail];omega
theorem x4_len (s:Rs):s.x4.l.length≤s.l.length:=Nat.le_trans (nx_len _) (Nat.le_trans (nx_len _) (Nat.le_trans (nx_len _) (nx_len _)))
theorem es_len (s:Rs):s.es.l.length≤s.l.length:=Nat.le_trans (fl_len _) (Nat.le_trans (fl_len _) (Nat.le_trans (fl_len _) (Nat.le_trans (nx_len _) (x4_len s))))
theorem ek_len (s:Rs): ∀ k,(s.ek k).l.length≤s.l.length
 |0=>Nat.le_refl _
 |k+1=>Nat.le_trans (es_len _) (ek_len s k)
theorem el_len (s:Rs): ∀ k,(s.el k).length=k
 |0=>rfl
 |k+1=>by rw [Rs.el,List.length_append,el_len s k];rfl
theorem ct_len (s:Rs) (k:Nat):(s.ct k).l.length≤s.l.length:=nx_len s
theorem bs_len (s:Rs):s.bs.l.length≤s.l.length:=Nat.le_trans (ek_len _ _) (ct_len _ _)
theorem ss_len (s:Rs):s.ss.l.length≤s.l.length:=Nat.le_trans (nx_len _) (Nat.le_trans (ns_len _) (Nat.le_trans (ns_len _) (x4_len s)))
theorem zC20 (l:List Int) (w:Bool) {Z:Prop} (z:Z):(RF l.length (RR l.length 1 (fun i j=>aI (l.getD i 0)) (RF w Z))):=⟨rfl,fun _ _ _ _=>rfl,rfl,z⟩
theorem nms (l l1:List Int) (w w1:Bool) (n:Nat) (hn:n≤l1.length) (hb:l1.length<1000000) (h:KeepC Try.prog 65 [.bptr 0 0, .int .i64 1] 70 (rdA l w) (.int .i64 (n:Nat)) (rdA l1 w1) []):Vc (vcK Try.prog false 46 [.bptr 0 0] 70 (rdA l w) [.ck [.bptr 0 0, .int .i64 1] 0 70 (rdA l w) (.int .i64 (n:Nat)) (rdA l1 w1) []] [(0,0),(1,1)] (.own 1 0 1 0 (l1.take n).length) (rdA (l1.drop n) w1) [blkI (l1.take n)]):=vc_by (zC20 l w (cj (rf (1:Int)) (cj h (cj (pv ((0:Int)≤(n:Int)∧(n:Int)≤(l1.length:Int))) (cj (pv (n*8≤140737488355328∧n≤140737488355328)) (cj (pv ((0:Int)≤(n:Int)∧(n:Int)≤(l1.length:Int)∧(l1.length:Int)≤(l1.length:Int))) (cj (show l1.length-n=(List.drop n l1).length from by first | (rw [List.length_drop];done)| (rw [List.length_drop];omega)) (cj (show ∀ (i:Nat),i<l1.length-n→ ∀ (j:Nat),j<1→aI (l1.getD (i+n) (0:Int))=aI (List.getD (List.drop n l1) i (0:Int)) from (fun i hi j hj=>dr_row (j:=j))) (cj (rf w1) (cj (show n=(List.take n l1).length from by rw [List.length_take];omega) (cj (show ∀ (i:Nat),i<n→ ∀ (j:Nat),j<1→aI (l1.getD i 0)=aI (List.getD (List.take n l1) i (0:Int)) from (fun i hi j hj=>tk_row (j:=j) (by omega))) (cj (rf (0:Nat)) (cj (show n=(List.take n l1).length from by rw [List.length_take];omega) trivial))))))))))))) (by kernel_rfl)
theorem nmsC (s:Rs) (hb:s.l.length<1000000):KeepC Try.prog 46 [.bptr 0 0] 70 (rdA s.l s.w) (.own 1 0 1 0 s.nl.length) (rdA s.ns.l s.ns.w) [blkI s.nl]:=KeepC.vc (nms _ _ _ _ (s.cn 1) (cn1_le s) (Nat.lt_of_le_of_lt (nx_len s) hb) (cnt1C s hb))
theorem zC21 (l3:List Int) (w3:Bool) {Z:Prop} (z:Z):(RF l3.length (RR l3.length 1 (fun i j=>aI (l3.getD i 0)) (RF w3 Z))):=⟨rfl,fun _ _ _ _=>rfl,rfl,z⟩
theorem zC22 (l2:List Int) (w2:Bool) {Z:Prop} (z:Z):(RF l2.length (RR l2.length 1 (fun i j=>aI (l2.getD i 0)) (RF w2 Z))):=⟨rfl,fun _ _ _ _=>rfl,rfl,z⟩
theorem zC23 (l1:List Int) (w1:Bool) {Z:Prop} (z:Z):(RF l1.length (RR l1.length 1 (fun i j=>aI (l1.getD i 0)) (RF w1 Z))):=⟨rfl,fun _ _ _ _=>rfl,rfl,z⟩
theorem zC24 (l0:List Int) (w0:Bool) {Z:Prop} (z:Z):(RF l0.length (RR l0.length 1 (fun i j=>aI (l0.getD i 0)) (RF w0 Z))):=⟨rfl,fun _ _ _ _=>rfl,rfl,z⟩
theorem rgs (l0 l1 l2 l3 l4:List Int) (w0 w1 w2 w3 w4:Bool) (a0 a1 a2 a3:Int) (h0:KeepC Try.prog 47 [.bptr 0 0] 70 (rdA l0 w0) (.int .i64 a0) (rdA l1 w1) []) (h1:KeepC Try.prog 47 [.bptr 0 0] 70 (rdA l1 w1) (.int .i64 a1) (rdA l2 w2) []) (h2:KeepC Try.prog 47 [.bptr 0 0] 70 (rdA l2 w2) (.int .i64 a2) (rdA l3 w3) []) (h3:KeepC Try.prog 47 [.bptr 0 0] 70 (rdA l3 w3) (.int .i64 a3) (rdA l4 w4) []):Vc (vcK Try.prog false 64 [.bptr 0 0] 70 (rdA l0 w0) [.ck [.bptr 0 0] 0 70 (rdA l0 w0) (.int .i64 a0) (rdA l1 w1) [], .ck [.bptr 0 0] 0 70 (rdA l1 w1) (.int .i64 a1) (rdA l2 w2) [], .ck [.bptr 0 0] 0 70 (rdA l2 w2) (.int .i64 a2) (rdA l3 w3) [], .ck [.bptr 0 0] 0 70 (rdA l3 w3) (.int .i64 a3) (rdA l4 w4) []] [(0,0)] (.agg [.int .i64 a0, .int .i64 a1, .int .i64 a2, .int .i64 a3]) (rdA l4 w4) []):=vc_by (zC24 l0 w0 (cj h0 (zC23 l1 w1 (cj h1 (zC22 l2 w2 (cj h2 (zC21 l3 w3 (cj h3 (cj (rf l4.length) (cj (rr l4.length 1 fun i j=>aI (l4.getD i 0)) (cj (rf w4) (cj (rf a0) (cj (rf a1) (cj (rf a2) (cj (rf a3) trivial))))))))))))))) (by kernel_rfl)
theorem rdRgC (s:Rs) (hb:s.l.length<1000000):KeepC Try.prog 64 [.bptr 0 0] 70 (rdA s.l s.w) (.agg [.int .i64 s.hd, .int .i64 s.nx.hd, .int .i64 s.nx.nx.hd, .int .i64 s.nx.nx.nx.hd]) (rdA s.x4.l s.x4.w) []:=KeepC.vc (rgs _ _ _ _ _ _ _ _ _ _ _ _ _ _ (numC s hb) (numC s.nx (Nat.lt_of_le_of_lt (Nat.le_trans (nx_len _) (Nat.le_refl _)) hb)) (numC s.nx.nx (Nat.lt_of_le_of_lt (Nat.le_trans (nx_len _) (Nat.le_trans (nx_len _) (Nat.le_refl _))) hb)) (numC s.nx.nx.nx (Nat.lt_of_le_of_lt (Nat.le_trans (nx_len _) (Nat.le_trans (nx_len _) (Nat.le_trans (nx_len _) (Nat.le_refl _)))) hb)))
theorem ent (l0 l1 l2 l3 l4 l5 l6 l7 l8:List Int) (w0 w1 w2 w3 w4 w5 w6 w7 w8 b5 b6 b7:Bool) (a0 a1 a2 a3 a4:Int) (h0:KeepC Try.prog 47 [.bptr 0 0] 70 (rdA l0 w0) (.int .i64 a0) (rdA l1 w1) []) (h1:KeepC Try.prog 47 [.bptr 0 0] 70 (rdA l1 w1) (.int .i64 a1) (rdA l2 w2) []) (h2:KeepC Try.prog 47 [.bptr 0 0] 70 (rdA l2 w2) (.int .i64 a2) (rdA l3 w3) []) (h3:KeepC Try.prog 47 [.bptr 0 0] 70 (rdA l3 w3) (.int .i64 a3) (rdA l4 w4) []) (h4:KeepC Try.prog 47 [.bptr 0 0] 70 (rdA l4 w4) (.int .i64 a4) (rdA l5 w5) []) (h5:KeepC Try.prog 78 [.bptr 0 0] 70 (rdA l5 w5) (.bool b5) (rdA l6 w6) []) (h6:KeepC Try.prog 78 [.bptr 0 0] 70 (rdA l6 w6) (.bool b6) (rdA l7 w7) []) (h7:KeepC Try.prog 78 [.bptr 0 0] 70 (rdA l7 w7) (.bool b7) (rdA l8 w8) []):Vc (vcK Try.prog false 66 [.bptr 0 0] 70 (rdA l0 w0) [.ck [.bptr 0 0] 0 70 (rdA l0 w0) (.int .i64 a0) (rdA l1 w1) [], .ck [.bptr 0 0] 0 70 (rdA l1 w1) (.int .i64 a1) (rdA l2 w2) [], .ck [.bptr 0 0] 0 70 (rdA l2 w2) (.int .i64 a2) (rdA l3 w3) [], .ck [.bptr 0 0] 0 70 (rdA l3 w3) (.int .i64 a3) (rdA l4 w4) [], .ck [.bptr 0 0] 0 70 (rdA l4 w4) (.int .i64 a4) (rdA l5 w5) [], .ck [.bptr 0 0] 0 70 (rdA l5 w5) (.bool b5) (rdA l6 w6) [], .ck [.bptr 0 0] 0 70 (rdA l6 w6) (.bool b6) (rdA l7 w7) [], .ck [.bptr 0 0] 0 70 (rdA l7 w7) (.bool b7) (rdA l8 w8) []] [(0,0)] (.agg (enA ⟨a0,a1,a2,a3,a4,b5,b6,b7⟩)) (rdA l8 w8) []):=vc_by (zC24 l0 w0 (cj h0 (zC23 l1 w1 (cj h1 (zC22 l2 w2 (cj h2 (zC21 l3 w3 (cj h3 (cj (rf l4.length) (cj (rr l4.length 1 fun i j=>aI (l4.getD i 0)) (cj (rf w4) (cj h4 (cj (rf l5.length) (cj (rr l5.length 1 fun i j=>aI (l5.getD i 0)) (cj (rf w5) (cj h5 (cj (rf l6.length) (cj (rr l6.length 1 fun i j=>aI (l6.getD i 0)) (cj (rf w6) (cj h6 (cj (rf l7.length) (cj (rr l7.length 1 fun i j=>aI (l7.getD i 0)) (cj (rf w7) (cj h7 (cj (rf l8.length) (cj (rr l8.length 1 fun i j=>aI (l8.getD i 0)) (cj (rf w8) (cj (rf a0) (cj (rf a1) (cj (rf a2) (cj (rf a3) (cj (rf a4) (cj (rf b5) (cj (rf b6) (cj (rf b7) trivial))))))))))))))))))))))))))))))))))) (by kernel_rfl)
theorem entC (s:Rs) (hb:s.l.length<1000000):KeepC Try.prog 66 [.bptr 0 0] 70 (rdA s.l s.w) (.agg (enA s.en)) (rdA s.es.l s.es.w) []:=KeepC.vc (ent _ _ _ _ _ _ _ _ _ _ _ _ _ _ _ _ _ _ _ _ _ _ _ _ _ _ (numC s hb) (numC s.nx (Nat.lt_of_le_of_lt (Nat.le_trans (nx_len _) (Nat.le_refl _)) hb)) (numC s.nx.nx (Nat.lt_of_le_of_lt (Nat.le_trans (nx_len _) (Nat.le_trans (nx_len _) (Nat.le_refl _))) hb)) (numC s.nx.nx.nx (Nat.lt_of_le_of_lt (Nat.le_trans (nx_len _) (Nat.le_trans (nx_len _) (Nat.le_trans (nx_len _) (Nat.le_refl _)))) hb)) (numC s.x4 (Nat.lt_of_le_of_lt (x4_len s) hb)) (flagC s.x5 (Nat.lt_of_le_of_lt (Nat.le_trans (nx_len _) (x4_len s)) hb)) (flagC s.x5.fl (Nat.lt_of_le_of_lt (Nat.le_trans (fl_len _) (Nat.le_trans (nx_len _) (x4_len s))) hb)) (flagC s.x5.fl.fl (Nat.lt_of_le_of_lt (Nat.le_trans (fl_len _) (Nat.le_trans (fl_len _) (Nat.le_trans (nx_len _) (x4_len s)))) hb)))
theorem es_y (s s1:Rs) (e:En) (l:List En) (n k:Nat) (hk:k<n) (hn:n<1000000) (hl:l.length=k) (h:KeepC Try.prog 66 [.bptr 0 0] 70 (rdA s.l s.w) (.agg (enA e)) (rdA s1.l s1.w) []):Vc (vcN Try.prog false (ntOf Try.prog 45) (lpC Try.prog 45 0) (esS s l n k) [.bd true, .ck [.bptr 0 0] 0 70 (rdA s.l s.w) (.agg (enA e)) (rdA s1.l s1.w) []] .nrm [(0,0),(1,1)] (esS s1 (l++[e]) n (k+1))):=vc_by (cj (dt ((k:Int)<(n:Int))) (cj (rf ((Rs.l s).length)) (cj (rr ((Rs.l s).length) 1 fun i j=>aI (List.getD (Rs.l s) i (0:Int))) (cj (rf (Rs.w s)) (cj h (cj (ap l.length 1 48) (cj (i6 ((k:Int)+1)) (cj (rf ((Rs.l s1).length)) (cj (rr ((Rs.l s1).length) 1 fun i j=>aI (List.getD (Rs.l s1) i (0:Int))) (cj (rf (Rs.w s1)) (cj (pv (l.length+1=(l++[e]).length)) (cj (show ∀ (i:Nat),i<l.length+1→ ∀ (j:Nat),j<8→(bif Nat.blt i l.length then rowL enC l i j else List.getD [aI e.pc,aI e.val,aI e.adr,aI e.frm,aI e.nxt,AV.bool e.dn,AV.bool e.kn,AV.bool e.ft] ((i-l.length+0)*8+j) AV.junk)=rowL enC (l++[e]) i j from (fun i hi j hj=>row_if (fun h=>(rowL_left h).symm) (fun h=>by obtain rfl:i=_:=Nat.le_antisymm (Nat.lt_succ_iff.mp hi) (Nat.not_lt.mp h);rw [rowL_last,Nat.sub_self];match j,hj with |0,_=>rfl |1,_=>rfl |2,_=>rfl |3,_=>rfl |4,_=>rfl |5,_=>rfl |6,_=>rfl |7,_=>rfl))) (cj (rf (0:Nat)) (cj (pv (l.length+1=(l++[e]).length)) (cj (rf (n:Int)) (cj (rf ((k:Int)+1)) trivial)))))))))))))))) (by kernel_rfl)
theorem es_e (s:Rs) (l:List En) (n:Nat):Vc (vcN Try.prog false (ntOf Try.prog 45) (lpC Try.prog 45 0) (esS s l n n) [.bd false] (.ext 0) [(0,0),(1,1)] (esS s l n n)):=vc_by (cj (df ((n:Int)<(n:Int))) (cj (rf ((Rs.l s).length)) (cj (rr ((Rs.l s).length) 1 fun i j=>aI (List.getD (Rs.l s) i (0:Int))) (cj (rf (Rs.w s)) (cj (rf l.length) (cj (rr l.length 8 fun i j=>rowL enC l i j) (cj (rf (0:Nat)) (cj (rf l.length) (cj (rf (n:Int)) (cj (rf (n:Int)) trivial)))))))))) (by kernel_rfl)
theorem es_loop (s:Rs) (n:Nat) (hn:n<1000000) (hb:s.l.length<1000000):OkN Try.prog (ntOf Try.prog 45) (.loop (lpC Try.prog 45 0)) (esS s (s.el 0) n 0).st (.ext 0) (esS (s.ek n) (s.el n) n n).st:=
 OkN.loop (P:=Try.prog) (nt:=ntOf Try.prog 45) (c:=lpC Try.prog 45 0) (F:=fun k=>esS (s.ek k) (s.el k) n k) (m:=n) (x:= .ext 0) (J:=esS (s.ek n) (s.el n) n n) (fun k hk=>OkN.vc (es_y (s.ek k) (s.ek k).es (s.ek k).en (s.el k) n k hk hn (el_len s k) (entC _ (Nat.lt_of_le_of_lt (ek_len s k) hb)))) (OkN.vc (es_e _ _ n)) (by simp)
theorem ents (l:List Int) (w:Bool) (s s1:Rs) (b:List En) (n:Nat) (h:KeepC Try.prog 65 [.bptr 0 0, .int .i64 8] 70 (rdA l w) (.int .i64 (n:Nat)) (rdA s.l s.w) []) (hl:OkN Try.prog (ntOf Try.prog 45) (.loop (lpC Try.prog 45 0)) (esS s [] n 0).st (.ext 0) (esS s1 b n n).st):Vc (vcK Try.prog false 45 [.bptr 0 0] 70 (rdA l w) [.ck [.bptr 0 0, .int .i64 8] 0 70 (rdA l w) (.int .i64 (n:Nat)) (rdA s.l s.w) [], .lp [(0,0)] (esS s [] n 0) (.ext 0) (esS s1 b n n)] [(0,0),(1,1)] (.own 1 0 8 0 b.length) (rdA s1.l s1.w) [enB b]):=vc_by (zC20 l w (cj (rf (8:Int)) (cj h (cj (rf ((Rs.l s).length)) (cj (rr ((Rs.l s).length) 1 fun i j=>aI (List.getD (Rs.l s) i (0:Int))) (cj (rf (Rs.w s)) (cj (rf (0:Nat)) (cj (rf (0:Nat)) (cj (rf (0:Nat)) (cj (rf (n:Int)) (cj (rf (0:Int)) (cj hl (cj (rf ((Rs.l s1).length)) (cj (rr ((Rs.l s1).length) 1 fun i j=>aI (List.getD (Rs.l s1) i (0:Int))) (cj (rf (Rs.w s1)) (cj (rf b.length) (cj (rr b.length 8 fun i j=>rowL enC b i j) (cj (rf (0:Nat)) (cj (rf b.length) trivial))))))))))))))))))) (by kernel_rfl)
theorem entsC (s:Rs) (hb:s.l.length<1000000):KeepC Try.prog 45 [.bptr 0 0] 70 (rdA s.l s.w) (.own 1 0 8 0 s.bl.length) (rdA s.bs.l s.bs.w) [enB s.bl]:=KeepC.vc (ents _ _ (s.ct 8) _ _ (s.cn 8) (cnt8C s hb) (es_loop (s.ct 8) (s.cn 8) (by have:=cn8_le s;have:=List.length_tail (l:=s.l);omega) (Nat.lt_of_le_of_lt (ct_len s 8) hb)))
theorem sta (l0 l1 l2 l3 l4 m t:List Int) (w0 w1 w2 w3 w4:Bool) (a0 a1 a2 a3 a4:Int) (h1:KeepC Try.prog 64 [.bptr 0 0] 70 (rdA l0 w0) (.agg [.int .i64 a0, .int .i64 a1, .int .i64 a2, .int .i64 a3]) (rdA l1 w1) []) (h2:KeepC Try.prog 46 [.bptr 0 0] 70 (rdA l1 w1) (.own 1 0 1 0 m.length) (rdA l2 w2) [blkI m]) (h3:KeepC Try.prog 46 [.bptr 0 0] 70 (rdA l2 w2) (.own 1 0 1 0 t.length) (rdA l3 w3) [blkI t]) (h4:KeepC Try.prog 47 [.bptr 0 0] 70 (rdA l3 w3) (.int .i64 a4) (rdA l4 w4) []):Vc (vcK Try.prog false 44 [.bptr 0 0] 70 (rdA l0 w0) [.ck [.bptr 0 0] 0 70 (rdA l0 w0) (.agg [.int .i64 a0, .int .i64 a1, .int .i64 a2, .int .i64 a3]) (rdA l1 w1) [], .ck [.bptr 0 0] 0 70 (rdA l1 w1) (.own 1 0 1 0 m.length) (rdA l2 w2) [blkI m], .ck [.bptr 0 0] 0 70 (rdA l2 w2) (.own 1 0 1 0 t.length) (rdA l3 w3) [blkI t], .ck [.bptr 0 0] 0 70 (rdA l3 w3) (.int .i64 a4) (rdA l4 w4) []] [(0,0),(1,2),(2,3)] (.agg (s8A ⟨a0,a1,a2,a3,m,t,a4⟩ (.own 1 0 1 0 m.length) (.own 2 0 1 0 t.length))) (rdA l4 w4) [blkI m,blkI t]):=vc_by (zC24 l0 w0 (cj h1 (zC23 l1 w1 (cj h2 (zC22 l2 w2 (cj h3 (zC21 l3 w3 (cj h4 (cj (rf l4.length) (cj (rr l4.length 1 fun i j=>aI (l4.getD i 0)) (cj (rf w4) (cj (rf m.length) (cj (rr m.length 1 fun i j=>aI (m.getD i 0)) (cj (rf t.length) (cj (rr t.length 1 fun i j=>aI (t.getD i 0)) (cj (rf a0) (cj (rf a1) (cj (rf a2) (cj (rf a3) (cj (rf (0:Nat)) (cj (rf m.length) (cj (rf (0:Nat)) (cj (rf t.length) (cj (rf a4) trivial)))))))))))))))))))))))) (by kernel_rfl)
theorem staC (s:Rs) (hb:s.l.length<1000000):KeepC Try.prog 44 [.bptr 0 0] 70 (rdA s.l s.w) (.agg (s8A s.st (.own 1 0 1 0 s.st.m.length) (.own 2 0 1 0 s.st.st.length))) (rdA s.ss.l s.ss.w) [blkI s.st.m,blkI s.st.st]:=KeepC.vc (sta _ _ _ _ _ _ _ _ _ _ _ _ _ _ _ _ _ (rdRgC s hb) (nmsC s.x4 (Nat.lt_of_le_of_lt (x4_len s) hb)) (nmsC s.x4.ns (Nat.lt_of_le_of_lt (Nat.le_trans (ns_len _) (x4_len s)) hb)) (numC s.x4.ns.ns (Nat.lt_of_le_of_lt (Nat.le_trans (ns_len _) (Nat.le_trans (ns_len _) (x4_len s))) hb)))
theorem cnf (l0 l1 l2 l3 l4 t:List Int) (b:List En) (w0 w1 w2 w3 w4:Bool) (u:S8) (a:Int) (h1:KeepC Try.prog 44 [.bptr 0 0] 70 (rdA l0 w0) (.agg (s8A u (.own 1 0 1 0 u.m.length) (.own 2 0 1 0 u.st.length))) (rdA l1 w1) [blkI u.m,blkI u.st]) (h2:KeepC Try.prog 45 [.bptr 0 0] 70 (rdA l1 w1) (.own 1 0 8 0 b.length) (rdA l2 w2) [enB b]) (h3:KeepC Try.prog 46 [.bptr 0 0] 70 (rdA l2 w2) (.own 1 0 1 0 t.length) (rdA l3 w3) [blkI t]) (h4:KeepC Try.prog 47 [.bptr 0 0] 70 (rdA l3 w3) (.int .i64 a) (rdA l4 w4) []):Vc (vcK Try.prog false 25 [.bptr 0 0] 70 (rdA l0 w0) [.ck [.bptr 0 0] 0 70 (rdA l0 w0) (.agg (s8A u (.own 1 0 1 0 u.m.length) (.own 2 0 1 0 u.st.length))) (rdA l1 w1) [blkI u.m,blkI u.st], .ck [.bptr 0 0] 0 70 (rdA l1 w1) (.own 1 0 8 0 b.length) (rdA l2 w2) [enB b], .ck [.bptr 0 0] 0 70 (rdA l2 w2) (.own 1 0 1 0 t.length) (rdA l3 w3) [blkI t], .ck [.bptr 0 0] 0 70 (rdA l3 w3) (.int .i64 a) (rdA l4 w4) []] [(0,0),(1,2),(2,3),(3,4),(4,5)] (.agg (s8A u (.own 1 0 1 0 u.m.length) (.own 2 0 1 0 u.st.length)++[.own 3 0 8 0 b.length, .own 4 0 1 0 t.length, .int .i64 a])) (rdA l4 w4) [blkI u.m,blkI u.st,enB b,blkI t]):=vc_by (zC24 l0 w0 (cj h1 (zC23 l1 w1 (cj h2 (zC22 l2 w2 (cj h3 (zC21 l3 w3 (cj h4 (cj (rf l4.length) (cj (rr l4.length 1 fun i j=>aI (l4.getD i 0)) (cj (rf w4) (cj (rf u.m.length) (cj (rr u.m.length 1 fun i j=>aI (u.m.getD i 0)) (cj (rf u.st.length) (cj (rr u.st.length 1 fun i j=>aI (u.st.getD i 0)) (cj (rf b.length) (cj (rr b.length 8 fun i j=>rowL enC b i j) (cj (rf t.length) (cj (rr t.length 1 fun i j=>aI (t.getD i 0)) (cj (rf u.r0) (cj (rf u.r1) (cj (rf u.r2) (cj (rf u.r3) (cj (rf (0:Nat)) (cj (rf u.m.length) (cj (rf (0:Nat)) (cj (rf u.st.length) (cj (rf u.pc) (cj (rf (0:Nat)) (cj (rf b.length) (cj (rf (0:Nat)) (cj (rf t.length) (cj (rf a) trivial))))))))))))))))))))))))))))))))) (by kernel_rfl)
theorem cnfC (s:Rs) (hb:s.l.length<1000000):KeepC Try.prog 25 [.bptr 0 0] 70 (rdA s.l s.w) (.agg (s8A s.cf.s (.own 1 0 1 0 s.cf.s.m.length) (.own 2 0 1 0 s.cf.s.st.length)++[.own 3 0 8 0 s.cf.b.length, .own 4 0 1 0 s.cf.r.length, .int .i64 s.cf.e])) (rdA s.cs.l s.cs.w) [blkI s.cf.s.m,blkI s.cf.s.st,enB s.cf.b,blkI s.cf.r]:=KeepC.vc (cnf _ _ _ _ _ _ _ _ _ _ _ _ _ _ (staC s hb) (entsC s.ss (Nat.lt_of_le_of_lt (ss_len s) hb)) (nmsC s.ss.bs (Nat.lt_of_le_of_lt (Nat.le_trans (bs_len _) (ss_len s)) hb)) (numC s.ss.bs.ns (Nat.lt_of_le_of_lt (Nat.le_trans (ns_len _) (Nat.le_trans (bs_len _) (ss_len s))) hb)))
end
end Go.Proofs.Ytfjapapiappacaa.Px
namespace Go.Proofs.Ytfjapapiappacaa
section
open Go.RowKit
def Ret (v:Value) (w:World) (e:Ending) (w':World):Prop:=e= .returned v∧w=w'
theorem Ret.mk {v v':Value} {w:World} (h:v'=v):Ret v w (.returned v') w:=⟨by rw [h],rfl⟩
theorem Ret.b {X:Value} {a a':Bool} {w:World} (hx:X= .bool a') (h:a'=a):Ret (.bool a) w (.returned X) w:=⟨by rw [hx,h],rfl⟩
theorem Ret.i {X:Value} {k:IntKind} {a a':Int} {w:World} (hx:X= .int k a') (h:a'=a):Ret (.int k a) w (.returned X) w:=⟨by rw [hx,h],rfl⟩
theorem infoI:(Try.prog.info? 3).map (fun i=>(i.zero,i.size,i.bytes))=some (some (.int .i64 0),1,8):=by kernel_rfl
theorem infoB:(Try.prog.info? 5).map (fun i=>(i.zero,i.size,i.bytes))=some (some (.int .u8 0),1,1):=by kernel_rfl
end
end Go.Proofs.Ytfjapapiappacaa
namespace Go.Proofs.Ytfjapapiappacaa
section
open Go.RowKit
theorem grow_own (w:World) (n cap:Nat) (h0:n≤cap) (hc:cap≤maxLen):(w.drew.alloc (.cells (Builtin.zeroCells #[.int .i64 0] n++Builtin.zeroCells #[.int .i64 0] (cap-n)) 3)).ownsRow w.heap.size 3 1 (.slice (some ⟨w.heap.size,0,none⟩) 0 cap) 0 []:=by
 refine ⟨rfl, .inr ⟨w.heap.size,cap,Builtin.zeroCells #[.int .i64 0] n++Builtin.zeroCells #[.int .i64 0] (cap-n),rfl,Nat.le_refl _, ?_,by omega,hc, ?_,by simp⟩⟩
 ·exact heap_alloc_new w.drew _
 ·simp [Builtin.zeroCells];omega
set_option maxHeartbeats 2000000 in
theorem grow_any (n:Nat) (w:World) (h0:0<n) (hn:n≤1000000):
  Calls Try.prog 77 #[.slice none 0 0, .int .i64 n] w (fun e w'=> ∃ v,e= .returned v∧w'.ownsRow w.heap.size 3 1 v 0 []∧Below w.heap.size w w'):=by
 obtain ⟨i0,hi0,hz0,hs0,hb0⟩:=info_parts infoI
 have hrun:=Lib.run_append_nil_zeros (P:=Try.prog) w 22 3 22 3 i0 (.int .i64 0) .i64 .i64 rfl rfl hi0 hz0 n h0 (by omega) (by omega) (by rw [hb0];omega)
 have hge:=grownCap_ge w n 0 3
 have hle:=grownCap_le_maxLen w n 0 3 (by simp only [maxLen];omega)
 go_enter Try.func77,Try.ntmps77
 go_wp2_with (at_builtin;refine Lib.wpList_append_run _ rfl _ _ _ _ rfl _ _ rfl rfl _ _ hrun ?_)
 go_ret
 refine ⟨_,rfl, ?_, ?_⟩
 ·exact grow_own w n _ hge hle
 ·exact upA (upD (up0 w) 1) _
abbrev Part:=Option Addr×Nat×List Int
def Part.v (p:Part):Value:= .slice p.1 p.2.2.length p.2.1
def tot:List Part→Nat
 | []=>0
 |p::l=>p.2.2.length+tot l
def allP:List Part→List Int
 | []=>[]
 |p::l=>p.2.2++allP l
def pd:Part:=(none,0,[])
theorem tot_take {l:List Part} {k:Nat} (h:k<l.length):tot (l.take (k+1))=tot (l.take k)+(l.getD k pd).2.2.length:=by
 induction l generalizing k with
 |nil=>simp at h
 |cons p l ih=>
  cases k with
  |zero=>simp [tot]
  |succ k=>
   have:=ih (k:=k) (by simpa using h)
   simp only [List.take_succ_cons,tot,this,List.getD_cons_succ]
   omega
theorem allP_take {l:List Part} {k:Nat} (h:k<l.length):allP (l.take (k+1))=allP (l.take k)++(l.getD k pd).2.2:=by
 induction l generalizing k with
 |nil=>simp at h
 |cons p l ih=>
  cases k with
  |zero=>simp [allP]
  |succ k=>
   have:=ih (k:=k) (by simpa using h)
   simp only [List.take_succ_cons,allP,this,List.getD_cons_succ,List.append_assoc]
theorem tot_le (l:List Part) (k:Nat):tot (l.take k)≤tot l:=by
 induction l generalizing k with
 |nil=>simp
 |cons p l ih=>
  cases k with
  |zero=>simp [tot]
  |succ k=>simp only [List.take_succ_cons,tot];have:=ih k;omega
theorem allP_len (l:List Part):(allP l).length=tot l:=by
 induction l with
 |nil=>rfl
 |cons p l ih=>simp [allP,tot,ih]
theorem part_at {w:World} {B:Nat} {A:Option Addr} {l:List Part} (h:Rd w B A (l.map Part.v)) {k:Nat} (hk:k<l.length):
  ∃ ad,A=some ad∧ad.block<B∧w.cell? (ad.add k)=some (.slice (l.getD k pd).1 (l.getD k pd).2.2.length (l.getD k pd).2.1):=by
 obtain ⟨ad,e,hb,hc⟩:=h (by simp;omega)
 refine ⟨ad,e,hb,hc k _ ?_⟩
 simp [List.getD,hk,Part.v]
set_option maxHeartbeats 2000000 in
theorem concat_any (A:Option Addr) (n c:Nat) (l:List Part) (w:World) (hn:n=l.length) (hr:Rd w w.heap.size A (l.map Part.v)) (hp: ∀ k,k<l.length→Rd w w.heap.size (l.getD k pd).1 ((l.getD k pd).2.2.map (Value.int .i64))) (h0:0<tot l) (ht:tot l≤1000000) (hl:l.length≤1000):
  Calls Try.prog 61 #[.slice A n c] w (RetOwn w.heap.size 3 ((allP l).map (Value.int .i64)) w):=by
 subst hn
 obtain ⟨i0,hi0,hz0,hs0,hb0⟩:=info_parts infoI
 go_enter Try.func61,Try.ntmps61
 go_wp2_with fail
 go_loopw [3,11] (fun s i wr=> ∃ k:Nat,k≤l.length∧i= .int .i64 k∧s= .int .i64 (tot (l.take k):Nat)∧w=wr) (fun _ i _=>l.length-(intOf i).toNat)
 case atStart=>exact ⟨0,by omega,rfl,rfl,rfl⟩
 case round=>
  obtain ⟨k,hk,rfl,rfl,rfl⟩:=hrel
  by_cases hlt:k<l.length
  ·obtain ⟨ad,rfl,hb,hc⟩:=part_at hr hlt
   have h1:=tot_take hlt
   have h2:=tot_le l (k+1)
   obtain ⟨⟨pa,pc,px⟩,hpd⟩: ∃ p,l.getD k pd=p:=⟨_,rfl⟩
   rw [hpd] at hc h1
   simp only at hc h1
   clear hpd
   go_wp2_with fail
   go_round
   case rel=>
    refine ⟨k+1,by omega,by go_num, ?_,by first |rfl |trivial⟩
    rw [h1];go_num
   case measure=>simp [intOf];omega
  ·obtain rfl:k=l.length:=by omega
   rw [List.take_length]
   go_wp2_with (go_at_call 77;refine (grow_any _ _ h0 ht).mono ?_;rintro e w1 ⟨v1,rfl,hown1,hb1⟩)
   go_loopw [6,27] (fun v i wr=> ∃ k:Nat,k≤l.length∧i= .int .i64 k∧wr.ownsRow w.heap.size 3 1 v (tot (l.take k)) ((allP (l.take k)).map (Value.int .i64))∧Below w.heap.size w wr) (fun _ i _=>l.length-(intOf i).toNat)
   case atStart=>exact ⟨0,by omega,rfl,by simpa [tot,allP] using hown1,hb1⟩
   case round=>
    obtain ⟨k,hk,rfl,hown2,hb2⟩:=hrel
    have hs2:=hb2.size
    by_cases hlt:k<l.length
    ·obtain ⟨ad,rfl,hb,hc⟩:=part_at (hr.below hb2 (Nat.le_refl _)) hlt
     have hrk:=(hp k hlt).below hb2 (Nat.le_refl _)
     have h1:=tot_take hlt
     have h2:=tot_le l (k+1)
     have h3:=allP_take hlt
     obtain ⟨⟨pa,pc,px⟩,hpd⟩: ∃ p,l.getD k pd=p:=⟨_,rfl⟩
     rw [hpd] at hc h1 hrk h3
     simp only at hc h1 hrk h3
     have HA:=Lib.hid h3
     clear hpd h3
     go_wp2_with (at_builtin;refine wp_appR _ rfl (.tmp 31) (.tmp 32) _ rfl w.heap.size 3 i0 _ 8 Try.underlying22 hi0 hz0 hs0 hb0 rfl _ _ _ rfl hown2 w.heap.size _ _ _ _ rfl (by rw [List.length_map]) hrk (ints_one _ _) (by omega) (by omega) hs2 ?_;intro v3 w3 hown3 hb3)
     go_round
     case rel=>
      refine ⟨k+1,by omega,by go_num, ?_,hb2.trans hb3⟩
      rw [h1,HA.out,List.map_append]
      exact hown3
     case measure=>simp [intOf];omega
    ·obtain rfl:k=l.length:=by omega
     go_wp2
     go_ret
     rw [List.take_length] at hown2
     refine ⟨_,rfl, ?_,hb2⟩
     rw [List.length_map,allP_len]
     exact hown2
set_option maxHeartbeats 2000000 in
theorem clone_any (A:Option Addr) (n c:Nat) (xs:List Int) (w:World) (hn:n=xs.length) (hr:Rd w w.heap.size A (xs.map (Value.int .i64))) (hs:n≤1000000):
  Calls Try.prog 33 #[.slice A n c] w (RetOwn w.heap.size 3 (xs.map (Value.int .i64)) w):=by
 subst hn
 obtain ⟨i0,hi0,hz0,hs0,hb0⟩:=info_parts infoI
 cases A with
 |none=>
  have hx:xs=[]:=by have:=hr.none_nil;simpa using this
  subst hx
  have he: ∀ w:World,(binOp .eql 22 (.slice none 0 c) (.slice none 0 0)).run Try.prog w= .ok (.bool true) w:=fun _=>rfl
  go_enter Try.func33,Try.ntmps33
  go_wp2_with fail
  go_ret
  exact ⟨_,rfl,World.ownsRow_nil _ _ _ _,up0 _⟩
 |some ad=>
  have hlit:=own_lit1 w 3 _ rfl
  have he: ∀ w:World,(binOp .eql 22 (.slice (some ad) xs.length c) (.slice none 0 0)).run Try.prog w= .ok (.bool false) w:=fun _=>rfl
  go_enter Try.func33,Try.ntmps33
  go_wp2_with (at_builtin;refine wp_appR _ rfl (.tmp 5) (.tmp 6) _ rfl w.heap.size 3 i0 _ 8 Try.underlying22 hi0 hz0 hs0 hb0 rfl _ 0 [] rfl hlit (w.alloc (.cells #[] 3)).heap.size (some ad) xs.length c (xs.map (Value.int .i64)) rfl (by simp) (hr.allocT _) (ints_one _ _) (by omega) (by omega) (by simp) ?_;intro v1 w1 hown1 hb1)
  go_ret
  refine ⟨_,rfl, ?_,(upA (up0 w) _).trans hb1⟩
  have:=own_zero hown1
  rwa [List.length_map]
end
end Go.Proofs.Ytfjapapiappacaa
namespace Go.Proofs.Ytfjapapiappacaa.Px
section
open Go.RowKit Go.Proofs.Ytfjapapiappacaa.Rx
def PartOk (a:AV) (l:List Int):Prop:=(a= .nils∧l=[])∨ ∃ g,a= .row 1 l.length g∧ ∀ i,i<l.length→g i 0= .int .i64 (l.getD i 0)
theorem PartOk.nil:PartOk .nils []:= .inl ⟨rfl,rfl⟩
theorem PartOk.row (l:List Int):PartOk (.row 1 l.length (rowI l)) l:= .inr ⟨_,rfl,fun _ _=>rfl⟩
theorem PartOk.rep {w:World} {R:Nat→Prop} {a:AV} {l:List Int} {v:Value} (h:PartOk a l) (hr:RepP w R a v) (hR: ∀ g,R g→g<w.heap.size): ∃ A c,v= .slice A l.length c∧Rd w w.heap.size A (l.map (Value.int .i64)):=by
 rcases h with ⟨rfl,rfl⟩|⟨g,rfl,hg⟩
 ·cases hr with
  |nils=>exact ⟨none,0,rfl,Rd.nil⟩
 ·obtain ⟨A,c,e,_,_,h⟩:=hr.ints hR rfl hg
  exact ⟨A,c,e,h⟩
theorem one_arg {args:List AV} {vs:Array Value} {a:AV} (h:args=[a]) (hl:args.length=vs.size) {w:World} {R:Nat→Prop} (ha: ∀ (j:Nat) a v,args[j]? =some a→vs[j]? =some v→RepP w R a v): ∃ v,vs= #[v]∧RepP w R a v:=by
 subst h
 obtain ⟨vs⟩:=vs
 match vs,hl with
 | [v],_=>exact ⟨v,rfl,ha 0 a v rfl rfl⟩
theorem cloneC {a:AV} {l:List Int} (h:PartOk a l) (hl:l.length≤1000000):PureC Try.prog 33 [a] (.own 0 0 1 0 l.length) [blkI l]:=
 PureC.ofOwn (k:= .i64) (l:=l) rfl (fun _ _=>rfl) fun w R vs hR hn ha=>by
  obtain ⟨v,rfl,hv⟩:=one_arg rfl hn ha
  obtain ⟨A,c,rfl,hr⟩:=h.rep hv hR
  exact clone_any A _ c l w rfl hr hl
def partV:Value→Option Addr×Nat
 | .slice A _ c=>(A,c)
 |_=>(none,0)
theorem allP_flat (l:List Part):allP l=(l.map (·.2.2)).flatten:=by
 induction l with
 |nil=>rfl
 |cons p l ih=>simp [allP,ih]
theorem concatC {f:Nat→Nat→AV} {L:List (List Int)} (h: ∀ i,i<L.length→PartOk (f i 0) (L.getD i [])) (h0:0<L.flatten.length) (ht:L.flatten.length≤1000000) (hL:L.length≤1000):
  PureC Try.prog 61 [.row 1 L.length f] (.own 0 0 1 0 L.flatten.length) [blkI L.flatten]:=
 PureC.ofOwn (k:= .i64) (l:=L.flatten) rfl (fun _ _=>rfl) fun w R vs hR hn ha=>by
  obtain ⟨v,rfl,hv⟩:=one_arg rfl hn ha
  cases hv with
  |row A cap u hnc hc hA h1 hu=>
   let l:List Part:=(List.range L.length).map fun i=>((partV (u i 0)).1,(partV (u i 0)).2,L.getD i [])
   have hll:l.length=L.length:=by simp [l]
   have hfl:l.map (·.2.2)=L:=by
    apply List.ext_getElem (by simp [l])
    intro i h1 h2
    simp [l,List.getD,h2]
   have hall:allP l=L.flatten:=by rw [allP_flat,hfl]
   have hpt: ∀ i,i<L.length→l.getD i pd=((partV (u i 0)).1,(partV (u i 0)).2,L.getD i []):=fun i hi=>by
    simp [l,List.getD,hi]
   have hui: ∀ i,i<L.length→u i 0=Part.v (l.getD i pd)∧Rd w w.heap.size (l.getD i pd).1 ((l.getD i pd).2.2.map (Value.int .i64)):=fun i hi=>by
    obtain ⟨A',c',e,hr⟩:=(h i hi).rep (hu i hi 0 (by omega)) hR
    rw [hpt i hi,e]
    exact ⟨rfl,hr⟩
   have htot:tot l=L.flatten.length:=by rw [←allP_len,hall]
   rw [←hall]
   refine concat_any A _ cap l w hll.symm (fun hl=> ?_) (fun i hi=>(hui i (by omega)).2) (by omega) (by omega) (by omega)
   rw [List.length_map,hll] at hl
   obtain ⟨g,o,rfl,hg,hcell⟩:=hA (by omega)
   refine ⟨⟨g,o,none⟩,rfl,hR g hg,fun j x hx=> ?_⟩
   have hj:j<L.length:=by
    have:=(List.getElem?_eq_some_iff.1 hx).1
    simpa [hll] using this
   rw [show Addr.add ⟨g,o,none⟩ j=⟨g,o+j,none⟩ from adr_mk g o j]
   have h4:=hcell j hj 0 (by omega)
   rw [show o+(j*1+0)=o+j by omega] at h4
   rw [h4,(hui j hj).1]
   rw [List.getElem?_map,List.getElem?_eq_getElem (by omega),Option.map_some,Option.some.injEq] at hx
   rw [←hx]
   simp [List.getD,hj,hll]
end
end Go.Proofs.Ytfjapapiappacaa.Px
namespace Go.Proofs.Ytfjapapiappacaa
section
namespace Cd
def nrB (n:Int):Bool:=decide (-1≤n)&&decide (n≤253)
theorem nrB_iff {n:Int}:nrB n=true↔ -1≤n∧n≤253:=by simp [nrB]
theorem nrB_not {n:Int}:nrB n=false↔n< -1∨253<n:=by
 cases h:nrB n
 ·simp [nrB] at h;simp;omega
 ·have:=nrB_iff.1 h;simp;omega
def byteAt (n:Int) (k:Nat):Int:=n%18446744073709551616/2^(8*(7-k))%256
def eight (n:Int):List Int:=(List.range 8).map (byteAt n)
def putN (n:Int):List Int:=if nrB n=true then [n+1] else 255::eight n
def putL:List Int→List Int
 | []=>[]
 |n::l=>putN n++putL l
def numOf (ys:List Int):Int:=ys.foldl (fun u x=>u*256+x) 0
def toI (u:Int):Int:=if u<9223372036854775808 then u else u-18446744073709551616
def fst1:List Int→Option (Int×Nat)
 | []=>none
 |b::r=>if b=255 then (if r.length<8 then none else if nrB (toI (numOf (r.take 8)))=true then none else some (toI (numOf (r.take 8)),9)) else some (b-1,1)
def getF:Nat→List Int→Option (List Int)
 |0,_=>some []
 |f+1,b=>if b=[] then some [] else match fst1 b with
  |none=>none
  |some (n,k)=>(getF f (b.drop k)).map (n:: ·)
def getL (b:List Int):Option (List Int):=getF b.length b
def isB (xs:List Int):Prop:= ∀ x∈xs,0≤x∧x<256
def isI (xs:List Int):Prop:= ∀ x∈xs, -9223372036854775808≤x∧x<9223372036854775808
theorem fst1_size {b:List Int} {n:Int} {k:Nat} (h:fst1 b=some (n,k)):1≤k∧k≤b.length∧(k=1∨k=9):=by
 cases b with
 |nil=>simp [fst1] at h
 |cons x r=>
  simp only [fst1] at h
  split at h
  ·split at h
   ·cases h
   ·split at h
    ·cases h
    ·simp at h;simp;omega
  ·simp at h;simp;omega
theorem getF_fuel: ∀ (f:Nat) (b:List Int),b.length≤f→getF f b=getF b.length b:=by
 intro f
 induction f using Nat.strongRecOn with
 |ind f ih=>
  intro b hb
  cases b with
  |nil=>cases f<;>simp [getF]
  |cons x r=>
   cases f with
   |zero=>simp at hb
   |succ f=>
    simp only [List.length_cons,getF,reduceCtorEq,if_false]
    cases h:fst1 (x::r) with
    |none=>rfl
    |some p=>
     obtain ⟨n,k⟩:=p
     have hk:=fst1_size h
     simp only [List.length_cons] at hk hb
     have hd:((x::r).drop k).length≤r.length:=by rw [List.length_drop];simp;omega
     have e1:=ih f (by omega) ((x::r).drop k) (by omega)
     have e2:=ih r.length (by omega) ((x::r).drop k) hd
     simp only [e1,e2]
theorem getL_nil:getL []=some []:=rfl
theorem getL_none {b:List Int} (hb:b≠[]) (h:fst1 b=none):getL b=none:=by
 cases b with
 |nil=>exact absurd rfl hb
 |cons x r=>simp [getL,getF,h]
theorem getL_step {b:List Int} {n:Int} {k:Nat} (h:fst1 b=some (n,k)):getL b=(getL (b.drop k)).map (n:: ·):=by
 cases b with
 |nil=>simp [fst1] at h
 |cons x r=>
  have hk:=fst1_size h
  have hd:((x::r).drop k).length≤r.length:=by rw [List.length_drop];simp at hk ⊢;omega
  unfold getL
  rw [←getF_fuel r.length _ hd]
  simp [getF,h]
theorem getL_acc {b rest acc:List Int} {n:Int} {k:Nat} (hg:getL b=(getL rest).map (acc++ ·)) (h:fst1 rest=some (n,k)):getL b=(getL (rest.drop k)).map ((acc++[n])++ ·):=by
 rw [hg,getL_step h,Option.map_map]
 congr 1
 funext l
 simp
theorem getF_len: ∀ (f:Nat) (b l:List Int),b.length≤f→getF f b=some l→l.length≤b.length
 |0,b,l,hb,h=>by simp [getF] at h;subst h;simp
 |f+1,b,l,hb,h=>by
  unfold getF at h
  split at h
  ·simp at h;subst h;simp
  ·cases hf:fst1 b with
   |none=>rw [hf] at h;cases h
   |some p=>
    obtain ⟨n,k⟩:=p
    rw [hf] at h
    have hk:=fst1_size hf
    have hd:(b.drop k).length≤f:=by rw [List.length_drop];omega
    cases hg:getF f (b.drop k) with
    |none=>simp [hg] at h
    |some m=>
     simp [hg] at h
     subst h
     have:=getF_len f (b.drop k) m hd hg
     rw [List.length_drop] at this
     simp;omega
theorem getL_len {b l:List Int} (h:getL b=some l):l.length≤b.length:=getF_len _ _ _ (Nat.le_refl _) h
theorem numOf_snoc (ys:List Int) (x:Int):numOf (ys++[x])=numOf ys*256+x:=by simp [numOf,List.foldl_append]
theorem rev_ind {α:Type} {P:List α→Prop} (h0:P []) (h1: ∀ l x,P l→P (l++[x])) (l:List α):P l:=by
 have h: ∀ (n:Nat) (l:List α),l.length=n→P l:=by
  intro n
  induction n with
  |zero=>intro l hl;rw [List.length_eq_zero_iff.1 hl];exact h0
  |succ n ih=>
   intro l hl
   have hne:l≠[]:=by rintro rfl;simp at hl
   rw [←List.dropLast_concat_getLast hne]
   exact h1 _ _ (ih _ (by simp [hl]))
 exact h _ l rfl
theorem numOf_bd {ys:List Int} (h:isB ys):0≤numOf ys∧numOf ys<256^ys.length:=by
 revert h
 refine rev_ind (P:=fun ys=>isB ys→0≤numOf ys∧numOf ys<256^ys.length) (fun _=>by simp [numOf]) ?_ ys
 ·intro ys x ih h
  have h1:=ih (fun y hy=>h y (by simp [hy]))
  have h2:=h x (by simp)
  rw [numOf_snoc,List.length_append,List.length_singleton,Int.pow_succ]
  omega
theorem eight_len (n:Int):(eight n).length=8:=by simp [eight]
theorem putN_len (n:Int):(putN n).length=if nrB n=true then 1 else 9:=by
 unfold putN;split<;>simp [eight_len]
theorem putL_append (l m:List Int):putL (l++m)=putL l++putL m:=by
 induction l with
 |nil=>rfl
 |cons n l ih=>simp [putL,ih]
theorem putL_snoc (l:List Int) (n:Int):putL (l++[n])=putL l++putN n:=by rw [putL_append];simp [putL]
theorem putL_len_le (l:List Int):(putL l).length≤9*l.length:=by
 induction l with
 |nil=>simp [putL]
 |cons n l ih=>
  have:=putN_len n
  simp only [putL,List.length_append,List.length_cons]
  split at this<;>omega
end Cd
end
end Go.Proofs.Ytfjapapiappacaa
namespace Go.Proofs.Ytfjapapiappacaa
section
open Go.RowKit
theorem narrow_any (n:Int) (w:World):Calls Try.prog 63 #[.int .i64 n] w (Ret (.bool (Cd.nrB n)) w):=by
 by_cases h1: -1≤n
 all_goals by_cases h2:n≤253
 all_goals
  go_enter Try.func63,Try.ntmps63
  go_wp2
  go_ret
  exact Ret.b rfl (by simp [Cd.nrB];omega)
theorem eight_snoc (m:Int) (k:Nat) (h:k<8):(Cd.eight m).take (k+1)=(Cd.eight m).take k++[Cd.byteAt m k]:=by
 rw [List.take_succ_eq_append_getElem (by rw [Cd.eight_len];exact h)]
 simp [Cd.eight]
theorem byteAt_w (m:Int) (k:Nat):IntKind.u64.wrap m/2^(8*(7-k))%256=Cd.byteAt m k:=by unfold Cd.byteAt;rw [IntKind.wrap_u64]
theorem RetOwn.mk {B:Nat} {t:TypeId} {xs ys:List Value} {n:Nat} {w w':World} {v:Value} (h:w'.ownsRow B t 1 v n ys) (he:ys=xs) (hb:Below B w w'):RetOwn B t xs w (.returned v) w':=by
 subst he
 have:=own_len h
 subst this
 exact ⟨v,rfl,h,hb⟩
set_option maxHeartbeats 1000000 in
theorem put_any (B:Nat) (v:Value) (n:Nat) (xs:List Int) (m:Int) (w:World) (hown:w.ownsRow B 5 1 v n (xs.map (Value.int .u8))) (hB:B≤w.heap.size) (hn:n≤1099511627000)
  (h1: -9223372036854775808≤m) (h2:m<9223372036854775808):
  Calls Try.prog 62 #[v, .int .i64 m] w (RetOwn B 5 ((xs++Cd.putN m).map (Value.int .u8)) w):=by
 obtain ⟨i0,hi0,hz0,hs0,hb0⟩:=info_parts infoB
 cases hnr:Cd.nrB m
 ·have hp:(xs++Cd.putN m).map (Value.int .u8)=(xs.map (Value.int .u8)++[Value.int .u8 255])++(Cd.eight m).map (Value.int .u8):=by simp [Cd.putN,hnr]
  have HP:=Lib.hid hp
  clear hp
  go_enter Try.func62,Try.ntmps62
  go_wp2_with (first
   | (go_at_call 63;refine (narrow_any _ _).mono ?_;rintro e w' ⟨rfl,rfl⟩)
   | (at_builtin;refine wp_app1 _ rfl (.tmp 14) (.tmp 15) _ rfl B 5 i0 _ 1 Try.underlying33 hi0 hz0 hs0 hb0 rfl v n _ rfl hown (.int .u8 255) rfl rfl (by omega) (by omega) hB ?_;intro v1 w1 hown1 hb1))
  go_loopw [0,5] (fun v i wr=> ∃ k:Nat,k≤8∧i= .int .i64 (7-k)∧wr.ownsRow B 5 1 v (n+1+k) ((xs.map (Value.int .u8)++[Value.int .u8 255])++((Cd.eight m).take k).map (Value.int .u8))∧Below B w wr) (fun _ i _=>(intOf i+1).toNat)
  case atStart=>exact ⟨0,by omega,rfl,by simpa using hown1,hb1⟩
  case round=>
   obtain ⟨k,hk,rfl,hown2,hb2⟩:=hrel
   by_cases hlt:k<8
   ·have hB2:B≤wr.heap.size:=by have:=hb2.size;omega
    go_wp2_with (at_builtin;refine wp_app1 _ rfl (.tmp 21) (.tmp 28) _ rfl B 5 i0 _ 1 Try.underlying33 hi0 hz0 hs0 hb0 rfl _ (n+1+k) _ rfl hown2 _ rfl rfl (by omega) (by omega) hB2 ?_;intro v3 w3 hown3 hb3)
    go_round
    case rel=>
     refine ⟨k+1,by omega,by go_num, ?_,hb2.trans hb3⟩
     rw [eight_snoc m k hlt,List.map_append,List.map_cons,List.map_nil, ←List.append_assoc]
     rw [byteAt_w] at hown3
     exact hown3
    case measure=>simp [intOf];omega
   ·have:k=8:=by omega
    subst this
    go_wp2
    go_ret
    refine RetOwn.mk hown2 ?_ hb2
    rw [HP.out,List.take_of_length_le (by rw [Cd.eight_len];omega)]
 ·have hm:=Cd.nrB_iff.1 hnr
  obtain ⟨hm1,hm2⟩:=hm
  have hp:(xs++Cd.putN m).map (Value.int .u8)=xs.map (Value.int .u8)++[Value.int .u8 (m+1)]:=by simp [Cd.putN,hnr]
  have HP:=Lib.hid hp
  clear hp
  go_enter Try.func62,Try.ntmps62
  go_wp2_with (first
   | (go_at_call 63;refine (narrow_any _ _).mono ?_;rintro e w' ⟨rfl,rfl⟩)
   | (at_builtin;refine wp_app1 _ rfl (.tmp 8) (.tmp 12) _ rfl B 5 i0 _ 1 Try.underlying33 hi0 hz0 hs0 hb0 rfl v n _ rfl hown (.int .u8 (m+1)) rfl rfl (by omega) (by omega) hB ?_;intro v1 w1 hown1 hb1))
  go_ret
  exact RetOwn.mk hown1 HP.out.symm hb1
theorem isI_at {l:List Int} (h:Cd.isI l) {k:Nat} (hk:k<l.length): -9223372036854775808≤l.getD k 0∧l.getD k 0<9223372036854775808:=by
 have:=h l[k] (List.getElem_mem hk)
 simpa [List.getD,hk] using this
theorem take_snoc (l:List Int) (k:Nat) (h:k<l.length):l.take (k+1)=l.take k++[l.getD k 0]:=by
 rw [List.take_succ_eq_append_getElem h]
 simp [List.getD,h]
set_option maxHeartbeats 1000000 in
theorem Put_any (A:Option Addr) (n c:Nat) (l:List Int) (w:World) (hn:n=l.length) (hx:Rd w w.heap.size A (l.map (Value.int .i64))) (hl:Cd.isI l) (hs:n≤1000000):
  Calls Try.prog 42 #[.slice A n c] w (RetOwn w.heap.size 5 ((Cd.putL l).map (Value.int .u8)) w):=by
 subst hn
 obtain ⟨i0,hi0,hz0,hs0,hb0⟩:=info_parts infoB
 go_enter Try.func42,Try.ntmps42
 go_wp2_with (at_make;refine wpList_make_own _ rfl _ _ 33 rfl w.heap.size 5 i0 _ 1 Try.underlying33 hi0 hz0 hs0 _ _ _ l.length rfl rfl (by omega) (by rw [hb0];omega) (by simp only [maxLen];omega) (by omega) ?_;intro w1 hown1 hg1)
 have hb1:Below w.heap.size w w1:=(Below.refl _ _).grown hg1 (by omega) (by simp)
 go_loopw [3,11] (fun v i wr=> ∃ k:Nat,k≤l.length∧i= .int .i64 k∧wr.ownsRow w.heap.size 5 1 v ((Cd.putL (l.take k)).map (Value.int .u8)).length ((Cd.putL (l.take k)).map (Value.int .u8))∧Below w.heap.size w wr) (fun _ i _=>l.length-(intOf i).toNat)
 case atStart=>exact ⟨0,by omega,rfl,by simpa [Cd.putL] using hown1,hb1⟩
 case round=>
  obtain ⟨k,hk,rfl,hown2,hb2⟩:=hrel
  have hs2:=hb2.size
  by_cases hlt:k<l.length
  ·have hx2:=hx.below hb2 (by omega)
   obtain ⟨ad,rfl,hb,hc⟩:=hx2.at_ (k:=k) hlt
   have hz:=isI_at hl hlt
   have hlen:((Cd.putL (l.take k)).map (Value.int .u8)).length≤9000000:=by
    rw [List.length_map]
    have:=Cd.putL_len_le (l.take k)
    rw [List.length_take] at this
    omega
   go_wp2_with (go_at_call 62;refine (put_any w.heap.size _ _ _ _ _ hown2 (by omega) (by omega) (by first |exact hz.1 | (simpa [List.getD,hlt] using hz.1)) (by first |exact hz.2 | (simpa [List.getD,hlt] using hz.2))).mono ?_;rintro e w' ⟨v3,rfl,hown3,hb3⟩)
   go_round
   case rel=>
    refine ⟨k+1,by omega,by go_num, ?_,hb2.trans hb3⟩
    rw [take_snoc l k hlt,Cd.putL_snoc]
    simpa [List.getD,hlt] using hown3
   case measure=>simp [intOf];omega
  ·go_wp2
   go_ret
   have hk:k=l.length:=by omega
   subst hk
   rw [List.take_of_length_le (by omega)] at hown2
   exact ⟨_,rfl,hown2,hb2⟩
end
end Go.Proofs.Ytfjapapiappacaa
