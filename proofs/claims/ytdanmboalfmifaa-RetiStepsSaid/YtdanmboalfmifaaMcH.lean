import Derived.Test.YtdanmboalfmifaaMcG
import Derived.Test.YtdanmboalfmifaaMcD
import Derived.Test.YtdanmboalfmifaaMcB
import Derived.Lib.AppendZeros
import Derived.Deep.QuietTactic
import Derived.Laws.Rows
import Derived.Test.YtdanmboalfmifaaMcF
import Derived.Test.YtdanmboalfmifaaMcE
set_option linter.unusedVariables false
set_option linter.unusedSimpArgs false
set_option maxRecDepth 100000
namespace Go.Proofs.Ytdanmboalfmifaa.Px
section
open Go.RowKit Go.Proofs.Ytdanmboalfmifaa.Rx
theorem vp(p:Pg)(l:List En)(i a:Int): ∀j k q,hzG p l i a k j=some q->k<=q
 |0,_,_,e=>by cases e
 |j+1,k,q,e=>by
  unfold hzG at e
  split at e
  ·cases e;exact aG _
  ·have:=vp p l i a j (k+1) q e
   omega
theorem EC.adr{p:Pg}{c d:Cf}{k:Nat}(h:EC p c k)(hL:Loc p c d k)(h3:(enX p c k).kind=3)(hn:(c.b.getD k default).kn=false)(hab:tAB p c k (enX p c k)=true){ft:Bool}(hft:ft=decide ((c.s.m.length:Int)<=adV p c k (enX p c k)))(he:d.b.getD k default={c.b.getD k default with adr:=adV p c k (enX p c k),kn:=true,ft:=ft}):EC p d k:=by
 have hx:enX p d k=enX p c k:=by
  unfold enX
  rw[he]
 refine⟨fun hd _=> ?_,fun _=> .inl (by rw[hx];exact h3),fun _ _=> ?_,fun _ hk=> ?_,fun hk=> ?_,fun _=> ?_,fun hk=> ?_⟩
 ·rw[he] at hd
  obtain⟨h1,h2,_⟩:=h.don hd (by omega)
  have ho:ouV p c k=((c.b.getD k default).done.vl (tD p c k (enX p c k)).1,none,[]):=by
   unfold ouV
   rw[af (by omega),af (by omega),ai h3]
  have ho2:ouV p d k=((d.b.getD k default).done.vl (tD p c k (enX p c k)).1,none,[]):=by
   unfold ouV tD
   rw[hx,af (by omega),af (by omega),ai h3,hL.reg]
  rw[ho] at h2
  rw[hx,hL.cnK,ho2,he]
  refine⟨h1, ?_,fun t ht=>by cases ht⟩
  have g1:(c.b.getD k default).dn=true:=hd
  have g2:(tD p c k (enX p c k)).1=(c.b.getD k default).val:=congrArg En.val h2
  rw[g2]
  revert g1
  generalize c.b.getD k default=e0
  intro g1
  obtain⟨x1,x2,x3,x4,x5,x6,x7,x8⟩:=e0
  obtain rfl:x6=true:=g1
  rfl
 ·rw[hx,(hL.tAB _).1,(hL.tAB _).2,hL.m,he]
  exact⟨hab,rfl,hft⟩
 ·rw[he] at hk;cases hk
 ·rw[hx] at hk;omega
 ·rw[he]
  exact h.nx1 (.inl (by omega))
 ·rw[hx] at hk;omega
theorem Cor.adrO{p:Pg}{c d:Cf}{o:List Ob}{i:Int}(h:Cor p c)(e:adrO p c i=some (d,o)):Cor p d∧hdP d=hdP c:=by
 unfold Px.adrO at e
 split at e
 ·rename_i hc
  obtain⟨k,rfl,hk,hn,hK⟩:=mw hc
  have hab:tAB p c k (enX p c k)=true:=by
   unfold caV at hc
   rw[aK] at hc
   exact(eW (eW (eW hc).2).2).2
  have h3:(enX p c k).kind=3:=by
   unfold caV at hc
   rw[aK] at hc
   exact ay.1 (eW (eW (eW hc).2).2).1
  rw[aK,ah] at e
  generalize hA:adV p c k (enX p c k)=a at*
  have main: ∀ft:Bool,ft=decide ((c.s.m.length:Int)<=a)->(∀j,k<j->j<c.b.length->(c.s.m.length:Int)<=a∨ ¬((enX p c j).kind=2∧(c.b.getD j default).kn=true∧(c.b.getD j default).adr=a∧(c.b.getD j default).frm<k)->EC p ⟨c.s,c.b.set k {c.b.getD k default with adr:=a,kn:=true,ft:=ft},c.r,c.e⟩ j)∧(∀j,j<=k->EC p ⟨c.s,c.b.set k {c.b.getD k default with adr:=a,kn:=true,ft:=ft},c.r,c.e⟩ j):=fun ft hft=>by
   have g: ∀j,(c.b.set k {c.b.getD k default with adr:=a,kn:=true,ft:=ft}).getD j default=if k=j then{c.b.getD k default with adr:=a,kn:=true,ft:=ft} else c.b.getD j default:=fun j=>cB c.b k j _ hk
   refine⟨fun j h1 h2 h4=>EC.told (h.ent j h2) h1 h2 rfl rfl h3 hn h4,fun j h1=> ?_⟩
   by_cases hjk:j=k
   ·subst hjk
    refine EC.adr (h.ent j hk) ⟨hk,by show j<(c.b.set _ _).length;rw[av];exact hk,fun _=>rfl,rfl,rfl,fun i hi=>by rw[g,af (by omega)]⟩ h3 hn hab (ft:=ft) (by rw[hA];exact hft) ?_
    rw[g,ai rfl,hA]
   ·exact(h.ent j (by omega)).alk (Alk.loc (by omega) (by show j<(c.b.set _ _).length;rw[av];omega) (fun _=>rfl) rfl rfl rfl fun i hi=>by rw[g,af (by omega)])
  have gp: ∀(ft:Bool) j,((c.b.set k {c.b.getD k default with adr:=a,kn:=true,ft:=ft}).getD j default).pc=(c.b.getD j default).pc∧((c.b.set k {c.b.getD k default with adr:=a,kn:=true,ft:=ft}).getD j default).nxt=(c.b.getD j default).nxt:=fun ft j=>by
   rw[cB c.b k j _ hk]
   split
   ·rename_i q;subst q;exact⟨rfl,rfl⟩
   ·exact⟨rfl,rfl⟩
  have whole: ∀ft:Bool,ft=decide ((c.s.m.length:Int)<=a)->(∀j,k<j->j<c.b.length->(c.s.m.length:Int)<=a∨ ¬((enX p c j).kind=2∧(c.b.getD j default).kn=true∧(c.b.getD j default).adr=a∧(c.b.getD j default).frm<k))->Cor p ⟨c.s,c.b.set k {c.b.getD k default with adr:=a,kn:=true,ft:=ft},c.r,c.e⟩∧hdP ⟨c.s,c.b.set k {c.b.getD k default with adr:=a,kn:=true,ft:=ft},c.r,c.e⟩=hdP c:=fun ft hft hz=>by
   have hl:(c.b.set k {c.b.getD k default with adr:=a,kn:=true,ft:=ft}).length=c.b.length:=av
   obtain⟨m1,m2⟩:=main ft hft
   refine⟨⟨fun j hj=> ?_,fun j hj=> ?_,fun j hj=> ?_⟩, ?_⟩
   ·have hj:j<c.b.length:=by rw[<-hl];exact hj
    by_cases hjk:j<=k
    ·exact m2 j hjk
    ·exact m1 j (by omega) hj (hz j (by omega) hj)
   ·have hj:j+1<c.b.length:=by rw[<-hl];exact hj
    show((c.b.set k _).getD (j+1) default).pc=((c.b.set k _).getD j default).nxt
    rw[(gp ft _).1,(gp ft _).2];exact h.chn j hj
   ·have hj:j+1=c.b.length:=by rw[<-hl];exact hj
    show c.s.pc=((c.b.set k _).getD j default).nxt
    rw[(gp ft _).2];exact h.lst j hj
   ·unfold hdP
    show(if(c.b.set k _).length=0 then c.s.pc else((c.b.set k _).getD 0 default).pc)=_
    rw[hl,(gp ft 0).1]
  unfold qK at e
  rw[hA] at e
  split at e
  ·rename_i hm
   obtain⟨rfl,_⟩:=Prod.mk.inj e
   exact whole true (ca hm).symm fun _ _ _=> .inl hm
  ·rename_i hm
   have hf:(c.b.getD k default).ft=decide ((c.s.m.length:Int)<=a):=by
    rw[bD hm]
    exact(h.ent k hk).f3 h3 hn
   have hU:(upE c k fun e=>e.ad a)=⟨c.s,c.b.set k {c.b.getD k default with adr:=a,kn:=true,ft:=(c.b.getD k default).ft},c.r,c.e⟩:=rfl
   generalize hft:(c.b.getD k default).ft=ft at hf hU
   have hlen:(upE c k fun e=>e.ad a).b.length=c.b.length:=av
   have hzB: ∀j,k<j->(hzB p (upE c k fun e=>e.ad a).b k a j↔(enX p c j).kind=2∧(c.b.getD j default).kn=true∧(c.b.getD j default).adr=a∧(c.b.getD j default).frm<k):=fun j hj=>by
    have e1:(upE c k fun e=>e.ad a).b.getD j default=c.b.getD j default:=by
     show(c.b.set k _).getD j default=_
     rw[cB c.b k j _ hk,af (by omega)]
    unfold Px.hzB enI enX
    rw[e1]
   have hz0:hz0 (k:Int) (upE c k fun e=>e.ad a).b.length=k+1:=by
    rw[hlen];unfold Px.hz0;omega
   split at e
   ·rename_i q hz
    obtain⟨rfl,_⟩:=Prod.mk.inj e
    unfold hzV at hz
    split at hz
    ·rename_i n hn2
     have hq:(n:Int)=q:=congrArg Prod.fst hz
     subst hq
     rw[hz0,hlen] at hn2
     have hge:=vp p _ _ _ _ _ _ hn2
     have hmin:=rK p _ _ _ _ _ _ hn2
     have hnl:n<c.b.length:=by
      have:=qx p _ _ _ _ _ _ hn2
      omega
     rw[aK,hU]
     obtain⟨m1,m2⟩:=main ft hf
     have hl:((c.b.set k {c.b.getD k default with adr:=a,kn:=true,ft:=ft}).take n).length=n:=by rw[aT,av];omega
     have gt: ∀j,j<n->((c.b.set k {c.b.getD k default with adr:=a,kn:=true,ft:=ft}).take n).getD j default=(c.b.set k {c.b.getD k default with adr:=a,kn:=true,ft:=ft}).getD j default:=fun j hj=>zd _ hj
     refine⟨⟨fun j hj=> ?_,fun j hj=> ?_,fun j hj=> ?_⟩, ?_⟩
     ·have hj:j<n:=by rw[<-hl];exact hj
      have hE:EC p ⟨c.s,c.b.set k {c.b.getD k default with adr:=a,kn:=true,ft:=ft},c.r,c.e⟩ j:=by
       by_cases hjk:j<=k
       ·exact m2 j hjk
       ·refine m1 j (by omega) (by omega) (.inr fun hh=>hmin j (by omega) hj ((hzB j (by omega)).2 hh))
      exact hE.alk (Alk.loc (by show j<(c.b.set _ _).length;rw[av];omega) (by rw[hl];exact hj) (fun _=>rfl) rfl rfl rfl fun i hi=>gt i (by omega))
     ·have hj:j+1<n:=by rw[<-hl];exact hj
      show(((c.b.set k _).take n).getD (j+1) default).pc=(((c.b.set k _).take n).getD j default).nxt
      rw[gt _ hj,gt _ (by omega),(gp ft _).1,(gp ft _).2];exact h.chn j (by omega)
     ·have hj:j+1=n:=by rw[<-hl];exact hj
      show((c.b.set k _).getD n default).pc=(((c.b.set k _).take n).getD j default).nxt
      rw[gt _ (by omega),(gp ft _).1,(gp ft _).2, <-hj];exact h.chn j (by omega)
     ·unfold hdP
      show(if((c.b.set k _).take n).length=0 then _ else(((c.b.set k _).take n).getD 0 default).pc)=_
      rw[hl,af (by omega),af (by omega),gt 0 (by omega),(gp ft 0).1]
    ·cases hz
   ·rename_i q hz
    obtain⟨rfl,_⟩:=Prod.mk.inj e
    rw[hU]
    refine whole ft hf fun j h1 h2=> .inr fun hh=> ?_
    unfold hzV at hz
    split at hz
    ·cases hz
    ·rename_i hn2
     rw[hz0,hlen] at hn2
     exact pw p _ _ _ _ _ hn2 j (by omega) (by omega) ((hzB j h1).2 hh)
 ·cases e
def cC(W c len:Int)(i:In)(s:S8):S8×List Ob×Int:=
 if i.kind=1 then((s.set i.d (Wd.doV W i.op (vlV W s i.a) (vlV W s i.b))).go (s.pc+1),[],0)
 else if i.kind=4 then(if vlV W s i.a=0 then s.go (s.pc+1) else(s.set i.d (vlV W s i.b)).go (s.pc+1),[],0)
 else if i.kind=2 then(if Wd.maskV W (vlV W s i.a+vlV W s i.b)<c then((s.set i.d (s.m.getD (Wd.maskV W (vlV W s i.a+vlV W s i.b)).toNat 0)).go (s.pc+1),[⟨1,Wd.maskV W (vlV W s i.a+vlV W s i.b)⟩],0) else(s,[],2))
 else if i.kind=3 then(if Wd.maskV W (vlV W s i.a+vlV W s i.b)<c then({s with m:=s.m.set (Wd.maskV W (vlV W s i.a+vlV W s i.b)).toNat (s.reg i.d),pc:=s.pc+1},[⟨2,Wd.maskV W (vlV W s i.a+vlV W s i.b)⟩],0) else(s,[],2))
 else if i.kind=5 then(if Wd.doV W i.op (vlV W s i.a) (vlV W s i.b)=0 then(s.go (s.pc+1),[⟨3,s.pc+1⟩],0) else(s.go i.tg,[⟨3,i.tg⟩],0))
 else if i.kind=6 then(s.go i.tg,[],0)
 else if i.kind=7 then(s.go (if len<vlV W s i.a then len else vlV W s i.a),[⟨3,if len<vlV W s i.a then len else vlV W s i.a⟩],0)
 else if i.kind=8 then(if 4<=s.st.length then(s,[],2) else({s with st:=s.st++[s.pc+1],pc:=i.tg},[],0))
 else if i.kind=9 then(if s.st.length=0 then(s,[],2) else({s with st:=s.st.take (s.st.length-1),pc:=s.st.getD (s.st.length-1) 0},[⟨3,s.st.getD (s.st.length-1) 0⟩],0))
 else if i.kind=10 then(s.go (s.pc+1),[],0)
 else if i.kind=11 then(s,[],1)
 else(s,[],2)
theorem qd{Q:S8×List Ob×Int->Prop}(W c len:Int)(i:In)(s:S8)
  (h1:i.kind=1->Q ((s.set i.d (Wd.doV W i.op (vlV W s i.a) (vlV W s i.b))).go (s.pc+1),[],0))
  (h4a:i.kind=4->vlV W s i.a=0->Q (s.go (s.pc+1),[],0))
  (h4b:i.kind=4-> ¬vlV W s i.a=0->Q ((s.set i.d (vlV W s i.b)).go (s.pc+1),[],0))
  (h2a:i.kind=2->Wd.maskV W (vlV W s i.a+vlV W s i.b)<c->Q ((s.set i.d (s.m.getD (Wd.maskV W (vlV W s i.a+vlV W s i.b)).toNat 0)).go (s.pc+1),[⟨1,Wd.maskV W (vlV W s i.a+vlV W s i.b)⟩],0))
  (h2b:i.kind=2-> ¬Wd.maskV W (vlV W s i.a+vlV W s i.b)<c->Q (s,[],2))
  (h3a:i.kind=3->Wd.maskV W (vlV W s i.a+vlV W s i.b)<c->Q ({s with m:=s.m.set (Wd.maskV W (vlV W s i.a+vlV W s i.b)).toNat (s.reg i.d),pc:=s.pc+1},[⟨2,Wd.maskV W (vlV W s i.a+vlV W s i.b)⟩],0))
  (h3b:i.kind=3-> ¬Wd.maskV W (vlV W s i.a+vlV W s i.b)<c->Q (s,[],2))
  (h5a:i.kind=5->Wd.doV W i.op (vlV W s i.a) (vlV W s i.b)=0->Q (s.go (s.pc+1),[⟨3,s.pc+1⟩],0))
  (h5b:i.kind=5-> ¬Wd.doV W i.op (vlV W s i.a) (vlV W s i.b)=0->Q (s.go i.tg,[⟨3,i.tg⟩],0))
  (h6:i.kind=6->Q (s.go i.tg,[],0))
  (h7:i.kind=7->Q (s.go (if len<vlV W s i.a then len else vlV W s i.a),[⟨3,if len<vlV W s i.a then len else vlV W s i.a⟩],0))
  (h8a:i.kind=8->4<=s.st.length->Q (s,[],2))
  (h8b:i.kind=8-> ¬4<=s.st.length->Q ({s with st:=s.st++[s.pc+1],pc:=i.tg},[],0))
  (h9a:i.kind=9->s.st.length=0->Q (s,[],2))
  (h9b:i.kind=9-> ¬s.st.length=0->Q ({s with st:=s.st.take (s.st.length-1),pc:=s.st.getD (s.st.length-1) 0},[⟨3,s.st.getD (s.st.length-1) 0⟩],0))
  (h10:i.kind=10->Q (s.go (s.pc+1),[],0))
  (h11:i.kind=11->Q (s,[],1))
  (h0:(i.kind≠1∧i.kind≠4∧i.kind≠2∧i.kind≠3∧i.kind≠5∧i.kind≠6∧i.kind≠7∧i.kind≠8∧i.kind≠9∧i.kind≠10∧i.kind≠11)->Q (s,[],2)):Q (cC W c len i s):=by
 unfold cC
 by_cases k1:i.kind=1
 ·rw[ai k1];exact h1 k1
 rw[af k1]
 by_cases k4:i.kind=4
 ·rw[ai k4]
  by_cases q:vlV W s i.a=0
  ·rw[ai q];exact h4a k4 q
  ·rw[af q];exact h4b k4 q
 rw[af k4]
 by_cases k2:i.kind=2
 ·rw[ai k2]
  by_cases q:Wd.maskV W (vlV W s i.a+vlV W s i.b)<c
  ·rw[ai q];exact h2a k2 q
  ·rw[af q];exact h2b k2 q
 rw[af k2]
 by_cases k3:i.kind=3
 ·rw[ai k3]
  by_cases q:Wd.maskV W (vlV W s i.a+vlV W s i.b)<c
  ·rw[ai q];exact h3a k3 q
  ·rw[af q];exact h3b k3 q
 rw[af k3]
 by_cases k5:i.kind=5
 ·rw[ai k5]
  by_cases q:Wd.doV W i.op (vlV W s i.a) (vlV W s i.b)=0
  ·rw[ai q];exact h5a k5 q
  ·rw[af q];exact h5b k5 q
 rw[af k5]
 by_cases k6:i.kind=6
 ·rw[ai k6];exact h6 k6
 rw[af k6]
 by_cases k7:i.kind=7
 ·rw[ai k7];exact h7 k7
 rw[af k7]
 by_cases k8:i.kind=8
 ·rw[ai k8]
  by_cases q:4<=s.st.length
  ·rw[ai q];exact h8a k8 q
  ·rw[af q];exact h8b k8 q
 rw[af k8]
 by_cases k9:i.kind=9
 ·rw[ai k9]
  by_cases q:s.st.length=0
  ·rw[ai q];exact h9a k9 q
  ·rw[af q];exact h9b k9 q
 rw[af k9]
 by_cases k10:i.kind=10
 ·rw[ai k10];exact h10 k10
 rw[af k10]
 by_cases k11:i.kind=11
 ·rw[ai k11];exact h11 k11
 rw[af k11]
 exact h0 ⟨k1,k4,k2,k3,k5,k6,k7,k8,k9,k10,k11⟩
theorem iX{n:Int}(h0:0<=n)(h1:n<4):bits .and .i64 n 3=n:=by
 have h:=Wd.bits_mask n 2 (by omega)
 have h2:bits .and .i64 n 3=n%4:=h
 rw[h2];omega
theorem Gw(p:Pg)(s:S8)(n:Int)(h0:0<=n)(h1:n<4):Vc (vF_ 48 [.agg (pgA p),.agg (rgA s),.agg [.bool true, aI n]] [.fv,.fv,.fv,.iz,.lv (aI (s.reg n))] [] (aI (s.reg n)) []):=al (cj (show(0:Int)<=Go.bits Go.BinOp.and IntKind.i64 n (3:Int)∧Go.bits Go.BinOp.and IntKind.i64 n (3:Int)<((4:Nat):Int) from by rw[iX h0 h1];exact⟨h0,h1⟩) (cj (show kG Go.Proofs.Try.prog (3:Nat) (4:Nat) (fun(q:Nat)=>List.getD [aI s.r0,aI s.r1,aI s.r2,aI s.r3] q AV.junk) ((0:Nat)+Int.toNat (Go.bits Go.BinOp.and IntKind.i64 n (3:Int))*1)=Option.some (aI (s.reg n)) from by rw[iX h0 h1];rcases kX h0 h1 with rfl |rfl |rfl |rfl<;>kernel_rfl) (cj (rf (s.reg n)) trivial)))
theorem Gx(p:Pg)(s:S8)(n:Int):Vc (vF_ 48 [.agg (pgA p),.agg (rgA s),.agg [.bool false, aI n]] [.fv,.fv,.fv,.cl [aI p.W, aI n] (aI (Wd.maskV p.W n)) []] [] (aI (Wd.maskV p.W n)) []):=al (cj (rf p.W) (cj (rf n) (cj (aZ p.W n) (cj (rf (Wd.maskV p.W n)) trivial))))
theorem cg(p:Pg)(s:S8)(x:Vl)(hx:okV x):pC_ 48 [.agg (pgA p),.agg (rgA s),.agg (vlA x)] (.int .i64 (vlV p.W s x)) []:=by
 obtain⟨b,n⟩:=x
 cases b with
 |true=>exact PureC.vc (Gw p s n (hx rfl).1 (hx rfl).2)
 |false=>exact PureC.vc (Gx p s n)
theorem Eb(p:Pg)(n:Int):Vc (vF_ 51 [.agg (pgA p), aI n] [.fv] [] (aI (if(p.is.length:Int)<n then(p.is.length:Int) else n)) []):=al (cj (rf (if(↑p.is.length:Int)<n then(↑p.is.length:Int) else n)) trivial)
theorem AC(p:Pg)(n:Int):pC_ 51 [.agg (pgA p),.int .i64 n] (.int .i64 (if(p.is.length:Int)<n then(p.is.length:Int) else n)) []:=PureC.vc (Eb p n)
theorem pt{l:List Int}:((l.length:Int)-1).toNat=l.length-1:=by omega
theorem AE{l:List Int}: ∀i,i<1-> ∀j,j<2->[AV.int .i64 3,AV.int .i64 (l.getD (Int.toNat ((l.length:Int)-1)) 0)].getD ((i+0)*2+j) .junk=an obC [⟨3,l.getD (l.length-1) 0⟩] i j:=by
 rw[pt]
 exact fun i hi j hj=>match i,hi,j,hj with |0,_,0,_=>rfl |0,_,1,_=>rfl
theorem wK(d:Int)(h0:0<=d)(h1:d<4):(0:Int)<=Go.bits Go.BinOp.and IntKind.i64 d (3:Int)∧Go.bits Go.BinOp.and IntKind.i64 d (3:Int)<((4:Nat):Int):=by rw[iX h0 h1];exact⟨h0,h1⟩
theorem Cj(s:S8){Z:Prop}(z:Z):(RF s.m.length (RR s.m.length 1 (fun i j=>aI (s.m.getD i 0)) (RF s.st.length (RR s.st.length 1 (fun i j=>aI (s.st.getD i 0)) (RF (s.pc+1) (RF (0:Nat) (RF (0:Int) Z))))))):=⟨rfl,fun _ _ _ _=>rfl,rfl,fun _ _ _ _=>rfl,rfl,rfl,rfl,z⟩
theorem zn(p:Pg)(s:S8)(op:Int)(a:Vl)(b:Vl){Z:Prop}(z:Z):(RF p.W (RF op (RF (vlV p.W s a) (RF (vlV p.W s b) Z)))):=⟨rfl,rfl,rfl,rfl,z⟩
theorem gz(p:Pg)(s:S8)(b:Vl){Z:Prop}(z:Z):(RF p.ls.length (RR p.ls.length 2 (fun i j=>an lbC p.ls i j) (RF p.is.length (RR p.is.length 9 (fun i j=>an inC p.is i j) (RF s.r0 (RF s.r1 (RF s.r2 (RF s.r3 (RF b.reg Z))))))))):=⟨rfl,fun _ _ _ _=>rfl,rfl,fun _ _ _ _=>rfl,rfl,rfl,rfl,rfl,rfl,z⟩
theorem cc(p:Pg){Z:Prop}(z:Z):(RF p.W (RF p.win (RF p.fuel (RF p.r0 (RF p.r1 (RF p.r2 (RF p.r3 (RF p.ms.length (RR p.ms.length 3 (fun i j=>an mmC p.ms i j) Z))))))))):=⟨rfl,rfl,rfl,rfl,rfl,rfl,rfl,rfl,fun _ _ _ _=>rfl,z⟩
theorem gy(p:Pg)(s:S8)(a:Vl){Z:Prop}(z:Z):(RF p.ls.length (RR p.ls.length 2 (fun i j=>an lbC p.ls i j) (RF p.is.length (RR p.is.length 9 (fun i j=>an inC p.is i j) (RF s.r0 (RF s.r1 (RF s.r2 (RF s.r3 (RF a.reg Z))))))))):=⟨rfl,fun _ _ _ _=>rfl,rfl,fun _ _ _ _=>rfl,rfl,rfl,rfl,rfl,rfl,z⟩
theorem gx(p:Pg)(s:S8){Z:Prop}(z:Z):(RF p.ls.length (RR p.ls.length 2 (fun i j=>an lbC p.ls i j) (RF p.is.length (RR p.is.length 9 (fun i j=>an inC p.is i j) (RF s.pc Z))))):=⟨rfl,fun _ _ _ _=>rfl,rfl,fun _ _ _ _=>rfl,rfl,z⟩
abbrev A9(p:Pg)(s:S8)(op:Int)(a:Vl)(b:Vl):Orc:= .cl [aI p.W, aI op, aI (vlV p.W s a), aI (vlV p.W s b)] (.tup [aI (Wd.doV p.W op (vlV p.W s a) (vlV p.W s b)),.bool (Wd.doB p.W op)]) []
abbrev gD(p:Pg)(s:S8)(a:Vl)(b:Vl):Orc:= .cl [aI p.W, aI ((vlV p.W s a)+(vlV p.W s b))] (aI (Wd.maskV p.W ((vlV p.W s a)+(vlV p.W s b)))) []
abbrev gF(p:Pg)(s:S8)(a:Vl):Orc:= .cl [.agg (pgA p),.agg (rgA s),.agg (vlA a)] (aI (vlV p.W s a)) []
abbrev gE(p:Pg)(s:S8)(b:Vl):Orc:= .cl [.agg (pgA p),.agg (rgA s),.agg (vlA b)] (aI (vlV p.W s b)) []
theorem AB(p:Pg)(s:S8)(op d tg:Int)(a b:Vl)(nm:ByteArray)(hm:s.m.length<=1000)(hst:s.st.length<=1000)(hp0: -1<=s.pc)(hp1:s.pc<1000000)(hs:okR s)(ha:okV a)(hb:okV b)(hA:pC_ 41 [.agg (pgA p), aI s.pc] (.agg (inA (⟨1,op,d,a,b,nm,tg⟩:In))) [])(h0:0<=d)(h1:d<4):Vc (vF_ 22 [.agg (pgA p),.agg (s8R s)] [.fv,.fv,.cl [.agg (pgA p), aI s.pc] (.agg (inA (⟨1,op,d,a,b,nm,tg⟩:In))) [],gF p s a,gE p s b,gD p s a b,A9 p s op a b,.iz,.sv (s8A ((s.go (s.pc+1)).set d (Wd.doV p.W op (vlV p.W s a) (vlV p.W s b))) (.own 3 1 1 0 s.m.length) (.own 4 1 1 0 s.st.length))] [] (.tup [.agg (s8R ((s.go (s.pc+1)).set d (Wd.doV p.W op (vlV p.W s a) (vlV p.W s b)))),obR [], aI 0]) []):=al (cc p (gx p s (cj hA (cc p (gy p s a (cj (rf a.n) (cj (cg p s a ha) (cc p (gz p s b (cj (rf b.n) (cj (cg p s b hb) (cj (ap 0 s.m.length 8) (cj (ap 0 s.st.length 8) (cj (i6 (s.pc+1)) (cj (show inK IntKind.i64 (vlV p.W s a+vlV p.W s b) from(dM (by have:=a8 (W:=p.W) hs a;have:=a8 (W:=p.W) hs b;omega) (by have:=a8 (W:=p.W) hs a;have:=a8 (W:=p.W) hs b;omega))) (cj (rf p.W) (cj (rf (vlV p.W s a+vlV p.W s b)) (cj (aZ p.W ((vlV p.W s a)+(vlV p.W s b))) (zn p s op a b (cj (sC p.W op (vlV p.W s a) (vlV p.W s b)) (cj (wK d h0 h1) (cj (show(0:Nat)+Int.toNat (Go.bits Go.BinOp.and IntKind.i64 d (3:Int))*1+1<=7 from by rw[iX h0 h1];omega) (cj (show setR [aI s.r0,aI s.r1,aI s.r2,aI s.r3,AV.own (nat_lit 3) (nat_lit 1) (nat_lit 1) (nat_lit 0) ((0:Nat)+s.m.length),AV.own (nat_lit 4) (nat_lit 1) (nat_lit 1) (nat_lit 0) ((0:Nat)+s.st.length),aI (s.pc+1)] ((0:Nat)+Int.toNat (Go.bits Go.BinOp.and IntKind.i64 d (3:Int))*1) [aI (Wd.doV p.W op (vlV p.W s a) (vlV p.W s b))]=[aI (if d=0 then Wd.doV p.W op (vlV p.W s a) (vlV p.W s b) else s.r0),aI (if d=1 then Wd.doV p.W op (vlV p.W s a) (vlV p.W s b) else s.r1),aI (if d=2 then Wd.doV p.W op (vlV p.W s a) (vlV p.W s b) else s.r2),aI (if d=3 then Wd.doV p.W op (vlV p.W s a) (vlV p.W s b) else s.r3),AV.own (nat_lit 3) (nat_lit 1) (nat_lit 1) (nat_lit 0) s.m.length,AV.own (nat_lit 4) (nat_lit 1) (nat_lit 1) (nat_lit 0) s.st.length,aI (s.pc+1)] from by rw[iX h0 h1];simp only[a7];rcases kX h0 h1 with rfl |rfl |rfl |rfl<;>rfl) (cj (rf (if d=0 then Wd.doV p.W op (vlV p.W s a) (vlV p.W s b) else s.r0)) (cj (rf (if d=1 then Wd.doV p.W op (vlV p.W s a) (vlV p.W s b) else s.r1)) (cj (rf (if d=2 then Wd.doV p.W op (vlV p.W s a) (vlV p.W s b) else s.r2)) (cj (rf (if d=3 then Wd.doV p.W op (vlV p.W s a) (vlV p.W s b) else s.r3)) (Cj s trivial))))))))))))))))))))))))))))
theorem Ci(s:S8){Z:Prop}(z:Z):(RR (0+s.st.length) 1 (fun i j=>aI (s.st.getD i 0)) (RF (s.pc+1) (RF (0:Nat) (RF (0:Int) Z)))):=⟨fun _ _ _ _=>rfl,rfl,rfl,rfl,z⟩
theorem nK(s:S8){Z:Prop}(z:Z):(RF s.r0 (RF s.r1 (RF s.r2 (RF s.r3 Z)))):=⟨rfl,rfl,rfl,rfl,z⟩
theorem un(p:Pg)(s:S8)(op d tg:Int)(a b:Vl)(nm:ByteArray)(hm:s.m.length<=1000)(hst:s.st.length<=1000)(hp0: -1<=s.pc)(hp1:s.pc<1000000)(hs:okR s)(ha:okV a)(hb:okV b)(hA:pC_ 41 [.agg (pgA p), aI s.pc] (.agg (inA (⟨4,op,d,a,b,nm,tg⟩:In))) [])(hz:(vlV p.W s a)=0):Vc (vF_ 22 [.agg (pgA p),.agg (s8R s)] [.fv,.fv,.cl [.agg (pgA p), aI s.pc] (.agg (inA (⟨4,op,d,a,b,nm,tg⟩:In))) [],gF p s a,gE p s b,gD p s a b,.b false,.b true,.b false] [] (.tup [.agg (s8R (s.go (s.pc+1))),obR [], aI 0]) []):=al (cc p (gx p s (cj hA (cc p (gy p s a (cj (rf a.n) (cj (cg p s a ha) (cc p (gz p s b (cj (rf b.n) (cj (cg p s b hb) (cj (ap 0 s.m.length 8) (cj (ap 0 s.st.length 8) (cj (i6 (s.pc+1)) (cj (show inK IntKind.i64 (vlV p.W s a+vlV p.W s b) from(dM (by have:=a8 (W:=p.W) hs a;have:=a8 (W:=p.W) hs b;omega) (by have:=a8 (W:=p.W) hs a;have:=a8 (W:=p.W) hs b;omega))) (cj (rf p.W) (cj (rf (vlV p.W s a+vlV p.W s b)) (cj (aZ p.W ((vlV p.W s a)+(vlV p.W s b))) (cj (e0 4 1) (cj (e1 4 4) (cj (show(vlV p.W s a !=(0:Int))=false from by rw[hz];rfl) (nK s (cj (za s.m.length) (cj (rr (0+s.m.length) 1 fun i j=>aI (s.m.getD i 0)) (cj (za s.st.length) (Ci s trivial))))))))))))))))))))))))))
theorem um(p:Pg)(s:S8)(op d tg:Int)(a b:Vl)(nm:ByteArray)(hm:s.m.length<=1000)(hst:s.st.length<=1000)(hp0: -1<=s.pc)(hp1:s.pc<1000000)(hs:okR s)(ha:okV a)(hb:okV b)(hA:pC_ 41 [.agg (pgA p), aI s.pc] (.agg (inA (⟨4,op,d,a,b,nm,tg⟩:In))) [])(hz: ¬(vlV p.W s a)=0)(h0:0<=d)(h1:d<4):Vc (vF_ 22 [.agg (pgA p),.agg (s8R s)] [.fv,.fv,.cl [.agg (pgA p), aI s.pc] (.agg (inA (⟨4,op,d,a,b,nm,tg⟩:In))) [],gF p s a,gE p s b,gD p s a b,.b false,.b true,.b true,.iz,.sv (s8A ((s.go (s.pc+1)).set d (vlV p.W s b)) (.own 3 1 1 0 s.m.length) (.own 4 1 1 0 s.st.length))] [] (.tup [.agg (s8R ((s.go (s.pc+1)).set d (vlV p.W s b))),obR [], aI 0]) []):=al (cc p (gx p s (cj hA (cc p (gy p s a (cj (rf a.n) (cj (cg p s a ha) (cc p (gz p s b (cj (rf b.n) (cj (cg p s b hb) (cj (ap 0 s.m.length 8) (cj (ap 0 s.st.length 8) (cj (i6 (s.pc+1)) (cj (show inK IntKind.i64 (vlV p.W s a+vlV p.W s b) from(dM (by have:=a8 (W:=p.W) hs a;have:=a8 (W:=p.W) hs b;omega) (by have:=a8 (W:=p.W) hs a;have:=a8 (W:=p.W) hs b;omega))) (cj (rf p.W) (cj (rf (vlV p.W s a+vlV p.W s b)) (cj (aZ p.W ((vlV p.W s a)+(vlV p.W s b))) (cj (e0 4 1) (cj (e1 4 4) (cj (bU.2 hz) (cj (wK d h0 h1) (cj (show(0:Nat)+Int.toNat (Go.bits Go.BinOp.and IntKind.i64 d (3:Int))*1+1<=7 from by rw[iX h0 h1];omega) (cj (show setR [aI s.r0,aI s.r1,aI s.r2,aI s.r3,AV.own (nat_lit 3) (nat_lit 1) (nat_lit 1) (nat_lit 0) ((0:Nat)+s.m.length),AV.own (nat_lit 4) (nat_lit 1) (nat_lit 1) (nat_lit 0) ((0:Nat)+s.st.length),aI (s.pc+1)] ((0:Nat)+Int.toNat (Go.bits Go.BinOp.and IntKind.i64 d (3:Int))*1) [aI (vlV p.W s b)]=[aI (if d=0 then vlV p.W s b else s.r0),aI (if d=1 then vlV p.W s b else s.r1),aI (if d=2 then vlV p.W s b else s.r2),aI (if d=3 then vlV p.W s b else s.r3),AV.own (nat_lit 3) (nat_lit 1) (nat_lit 1) (nat_lit 0) s.m.length,AV.own (nat_lit 4) (nat_lit 1) (nat_lit 1) (nat_lit 0) s.st.length,aI (s.pc+1)] from by rw[iX h0 h1];simp only[a7];rcases kX h0 h1 with rfl |rfl |rfl |rfl<;>rfl) (cj (rf (if d=0 then vlV p.W s b else s.r0)) (cj (rf (if d=1 then vlV p.W s b else s.r1)) (cj (rf (if d=2 then vlV p.W s b else s.r2)) (cj (rf (if d=3 then vlV p.W s b else s.r3)) (Cj s trivial)))))))))))))))))))))))))))))
theorem rT(s:S8){Z:Prop}(z:Z):(RF s.r0 (RF s.r1 (RF s.r2 (RF s.r3 (RF s.m.length (RR s.m.length 1 (fun i j=>aI (s.m.getD i 0)) (RF s.st.length (RR s.st.length 1 (fun i j=>aI (s.st.getD i 0)) (RF s.pc Z))))))))):=⟨rfl,rfl,rfl,rfl,rfl,fun _ _ _ _=>rfl,rfl,fun _ _ _ _=>rfl,rfl,z⟩
theorem uj(p:Pg)(s:S8)(op d tg:Int)(a b:Vl)(nm:ByteArray)(hm:s.m.length<=1000)(hst:s.st.length<=1000)(hp0: -1<=s.pc)(hp1:s.pc<1000000)(hs:okR s)(ha:okV a)(hb:okV b)(hA:pC_ 41 [.agg (pgA p), aI s.pc] (.agg (inA (⟨2,op,d,a,b,nm,tg⟩:In))) [])(hx: ¬(Wd.maskV p.W ((vlV p.W s a)+(vlV p.W s b)))<s.m.length):Vc (vF_ 22 [.agg (pgA p),.agg (s8R s)] [.fv,.fv,.cl [.agg (pgA p), aI s.pc] (.agg (inA (⟨2,op,d,a,b,nm,tg⟩:In))) [],gF p s a,gE p s b,gD p s a b,.b false,.b false,.b true,.b true] [] (.tup [.agg (s8R s),obR [], aI 2]) []):=al (cc p (gx p s (cj hA (cc p (gy p s a (cj (rf a.n) (cj (cg p s a ha) (cc p (gz p s b (cj (rf b.n) (cj (cg p s b hb) (cj (ap 0 s.m.length 8) (cj (ap 0 s.st.length 8) (cj (i6 (s.pc+1)) (cj (show inK IntKind.i64 (vlV p.W s a+vlV p.W s b) from(dM (by have:=a8 (W:=p.W) hs a;have:=a8 (W:=p.W) hs b;omega) (by have:=a8 (W:=p.W) hs a;have:=a8 (W:=p.W) hs b;omega))) (cj (rf p.W) (cj (rf (vlV p.W s a+vlV p.W s b)) (cj (aZ p.W ((vlV p.W s a)+(vlV p.W s b))) (cj (e0 2 1) (cj (e0 2 4) (cj (e1 2 2) (cj (dt (Wd.maskV p.W (vlV p.W s a+vlV p.W s b)>=(↑s.m.length:Int))) (rT s (cj (rf (0:Nat)) (cj (rf (2:Int)) trivial)))))))))))))))))))))))))
theorem sq(p:Pg)(s:S8)(op d tg:Int)(a b:Vl)(nm:ByteArray)(hm:s.m.length<=1000)(hst:s.st.length<=1000)(hp0: -1<=s.pc)(hp1:s.pc<1000000)(hs:okR s)(ha:okV a)(hb:okV b)(hA:pC_ 41 [.agg (pgA p), aI s.pc] (.agg (inA (⟨3,op,d,a,b,nm,tg⟩:In))) [])(hx: ¬(Wd.maskV p.W ((vlV p.W s a)+(vlV p.W s b)))<s.m.length):Vc (vF_ 22 [.agg (pgA p),.agg (s8R s)] [.fv,.fv,.cl [.agg (pgA p), aI s.pc] (.agg (inA (⟨3,op,d,a,b,nm,tg⟩:In))) [],gF p s a,gE p s b,gD p s a b,.b false,.b false,.b false,.b true,.b true] [] (.tup [.agg (s8R s),obR [], aI 2]) []):=al (cc p (gx p s (cj hA (cc p (gy p s a (cj (rf a.n) (cj (cg p s a ha) (cc p (gz p s b (cj (rf b.n) (cj (cg p s b hb) (cj (ap 0 s.m.length 8) (cj (ap 0 s.st.length 8) (cj (i6 (s.pc+1)) (cj (show inK IntKind.i64 (vlV p.W s a+vlV p.W s b) from(dM (by have:=a8 (W:=p.W) hs a;have:=a8 (W:=p.W) hs b;omega) (by have:=a8 (W:=p.W) hs a;have:=a8 (W:=p.W) hs b;omega))) (cj (rf p.W) (cj (rf (vlV p.W s a+vlV p.W s b)) (cj (aZ p.W ((vlV p.W s a)+(vlV p.W s b))) (cj (e0 3 1) (cj (e0 3 4) (cj (e0 3 2) (cj (e1 3 3) (cj (dt (Wd.maskV p.W (vlV p.W s a+vlV p.W s b)>=(↑s.m.length:Int))) (rT s (cj (rf (0:Nat)) (cj (rf (2:Int)) trivial))))))))))))))))))))))))))
theorem ui(p:Pg)(s:S8)(op d tg:Int)(a b:Vl)(nm:ByteArray)(hm:s.m.length<=1000)(hst:s.st.length<=1000)(hp0: -1<=s.pc)(hp1:s.pc<1000000)(hs:okR s)(ha:okV a)(hb:okV b)(hA:pC_ 41 [.agg (pgA p), aI s.pc] (.agg (inA (⟨2,op,d,a,b,nm,tg⟩:In))) [])(hx:(Wd.maskV p.W ((vlV p.W s a)+(vlV p.W s b)))<s.m.length)(h0:0<=d)(h1:d<4):Vc (vF_ 22 [.agg (pgA p),.agg (s8R s)] [.fv,.fv,.cl [.agg (pgA p), aI s.pc] (.agg (inA (⟨2,op,d,a,b,nm,tg⟩:In))) [],gF p s a,gE p s b,gD p s a b,.b false,.b false,.b true,.b false,.iz,.sv (s8A ((s.go (s.pc+1)).set d (s.m.getD (Wd.maskV p.W ((vlV p.W s a)+(vlV p.W s b))).toNat 0)) (.own 3 1 1 0 s.m.length) (.own 4 1 1 0 s.st.length))] [] (.tup [.agg (s8R ((s.go (s.pc+1)).set d (s.m.getD (Wd.maskV p.W ((vlV p.W s a)+(vlV p.W s b))).toNat 0))),obR [⟨1,(Wd.maskV p.W ((vlV p.W s a)+(vlV p.W s b)))⟩], aI 0]) []):=al (cc p (gx p s (cj hA (cc p (gy p s a (cj (rf a.n) (cj (cg p s a ha) (cc p (gz p s b (cj (rf b.n) (cj (cg p s b hb) (cj (ap 0 s.m.length 8) (cj (ap 0 s.st.length 8) (cj (i6 (s.pc+1)) (cj (show inK IntKind.i64 (vlV p.W s a+vlV p.W s b) from(dM (by have:=a8 (W:=p.W) hs a;have:=a8 (W:=p.W) hs b;omega) (by have:=a8 (W:=p.W) hs a;have:=a8 (W:=p.W) hs b;omega))) (cj (rf p.W) (cj (rf (vlV p.W s a+vlV p.W s b)) (cj (aZ p.W ((vlV p.W s a)+(vlV p.W s b))) (cj (e0 2 1) (cj (e0 2 4) (cj (e1 2 2) (cj (df (Wd.maskV p.W (vlV p.W s a+vlV p.W s b)>=(↑s.m.length:Int))) (cj (show(0:Int)<=Wd.maskV p.W (vlV p.W s a+vlV p.W s b)∧Wd.maskV p.W (vlV p.W s a+vlV p.W s b)<(↑s.m.length:Int) from⟨(Wd.maskV_bd p.W ((vlV p.W s a)+(vlV p.W s b))).1,by omega⟩) (cj (wK d h0 h1) (cj (show(0:Nat)+Int.toNat (Go.bits Go.BinOp.and IntKind.i64 d (3:Int))*1+1<=7 from by rw[iX h0 h1];omega) (cj (show setR [aI s.r0,aI s.r1,aI s.r2,aI s.r3,AV.own (nat_lit 3) (nat_lit 1) (nat_lit 1) (nat_lit 0) ((0:Nat)+s.m.length),AV.own (nat_lit 4) (nat_lit 1) (nat_lit 1) (nat_lit 0) ((0:Nat)+s.st.length),aI (s.pc+1)] ((0:Nat)+Int.toNat (Go.bits Go.BinOp.and IntKind.i64 d (3:Int))*1) [aI (s.m.getD (Int.toNat (Wd.maskV p.W (vlV p.W s a+vlV p.W s b))) 0)]=[aI (if d=0 then s.m.getD (Int.toNat (Wd.maskV p.W (vlV p.W s a+vlV p.W s b))) (0:Int) else s.r0),aI (if d=1 then s.m.getD (Int.toNat (Wd.maskV p.W (vlV p.W s a+vlV p.W s b))) (0:Int) else s.r1),aI (if d=2 then s.m.getD (Int.toNat (Wd.maskV p.W (vlV p.W s a+vlV p.W s b))) (0:Int) else s.r2),aI (if d=3 then s.m.getD (Int.toNat (Wd.maskV p.W (vlV p.W s a+vlV p.W s b))) (0:Int) else s.r3),AV.own (nat_lit 3) (nat_lit 1) (nat_lit 1) (nat_lit 0) s.m.length,AV.own (nat_lit 4) (nat_lit 1) (nat_lit 1) (nat_lit 0) s.st.length,aI (s.pc+1)] from by rw[iX h0 h1];simp only[a7];rcases kX h0 h1 with rfl |rfl |rfl |rfl<;>rfl) (cj (rf (if d=0 then s.m.getD (Int.toNat (Wd.maskV p.W (vlV p.W s a+vlV p.W s b))) (0:Int) else s.r0)) (cj (rf (if d=1 then s.m.getD (Int.toNat (Wd.maskV p.W (vlV p.W s a+vlV p.W s b))) (0:Int) else s.r1)) (cj (rf (if d=2 then s.m.getD (Int.toNat (Wd.maskV p.W (vlV p.W s a+vlV p.W s b))) (0:Int) else s.r2)) (cj (rf (if d=3 then s.m.getD (Int.toNat (Wd.maskV p.W (vlV p.W s a+vlV p.W s b))) (0:Int) else s.r3)) (cj (rf s.m.length) (cj (rr s.m.length 1 fun i j=>aI (s.m.getD i 0)) (cj (rf s.st.length) (cj (rr s.st.length 1 fun i j=>aI (s.st.getD i 0)) (cj (rf (s.pc+1)) (cj (rf (1:Nat)) (cj (show ∀(i:Nat),i<1-> ∀(j:Nat),j<2->List.getD [aI 1,aI (Wd.maskV p.W (vlV p.W s a+vlV p.W s b))] ((i+0)*2+j) AV.junk=an obC [Ob.mk (1:Int) (Wd.maskV p.W (vlV p.W s a+vlV p.W s b))] i j from(fun i hi j hj=>match i,hi,j,hj with |0,_,0,_=>rfl |0,_,1,_=>rfl)) (cj (rf (0:Int)) trivial))))))))))))))))))))))))))))))))))))))
theorem Ch(s:S8){Z:Prop}(z:Z):(RR (0+s.st.length) 1 (fun i j=>aI (s.st.getD i 0)) (RF (s.pc+1) (RF (1:Nat) Z))):=⟨fun _ _ _ _=>rfl,rfl,rfl,z⟩
theorem sn(p:Pg)(s:S8)(op d tg:Int)(a b:Vl)(nm:ByteArray)(hm:s.m.length<=1000)(hst:s.st.length<=1000)(hp0: -1<=s.pc)(hp1:s.pc<1000000)(hs:okR s)(ha:okV a)(hb:okV b)(hA:pC_ 41 [.agg (pgA p), aI s.pc] (.agg (inA (⟨3,op,d,a,b,nm,tg⟩:In))) [])(hx:(Wd.maskV p.W ((vlV p.W s a)+(vlV p.W s b)))<s.m.length)(h0:0<=d)(h1:d<4):Vc (vF_ 22 [.agg (pgA p),.agg (s8R s)] [.fv,.fv,.cl [.agg (pgA p), aI s.pc] (.agg (inA (⟨3,op,d,a,b,nm,tg⟩:In))) [],gF p s a,gE p s b,gD p s a b,.b false,.b false,.b false,.b true,.b false,.iz,.lv (aI (s.reg d))] [] (.tup [.agg (s8R {s with m:=s.m.set (Wd.maskV p.W ((vlV p.W s a)+(vlV p.W s b))).toNat (s.reg d),pc:=s.pc+1}),obR [⟨2,(Wd.maskV p.W ((vlV p.W s a)+(vlV p.W s b)))⟩], aI 0]) []):=al (cc p (gx p s (cj hA (cc p (gy p s a (cj (rf a.n) (cj (cg p s a ha) (cc p (gz p s b (cj (rf b.n) (cj (cg p s b hb) (cj (ap 0 s.m.length 8) (cj (ap 0 s.st.length 8) (cj (i6 (s.pc+1)) (cj (show inK IntKind.i64 (vlV p.W s a+vlV p.W s b) from(dM (by have:=a8 (W:=p.W) hs a;have:=a8 (W:=p.W) hs b;omega) (by have:=a8 (W:=p.W) hs a;have:=a8 (W:=p.W) hs b;omega))) (cj (rf p.W) (cj (rf (vlV p.W s a+vlV p.W s b)) (cj (aZ p.W ((vlV p.W s a)+(vlV p.W s b))) (cj (e0 3 1) (cj (e0 3 4) (cj (e0 3 2) (cj (e1 3 3) (cj (df (Wd.maskV p.W (vlV p.W s a+vlV p.W s b)>=(↑s.m.length:Int))) (cj (wK d h0 h1) (cj (show kG Go.Proofs.Try.prog (3:Nat) (7:Nat) (fun(q:Nat)=>List.getD [aI s.r0,aI s.r1,aI s.r2,aI s.r3,AV.row (nat_lit 1) s.m.length fun(a a_1:Nat)=>aI (s.m.getD a 0),AV.row (nat_lit 1) s.st.length fun(a a_1:Nat)=>aI (s.st.getD a 0),aI s.pc] q AV.junk) ((0:Nat)+Int.toNat (Go.bits Go.BinOp.and IntKind.i64 d (3:Int))*1)=Option.some (aI (s.reg d)) from by rw[iX h0 h1];rcases kX h0 h1 with rfl |rfl |rfl |rfl<;>kernel_rfl) (cj (show(0:Int)<=Wd.maskV p.W (vlV p.W s a+vlV p.W s b)∧Wd.maskV p.W (vlV p.W s a+vlV p.W s b)<(↑((0:Nat)+s.m.length):Int) from⟨(Wd.maskV_bd p.W ((vlV p.W s a)+(vlV p.W s b))).1,by omega⟩) (cj (show Int.toNat (Wd.maskV p.W (vlV p.W s a+vlV p.W s b))+0<0+s.m.length from by have:=(Wd.maskV_bd p.W ((vlV p.W s a)+(vlV p.W s b))).1;omega) (nK s (cj (show(0:Nat)+s.m.length=(List.set s.m (Int.toNat (Wd.maskV p.W (vlV p.W s a+vlV p.W s b))) (s.reg d)).length from by rw[av];omega) (cj (show ∀(i:Nat),i<0+s.m.length-> ∀(j:Nat),j<1->(bif Nat.ble (0:Nat) j&&Nat.blt j (1:Nat)&&Nat.beq (i+0) (Int.toNat (Wd.maskV p.W (vlV p.W s a+vlV p.W s b))+0) then List.getD [aI (s.reg d)] (j-0) AV.junk else aI (s.m.getD (i+0-0) 0))=aI (List.getD (List.set s.m (Int.toNat (Wd.maskV p.W (vlV p.W s a+vlV p.W s b))) (s.reg d)) i 0) from oT) (cj (za s.st.length) (Ch s (cj (show ∀(i:Nat),i<1-> ∀(j:Nat),j<2->List.getD [aI 2,aI (Wd.maskV p.W (vlV p.W s a+vlV p.W s b))] ((i+0)*2+j) AV.junk=an obC [Ob.mk (2:Int) (Wd.maskV p.W (vlV p.W s a+vlV p.W s b))] i j from(fun i hi j hj=>match i,hi,j,hj with |0,_,0,_=>rfl |0,_,1,_=>rfl)) (cj (rf (0:Int)) trivial))))))))))))))))))))))))))))))))))
theorem AA(p:Pg)(s:S8)(op d tg:Int)(a b:Vl)(nm:ByteArray)(hm:s.m.length<=1000)(hst:s.st.length<=1000)(hp0: -1<=s.pc)(hp1:s.pc<1000000)(hs:okR s)(ha:okV a)(hb:okV b)(hA:pC_ 41 [.agg (pgA p), aI s.pc] (.agg (inA (⟨5,op,d,a,b,nm,tg⟩:In))) [])(hz:(Wd.doV p.W op (vlV p.W s a) (vlV p.W s b))=0):Vc (vF_ 22 [.agg (pgA p),.agg (s8R s)] [.fv,.fv,.cl [.agg (pgA p), aI s.pc] (.agg (inA (⟨5,op,d,a,b,nm,tg⟩:In))) [],gF p s a,gE p s b,gD p s a b,A9 p s op a b,.b false] [] (.tup [.agg (s8R (s.go (s.pc+1))),obR [⟨3,s.pc+1⟩], aI 0]) []):=al (cc p (gx p s (cj hA (cc p (gy p s a (cj (rf a.n) (cj (cg p s a ha) (cc p (gz p s b (cj (rf b.n) (cj (cg p s b hb) (cj (ap 0 s.m.length 8) (cj (ap 0 s.st.length 8) (cj (i6 (s.pc+1)) (cj (show inK IntKind.i64 (vlV p.W s a+vlV p.W s b) from(dM (by have:=a8 (W:=p.W) hs a;have:=a8 (W:=p.W) hs b;omega) (by have:=a8 (W:=p.W) hs a;have:=a8 (W:=p.W) hs b;omega))) (cj (rf p.W) (cj (rf (vlV p.W s a+vlV p.W s b)) (cj (aZ p.W ((vlV p.W s a)+(vlV p.W s b))) (zn p s op a b (cj (sC p.W op (vlV p.W s a) (vlV p.W s b)) (cj (show(Wd.doV p.W op (vlV p.W s a) (vlV p.W s b) !=(0:Int))=false from by rw[hz];rfl) (nK s (cj (za s.m.length) (cj (rr (0+s.m.length) 1 fun i j=>aI (s.m.getD i 0)) (cj (za s.st.length) (Ch s (cj (show ∀(i:Nat),i<1-> ∀(j:Nat),j<2->List.getD [aI 3,aI (s.pc+1)] ((i+0)*2+j) AV.junk=an obC [Ob.mk (3:Int) (s.pc+1)] i j from(fun i hi j hj=>match i,hi,j,hj with |0,_,0,_=>rfl |0,_,1,_=>rfl)) (cj (rf (0:Int)) trivial))))))))))))))))))))))))))))
theorem Az(p:Pg)(s:S8)(op d tg:Int)(a b:Vl)(nm:ByteArray)(hm:s.m.length<=1000)(hst:s.st.length<=1000)(hp0: -1<=s.pc)(hp1:s.pc<1000000)(hs:okR s)(ha:okV a)(hb:okV b)(hA:pC_ 41 [.agg (pgA p), aI s.pc] (.agg (inA (⟨5,op,d,a,b,nm,tg⟩:In))) [])(hz: ¬(Wd.doV p.W op (vlV p.W s a) (vlV p.W s b))=0):Vc (vF_ 22 [.agg (pgA p),.agg (s8R s)] [.fv,.fv,.cl [.agg (pgA p), aI s.pc] (.agg (inA (⟨5,op,d,a,b,nm,tg⟩:In))) [],gF p s a,gE p s b,gD p s a b,A9 p s op a b,.b true] [] (.tup [.agg (s8R (s.go tg)),obR [⟨3,tg⟩], aI 0]) []):=al (cc p (gx p s (cj hA (cc p (gy p s a (cj (rf a.n) (cj (cg p s a ha) (cc p (gz p s b (cj (rf b.n) (cj (cg p s b hb) (cj (ap 0 s.m.length 8) (cj (ap 0 s.st.length 8) (cj (i6 (s.pc+1)) (cj (show inK IntKind.i64 (vlV p.W s a+vlV p.W s b) from(dM (by have:=a8 (W:=p.W) hs a;have:=a8 (W:=p.W) hs b;omega) (by have:=a8 (W:=p.W) hs a;have:=a8 (W:=p.W) hs b;omega))) (cj (rf p.W) (cj (rf (vlV p.W s a+vlV p.W s b)) (cj (aZ p.W ((vlV p.W s a)+(vlV p.W s b))) (zn p s op a b (cj (sC p.W op (vlV p.W s a) (vlV p.W s b)) (cj (bU.2 hz) (nK s (cj (za s.m.length) (cj (rr (0+s.m.length) 1 fun i j=>aI (s.m.getD i 0)) (cj (za s.st.length) (cj (rr (0+s.st.length) 1 fun i j=>aI (s.st.getD i 0)) (cj (rf tg) (cj (rf (1:Nat)) (cj (show ∀(i:Nat),i<1-> ∀(j:Nat),j<2->List.getD [aI 3,aI tg] ((i+0)*2+j) AV.junk=an obC [Ob.mk (3:Int) tg] i j from(fun i hi j hj=>match i,hi,j,hj with |0,_,0,_=>rfl |0,_,1,_=>rfl)) (cj (rf (0:Int)) trivial))))))))))))))))))))))))))))))
theorem t8(p:Pg)(s:S8)(a:Vl)(b:Vl)(hm:s.m.length<=1000)(hst:s.st.length<=1000)(hp0: -1<=s.pc)(hp1:s.pc<1000000)(hs:okR s):inK IntKind.i64 (vlV p.W s a+vlV p.W s b):=(dM (by have:=a8 (W:=p.W) hs a;have:=a8 (W:=p.W) hs b;omega) (by have:=a8 (W:=p.W) hs a;have:=a8 (W:=p.W) hs b;omega))
theorem Aw(p:Pg)(s:S8)(op d tg:Int)(a b:Vl)(nm:ByteArray)(hm:s.m.length<=1000)(hst:s.st.length<=1000)(hp0: -1<=s.pc)(hp1:s.pc<1000000)(hs:okR s)(ha:okV a)(hb:okV b)(hA:pC_ 41 [.agg (pgA p), aI s.pc] (.agg (inA (⟨6,op,d,a,b,nm,tg⟩:In))) []):Vc (vF_ 22 [.agg (pgA p),.agg (s8R s)] [.fv,.fv,.cl [.agg (pgA p), aI s.pc] (.agg (inA (⟨6,op,d,a,b,nm,tg⟩:In))) [],gF p s a,gE p s b,gD p s a b] [] (.tup [.agg (s8R (s.go tg)),obR [], aI 0]) []):=al (cc p (gx p s (cj hA (cc p (gy p s a (cj (rf a.n) (cj (cg p s a ha) (cc p (gz p s b (cj (rf b.n) (cj (cg p s b hb) (cj (ap 0 s.m.length 8) (cj (ap 0 s.st.length 8) (cj (i6 (s.pc+1)) (cj (t8 p s a b hm hst hp0 hp1 hs) (cj (rf p.W) (cj (rf (vlV p.W s a+vlV p.W s b)) (cj (aZ p.W ((vlV p.W s a)+(vlV p.W s b))) (nK s (cj (za s.m.length) (cj (rr (0+s.m.length) 1 fun i j=>aI (s.m.getD i 0)) (cj (za s.st.length) (cj (rr (0+s.st.length) 1 fun i j=>aI (s.st.getD i 0)) (cj (rf tg) (cj (rf (0:Nat)) (cj (rf (0:Int)) trivial))))))))))))))))))))))))))
theorem Ax(p:Pg)(s:S8)(op d tg:Int)(a b:Vl)(nm:ByteArray)(hm:s.m.length<=1000)(hst:s.st.length<=1000)(hp0: -1<=s.pc)(hp1:s.pc<1000000)(hs:okR s)(ha:okV a)(hb:okV b)(hA:pC_ 41 [.agg (pgA p), aI s.pc] (.agg (inA (⟨7,op,d,a,b,nm,tg⟩:In))) []):Vc (vF_ 22 [.agg (pgA p),.agg (s8R s)] [.fv,.fv,.cl [.agg (pgA p), aI s.pc] (.agg (inA (⟨7,op,d,a,b,nm,tg⟩:In))) [],gF p s a,gE p s b,gD p s a b,.cl [.agg (pgA p), aI (vlV p.W s a)] (aI (if(p.is.length:Int)<(vlV p.W s a) then(p.is.length:Int) else(vlV p.W s a))) []] [] (.tup [.agg (s8R (s.go (if(p.is.length:Int)<(vlV p.W s a) then(p.is.length:Int) else(vlV p.W s a)))),obR [⟨3,(if(p.is.length:Int)<(vlV p.W s a) then(p.is.length:Int) else(vlV p.W s a))⟩], aI 0]) []):=al (cc p (gx p s (cj hA (cc p (gy p s a (cj (rf a.n) (cj (cg p s a ha) (cc p (gz p s b (cj (rf b.n) (cj (cg p s b hb) (cj (ap 0 s.m.length 8) (cj (ap 0 s.st.length 8) (cj (i6 (s.pc+1)) (cj (t8 p s a b hm hst hp0 hp1 hs) (cj (rf p.W) (cj (rf (vlV p.W s a+vlV p.W s b)) (cj (aZ p.W ((vlV p.W s a)+(vlV p.W s b))) (cc p (cj (rf p.ls.length) (cj (rr p.ls.length 2 fun i j=>an lbC p.ls i j) (cj (rf p.is.length) (cj (rr p.is.length 9 fun i j=>an inC p.is i j) (cj (rf (vlV p.W s a)) (cj (AC p (vlV p.W s a)) (nK s (cj (za s.m.length) (cj (rr (0+s.m.length) 1 fun i j=>aI (s.m.getD i 0)) (cj (za s.st.length) (cj (rr (0+s.st.length) 1 fun i j=>aI (s.st.getD i 0)) (cj (rf (if(↑p.is.length:Int)<vlV p.W s a then(↑p.is.length:Int) else vlV p.W s a)) (cj (rf (1:Nat)) (cj (show ∀(i:Nat),i<1-> ∀(j:Nat),j<2->List.getD [aI 3,aI (if(↑p.is.length:Int)<vlV p.W s a then(↑p.is.length:Int) else vlV p.W s a)] ((i+0)*2+j) AV.junk=an obC [Ob.mk (3:Int) (if(↑p.is.length:Int)<vlV p.W s a then(↑p.is.length:Int) else vlV p.W s a)] i j from(fun i hi j hj=>match i,hi,j,hj with |0,_,0,_=>rfl |0,_,1,_=>rfl)) (cj (rf (0:Int)) trivial))))))))))))))))))))))))))))))))))
theorem uq(p:Pg)(s:S8)(op d tg:Int)(a b:Vl)(nm:ByteArray)(hm:s.m.length<=1000)(hst:s.st.length<=1000)(hp0: -1<=s.pc)(hp1:s.pc<1000000)(hs:okR s)(ha:okV a)(hb:okV b)(hA:pC_ 41 [.agg (pgA p), aI s.pc] (.agg (inA (⟨8,op,d,a,b,nm,tg⟩:In))) [])(hk:4<=s.st.length):Vc (vF_ 22 [.agg (pgA p),.agg (s8R s)] [.fv,.fv,.cl [.agg (pgA p), aI s.pc] (.agg (inA (⟨8,op,d,a,b,nm,tg⟩:In))) [],gF p s a,gE p s b,gD p s a b,.b false,.b false,.b false,.b false,.b false,.b false,.b false,.b true,.b true] [] (.tup [.agg (s8R s),obR [], aI 2]) []):=al (cc p (gx p s (cj hA (cc p (gy p s a (cj (rf a.n) (cj (cg p s a ha) (cc p (gz p s b (cj (rf b.n) (cj (cg p s b hb) (cj (ap 0 s.m.length 8) (cj (ap 0 s.st.length 8) (cj (i6 (s.pc+1)) (cj (show inK IntKind.i64 (vlV p.W s a+vlV p.W s b) from(dM (by have:=a8 (W:=p.W) hs a;have:=a8 (W:=p.W) hs b;omega) (by have:=a8 (W:=p.W) hs a;have:=a8 (W:=p.W) hs b;omega))) (cj (rf p.W) (cj (rf (vlV p.W s a+vlV p.W s b)) (cj (aZ p.W ((vlV p.W s a)+(vlV p.W s b))) (cj (e0 8 1) (cj (e0 8 4) (cj (e0 8 2) (cj (e0 8 3) (cj (e0 8 5) (cj (e0 8 6) (cj (e0 8 7) (cj (e1 8 8) (cj (dt ((↑s.st.length:Int)>=4)) (rT s (cj (rf (0:Nat)) (cj (rf (2:Int)) trivial))))))))))))))))))))))))))))))
theorem uo(p:Pg)(s:S8)(op d tg:Int)(a b:Vl)(nm:ByteArray)(hm:s.m.length<=1000)(hst:s.st.length<=1000)(hp0: -1<=s.pc)(hp1:s.pc<1000000)(hs:okR s)(ha:okV a)(hb:okV b)(hA:pC_ 41 [.agg (pgA p), aI s.pc] (.agg (inA (⟨8,op,d,a,b,nm,tg⟩:In))) [])(hk: ¬4<=s.st.length):Vc (vF_ 22 [.agg (pgA p),.agg (s8R s)] [.fv,.fv,.cl [.agg (pgA p), aI s.pc] (.agg (inA (⟨8,op,d,a,b,nm,tg⟩:In))) [],gF p s a,gE p s b,gD p s a b,.b false,.b false,.b false,.b false,.b false,.b false,.b false,.b true,.b false] [] (.tup [.agg (s8R {s with st:=s.st++[s.pc+1],pc:=tg}),obR [], aI 0]) []):=al (cc p (gx p s (cj hA (cc p (gy p s a (cj (rf a.n) (cj (cg p s a ha) (cc p (gz p s b (cj (rf b.n) (cj (cg p s b hb) (cj (ap 0 s.m.length 8) (cj (ap 0 s.st.length 8) (cj (i6 (s.pc+1)) (cj (show inK IntKind.i64 (vlV p.W s a+vlV p.W s b) from(dM (by have:=a8 (W:=p.W) hs a;have:=a8 (W:=p.W) hs b;omega) (by have:=a8 (W:=p.W) hs a;have:=a8 (W:=p.W) hs b;omega))) (cj (rf p.W) (cj (rf (vlV p.W s a+vlV p.W s b)) (cj (aZ p.W ((vlV p.W s a)+(vlV p.W s b))) (cj (e0 8 1) (cj (e0 8 4) (cj (e0 8 2) (cj (e0 8 3) (cj (e0 8 5) (cj (e0 8 6) (cj (e0 8 7) (cj (e1 8 8) (cj (df ((↑s.st.length:Int)>=4)) (cj (i6 (s.pc+1)) (cj (ap (0+s.st.length) 1 8) (nK s (cj (za s.m.length) (cj (rr (0+s.m.length) 1 fun i j=>aI (s.m.getD i 0)) (cj (pv ((0:Nat)+s.st.length+1=(s.st++[s.pc+1]).length)) (cj (show ∀(i:Nat),i<0+s.st.length+1-> ∀(j:Nat),j<1->(bif Nat.blt (i+0) ((0:Nat)+s.st.length) then aI (s.st.getD (i+0-0) 0) else List.getD [aI (s.pc+1)] ((i+0-((0:Nat)+s.st.length)+0)*1+j) AV.junk)=aI (List.getD (s.st++[s.pc+1]) i (0:Int)) from nh) (cj (rf tg) (cj (rf (0:Nat)) (cj (rf (0:Int)) trivial)))))))))))))))))))))))))))))))))))))
theorem wZ(p:Pg)(s:S8)(op d tg:Int)(a b:Vl)(nm:ByteArray)(hm:s.m.length<=1000)(hst:s.st.length<=1000)(hp0: -1<=s.pc)(hp1:s.pc<1000000)(hs:okR s)(ha:okV a)(hb:okV b)(hA:pC_ 41 [.agg (pgA p), aI s.pc] (.agg (inA (⟨9,op,d,a,b,nm,tg⟩:In))) [])(hk:s.st.length=0):Vc (vF_ 22 [.agg (pgA p),.agg (s8R s)] [.fv,.fv,.cl [.agg (pgA p), aI s.pc] (.agg (inA (⟨9,op,d,a,b,nm,tg⟩:In))) [],gF p s a,gE p s b,gD p s a b,.b false,.b false,.b false,.b false,.b false,.b false,.b false,.b false,.b true,.b true] [] (.tup [.agg (s8R s),obR [], aI 2]) []):=al (cc p (gx p s (cj hA (cc p (gy p s a (cj (rf a.n) (cj (cg p s a ha) (cc p (gz p s b (cj (rf b.n) (cj (cg p s b hb) (cj (ap 0 s.m.length 8) (cj (ap 0 s.st.length 8) (cj (i6 (s.pc+1)) (cj (show inK IntKind.i64 (vlV p.W s a+vlV p.W s b) from(dM (by have:=a8 (W:=p.W) hs a;have:=a8 (W:=p.W) hs b;omega) (by have:=a8 (W:=p.W) hs a;have:=a8 (W:=p.W) hs b;omega))) (cj (rf p.W) (cj (rf (vlV p.W s a+vlV p.W s b)) (cj (aZ p.W ((vlV p.W s a)+(vlV p.W s b))) (cj (e0 9 1) (cj (e0 9 4) (cj (e0 9 2) (cj (e0 9 3) (cj (e0 9 5) (cj (e0 9 6) (cj (e0 9 7) (cj (e0 9 8) (cj (e1 9 9) (cj (show((↑s.st.length:Int)==(0:Int))=true from by rw[hk];rfl) (rT s (cj (rf (0:Nat)) (cj (rf (2:Int)) trivial)))))))))))))))))))))))))))))))
theorem wY(p:Pg)(s:S8)(op d tg:Int)(a b:Vl)(nm:ByteArray)(hm:s.m.length<=1000)(hst:s.st.length<=1000)(hp0: -1<=s.pc)(hp1:s.pc<1000000)(hs:okR s)(ha:okV a)(hb:okV b)(hA:pC_ 41 [.agg (pgA p), aI s.pc] (.agg (inA (⟨9,op,d,a,b,nm,tg⟩:In))) [])(hk: ¬s.st.length=0):Vc (vF_ 22 [.agg (pgA p),.agg (s8R s)] [.fv,.fv,.cl [.agg (pgA p), aI s.pc] (.agg (inA (⟨9,op,d,a,b,nm,tg⟩:In))) [],gF p s a,gE p s b,gD p s a b,.b false,.b false,.b false,.b false,.b false,.b false,.b false,.b false,.b true,.b false] [] (.tup [.agg (s8R {s with st:=s.st.take (s.st.length-1),pc:=(s.st.getD (s.st.length-1) 0)}),obR [⟨3,(s.st.getD (s.st.length-1) 0)⟩], aI 0]) []):=al (cc p (gx p s (cj hA (cc p (gy p s a (cj (rf a.n) (cj (cg p s a ha) (cc p (gz p s b (cj (rf b.n) (cj (cg p s b hb) (cj (ap 0 s.m.length 8) (cj (ap 0 s.st.length 8) (cj (i6 (s.pc+1)) (cj (show inK IntKind.i64 (vlV p.W s a+vlV p.W s b) from(dM (by have:=a8 (W:=p.W) hs a;have:=a8 (W:=p.W) hs b;omega) (by have:=a8 (W:=p.W) hs a;have:=a8 (W:=p.W) hs b;omega))) (cj (rf p.W) (cj (rf (vlV p.W s a+vlV p.W s b)) (cj (aZ p.W ((vlV p.W s a)+(vlV p.W s b))) (cj (e0 9 1) (cj (e0 9 4) (cj (e0 9 2) (cj (e0 9 3) (cj (e0 9 5) (cj (e0 9 6) (cj (e0 9 7) (cj (e0 9 8) (cj (e1 9 9) (cj (show((↑s.st.length:Int)==(0:Int))=false from(aa.2 (by omega))) (cj (i6 (s.st.length-1)) (cj (bi (s.st.length-1) s.st.length) (cj (i6 ((↑((0:Nat)+s.st.length):Int)-1)) (cj (pv ((0:Int)<=(↑((0:Nat)+s.st.length):Int)-1∧(↑((0:Nat)+s.st.length):Int)-1<=(↑((0:Nat)+s.st.length):Int))) (nK s (cj (za s.m.length) (cj (rr (0+s.m.length) 1 fun i j=>aI (s.m.getD i 0)) (cj (show Int.toNat ((↑((0:Nat)+s.st.length):Int)-1)=(List.take (s.st.length-1) s.st).length from by rw[aT];omega) (cj (show ∀(i:Nat),i<Int.toNat ((↑((0:Nat)+s.st.length):Int)-1)-> ∀(j:Nat),j<1->aI (s.st.getD (i+0-0) 0)=aI (List.getD (List.take (s.st.length-1) s.st) i 0) from ne) (cj (show s.st.getD (Int.toNat ((↑s.st.length:Int)-1)) (0:Int)=s.st.getD (s.st.length-1) (0:Int) from by rw[pt]) (cj (rf (1:Nat)) (cj (show ∀(i:Nat),i<1-> ∀(j:Nat),j<2->List.getD [aI 3,aI (s.st.getD (Int.toNat (s.st.length-1)) 0)] ((i+0)*2+j) AV.junk=an obC [Ob.mk (3:Int) (s.st.getD (s.st.length-1) (0:Int))] i j from AE) (cj (rf (0:Int)) trivial)))))))))))))))))))))))))))))))))))))))))
theorem uk(p:Pg)(s:S8)(op d tg:Int)(a b:Vl)(nm:ByteArray)(hm:s.m.length<=1000)(hst:s.st.length<=1000)(hp0: -1<=s.pc)(hp1:s.pc<1000000)(hs:okR s)(ha:okV a)(hb:okV b)(hA:pC_ 41 [.agg (pgA p), aI s.pc] (.agg (inA (⟨10,op,d,a,b,nm,tg⟩:In))) []):Vc (vF_ 22 [.agg (pgA p),.agg (s8R s)] [.fv,.fv,.cl [.agg (pgA p), aI s.pc] (.agg (inA (⟨10,op,d,a,b,nm,tg⟩:In))) [],gF p s a,gE p s b,gD p s a b] [] (.tup [.agg (s8R (s.go (s.pc+1))),obR [], aI 0]) []):=al (cc p (gx p s (cj hA (cc p (gy p s a (cj (rf a.n) (cj (cg p s a ha) (cc p (gz p s b (cj (rf b.n) (cj (cg p s b hb) (cj (ap 0 s.m.length 8) (cj (ap 0 s.st.length 8) (cj (i6 (s.pc+1)) (cj (t8 p s a b hm hst hp0 hp1 hs) (cj (rf p.W) (cj (rf (vlV p.W s a+vlV p.W s b)) (cj (aZ p.W ((vlV p.W s a)+(vlV p.W s b))) (nK s (cj (za s.m.length) (cj (rr (0+s.m.length) 1 fun i j=>aI (s.m.getD i 0)) (cj (za s.st.length) (Ci s trivial)))))))))))))))))))))))
theorem w8(p:Pg)(s:S8)(op d tg:Int)(a b:Vl)(nm:ByteArray)(hm:s.m.length<=1000)(hst:s.st.length<=1000)(hp0: -1<=s.pc)(hp1:s.pc<1000000)(hs:okR s)(ha:okV a)(hb:okV b)(hA:pC_ 41 [.agg (pgA p), aI s.pc] (.agg (inA (⟨11,op,d,a,b,nm,tg⟩:In))) []):Vc (vF_ 22 [.agg (pgA p),.agg (s8R s)] [.fv,.fv,.cl [.agg (pgA p), aI s.pc] (.agg (inA (⟨11,op,d,a,b,nm,tg⟩:In))) [],gF p s a,gE p s b,gD p s a b] [] (.tup [.agg (s8R s),obR [], aI 1]) []):=al (cc p (gx p s (cj hA (cc p (gy p s a (cj (rf a.n) (cj (cg p s a ha) (cc p (gz p s b (cj (rf b.n) (cj (cg p s b hb) (cj (ap 0 s.m.length 8) (cj (ap 0 s.st.length 8) (cj (i6 (s.pc+1)) (cj (t8 p s a b hm hst hp0 hp1 hs) (cj (rf p.W) (cj (rf (vlV p.W s a+vlV p.W s b)) (cj (aZ p.W ((vlV p.W s a)+(vlV p.W s b))) (rT s (cj (rf (0:Nat)) (cj (rf (1:Int)) trivial)))))))))))))))))))))
theorem ul(p:Pg)(s:S8)(op d tg:Int)(a b:Vl)(nm:ByteArray)(hm:s.m.length<=1000)(hst:s.st.length<=1000)(hp0: -1<=s.pc)(hp1:s.pc<1000000)(hs:okR s)(ha:okV a)(hb:okV b)(hA:pC_ 41 [.agg (pgA p), aI s.pc] (.agg (inA (⟨12,op,d,a,b,nm,tg⟩:In))) []):Vc (vF_ 22 [.agg (pgA p),.agg (s8R s)] [.fv,.fv,.cl [.agg (pgA p), aI s.pc] (.agg (inA (⟨12,op,d,a,b,nm,tg⟩:In))) [],gF p s a,gE p s b,gD p s a b] [] (.tup [.agg (s8R s),obR [], aI 2]) []):=al (cc p (gx p s (cj hA (cc p (gy p s a (cj (rf a.n) (cj (cg p s a ha) (cc p (gz p s b (cj (rf b.n) (cj (cg p s b hb) (cj (ap 0 s.m.length 8) (cj (ap 0 s.st.length 8) (cj (i6 (s.pc+1)) (cj (t8 p s a b hm hst hp0 hp1 hs) (cj (rf p.W) (cj (rf (vlV p.W s a+vlV p.W s b)) (cj (aZ p.W ((vlV p.W s a)+(vlV p.W s b))) (rT s (cj (rf (0:Nat)) (cj (rf (2:Int)) trivial)))))))))))))))))))))
theorem As(p:Pg)(s:S8)(hP:OkP p)(hs:OkS ((bF p.ms:Nat):Int) p.is.length s):pC_ 22 [.agg (pgA p),.agg (s8R s)] (.tup [.agg (s8R (cC p.W ((bF p.ms:Nat):Int) p.is.length (atI p s.pc) s).1),obR (cC p.W ((bF p.ms:Nat):Int) p.is.length (atI p s.pc) s).2.1,.int .i64 (cC p.W ((bF p.ms:Nat):Int) p.is.length (atI p s.pc) s).2.2]) []:=by
 obtain⟨hi,hpc⟩:=gl hP s.pc
 have hA:=bw p s.pc
 generalize atI p s.pc=i at hi hpc hA ⊢
 obtain⟨k,op,d,a,b,nm,tg⟩:=i
 obtain⟨hk,ha,hb,hd,ht⟩:=hi
 simp only at hk ha hb hd ht hpc
 have hp:=hs.pc
 have hlen:=hP.len
 have hp1:s.pc<1000000:=by omega
 have hst:s.st.length<=1000:=by have:=hs.st;omega
 have hc:=hs.c
 have hm:s.m.length<=1000:=by have:=hP.sum;omega
 refine qd (Q:=fun r=>pC_ 22 [.agg (pgA p),.agg (s8R s)] (.tup [.agg (s8R r.1),obR r.2.1,.int .i64 r.2.2]) []) _ _ _ _ _ ?_ ?_ ?_ ?_ ?_ ?_ ?_ ?_ ?_ ?_ ?_ ?_ ?_ ?_ ?_ ?_ ?_ ?_
 ·intro hk;have hk:k=1:=hk;subst hk;exact PureC.vc (AB p s op d tg a b nm hm hst hp.1 hp1 hs.reg ha hb hA hd.1 hd.2)
 ·intro hk hz;have hk:k=4:=hk;subst hk;exact PureC.vc (un p s op d tg a b nm hm hst hp.1 hp1 hs.reg ha hb hA hz)
 ·intro hk hz;have hk:k=4:=hk;subst hk;exact PureC.vc (um p s op d tg a b nm hm hst hp.1 hp1 hs.reg ha hb hA hz hd.1 hd.2)
 ·intro hk hx;have hk:k=2:=hk;subst hk;rw[hc] at hx;exact PureC.vc (ui p s op d tg a b nm hm hst hp.1 hp1 hs.reg ha hb hA hx hd.1 hd.2)
 ·intro hk hx;have hk:k=2:=hk;subst hk;rw[hc] at hx;exact PureC.vc (uj p s op d tg a b nm hm hst hp.1 hp1 hs.reg ha hb hA hx)
 ·intro hk hx;have hk:k=3:=hk;subst hk;rw[hc] at hx;exact PureC.vc (sn p s op d tg a b nm hm hst hp.1 hp1 hs.reg ha hb hA hx hd.1 hd.2)
 ·intro hk hx;have hk:k=3:=hk;subst hk;rw[hc] at hx;exact PureC.vc (sq p s op d tg a b nm hm hst hp.1 hp1 hs.reg ha hb hA hx)
 ·intro hk hz;have hk:k=5:=hk;subst hk;exact PureC.vc (AA p s op d tg a b nm hm hst hp.1 hp1 hs.reg ha hb hA hz)
 ·intro hk hz;have hk:k=5:=hk;subst hk;exact PureC.vc (Az p s op d tg a b nm hm hst hp.1 hp1 hs.reg ha hb hA hz)
 ·intro hk;have hk:k=6:=hk;subst hk;exact PureC.vc (Aw p s op d tg a b nm hm hst hp.1 hp1 hs.reg ha hb hA)
 ·intro hk;have hk:k=7:=hk;subst hk;exact PureC.vc (Ax p s op d tg a b nm hm hst hp.1 hp1 hs.reg ha hb hA)
 ·intro hk hz;have hk:k=8:=hk;subst hk;exact PureC.vc (uq p s op d tg a b nm hm hst hp.1 hp1 hs.reg ha hb hA hz)
 ·intro hk hz;have hk:k=8:=hk;subst hk;exact PureC.vc (uo p s op d tg a b nm hm hst hp.1 hp1 hs.reg ha hb hA hz)
 ·intro hk hz;have hk:k=9:=hk;subst hk;exact PureC.vc (wZ p s op d tg a b nm hm hst hp.1 hp1 hs.reg ha hb hA hz)
 ·intro hk hz;have hk:k=9:=hk;subst hk;exact PureC.vc (wY p s op d tg a b nm hm hst hp.1 hp1 hs.reg ha hb hA hz)
 ·intro hk;have hk:k=10:=hk;subst hk;exact PureC.vc (uk p s op d tg a b nm hm hst hp.1 hp1 hs.reg ha hb hA)
 ·intro hk;have hk:k=11:=hk;subst hk;exact PureC.vc (w8 p s op d tg a b nm hm hst hp.1 hp1 hs.reg ha hb hA)
 ·rintro⟨k1,k2,k3,k4,k5,k6,k7,k8,k9,k10,k11⟩
  simp only at k1 k2 k3 k4 k5 k6 k7 k8 k9 k10 k11
  have hk:k=12:=by omega
  subst hk;exact PureC.vc (ul p s op d tg a b nm hm hst hp.1 hp1 hs.reg ha hb hA)
theorem ux(s:S8)(d v:Int)(h:0<=d∧d<4)(hv:v=s.reg d):s.set d v=s:=by
 have hd:d=0∨d=1∨d=2∨d=3:=by omega
 subst hv
 rcases hd with rfl |rfl |rfl |rfl<;>rfl
theorem Da(p:Pg)(s:S8)(l:List En)(v:Vl)(hv:okV v):cv p s l (0:Nat) v=(vlV p.W s v,true):=by
 unfold cv vlV
 split
 ·rename_i h
  have:=hv h
  unfold cS
  rw[ai this,bv (bM _)]
  rfl
 ·rfl
theorem Gq(p:Pg)(s:S8)(l:List En)(r:Int)(hr:0<=r∧r<4):cS p s l (0:Nat) r=(s.reg r,true):=by
 unfold cS
 rw[ai hr,bv (bM _)]
 rfl
theorem DW(p:Pg)(st:List Int)(l:List En):reV p st l (0:Nat)=some st:=by
 unfold reV
 rw[bv (bM _)]
 rfl
theorem ldz(p:Pg)(m:List Int)(l:List En)(a:Int)(h:0<=a∧a<m.length):ldV p m l (0:Nat) a=(m.getD a.toNat 0, -1,true):=by
 unfold ldV
 rw[bv (bM _)]
 show(if 0<=a∧a<(m.length:Int) then(m.getD a.toNat 0, -1,true) else(0, -1,true):Int×Int×Bool)=_
 rw[ai h]
structure Stp (p:Pg) (c:Cf):Prop where
 e:(rtV p c).e=(cC p.W c.s.m.length p.is.length (enX p c 0) (c.s.go (c.b.getD 0 default).pc)).2.2
 go:(cC p.W c.s.m.length p.is.length (enX p c 0) (c.s.go (c.b.getD 0 default).pc)).2.2=0->(cC p.W c.s.m.length p.is.length (enX p c 0) (c.s.go (c.b.getD 0 default).pc)).1=(rtV p c).s.go (c.b.getD 0 default).nxt
 en:(cC p.W c.s.m.length p.is.length (enX p c 0) (c.s.go (c.b.getD 0 default).pc)).2.2≠0->(cC p.W c.s.m.length p.is.length (enX p c 0) (c.s.go (c.b.getD 0 default).pc)).1=c.s.go (c.b.getD 0 default).pc∧(rtV p c).s=c.s.go (c.b.getD 0 default).pc
theorem wX{p:Pg}{c:Cf}(hP:OkP p)(hI:Inv p c)(h:Cor p c)(hc:crV p c=true):Stp p c:=by
 obtain⟨he,hl,hdn,hkn⟩:=fB hc
 have hE:=h.ent 0 hl
 obtain⟨hi,hi2⟩:=mn hP c 0
 obtain⟨hk,ha,hb,hd,_⟩:=hi
 have vA:=fun s=>Da p s c.b (enX p c 0).a ha
 have vB:=fun s=>Da p s c.b (enX p c 0).b hb
 have vD:=fun s=>Gq p s c.b (enX p c 0).d hd
 have tAe:tA p c (0:Nat) (enX p c 0)=(vlV p.W c.s (enX p c 0).a,true):=vA c.s
 have tBe:tB p c (0:Nat) (enX p c 0)=(vlV p.W c.s (enX p c 0).b,true):=vB c.s
 have tDe:tD p c (0:Nat) (enX p c 0)=(c.s.reg (enX p c 0).d,true):=vD c.s
 have hR:reV p c.s.st c.b (0:Nat)=some c.s.st:=DW _ _ _
 have hgA:vlV p.W (c.s.go (c.b.getD 0 default).pc) (enX p c 0).a=vlV p.W c.s (enX p c 0).a:=rfl
 have hgB:vlV p.W (c.s.go (c.b.getD 0 default).pc) (enX p c 0).b=vlV p.W c.s (enX p c 0).b:=rfl
 have hadV:adV p c (0:Nat) (enX p c 0)=Wd.maskV p.W (vlV p.W c.s (enX p c 0).a+vlV p.W c.s (enX p c 0).b):=by
  unfold adV;rw[tAe,tBe]
 have ha0:=jD p (vlV p.W c.s (enX p c 0).a+vlV p.W c.s (enX p c 0).b)
 have dne: ¬(enX p c 0).kind=10->(c.b.getD 0 default).dn=true:=fun hh=>by rcases hdn with q |q;exact q;exact absurd q hh
 have goOn: ∀(s2:S8) (t:Int) (o:List Ob),(c.b.getD 0 default).ft=false->rtV p c=⟨s2,ax c.b,c.r,c.e⟩->(cC p.W c.s.m.length p.is.length (enX p c 0) (c.s.go (c.b.getD 0 default).pc))=(s2.go t,o,0)->(c.b.getD 0 default).nxt=t->Stp p c:=fun s2 t o hf hr hs hn=>by
  refine⟨by rw[hr,hs];exact he,fun _=>by rw[hr,hs,hn],fun hh=> ?_⟩
  rw[hs] at hh
  exact absurd rfl hh
 have stop: ∀(q:Int),q≠0->rtV p c=⟨c.s.go (c.b.getD 0 default).pc,[],[],q⟩->(cC p.W c.s.m.length p.is.length (enX p c 0) (c.s.go (c.b.getD 0 default).pc))=(c.s.go (c.b.getD 0 default).pc,[],q)->Stp p c:=fun q hq hr hs=>by
  refine⟨by rw[hr,hs],fun hh=> ?_,fun _=>⟨by rw[hs],by rw[hr]⟩⟩
  rw[hs] at hh
  exact absurd hh hq
 have ftK: ∀{q:Prop},(c.b.getD 0 default).ft=true-> ¬(enX p c 0).kind=3-> ¬(enX p c 0).kind=8-> ¬(enX p c 0).kind=2-> ¬(enX p c 0).kind=9->q:=fun hf n3 n8 n2 n9=>by
  rcases hE.ftn hf with q |q |⟨q,_⟩
  ·exact absurd q n3
  ·exact absurd q n8
  ·rcases q with q |q
   ·exact absurd q n2
   ·exact absurd q n9
 have hrt:(c.b.getD 0 default).ft=false-> ¬(enX p c 0).kind=12-> ¬(enX p c 0).kind=11->rtV p c=if cL (enX p c 0)=true then⟨c.s.set (enX p c 0).d (c.b.getD 0 default).val,ax c.b,c.r,c.e⟩
   else if(enX p c 0).kind=3 then⟨{c.s with m:=c.s.m.set (c.b.getD 0 default).adr.toNat (c.b.getD 0 default).val},ax c.b,c.r,c.e⟩
   else if(enX p c 0).kind=8 then⟨{c.s with st:=c.s.st++[(c.b.getD 0 default).pc+1]},ax c.b,c.r,c.e⟩
   else if(enX p c 0).kind=9 then⟨{c.s with st:=c.s.st.take (c.s.st.length-1)},ax c.b,c.r,c.e⟩ else⟨c.s,ax c.b,c.r,c.e⟩:=fun hf n12 n11=>by
  unfold rtV
  rw[af (by rintro(q |q);rw[hf] at q;cases q;exact n12 q),af n11]
 have hrf:(c.b.getD 0 default).ft=true->rtV p c=⟨c.s.go (c.b.getD 0 default).pc,[],[],2⟩:=fun hf=>by unfold rtV;rw[ai (.inl hf)]
 by_cases k1:(enX p c 0).kind=1
 ·have hf:(c.b.getD 0 default).ft=false:=by
   cases hq:(c.b.getD 0 default).ft with
   |false=>rfl
   |true=>exact ftK hq (by omega) (by omega) (by omega) (by omega)
  obtain⟨_,g,_⟩:=hE.don (dne (by omega)) (by omega)
  unfold ouV at g
  rw[ai k1,tAe,tBe] at g
  have hv:Wd.doV p.W (enX p c 0).op (vlV p.W c.s (enX p c 0).a) (vlV p.W c.s (enX p c 0).b)=(c.b.getD 0 default).val:=congrArg En.val g
  refine goOn _ ((c.b.getD 0 default).pc+1) [] hf ((hrt hf (by omega) (by omega)).trans (ai (eP k1))) ?_ (hE.nx1 (by omega))
  unfold cC
  rw[ai k1,hgA,hgB,hv]
  rfl
 by_cases k4:(enX p c 0).kind=4
 ·have hf:(c.b.getD 0 default).ft=false:=by
   cases hq:(c.b.getD 0 default).ft with
   |false=>rfl
   |true=>exact ftK hq (by omega) (by omega) (by omega) (by omega)
  obtain⟨_,g,_⟩:=hE.don (dne (by omega)) (by omega)
  unfold ouV at g
  rw[af k1,ai k4,tAe,tBe,tDe] at g
  have hv:(if vlV p.W c.s (enX p c 0).a=0 then c.s.reg (enX p c 0).d else vlV p.W c.s (enX p c 0).b)=(c.b.getD 0 default).val:=congrArg En.val g
  refine goOn _ ((c.b.getD 0 default).pc+1) [] hf ((hrt hf (by omega) (by omega)).trans (ai (eN k4))) ?_ (hE.nx1 (by omega))
  unfold cC
  rw[af k1,ai k4,hgA,hgB]
  by_cases hz:vlV p.W c.s (enX p c 0).a=0
  ·rw[ai hz] at hv ⊢
   rw[ux c.s (enX p c 0).d (c.b.getD 0 default).val hd hv.symm]
   rfl
  ·rw[af hz] at hv ⊢
   rw[hv]
   rfl
 by_cases k2:(enX p c 0).kind=2
 ·obtain⟨g1,g2,g3⟩:=hE.load k2 (dne (by omega))
  rw[hadV] at g2 g3
  by_cases hm:(c.s.m.length:Int)<=Wd.maskV p.W (vlV p.W c.s (enX p c 0).a+vlV p.W c.s (enX p c 0).b)
  ·have hf:(c.b.getD 0 default).ft=true:=by
    obtain⟨_,g,_⟩:=hE.don (dne (by omega)) (by omega)
    unfold ouV at g
    rw[af k1,af k4,af (by omega),ai k2,hadV,ai hm] at g
    rw[<-g];rfl
   refine stop 2 (by decide) (hrf hf) ?_
   unfold cC
   rw[af k1,af k4,ai k2,hgA,hgB,af (by omega)]
  ·obtain⟨_,g4,_⟩:=g3 hm
   have hf:(c.b.getD 0 default).ft=false:=by
    cases hq:(c.b.getD 0 default).ft with
    |false=>rfl
    |true=>
     rcases hE.ftn hq with q |q |⟨_,_,q⟩
     ·omega
     ·omega
     ·unfold ouV at q
      rw[af k1,af k4,af (by omega),ai k2,hadV,af hm] at q
      cases q
   rw[ldz p c.s.m c.b _ ⟨ha0.1,by omega⟩] at g4
   refine goOn _ ((c.b.getD 0 default).pc+1) [⟨1,Wd.maskV p.W (vlV p.W c.s (enX p c 0).a+vlV p.W c.s (enX p c 0).b)⟩] hf ((hrt hf (by omega) (by omega)).trans (ai (eO k2))) ?_ (hE.nx1 (by omega))
   unfold cC
   rw[af k1,af k4,ai k2,hgA,hgB,ai (by omega),g4]
   rfl
 have nds: ¬cL (enX p c 0)=true:=by simp[cL,k1,k2,k4]
 by_cases k3:(enX p c 0).kind=3
 ·obtain⟨_,g2,g3⟩:=hE.kno k3 (hkn k3)
  rw[hadV] at g2 g3
  by_cases hm:(c.s.m.length:Int)<=Wd.maskV p.W (vlV p.W c.s (enX p c 0).a+vlV p.W c.s (enX p c 0).b)
  ·rw[ca hm] at g3
   refine stop 2 (by decide) (hrf g3) ?_
   unfold cC
   rw[af k1,af k4,af k2,ai k3,hgA,hgB,af (by omega)]
  ·rw[bD hm] at g3
   obtain⟨_,g,_⟩:=hE.don (dne (by omega)) (by omega)
   unfold ouV at g
   rw[af k1,af k4,ai k3,tDe] at g
   have hv:c.s.reg (enX p c 0).d=(c.b.getD 0 default).val:=congrArg En.val g
   refine goOn _ ((c.b.getD 0 default).pc+1) [⟨2,Wd.maskV p.W (vlV p.W c.s (enX p c 0).a+vlV p.W c.s (enX p c 0).b)⟩] g3 (((hrt g3 (by omega) (by omega)).trans (af nds)).trans (ai k3)) ?_ (hE.nx1 (by omega))
   unfold cC
   rw[af k1,af k4,af k2,ai k3,hgA,hgB,ai (by omega),g2, <-hv]
   rfl
 by_cases k8:(enX p c 0).kind=8
 ·have g:=hE.cal k8
  rw[hR] at g
  replace g:(c.b.getD 0 default).ft=decide (4<=c.s.st.length):=g
  by_cases h4:4<=c.s.st.length
  ·rw[ca h4] at g
   refine stop 2 (by decide) (hrf g) ?_
   unfold cC
   rw[af k1,af k4,af k2,af k3,af (by omega),af (by omega),af (by omega),ai k8]
   exact ai h4
  ·rw[bD h4] at g
   refine goOn _ (enX p c 0).tg [] g ((((hrt g (by omega) (by omega)).trans (af nds)).trans (af k3)).trans (ai k8)) ?_ (hE.nx6 (.inr k8))
   unfold cC
   rw[af k1,af k4,af k2,af k3,af (by omega),af (by omega),af (by omega),ai k8]
   exact af h4
 by_cases k9:(enX p c 0).kind=9
 ·obtain⟨_,g,g2⟩:=hE.don (dne (by omega)) (by omega)
  have ho:ouV p c 0=if c.s.st.length=0 then((c.b.getD 0 default).done.flt,none,[]) else((c.b.getD 0 default).done,some (bq c.s.st),[⟨3,bq c.s.st⟩]):=by
   unfold ouV
   rw[af k1,af k4,af k3,af k2,af (by omega),af (by omega),hR]
  rw[ho] at g g2
  by_cases h0:c.s.st.length=0
  ·rw[ai h0] at g
   have hf:(c.b.getD 0 default).ft=true:=by rw[<-g];rfl
   refine stop 2 (by decide) (hrf hf) ?_
   unfold cC
   rw[af k1,af k4,af k2,af k3,af (by omega),af (by omega),af (by omega),af (by omega),ai k9]
   exact ai h0
  ·rw[af h0] at g2
   have hf:(c.b.getD 0 default).ft=false:=by
    cases hq:(c.b.getD 0 default).ft with
    |false=>rfl
    |true=>
     rcases hE.ftn hq with q |q |⟨_,_,q⟩
     ·omega
     ·omega
     ·rw[ho,af h0] at q
      cases q
   refine goOn _ (bq c.s.st) [⟨3,c.s.st.getD (c.s.st.length-1) 0⟩] hf (((((hrt hf (by omega) (by omega)).trans (af nds)).trans (af k3)).trans (af k8)).trans (ai k9)) ?_ (g2 _ rfl)
   unfold cC bq
   rw[af k1,af k4,af k2,af k3,af (by omega),af (by omega),af (by omega),af (by omega),ai k9]
   rw[show((c.s.st.length:Int)-1).toNat=c.s.st.length-1 by omega]
   exact af h0
 have hf:(c.b.getD 0 default).ft=false:=by
  cases hq:(c.b.getD 0 default).ft with
  |false=>rfl
  |true=>exact ftK hq k3 k8 k2 k9
 by_cases k12:(enX p c 0).kind=12
 ·refine stop 2 (by decide) (by unfold rtV;rw[ai (.inr k12)]) ?_
  unfold cC
  rw[af (by omega),af (by omega),af (by omega),af (by omega),af (by omega),af (by omega),af (by omega),af (by omega),af (by omega),af (by omega),af (by omega)]
 by_cases k11:(enX p c 0).kind=11
 ·refine stop 1 (by decide) (by unfold rtV;rw[af (by rintro(q |q);rw[hf] at q;cases q;exact k12 q),ai k11]) ?_
  unfold cC
  rw[af (by omega),af (by omega),af (by omega),af (by omega),af (by omega),af (by omega),af (by omega),af (by omega),af (by omega),af (by omega),ai k11]
 have hr:rtV p c=⟨c.s,ax c.b,c.r,c.e⟩:=((((hrt hf k12 k11).trans (af nds)).trans (af k3)).trans (af k8)).trans (af k9)
 by_cases k5:(enX p c 0).kind=5
 ·obtain⟨_,_,g2⟩:=hE.don (dne (by omega)) (by omega)
  have ho:(ouV p c 0).2.1=some (if Wd.doV p.W (enX p c 0).op (vlV p.W c.s (enX p c 0).a) (vlV p.W c.s (enX p c 0).b)=0 then(c.b.getD 0 default).pc+1 else(enX p c 0).tg):=by
   unfold ouV
   rw[af k1,af k4,af k3,af k2,ai k5,tAe,tBe]
  have hn:=g2 _ ho
  by_cases hz:Wd.doV p.W (enX p c 0).op (vlV p.W c.s (enX p c 0).a) (vlV p.W c.s (enX p c 0).b)=0
  ·rw[ai hz] at hn
   refine goOn c.s ((c.b.getD 0 default).pc+1) [⟨3,(c.b.getD 0 default).pc+1⟩] hf hr ?_ hn
   unfold cC
   rw[af k1,af k4,af k2,af k3,ai k5,hgA,hgB,ai hz]
   rfl
  ·rw[af hz] at hn
   refine goOn c.s (enX p c 0).tg [⟨3,(enX p c 0).tg⟩] hf hr ?_ hn
   unfold cC
   rw[af k1,af k4,af k2,af k3,ai k5,hgA,hgB,af hz]
   rfl
 by_cases k6:(enX p c 0).kind=6
 ·refine goOn c.s (enX p c 0).tg [] hf hr ?_ (hE.nx6 (.inl k6))
  unfold cC
  rw[af k1,af k4,af k2,af k3,af k5,ai k6]
  rfl
 by_cases k7:(enX p c 0).kind=7
 ·obtain⟨_,_,g2⟩:=hE.don (dne (by omega)) (by omega)
  have ho:(ouV p c 0).2.1=some (cO p (vlV p.W c.s (enX p c 0).a)):=by
   unfold ouV
   rw[af k1,af k4,af k3,af k2,af k5,ai k7,tAe]
  have hj:cO p (vlV p.W c.s (enX p c 0).a)=if(p.is.length:Int)<vlV p.W c.s (enX p c 0).a then(p.is.length:Int) else vlV p.W c.s (enX p c 0).a:=by
   unfold cO
   split<;>omega
  refine goOn c.s _ [⟨3,cO p (vlV p.W c.s (enX p c 0).a)⟩] hf hr ?_ (g2 _ ho)
  unfold cC
  rw[af k1,af k4,af k2,af k3,af k5,af k6,ai k7,hgA, <-hj]
  rfl
 have k10:(enX p c 0).kind=10:=by omega
 refine goOn c.s ((c.b.getD 0 default).pc+1) [] hf hr ?_ (hE.nx1 (.inr k10))
 unfold cC
 rw[af k1,af k4,af k2,af k3,af k5,af k6,af k7,af k8,af k9,ai k10]
 rfl
def pfr(f:Int):Int:=if 0<=f then f-1 else f
structure Gon (p:Pg) (c:Cf) (s2:S8):Prop where
 crt:crV p c=true
 m:s2.m.length=c.s.m.length
 rg: ∀r:Int,0<=r∧r<4->s2.reg r=if cL (enX p c 0)=true∧(enX p c 0).d=r then(c.b.getD 0 default).val else c.s.reg r
 ld: ∀a:Int,0<=a∧a<c.s.m.length->s2.m.getD a.toNat 0=if(enX p c 0).kind=3∧(c.b.getD 0 default).adr=a then(c.b.getD 0 default).val else c.s.m.getD a.toNat 0
 ar:(enX p c 0).kind=3->0<=(c.b.getD 0 default).adr∧(c.b.getD 0 default).adr<c.s.m.length
 st:reG p c.b 0 1 c.s.st=some s2.st
theorem o8(p:Pg)(l:List En)(r:Int): ∀k,k+1<=l.length->eB p l r (k+1)=match eB p (ax l) r k with
  |some x=>some x
  |none=>if cL (enI p l 0)=true∧(enI p l 0).d=r then some (if(l.getD 0 default).dn then((l.getD 0 default).val,true) else(0,false)) else none
 |0,_=>rfl
 |k+1,h=>by
  have e2:(ax l).getD k default=(l.getD (k+1) default).pop:=cF l (by omega)
  have e1:enI p (ax l) k=enI p l (k+1):=by unfold enI;rw[e2];rfl
  rw[show eB p l r (k+1+1)=if cL (enI p l (k+1))=true∧(enI p l (k+1)).d=r then some (if(l.getD (k+1) default).dn then((l.getD (k+1) default).val,true) else(0,false)) else eB p l r (k+1) from rfl]
  rw[show eB p (ax l) r (k+1)=if cL (enI p (ax l) k)=true∧(enI p (ax l) k).d=r then some (if((ax l).getD k default).dn then(((ax l).getD k default).val,true) else(0,false)) else eB p (ax l) r k from rfl]
  rw[e1,e2]
  by_cases hc:cL (enI p l (k+1))=true∧(enI p l (k+1)).d=r
  ·rw[ai hc,ai hc];rfl
  ·rw[af hc,af hc]
   exact o8 p l r k (by omega)
def upL(x:Int×Int×Bool):Int×Int×Bool:=if x.2.2 then(x.1,x.2.1+1,true) else(0,0,false)
theorem og(p:Pg)(l:List En)(a:Int): ∀k,k+1<=l.length->ldF p l a (k+1)=match ldF p (ax l) a k with
  |some x=>some (upL x)
  |none=>if(enI p l 0).kind=3∧(l.getD 0 default).kn=true∧(l.getD 0 default).adr=a then some (if(l.getD 0 default).dn then((l.getD 0 default).val,0,true) else(0,0,false)) else none
 |0,_=>rfl
 |k+1,h=>by
  have e2:(ax l).getD k default=(l.getD (k+1) default).pop:=cF l (by omega)
  have e1:enI p (ax l) k=enI p l (k+1):=by unfold enI;rw[e2];rfl
  rw[show ldF p l a (k+1+1)=if(enI p l (k+1)).kind=3∧(l.getD (k+1) default).kn=true∧(l.getD (k+1) default).adr=a then some (if(l.getD (k+1) default).dn then((l.getD (k+1) default).val,((k+1:Nat):Int),true) else(0,0,false)) else ldF p l a (k+1) from rfl]
  rw[show ldF p (ax l) a (k+1)=if(enI p (ax l) k).kind=3∧((ax l).getD k default).kn=true∧((ax l).getD k default).adr=a then some (if((ax l).getD k default).dn then(((ax l).getD k default).val,(k:Int),true) else(0,0,false)) else ldF p (ax l) a k from rfl]
  rw[e1,e2]
  by_cases hc:(enI p l (k+1)).kind=3∧(l.getD (k+1) default).kn=true∧(l.getD (k+1) default).adr=a
  ·rw[ai hc,ai (show(enI p l (k+1)).kind=3∧(l.getD (k+1) default).pop.kn=true∧(l.getD (k+1) default).pop.adr=a from hc)]
   show some (if(l.getD (k+1) default).dn=true then _ else _)=some (upL (if(l.getD (k+1) default).dn=true then((l.getD (k+1) default).val,(k:Int),true) else(0,0,false)))
   cases (l.getD (k+1) default).dn<;>rfl
  ·rw[af hc,af (show ¬((enI p l (k+1)).kind=3∧(l.getD (k+1) default).pop.kn=true∧(l.getD (k+1) default).pop.adr=a) from hc)]
   exact og p l a k (by omega)
theorem ve(p:Pg)(l:List En)(a:Int): ∀j x,ldF p l a j=some x->0<=x.2.1
 |0,_,q=>by cases q
 |j+1,x,q=>by
  unfold ldF at q
  split at q
  ·rw[<-Option.some.inj q]
   split
   ·show(0:Int)<=(j:Int);omega
   ·exact fk 0
  ·exact ve p l a j x q
theorem Gon.val{p:Pg}{c:Cf}{s2:S8}(h:Gon p c s2){k:Nat}(hk:k+1<c.b.length)(r:Int):cS p s2 (ax c.b) k r=cS p c.s c.b (k+1:Nat) r:=by
 obtain⟨_,_,hdn,_⟩:=fB h.crt
 unfold cS
 rw[bv (by rw[dC];omega),bv (by omega),o8 p c.b r k (by omega)]
 split
 ·rename_i hr
  cases eB p (ax c.b) r k with
  |some x=>rfl
  |none=>
   have h2:=h.rg r hr
   show(s2.reg r,true)=match (if cL (enX p c 0)=true∧(enX p c 0).d=r then some (if(c.b.getD 0 default).dn=true then((c.b.getD 0 default).val,true) else(0,false)) else none:Option (Int×Bool)) with |some x=>x |none=>(c.s.reg r,true)
   rw[h2]
   by_cases hc:cL (enX p c 0)=true∧(enX p c 0).d=r
   ·have hd:(c.b.getD 0 default).dn=true:=by
     rcases hdn with q |q
     ·exact q
     ·have:=hc.1
      unfold cL at this
      rw[q] at this
      cases this
    rw[ai hc,ai hc,ai hd]
   ·rw[af hc,af hc]
 ·rfl
theorem Gon.vlf{p:Pg}{c:Cf}{s2:S8}(h:Gon p c s2){k:Nat}(hk:k+1<c.b.length)(v:Vl):cv p s2 (ax c.b) k v=cv p c.s c.b (k+1:Nat) v:=by
 unfold cv
 split
 ·exact h.val hk v.n
 ·rfl
theorem Gon.ldv{p:Pg}{c:Cf}{s2:S8}(h:Gon p c s2){k:Nat}(hk:k+1<c.b.length)(a:Int)(ht:(ldV p c.s.m c.b (k+1:Nat) a).2.2=true):ldV p s2.m (ax c.b) k a=((ldV p c.s.m c.b (k+1:Nat) a).1,pfr (ldV p c.s.m c.b (k+1:Nat) a).2.1,true):=by
 obtain⟨_,_,hdn,hkn⟩:=fB h.crt
 unfold ldV at ht ⊢
 rw[bv (by omega),og p c.b a k (by omega)] at ht
 rw[bv (by rw[dC];omega),bv (by omega),og p c.b a k (by omega)]
 cases hq:ldF p (ax c.b) a k with
 |some x=>
  rw[hq] at ht
  obtain⟨v,f,t⟩:=x
  cases t with
  |false=>cases ht
  |true=>
   have hf:=ve p _ _ _ _ hq
   show(v,f,true)=(v,pfr (f+1),true)
   have hf2:(0:Int)<=f:=hf
   unfold pfr
   rw[ai (by omega),Int.add_sub_cancel]
 |none=>
  rw[hq] at ht
  have e0:enI p c.b 0=(enX p c 0):=rfl
  show(if 0<=a∧a<(s2.m.length:Int) then(s2.m.getD a.toNat 0, -1,true) else(0, -1,true):Int×Int×Bool)=_
  rw[h.m]
  by_cases hc:(enX p c 0).kind=3∧(c.b.getD 0 default).kn=true∧(c.b.getD 0 default).adr=a
  ·have hd:(c.b.getD 0 default).dn=true:=by
    rcases hdn with q |q
    ·exact q
    ·omega
   have hr:=h.ar hc.1
   rw[hc.2.2] at hr
   simp only[e0,ai hc,ai hd]
   rw[ai hr,h.ld a hr,ai ⟨hc.1,hc.2.2⟩]
   rfl
  ·simp only[e0,af hc]
   by_cases hr:0<=a∧a<(c.s.m.length:Int)
   ·rw[ai hr,ai hr,h.ld a hr,af (fun q=>hc ⟨q.1,hkn q.1,q.2⟩)]
    rfl
   ·rw[af hr,af hr]
    rfl
theorem Gon.rev{p:Pg}{c:Cf}{s2:S8}(h:Gon p c s2){k:Nat}(hk:k+1<c.b.length):reV p s2.st (ax c.b) k=reV p c.s.st c.b (k+1:Nat):=by
 unfold reV
 rw[bv (by rw[dC];omega),bv (by omega)]
 have h1: ∀st,reG p c.b 0 (k+1) st=match reG p c.b 0 1 st with |none=>none |some M=>reG p c.b 1 k M:=fun st=>by
  rw[show reG p c.b 0 1 st=(if(enI p c.b 0).kind=8 then(if 4<=st.length then none else some (st++[(c.b.getD 0 default).pc+1])) else if(enI p c.b 0).kind=9 then(if st.length=0 then none else some (st.take (st.length-1))) else some st) from rfl]
  rw[show reG p c.b 0 (k+1) st=(if(enI p c.b 0).kind=8 then(if 4<=st.length then none else reG p c.b 1 k (st++[(c.b.getD 0 default).pc+1])) else if(enI p c.b 0).kind=9 then(if st.length=0 then none else reG p c.b 1 k (st.take (st.length-1))) else reG p c.b 1 k st) from rfl]
  split
  ·split<;>rfl
  ·split
   ·split<;>rfl
   ·rfl
 rw[h1,h.st]
 exact dk p _ _ _ _ _ _ fun i hi=>by
  rw[a7,cF c.b (by omega),iP 1 i]
  rfl
theorem Gon.ou{p:Pg}{c:Cf}{s2:S8}(h:Gon p c s2){k:Nat}(hk:k+1<c.b.length)(r:List Int)(e:Int)(hK:cnK p c (k+1:Nat) (enX p c (k+1))=true):cnK p ⟨s2,ax c.b,r,e⟩ k (enX p c (k+1))=true∧ouV p ⟨s2,ax c.b,r,e⟩ k=((ouV p c (k+1)).1.pop,(ouV p c (k+1)).2.1,(ouV p c (k+1)).2.2):=by
 have e2:(ax c.b).getD k default=(c.b.getD (k+1) default).pop:=cF c.b hk
 have hx:enX p ⟨s2,ax c.b,r,e⟩ k=enX p c (k+1):=by
  unfold enX
  show atI p ((ax c.b).getD k default).pc=_
  rw[e2]
  rfl
 have hV:=fun v=>h.vlf hk v
 have hR:=fun q=>h.val hk q
 have hL:=fun a=>h.ldv hk a
 have hE:=h.rev hk
 have hm:((s2.m.length:Nat):Int)=(c.s.m.length:Int):=by rw[h.m]
 unfold cnK at hK ⊢
 unfold ouV
 rw[hx]
 unfold tAB adV tA tB tD at*
 simp only[hV,hR,hm,hE,e2]
 by_cases k1:(enX p c (k+1)).kind=1
 ·simp only[ai k1] at hK ⊢
  exact⟨hK,rfl⟩
 simp only[af k1] at hK ⊢
 by_cases k5:(enX p c (k+1)).kind=5
 ·have k4: ¬(enX p c (k+1)).kind=4:=by omega
  have k3: ¬(enX p c (k+1)).kind=3:=by omega
  have k2: ¬(enX p c (k+1)).kind=2:=by omega
  simp only[ai k5,af k4,af k3,af k2] at hK ⊢
  exact⟨hK,rfl⟩
 simp only[af k5] at hK ⊢
 by_cases k4:(enX p c (k+1)).kind=4
 ·simp only[ai k4] at hK ⊢
  exact⟨hK,rfl⟩
 simp only[af k4] at hK ⊢
 by_cases k2:(enX p c (k+1)).kind=2
 ·have k3: ¬(enX p c (k+1)).kind=3:=by omega
  simp only[ai k2,af k3] at hK ⊢
  obtain⟨h0,h3⟩:=eW hK
  rw[h0]
  by_cases hm:(c.s.m.length:Int)<=Wd.maskV p.W ((cv p c.s c.b (k+1:Nat) (enX p c (k+1)).a).1+(cv p c.s c.b (k+1:Nat) (enX p c (k+1)).b).1)
  ·simp only[ai hm,ca hm]
   exact⟨by simp,rfl⟩
  ·rw[bD hm,cZ] at h3
   simp only[af hm,bD hm]
   rw[hL _ h3]
   exact⟨rfl,rfl⟩
 simp only[af k2] at hK ⊢
 by_cases k3:(enX p c (k+1)).kind=3
 ·simp only[ai k3] at hK ⊢
  exact⟨hK,rfl⟩
 simp only[af k3] at hK ⊢
 by_cases k7:(enX p c (k+1)).kind=7
 ·simp only[ai k7] at hK ⊢
  exact⟨hK,rfl⟩
 simp only[af k7] at hK ⊢
 refine⟨hK, ?_⟩
 cases reV p c.s.st c.b (k+1:Nat) with
 |none=>rfl
 |some L=>
  by_cases h0:L.length=0
  ·simp only[ai h0];rfl
  ·simp only[af h0];rfl
theorem EC.pop{p:Pg}{c:Cf}{s2:S8}(h:Gon p c s2){k:Nat}(hk:k+1<c.b.length)(r:List Int)(e:Int)(hE:EC p c (k+1)):EC p ⟨s2,ax c.b,r,e⟩ k:=by
 have e2:(ax c.b).getD k default=(c.b.getD (k+1) default).pop:=cF c.b hk
 have hx:enX p ⟨s2,ax c.b,r,e⟩ k=enX p c (k+1):=by
  unfold enX
  show atI p ((ax c.b).getD k default).pc=_
  rw[e2]
  rfl
 refine⟨fun hd hkk=> ?_,fun hf=> ?_,fun hkk hn=> ?_,fun hkk hn=> ?_,fun hkk=> ?_,fun hkk=> ?_,fun hkk=> ?_⟩
 ·rw[hx] at hkk ⊢
  have hd:(c.b.getD (k+1) default).dn=true:=by
   have:((ax c.b).getD k default).dn=true:=hd
   rw[e2] at this;exact this
  obtain⟨g1,g2,g3⟩:=hE.don hd hkk
  obtain⟨q1,q2⟩:=h.ou hk r e g1
  rw[q2]
  show _∧(ouV p c (k+1)).1.pop=(ax c.b).getD k default∧ ∀t,(ouV p c (k+1)).2.1=some t->((ax c.b).getD k default).nxt=t
  rw[e2,g2]
  exact⟨q1,rfl,g3⟩
 ·rw[hx]
  have hf:(c.b.getD (k+1) default).ft=true:=by
   have:((ax c.b).getD k default).ft=true:=hf
   rw[e2] at this;exact this
  rcases hE.ftn hf with q |q |⟨q,q1,q2⟩
  ·exact .inl q
  ·exact .inr (.inl q)
  ·refine .inr (.inr ⟨q, ?_, ?_⟩)
   ·show((ax c.b).getD k default).dn=true
    rw[e2];exact q1
   ·rw[(h.ou hk r e (hE.don q1 (by rcases q with q |q<;>omega)).1).2]
    exact q2
 ·rw[hx] at hkk ⊢
  have hn:(c.b.getD (k+1) default).kn=true:=by
   have:((ax c.b).getD k default).kn=true:=hn
   rw[e2] at this;exact this
  obtain⟨g1,g2,g3⟩:=hE.kno hkk hn
  have vA:=h.vlf hk (enX p c (k+1)).a
  have vB:=h.vlf hk (enX p c (k+1)).b
  have hm:((s2.m.length:Nat):Int)=(c.s.m.length:Int):=by rw[h.m]
  unfold tAB adV tA tB at*
  show((cv p s2 (ax c.b) k (enX p c (k+1)).a).2&&(cv p s2 (ax c.b) k (enX p c (k+1)).b).2)=true∧((ax c.b).getD k default).adr=Wd.maskV p.W ((cv p s2 (ax c.b) k (enX p c (k+1)).a).1+(cv p s2 (ax c.b) k (enX p c (k+1)).b).1)∧((ax c.b).getD k default).ft=decide ((s2.m.length:Int)<=Wd.maskV p.W ((cv p s2 (ax c.b) k (enX p c (k+1)).a).1+(cv p s2 (ax c.b) k (enX p c (k+1)).b).1))
  rw[vA,vB,hm,e2]
  exact⟨g1,g2,g3⟩
 ·rw[hx] at hkk
  have hn:(c.b.getD (k+1) default).kn=false:=by
   have:((ax c.b).getD k default).kn=false:=hn
   rw[e2] at this;exact this
  show((ax c.b).getD k default).ft=false
  rw[e2]
  exact hE.f3 hkk hn
 ·rw[hx] at hkk
  show((ax c.b).getD k default).ft=(match reV p s2.st (ax c.b) k with |none=>true |some L=>decide (4<=L.length))
  rw[e2,h.rev hk]
  exact hE.cal hkk
 ·rw[hx] at hkk
  show((ax c.b).getD k default).nxt=((ax c.b).getD k default).pc+1
  rw[e2]
  exact hE.nx1 hkk
 ·rw[hx] at hkk ⊢
  show((ax c.b).getD k default).nxt=_
  rw[e2]
  exact hE.nx6 hkk
theorem wI{s:S8}{d v r:Int}(hd:0<=d∧d<4)(hr:0<=r∧r<4):(s.set d v).reg r=if d=r then v else s.reg r:=by
 have h1:d=0∨d=1∨d=2∨d=3:=by omega
 have h2:r=0∨r=1∨r=2∨r=3:=by omega
 rcases h1 with rfl |rfl |rfl |rfl<;>rcases h2 with rfl |rfl |rfl |rfl<;>rfl
theorem rM(m:List Int)(n k:Nat)(v:Int)(hn:n<m.length):(m.set n v).getD k 0=if n=k then v else m.getD k 0:=by
 by_cases h:n=k
 ·subst h
  rw[ai rfl];simp[List.getD,hn]
 ·rw[af h];simp[List.getD,cA,h]
theorem Cor.rtV{p:Pg}{c:Cf}(hP:OkP p)(hI:Inv p c)(h:Cor p c)(hc:crV p c=true)(h0:(Px.rtV p c).e=0): ∃s2,Px.rtV p c=⟨s2,ax c.b,c.r,c.e⟩∧s2.pc=c.s.pc∧Cor p (Px.rtV p c)∧hdP (Px.rtV p c)=(c.b.getD 0 default).nxt:=by
 obtain⟨he,hl,hdn,hkn⟩:=fB hc
 obtain⟨hi,_⟩:=mn hP c 0
 obtain⟨hk,_,_,hd,_⟩:=hi
 have fin: ∀s2,Px.rtV p c=⟨s2,ax c.b,c.r,c.e⟩->s2.pc=c.s.pc->Gon p c s2-> ∃s2,Px.rtV p c=⟨s2,ax c.b,c.r,c.e⟩∧s2.pc=c.s.pc∧Cor p (Px.rtV p c)∧hdP (Px.rtV p c)=(c.b.getD 0 default).nxt:=fun s2 hr hpc hG=>by
  have hpl:(ax c.b).length=c.b.length-1:=dC _
  refine⟨s2,hr,hpc, ?_, ?_⟩
  ·rw[hr]
   refine⟨fun k hk=> ?_,fun k hk=> ?_,fun k hk=> ?_⟩
   ·have hk:k<(ax c.b).length:=hk
    exact EC.pop hG (by omega) c.r c.e (h.ent (k+1) (by omega))
   ·have hk:k+1<(ax c.b).length:=hk
    show((ax c.b).getD (k+1) default).pc=((ax c.b).getD k default).nxt
    rw[cF c.b (by omega),cF c.b (by omega)]
    exact h.chn (k+1) (by omega)
   ·have hk:k+1=(ax c.b).length:=hk
    show s2.pc=((ax c.b).getD k default).nxt
    rw[cF c.b (by omega),hpc]
    exact h.lst (k+1) (by omega)
  ·rw[hr]
   unfold hdP
   show(if(ax c.b).length=0 then s2.pc else((ax c.b).getD 0 default).pc)=_
   by_cases h1:c.b.length=1
   ·rw[ai (by omega),hpc]
    exact h.lst 0 (by omega)
   ·rw[af (by omega),cF c.b (by omega)]
    exact h.chn 0 (by omega)
 have hre: ∀st:List Int,reG p c.b 0 1 st=(if(enX p c 0).kind=8 then(if 4<=st.length then none else some (st++[(c.b.getD 0 default).pc+1])) else if(enX p c 0).kind=9 then(if st.length=0 then none else some (st.take (st.length-1))) else some st):=fun _=>rfl
 have hft:(c.b.getD 0 default).ft=false∧ ¬(enX p c 0).kind=12∧ ¬(enX p c 0).kind=11:=by
  by_cases hq:(c.b.getD 0 default).ft=true∨(enX p c 0).kind=12
  ·have e:Px.rtV p c=⟨c.s.go (c.b.getD 0 default).pc,[],[],2⟩:=ai hq
   rw[e] at h0
   cases h0
  ·by_cases h11:(enX p c 0).kind=11
   ·have e:Px.rtV p c=⟨c.s.go (c.b.getD 0 default).pc,[],[],1⟩:=by unfold Px.rtV;rw[af hq,ai h11]
    rw[e] at h0
    cases h0
   ·refine⟨?_,fun q=>hq (.inr q),h11⟩
    cases hf:(c.b.getD 0 default).ft with
    |false=>rfl
    |true=>exact absurd (.inl hf) hq
 obtain⟨hf,n12,n11⟩:=hft
 have hr:Px.rtV p c=if cL (enX p c 0)=true then⟨c.s.set (enX p c 0).d (c.b.getD 0 default).val,ax c.b,c.r,c.e⟩
   else if(enX p c 0).kind=3 then⟨{c.s with m:=c.s.m.set (c.b.getD 0 default).adr.toNat (c.b.getD 0 default).val},ax c.b,c.r,c.e⟩
   else if(enX p c 0).kind=8 then⟨{c.s with st:=c.s.st++[(c.b.getD 0 default).pc+1]},ax c.b,c.r,c.e⟩
   else if(enX p c 0).kind=9 then⟨{c.s with st:=c.s.st.take (c.s.st.length-1)},ax c.b,c.r,c.e⟩ else⟨c.s,ax c.b,c.r,c.e⟩:=by
  unfold Px.rtV
  rw[af (by rintro(q |q);rw[hf] at q;cases q;exact n12 q),af n11]
 have hRv:reV p c.s.st c.b (0:Nat)=some c.s.st:=DW _ _ _
 have har:(enX p c 0).kind=3->0<=(c.b.getD 0 default).adr∧(c.b.getD 0 default).adr<c.s.m.length:=fun k3=>⟨(hI.be _ (cQ hl)).adr.1,(hI.et 0 hl).sto k3 (hkn k3) hf⟩
 by_cases hds:cL (enX p c 0)=true
 ·have hkd:(enX p c 0).kind=1∨(enX p c 0).kind=2∨(enX p c 0).kind=4:=by
   unfold cL at hds
   simp only[fa,ay] at hds
   omega
  refine fin _ (hr.trans (ai hds)) rfl ⟨hc,rfl,fun r hr=> ?_,fun a ha=> ?_,har, ?_⟩
  ·rw[wI hd hr]
   by_cases hdr:(enX p c 0).d=r
   ·rw[ai hdr,ai ⟨hds,hdr⟩]
   ·rw[af hdr,af (fun q=>hdr q.2)]
  ·rw[af (by omega)];rfl
  ·rw[hre,af (by omega),af (by omega)];rfl
 have hrg: ∀s2:S8,(∀r,s2.reg r=c.s.reg r)-> ∀r:Int,0<=r∧r<4->s2.reg r=if cL (enX p c 0)=true∧(enX p c 0).d=r then(c.b.getD 0 default).val else c.s.reg r:=fun s2 h r _=>by
  rw[af (fun q=>hds q.1),h]
 by_cases k3:(enX p c 0).kind=3
 ·have ha:=har k3
  refine fin _ ((hr.trans (af hds)).trans (ai k3)) rfl ⟨hc,av,hrg _ fun _=>rfl,fun a hab=> ?_,har, ?_⟩
  ·show(c.s.m.set (c.b.getD 0 default).adr.toNat (c.b.getD 0 default).val).getD a.toNat 0=_
   by_cases hae:(c.b.getD 0 default).adr=a
   ·subst hae
    rw[ai ⟨k3,rfl⟩]
    rw[rM _ _ _ _ (by omega),ai rfl]
   ·rw[af (fun q=>hae q.2)]
    have hne: ¬(c.b.getD 0 default).adr.toNat=a.toNat:=by omega
    rw[rM _ _ _ _ (by omega),af hne]
  ·rw[hre,af (by omega),af (by omega)]
 by_cases k8:(enX p c 0).kind=8
 ·have g:=(h.ent 0 hl).cal k8
  rw[hRv,hf] at g
  replace g:false=decide (4<=c.s.st.length):=g
  have h4: ¬4<=c.s.st.length:=of_decide_eq_false g.symm
  refine fin _ (((hr.trans (af hds)).trans (af k3)).trans (ai k8)) rfl ⟨hc,rfl,hrg _ fun _=>rfl,fun a _=> ?_,har, ?_⟩
  ·rw[af (fun q=>k3 q.1)]
  ·rw[hre,ai k8,af h4]
 by_cases k9:(enX p c 0).kind=9
 ·have hz: ¬c.s.st.length=0:=fun hz=>by
   obtain⟨L,hL,hL0⟩:=(hI.et 0 hl).ret k9 (by rcases hdn with q |q;exact q;omega) hf
   rw[show reG p c.b 0 0 c.s.st=some c.s.st from rfl] at hL
   cases hL
   exact hL0 hz
  refine fin _ ((((hr.trans (af hds)).trans (af k3)).trans (af k8)).trans (ai k9)) rfl ⟨hc,rfl,hrg _ fun _=>rfl,fun a _=> ?_,har, ?_⟩
  ·rw[af (fun q=>k3 q.1)]
  ·rw[hre,af k8,ai k9,af hz]
 refine fin c.s ((((hr.trans (af hds)).trans (af k3)).trans (af k8)).trans (af k9)) rfl ⟨hc,rfl,hrg _ fun _=>rfl,fun a _=> ?_,har, ?_⟩
 ·rw[af (fun q=>k3 q.1)]
 ·rw[hre,af k8,af k9]
theorem FQ(p:Pg)(pc:Int)(h0:0<=pc)(h1:pc<p.is.length):Vc (vF_ 29 [.agg (pgA p), aI pc] [.fz,.bd false,.bd false] [] (.agg (inA (p.is.getD pc.toNat default))) []):=al (cj (df (pc<0)) (cj (df (pc>=(↑p.is.length:Int))) (cj (bi pc p.is.length) (cj (rf ((p.is.getD (Int.toNat pc) default).kind)) (cj (rf ((p.is.getD (Int.toNat pc) default).op)) (cj (rf ((p.is.getD (Int.toNat pc) default).d)) (cj (rf ((p.is.getD (Int.toNat pc) default).a.reg)) (cj (rf ((p.is.getD (Int.toNat pc) default).a.n)) (cj (rf ((p.is.getD (Int.toNat pc) default).b.reg)) (cj (rf ((p.is.getD (Int.toNat pc) default).b.n)) (cj (rf ((p.is.getD (Int.toNat pc) default).nm)) (cj (rf ((p.is.getD (Int.toNat pc) default).tg)) trivial))))))))))))
theorem CK{Z:Prop}(z:Z):(RF (12:Int) (RF (0:Int) (RF (0:Int) (RF false (RF (0:Int) (RF false (RF (0:Int) (RF (ByteArray.mk (Array.mk [])) (RF (0:Int) Z))))))))):=⟨rfl,rfl,rfl,rfl,rfl,rfl,rfl,rfl,rfl,z⟩
theorem Cg(p:Pg)(pc:Int)(h0: ¬0<=pc):Vc (vF_ 29 [.agg (pgA p), aI pc] [.fz,.bd true] [] (.agg (inA {In0 with kind:=12})) []):=al (cj (dt (pc<0)) (CK trivial))
theorem Ce(p:Pg)(pc:Int)(h0:0<=pc)(h1: ¬pc<p.is.length):Vc (vF_ 29 [.agg (pgA p), aI pc] [.fz,.bd false,.bd true] [] (.agg (inA {In0 with kind:=12})) []):=al (cj (df (pc<0)) (cj (dt (pc>=(↑p.is.length:Int))) (CK trivial)))
theorem atC(p:Pg)(pc:Int):pC_ 29 [.agg (pgA p),.int .i64 pc] (.agg (inA (atI p pc))) []:=by
 by_cases h0:0<=pc
 ·by_cases h1:pc<p.is.length
  ·rw[qI h0 h1];exact PureC.vc (FQ p pc h0 h1)
  ·rw[jO fun h=>h1 h.2];exact PureC.vc (Ce p pc h0 h1)
 ·rw[jO fun h=>h0 h.1];exact PureC.vc (Cg p pc h0)
end
end Go.Proofs.Ytdanmboalfmifaa.Px
namespace Go.Proofs.Ytdanmboalfmifaa
section
open Go.RowKit
abbrev Part:=Option Addr×Nat×List Int
def Part.v(p:Part):Value:= .slice p.1 p.2.2.length p.2.1
def mV:List Part->List Int
 | []=>[]
 |p::l=>p.2.2++mV l
set_option maxHeartbeats 2000000 in
theorem s7(A:Option Addr)(n c:Nat)(xs:List Int)(w:World)(hn:n=xs.length)(hr:Rd w w.heap.size A (xs.map (Value.int .i64)))(hs:n<=1000000):
  Calls Try.prog 30 #[.slice A n c] w (RetOwn w.heap.size 3 (xs.map (Value.int .i64)) w):=by
 subst hn
 obtain⟨i0,hi0,hz0,hs0,hb0⟩:=info_parts EV
 cases A with
 |none=>
  have hx:xs=[]:=by have:=hr.none_nil;simpa using this
  subst hx
  have he: ∀w:World,(binOp .eql 38 (.slice none 0 c) (.slice none 0 0)).run Try.prog w= .ok (.bool true) w:=fun _=>rfl
  go_enter Try.func30,Try.ntmps30
  go_wp2_with fail
  go_ret
  exact⟨_,rfl,World.ownsRow_nil _ _ _ _,up0 _⟩
 |some ad=>
  have hlit:=uL w 3 _ rfl
  have he: ∀w:World,(binOp .eql 38 (.slice (some ad) xs.length c) (.slice none 0 0)).run Try.prog w= .ok (.bool false) w:=fun _=>rfl
  go_enter Try.func30,Try.ntmps30
  go_wp2_with (at_builtin;refine ww _ rfl (.tmp 5) (.tmp 6) _ rfl w.heap.size 3 i0 _ 8 Try.underlying38 hi0 hz0 hs0 hb0 rfl _ 0 [] rfl hlit (w.alloc (.cells #[] 3)).heap.size (some ad) xs.length c (xs.map (Value.int .i64)) rfl (by simp) (hr.allocT _) (vn _ _) (by omega) (by omega) (by simp) ?_;intro v1 w1 hown1 hb1)
  go_ret
  refine⟨_,rfl, ?_,(upA (up0 w) _).trans hb1⟩
  have:=uK hown1
  rwa [dv]
end
end Go.Proofs.Ytdanmboalfmifaa
namespace Go.Proofs.Ytdanmboalfmifaa.Px
section
open Go.RowKit Go.Proofs.Ytdanmboalfmifaa.Rx
theorem qE{a:AV}{l:List Int}(h:PartOk a l)(hl:l.length<=1000000):pC_ 30 [a] (.own 0 0 1 0 l.length) [a9 l]:=
 PureC.ofOwn (k:= .i64) (l:=l) rfl (fun _ _=>rfl) fun w R vs hR hn ha=>by
  obtain⟨v,rfl,hv⟩:=xo rfl hn ha
  obtain⟨A,c,rfl,hr⟩:=h.rep hv hR
  exact s7 A _ c l w rfl hr hl
def g8(l:List En)(k i j:Nat):AV:=bif Nat.blt i k then enC (l.getD (i+1) default).pop j else enC (l.getD (i+1) default) j
def lpS(l:List En)(n k:Nat):Sm:=⟨[(0,enR l),(2,.bptr 1 0),(3,.nils),(4,.bool false),(5,.own 0 0 8 0 n),(15,.int .i64 n),(16,.int .i64 k)],[(0,⟨0,false,35,.rows 8 n (g8 l k)⟩),(1,⟨0,false,35,.box (enA En0)⟩)],2⟩
theorem oa{a b:Nat}(h:a<b):Nat.blt a b=true:=by rw[bA];exact h
theorem ob{a b:Nat}(h: ¬a<b):Nat.blt a b=false:=by
 cases hb:Nat.blt a b with
 |false=>rfl
 |true=>rw[bA] at hb;exact absurd hb h
theorem xl(l:List En)(k j:Nat):g8 l k k j=enC (l.getD (k+1) default) j:=by
 unfold g8;rw[ob (cJ k)];rfl
theorem rm{l:List En}{n k:Nat}{v:AV}(hv:v= .int .i64 (l.getD (k+1) default).pop.frm): ∀i,i<n-> ∀j,j<8->(bif Nat.ble 3 j&&Nat.blt j (3+1)&&Nat.beq i k then[v].getD (j-3) .junk else g8 l k i j)=g8 l (k+1) i j:=by
 intro i hi j hj
 by_cases hik:i=k
 ·subst hik
  rw[cy]
  unfold g8
  rw[ob (cJ i),oa (da i)]
  subst hv
  match j,hj with
  |0,_=>rfl
  |1,_=>rfl
  |2,_=>rfl
  |3,_=>rfl
  |4,_=>rfl
  |5,_=>rfl
  |6,_=>rfl
  |7,_=>rfl
 ·have h1:Nat.beq i k=false:=by
   cases hb:Nat.beq i k with
   |false=>rfl
   |true=>exact absurd (aj hb) hik
  rw[h1,Bool.and_false]
  show g8 l k i j=_
  unfold g8
  by_cases hlt:i<k
  ·rw[oa hlt,oa (by omega)]
  ·rw[ob hlt,ob (by omega)]
theorem uG(l:List En){n:Nat}(hl:l.length=n+1): ∀i,i<n-> ∀j,j<8->g8 l n i j=an enC (ax l) i j:=by
 intro i hi j hj
 unfold g8 an
 rw[oa hi,cF l (by omega)]
 rfl
theorem DA(l:List En)(k:Nat):Option.some (g8 l k (k+0) (3:Nat))=Option.some (aI (l.getD (k+1) default).frm):=(congrArg some (xl l k 3))
theorem CJ(l:List En)(n:Nat)(k:Nat){Z:Prop}(z:Z):(RR l.length 8 (fun i j=>an enC l i j) (RF false (RF (0:Nat) (RF n (RF (n:Int) (RF ((k:Int)+1) Z)))))):=⟨fun _ _ _ _=>rfl,rfl,rfl,rfl,rfl,rfl,z⟩
theorem wo(l:List En){Z:Prop}(z:Z):(RF (0:Int) (RF (0:Int) (RF (0:Int) (RF (0:Int) (RF (0:Int) (RF false (RF false (RF false (RF l.length Z))))))))):=⟨rfl,rfl,rfl,rfl,rfl,rfl,rfl,rfl,rfl,z⟩
theorem Br(l:List En)(n k:Nat)(hl:l.length=n+1)(hk:k<n)(hb:l.length<1000000)(hs:(l.getD (k+1) default).frm<0):Vc (vC_ 24 0 (lpS l n k) [.bd true,.lv (aI (l.getD (k+1) default).frm),.bd true] .nrm [(0,0),(1,1)] (lpS l n (k+1))):=al (cj (dt ((k:Int)<n)) (cj (bi k n) (cj (DA l k) (cj (pv (k+0<n)) (cj (dt ((l.getD (k+1) default).frm<0)) (cj (bi k n) (cj (pv (k+0<n)) (cj (i6 (k+1)) (cj (rf n) (cj (show ∀(i:Nat),i<n-> ∀(j:Nat),j<8->(bif Nat.ble (3:Nat) j&&Nat.blt j (4:Nat)&&Nat.beq i (k+0) then List.getD [aI (l.getD (k+1) default).frm] (j-3) AV.junk else g8 l k i j)=g8 l (k+1) i j from(rm (k:=k) (by rw[uF (by omega)]))) (wo l (CJ l n k trivial))))))))))))
theorem EA(l:List En)(n k:Nat)(hl:l.length=n+1)(hk:k<n)(hb:l.length<1000000)(hs: ¬(l.getD (k+1) default).frm<0)(h64:(l.getD (k+1) default).frm<=1000000):Vc (vC_ 24 0 (lpS l n k) [.bd true,.lv (aI (l.getD (k+1) default).frm),.bd false] .nrm [(0,0),(1,1)] (lpS l n (k+1))):=al (cj (dt ((k:Int)<n)) (cj (bi k n) (cj (DA l k) (cj (pv (k+0<n)) (cj (df ((l.getD (k+1) default).frm<0)) (cj (i6 ((l.getD (k+1) default).frm-1)) (cj (bi k n) (cj (pv (k+0<n)) (cj (i6 (k+1)) (cj (rf n) (cj (show ∀(i:Nat),i<n-> ∀(j:Nat),j<8->(bif Nat.ble (3:Nat) j&&Nat.blt j (4:Nat)&&Nat.beq i (k+0) then List.getD [aI ((l.getD (k+1) default).frm-1)] (j-3) AV.junk else g8 l k i j)=g8 l (k+1) i j from(rm (k:=k) (by rw[uE (by omega)]))) (wo l (CJ l n k trivial)))))))))))))
theorem Bs(l:List En)(n k:Nat)(hk: ¬k<n):Vc (vC_ 24 0 (lpS l n k) [.bd false] (.ext 0) [(0,0),(1,1)] (lpS l n k)):=al (cj (df ((k:Int)<n)) (cj (rf n) (cj (rr n 8 fun i j=>g8 l k i j) (wo l (cj (rr l.length 8 fun i j=>an enC l i j) (cj (rf false) (cj (rf (0:Nat)) (cj (rf n) (cj (rf (n:Int)) (cj (rf (k:Int)) trivial))))))))))
theorem xB(l:List En)(n:Nat)(hl:l.length=n+1)(hb:l.length<1000000)(h64: ∀x∈l,x.frm<=1000000):oL_ 24 0 (lpS l n 0).st (.ext 0) (lpS l n n).st:=
 Ok.loop (P:=Try.prog) (nt:=dG Try.prog 24) (c:=lpC Try.prog 24 0) (F:=fun k=>lpS l n k) (m:=n) (x:= .ext 0) (J:=lpS l n n) (fun k hk=>by
  by_cases hs:(l.getD (k+1) default).frm<0
  ·exact Ok.vc (Br l n k hl hk hb hs)
  ·exact Ok.vc (EA l n k hl hk hb hs (h64 _ (cQ (by omega))))) (Ok.vc (Bs l n n (cJ _))) (by simp)
theorem Bq(l:List En)(n:Nat)(hl:l.length=n+1)(hb:l.length<1000000)(h:oL_ 24 0 (lpS l n 0).st (.ext 0) (lpS l n n).st):Vc (vF_ 24 [enR l] [.bd false,.lp [(0,1),(1,0)] (lpS l n 0) (.ext 0) (lpS l n n)] [(0,0)] (.tup [.agg (enA (l.getD 0 default)),.own 0 0 8 0 (ax l).length,.bool true]) [enB (ax l)]):=al (cj (e0 l.length 0) (cj (pv ((0:Int)<=1∧(1:Int)<=l.length∧(l.length:Int)<=l.length)) (cj (pv ((l.length-1)*48<=140737488355328∧l.length-1<=140737488355328)) (cj (pv (l.length-1=n)) (cj (rr (l.length-1) 8 fun i j=>an enC l (i+1) j) (wo l (cj (rr l.length 8 fun i j=>an enC l i j) (cj (rf false) (cj (rf (0:Nat)) (cj (pv (l.length-1=n)) (cj (pv ((↑(l.length-1):Int)=(n:Int))) (cj (rf (0:Int)) (cj h (cj (pv ((0:Int)<=0∧(0:Int)<l.length)) (cj (show n=(ax l).length from by rw[dC];omega) (cj (show ∀(i:Nat),i<n-> ∀(j:Nat),j<8->g8 l n i j=an enC (ax l) i j from(uG l hl)) (cj (rf ((l.getD 0 default).pc)) (cj (rf ((l.getD 0 default).val)) (cj (rf ((l.getD 0 default).adr)) (cj (rf ((l.getD 0 default).frm)) (cj (rf ((l.getD 0 default).nxt)) (cj (rf ((l.getD 0 default).dn)) (cj (rf ((l.getD 0 default).kn)) (cj (rf ((l.getD 0 default).ft)) (cj (rf (0:Nat)) (cj (show n=(ax l).length from by rw[dC];omega) (cj (rf true) trivial)))))))))))))))))))))))))))
theorem Ez(l:List En)(h0:0<l.length)(hb:l.length<1000000)(h64: ∀x∈l,x.frm<=1000000):pC_ 24 [enR l] (.tup [.agg (enA (l.getD 0 default)),.own 0 0 8 0 (ax l).length,.bool true]) [enB (ax l)]:=by
 obtain⟨n,hn⟩: ∃n,l.length=n+1:=⟨l.length-1,by omega⟩
 exact PureC.vc (Bq l n hn hb (xB l n hn hb h64))
theorem vg(s:S8)(h1:pC_ 30 [lR s.m] (.own 0 0 1 0 s.m.length) [a9 s.m])(h2:pC_ 30 [lR s.st] (.own 0 0 1 0 s.st.length) [a9 s.st]):Vc (vF_ 25 [.agg (s8R s)] [.cl [lR s.m] (.own 0 0 1 0 s.m.length) [a9 s.m],.cl [lR s.st] (.own 0 0 1 0 s.st.length) [a9 s.st]] [(0,2),(1,3)] (.agg (s8A s (.own 0 0 1 0 s.m.length) (.own 1 0 1 0 s.st.length)++[.nils,.nils, aI 0])) [a9 s.m,a9 s.st]):=al (cj (rf s.m.length) (cj (rr s.m.length 1 fun i j=>aI (s.m.getD i 0)) (cj h1 (cj (rf s.st.length) (cj (rr s.st.length 1 fun i j=>aI (s.st.getD i 0)) (cj h2 (cj (rf s.m.length) (cj (rr s.m.length 1 fun i j=>aI (s.m.getD i 0)) (cj (rf s.st.length) (cj (rr s.st.length 1 fun i j=>aI (s.st.getD i 0)) (cj (rf s.r0) (cj (rf s.r1) (cj (rf s.r2) (cj (rf s.r3) (cj (rf (0:Nat)) (cj (rf s.m.length) (cj (rf (0:Nat)) (cj (rf s.st.length) (cj (rf s.pc) (cj (rf (0:Int)) trivial))))))))))))))))))))
theorem EI(s:S8)(hm:s.m.length<=1000000)(hs:s.st.length<=1000000):pC_ 25 [.agg (s8R s)] (.agg (s8A s (.own 0 0 1 0 s.m.length) (.own 1 0 1 0 s.st.length)++[.nils,.nils,.int .i64 0])) [a9 s.m,a9 s.st]:=PureC.vc (vg s (qE (.row _) hm) (qE (.row _) hs))
theorem pB(c:Cf)(h:(c.e !=0)=true):Vc (vF_ 27 [.agg (cfA c)] [.fv,.bd true] [] (.bool true) []):=al (cj h (cj (rf true) trivial))
theorem nC(c:Cf)(h:(c.e !=0)=false):Vc (vF_ 27 [.agg (cfA c)] [.fv,.bd false] [] (.bool false) []):=al (cj h (cj (rf false) trivial))
structure FrE (p:Pg) (e:En):Prop where
 d:e.dn=false->e.val=0∧e.frm= -1
 a:(e.dn=false∧(atI p e.pc).kind≠3∨(atI p e.pc).kind=3∧e.kn=false)->e.adr=0∧e.kn=false∧e.ft=false
def Frs(p:Pg)(c:Cf):Prop:= ∀e∈c.b,FrE p e
theorem FrE.mk'{p:Pg}{e:En}(hd:e.dn=true)(h3: ¬(atI p e.pc).kind=3):FrE p e:=
 ⟨fun h=>(by rw[hd] at h;cases h),fun h=>h.elim (fun h=>by rw[hd] at h;cases h.1) fun h=>absurd h.1 h3⟩
theorem FrE.pop{p:Pg}{e:En}(h:FrE p e):FrE p e.pop:=
 ⟨fun hd=>⟨(h.d hd).1,by show(if 0<=e.frm then e.frm-1 else e.frm)= -1;rw[(h.d hd).2];rfl⟩,h.a⟩
theorem Frs.set{p:Pg}{c:Cf}(h:Frs p c){k:Nat}{e:En}(he:FrE p e): ∀x∈c.b.set k e,FrE p x:=
 fun x hx=>(b7 hx).elim (h x) fun hx=>hx▸he
theorem Frs.goV{p:Pg}{c:Cf}(h:Frs p c){k:Nat}(hk:k<c.b.length)(t:Int):Frs p (goV c k t):=by
 unfold Px.goV
 split
 ·exact h
 ·have he:FrE p ((c.b.getD k default).to t):=⟨(h _ (cQ hk)).d,(h _ (cQ hk)).a⟩
  exact fun x hx=>h.set he x (cN hx)
theorem Frs.doO{p:Pg}{c c2:Cf}{o:List Ob}(h:Frs p c){i:Int}(e:doO p c i=some (c2,o)):Frs p c2:=by
 unfold Px.doO at e
 split at e
 ·rename_i hc
  obtain⟨k,rfl,hk,hd,hK⟩:=gk hc
  rw[aK,ah] at e
  have hE:=h _ (cQ hk)
  have hlD:(upE c k En.done).b.length=c.b.length:=av
  unfold dmV at e
  by_cases k3:(enX p c k).kind=3
  ·rw[af (by omega),af (by omega),ai k3] at e
   cases e
   exact h.set ⟨fun hx=>Bool.noConfusion hx,fun hx=>hx.elim (fun hx=>Bool.noConfusion hx.1) fun hx=>hE.a (.inr hx)⟩
  have mk: ∀g:En->En,(g (c.b.getD k default)).pc=(c.b.getD k default).pc->(g (c.b.getD k default)).dn=true->Frs p (upE c k g):=fun g h1 h2=>h.set (FrE.mk' h2 (by rw[h1];exact k3))
  have hD:Frs p (upE c k En.done):=mk _ rfl rfl
  have go: ∀t,Frs p (Px.goV (upE c k En.done) k t):=fun t=>hD.goV (by rw[hlD];exact hk) t
  by_cases k1:(enX p c k).kind=1
  ·rw[ai k1] at e;cases e;exact mk _ rfl rfl
  rw[af k1] at e
  by_cases k4:(enX p c k).kind=4
  ·rw[ai k4] at e;cases e;exact mk _ rfl rfl
  rw[af k4,af k3] at e
  by_cases k2:(enX p c k).kind=2
  ·rw[ai k2] at e
   split at e
   ·cases e;exact mk _ rfl rfl
   ·cases e;exact mk _ rfl rfl
  rw[af k2] at e
  by_cases k5:(enX p c k).kind=5
  ·rw[ai k5] at e;cases e;exact go _
  rw[af k5] at e
  by_cases k7:(enX p c k).kind=7
  ·rw[ai k7] at e;cases e;exact go _
  rw[af k7] at e
  split at e
  ·cases e;exact mk _ rfl rfl
  ·split at e
   ·cases e;exact mk _ rfl rfl
   ·cases e;exact go _
 ·cases e
theorem Frs.adrO{p:Pg}{c c2:Cf}{o:List Ob}(h:Frs p c){i:Int}(e:adrO p c i=some (c2,o)):Frs p c2:=by
 unfold Px.adrO at e
 split at e
 ·rename_i hc
  obtain⟨k,rfl,hk,hd,hK⟩:=mw hc
  rw[aK,ah] at e
  have hE:=h _ (cQ hk)
  have mk: ∀g:En->En,(g (c.b.getD k default)).pc=(c.b.getD k default).pc->(g (c.b.getD k default)).dn=(c.b.getD k default).dn->(g (c.b.getD k default)).kn=true->(g (c.b.getD k default)).val=(c.b.getD k default).val->(g (c.b.getD k default)).frm=(c.b.getD k default).frm->Frs p (upE c k g):=
   fun g h1 h2 h3 h4 h5=>h.set ⟨fun hx=>by rw[h4,h5];exact hE.d (h2▸hx),fun hx=>hx.elim (fun hx=>absurd hK (by rw[h1] at hx;exact hx.2)) fun hx=>by rw[h3] at hx;cases hx.2⟩
  unfold qK at e
  split at e
  ·cases e;exact mk _ rfl rfl rfl rfl rfl
  ·split at e
   ·cases e
    exact fun x hx=>mk (fun e=>e.ad (adV p c k (enX p c k))) rfl rfl rfl rfl rfl x (cN hx)
   ·cases e;exact mk _ rfl rfl rfl rfl rfl
 ·cases e
theorem Frs.ftO{p:Pg}{c c2:Cf}{g:Int}(h:Frs p c)(e:ftO p c g=some c2):Frs p c2:=by
 unfold Px.ftO at e
 split at e
 ·cases e
  have hE:FrE p (ftE p c g):=by
   unfold ftE
   by_cases k5:(atI p c.s.pc).kind=5
   ·rw[ai k5];exact⟨fun _=>⟨rfl,rfl⟩,fun _=>⟨rfl,rfl,rfl⟩⟩
   rw[af k5]
   by_cases k6:(atI p c.s.pc).kind=6
   ·rw[ai k6];exact⟨fun _=>⟨rfl,rfl⟩,fun _=>⟨rfl,rfl,rfl⟩⟩
   rw[af k6]
   by_cases k7:(atI p c.s.pc).kind=7
   ·rw[ai k7];exact⟨fun _=>⟨rfl,rfl⟩,fun _=>⟨rfl,rfl,rfl⟩⟩
   rw[af k7]
   by_cases k9:(atI p c.s.pc).kind=9
   ·rw[ai k9];exact⟨fun _=>⟨rfl,rfl⟩,fun _=>⟨rfl,rfl,rfl⟩⟩
   rw[af k9]
   by_cases k8:(atI p c.s.pc).kind=8
   ·rw[ai k8];exact FrE.mk' rfl (by show ¬(atI p c.s.pc).kind=3;omega)
   rw[af k8]
   split
   ·exact⟨fun _=>⟨rfl,rfl⟩,fun _=>⟨rfl,rfl,rfl⟩⟩
   ·exact⟨fun _=>⟨rfl,rfl⟩,fun _=>⟨rfl,rfl,rfl⟩⟩
  exact fun x hx=>(aP.1 hx).elim (h x) fun hx=>(aB.1 hx)▸hE
 ·cases e
theorem Frs.rtO{p:Pg}{c c2:Cf}(h:Frs p c)(e:rtO p c=some c2):Frs p c2:=by
 unfold Px.rtO at e
 split at e
 ·cases e
  have hpop: ∀x∈ax c.b,FrE p x:=fun x hx=>by
   obtain⟨e,he,rfl⟩:=pg hx
   exact(h e he).pop
  have hnil: ∀x∈([]:List En),FrE p x:=fun x hx=>absurd hx eI
  unfold rtV
  split
  ·exact hnil
  split
  ·exact hnil
  split
  ·exact hpop
  split
  ·exact hpop
  split
  ·exact hpop
  split
  ·exact hpop
  ·exact hpop
 ·cases e
theorem Frs.sayO{p:Pg}{c c2:Cf}{o:List Ob}(h:Frs p c){d:Dr}(e:sayO p c d=some (c2,o)):Frs p c2:=by
 unfold Px.sayO at e
 split at e
 ·cases hq:Px.ftO p c d.n with
  |none=>rw[hq] at e;cases e
  |some x=>rw[hq] at e;cases e;exact h.ftO hq
 ·split at e
  ·exact h.doO e
  ·split at e
   ·exact h.adrO e
   ·split at e
    ·split at e
     ·cases hq:Px.rtO p c with
      |none=>rw[hq] at e;cases e
      |some x=>rw[hq] at e;cases e;exact h.rtO hq
     ·cases e
    ·cases e
structure XOk (p:Pg) (c:Cf):Prop where
 I:Inv p c
 F:Frs p c
structure BOk (p:Pg) (c:Cf):Prop where
 P:OkP p
 x:XOk p c
 w:p.win<=90
theorem BOk.m{p:Pg}{c:Cf}(h:BOk p c):MOk p c:=h.x.I.ok h.P (by have:=h.w;omega)
theorem BOk.bl{p:Pg}{c:Cf}(h:BOk p c):c.b.length<=90:=by
 have h1:=h.x.I.bl
 have h2:=h.w
 omega
theorem BOk.ml{p:Pg}{c:Cf}(h:BOk p c):c.s.m.length<=16:=h.x.I.ml▸h.P.sum
theorem XOk.ok{p:Pg}{c:Cf}(h:XOk p c)(hP:OkP p)(hw:p.win<=90):BOk p c:=⟨hP,h,hw⟩
theorem XOk.ftO{p:Pg}{c c2:Cf}{g:Int}(hP:OkP p)(h:XOk p c)(e:ftO p c g=some c2):XOk p c2:=⟨Inv.ftO hP h.I e,h.F.ftO e⟩
theorem XOk.doO{p:Pg}{c c2:Cf}{o:List Ob}(hP:OkP p)(hw:p.win<=90)(h:XOk p c){i:Int}(e:doO p c i=some (c2,o)):XOk p c2:=⟨Inv.doO hP (by omega) h.I e,h.F.doO e⟩
theorem XOk.adrO{p:Pg}{c c2:Cf}{o:List Ob}(hP:OkP p)(h:XOk p c){i:Int}(e:adrO p c i=some (c2,o)):XOk p c2:=⟨Inv.adrO hP h.I e,h.F.adrO e⟩
theorem iI(p:Pg)(e:En){Z:Prop}(z:Z):(RF p.ls.length (RR p.ls.length 2 (fun i j=>an lbC p.ls i j) (RF p.is.length (RR p.is.length 9 (fun i j=>an inC p.is i j) (RF e.pc Z))))):=⟨rfl,fun _ _ _ _=>rfl,rfl,fun _ _ _ _=>rfl,rfl,z⟩
theorem gQ(p:Pg){Z:Prop}(z:Z):(RF p.W (RF p.win (RF p.fuel (RF p.r0 (RF p.r1 (RF p.r2 (RF p.r3 (RF p.ms.length (RR p.ms.length 3 (fun i j=>an mmC p.ms i j) Z))))))))):=⟨rfl,rfl,rfl,rfl,rfl,rfl,rfl,rfl,fun _ _ _ _=>rfl,z⟩
abbrev iN(p:Pg)(e:En):Orc:= .cl [.agg (pgA p), aI e.pc] (.agg (inA (atI p e.pc))) []
theorem DM(p:Pg)(e:En)(hk:(atI p e.pc).kind=10):Vc (vF_ 31 [.agg (pgA p),.agg (enA e)] [.fv,.fv,iN p e,.bd true] [] (.bool true) []):=al (gQ p (iI p e (cj (atC p e.pc) (cj (ay.2 hk) (cj (rf true) trivial)))))
theorem DL(p:Pg)(e:En)(hk:(atI p e.pc).kind=3)(hd:e.dn=false):Vc (vF_ 31 [.agg (pgA p),.agg (enA e)] [.fv,.fv,iN p e,.bd false,.bd true,.b true,.b false,.b false,.b false] [] (.bool false) []):=al (gQ p (iI p e (cj (atC p e.pc) (cj (show((atI p e.pc).kind==(10:Int))=false from(aa.2 (by omega))) (cj (ay.2 hk) (cj (rf true) (cj hd (cj hd (cj hd (cj (rf false) trivial))))))))))
theorem DK(p:Pg)(e:En)(hk:(atI p e.pc).kind=3)(hd:e.dn=true):Vc (vF_ 31 [.agg (pgA p),.agg (enA e)] [.fv,.fv,iN p e,.bd false,.bd true,.b true,.b true,.b true,.b true] [] (.bool e.kn) []):=al (gQ p (iI p e (cj (atC p e.pc) (cj (show((atI p e.pc).kind==(10:Int))=false from(aa.2 (by omega))) (cj (ay.2 hk) (cj (rf true) (cj hd (cj hd (cj hd (cj (rf e.kn) trivial))))))))))
theorem Gd(p:Pg)(e:En)(k10: ¬(atI p e.pc).kind=10)(k3: ¬(atI p e.pc).kind=3):Vc (vF_ 31 [.agg (pgA p),.agg (enA e)] [.fv,.fv,iN p e,.bd false,.bd false] [] (.bool e.dn) []):=al (gQ p (iI p e (cj (atC p e.pc) (cj (show((atI p e.pc).kind==(10:Int))=false from(aa.2 (by omega))) (cj (show((atI p e.pc).kind==(3:Int))=false from(aa.2 (by omega))) (cj (rf e.dn) trivial))))))
theorem ryC(p:Pg)(e:En):pC_ 31 [.agg (pgA p),.agg (enA e)] (.bool ((e.dn||(atI p e.pc).kind==10)&&((atI p e.pc).kind !=3||e.kn))) []:=by
 by_cases k10:(atI p e.pc).kind=10
 ·rw[show((atI p e.pc).kind==10)=true from ay.2 k10,show((atI p e.pc).kind !=3)=true from bU.2 (by omega),Bool.or_true]
  exact PureC.vc (DM p e k10)
 ·rw[show((atI p e.pc).kind==10)=false from aa.2 k10,Bool.or_false]
  by_cases k3:(atI p e.pc).kind=3
  ·rw[show((atI p e.pc).kind !=3)=false from aw.2 k3,cZ]
   cases hd:e.dn with
   |false=>exact PureC.vc (DL p e k3 hd)
   |true=>rw[cK];exact PureC.vc (DK p e k3 hd)
  ·rw[show((atI p e.pc).kind !=3)=true from bU.2 k3,mG,Bool.and_true]
   exact PureC.vc (Gd p e k10 k3)
theorem zC(c:Cf){Z:Prop}(z:Z):(RF c.b.length (RR c.b.length 8 (fun i j=>an enC c.b i j) (RF c.r.length (RR c.r.length 1 (fun i j=>aI (c.r.getD i 0)) (RF c.e Z))))):=⟨rfl,fun _ _ _ _=>rfl,rfl,fun _ _ _ _=>rfl,rfl,z⟩
theorem zB(c:Cf){Z:Prop}(z:Z):(RF c.s.r0 (RF c.s.r1 (RF c.s.r2 (RF c.s.r3 (RF c.s.m.length (RR c.s.m.length 1 (fun i j=>aI (List.getD c.s.m i 0)) (RF c.s.st.length (RR c.s.st.length 1 (fun i j=>aI (List.getD c.s.st i 0)) (RF c.s.pc Z))))))))):=⟨rfl,rfl,rfl,rfl,rfl,fun _ _ _ _=>rfl,rfl,fun _ _ _ _=>rfl,rfl,z⟩
theorem Hz(p:Pg)(c:Cf)(hF:pC_ 27 [.agg (cfA c)] (.bool true) []):Vc (vF_ 9 [.agg (pgA p),.agg (cfA c)] [.fv,.fv,.cl [.agg (cfA c)] (.bool true) []] [] (.bool false) []):=al (zB c (zC c (cj hF (cj (rf false) trivial))))
theorem HG(p:Pg)(c:Cf)(hF:pC_ 27 [.agg (cfA c)] (.bool false) [])(hl:c.b.length=0):Vc (vF_ 9 [.agg (pgA p),.agg (cfA c)] [.fv,.fv,.cl [.agg (cfA c)] (.bool false) [],.bd false] [] (.bool false) []):=al (zB c (zC c (cj hF (cj (df ((↑c.b.length:Int)>0)) (cj (rf false) trivial)))))
theorem Hw(p:Pg)(c:Cf)(hF:pC_ 27 [.agg (cfA c)] (.bool false) [])(hl:0<c.b.length)(hb:c.b.length<1000000)(tb:Bool)(h1:pC_ 31 [.agg (pgA p),.agg (enA (c.b.getD 0 default))] (.bool tb) []):Vc (vF_ 9 [.agg (pgA p),.agg (cfA c)] [.fv,.fv,.cl [.agg (cfA c)] (.bool false) [],.bd true,.cl [.agg (pgA p),.agg (enA (c.b.getD 0 default))] (.bool tb) []] [] (.bool tb) []):=al (zB c (zC c (cj hF (cj (dt ((↑c.b.length:Int)>0)) (cj (pv ((0:Int)<=0∧(0:Int)<c.b.length)) (gQ p (cj (rf p.ls.length) (cj (rr p.ls.length 2 fun i j=>an lbC p.ls i j) (cj (rf p.is.length) (cj (rr p.is.length 9 fun i j=>an inC p.is i j) (cj (rf ((c.b.getD 0 default).pc)) (cj (rf ((c.b.getD 0 default).val)) (cj (rf ((c.b.getD 0 default).adr)) (cj (rf ((c.b.getD 0 default).frm)) (cj (rf ((c.b.getD 0 default).nxt)) (cj (rf ((c.b.getD 0 default).dn)) (cj (rf ((c.b.getD 0 default).kn)) (cj (rf ((c.b.getD 0 default).ft)) (cj h1 (cj (rf tb) trivial))))))))))))))))))))
theorem EH(p:Pg)(c:Cf)(hb:c.b.length<1000000):pC_ 9 [.agg (pgA p),.agg (cfA c)] (.bool (crV p c)) []:=by
 unfold crV
 by_cases h0:c.e=0
 ·rw[ai h0]
  have hF:=PureC.vc (nC c (aw.2 h0))
  cases hl:c.b with
  |nil=>exact PureC.vc (HG p c hF (by rw[hl];rfl))
  |cons e l=>
   have he:e=(c.b.getD 0 default):=by rw[hl];rfl
   have:=Hw p c hF (by rw[hl];exact Nat.succ_pos _) hb _ (ryC p (c.b.getD 0 default))
   rw[<-he] at this
   exact PureC.vc this
 ·rw[af h0]
  exact PureC.vc (Hz p c (PureC.vc (pB c (bU.2 h0))))
def Ff(p:Pg)(e:En):Int:=if e.ft=true∨(atI p e.pc).kind=12 then 2 else if(atI p e.pc).kind=11 then 1 else 0
theorem FU(p:Pg)(e:En)(hf:e.ft=true):Vc (vF_ 26 [.agg (pgA p),.agg (enA e)] [.fv,.fv,.b true] [] (aI 2) []):=al (cj hf (cj (rf (2:Int)) trivial))
theorem F3(p:Pg)(e:En)(hk:(atI p e.pc).kind=1)(hf:e.ft=false):Vc (vF_ 26 [.agg (pgA p),.agg (enA e)] [.fv,.fv,.b false,iN p e,.bd true] [] (aI 0) []):=al (cj hf (gQ p (iI p e (cj (atC p e.pc) (cj (ay.2 hk) (cj (rf (0:Int)) trivial))))))
theorem F2(p:Pg)(e:En)(hk:(atI p e.pc).kind=2)(hf:e.ft=false):Vc (vF_ 26 [.agg (pgA p),.agg (enA e)] [.fv,.fv,.b false,iN p e,.bd false,.bd true] [] (aI 0) []):=al (cj hf (gQ p (iI p e (cj (atC p e.pc) (cj (show((atI p e.pc).kind==(1:Int))=false from(aa.2 (by omega))) (cj (ay.2 hk) (cj (rf (0:Int)) trivial)))))))
theorem F1(p:Pg)(e:En)(hk:(atI p e.pc).kind=3)(hf:e.ft=false):Vc (vF_ 26 [.agg (pgA p),.agg (enA e)] [.fv,.fv,.b false,iN p e,.bd false,.bd false,.bd true] [] (aI 0) []):=al (cj hf (gQ p (iI p e (cj (atC p e.pc) (cj (show((atI p e.pc).kind==(1:Int))=false from(aa.2 (by omega))) (cj (show((atI p e.pc).kind==(2:Int))=false from(aa.2 (by omega))) (cj (ay.2 hk) (cj (rf (0:Int)) trivial))))))))
theorem F0(p:Pg)(e:En)(hk:(atI p e.pc).kind=4)(hf:e.ft=false):Vc (vF_ 26 [.agg (pgA p),.agg (enA e)] [.fv,.fv,.b false,iN p e,.bd false,.bd false,.bd false,.bd true] [] (aI 0) []):=al (cj hf (gQ p (iI p e (cj (atC p e.pc) (cj (show((atI p e.pc).kind==(1:Int))=false from(aa.2 (by omega))) (cj (show((atI p e.pc).kind==(2:Int))=false from(aa.2 (by omega))) (cj (show((atI p e.pc).kind==(3:Int))=false from(aa.2 (by omega))) (cj (ay.2 hk) (cj (rf (0:Int)) trivial)))))))))
theorem FZ(p:Pg)(e:En)(hk:(atI p e.pc).kind=5)(hf:e.ft=false):Vc (vF_ 26 [.agg (pgA p),.agg (enA e)] [.fv,.fv,.b false,iN p e,.bd false,.bd false,.bd false,.bd false,.bd true] [] (aI 0) []):=al (cj hf (gQ p (iI p e (cj (atC p e.pc) (cj (show((atI p e.pc).kind==(1:Int))=false from(aa.2 (by omega))) (cj (show((atI p e.pc).kind==(2:Int))=false from(aa.2 (by omega))) (cj (show((atI p e.pc).kind==(3:Int))=false from(aa.2 (by omega))) (cj (show((atI p e.pc).kind==(4:Int))=false from(aa.2 (by omega))) (cj (ay.2 hk) (cj (rf (0:Int)) trivial))))))))))
theorem FY(p:Pg)(e:En)(hk:(atI p e.pc).kind=6)(hf:e.ft=false):Vc (vF_ 26 [.agg (pgA p),.agg (enA e)] [.fv,.fv,.b false,iN p e,.bd false,.bd false,.bd false,.bd false,.bd false,.bd true] [] (aI 0) []):=al (cj hf (gQ p (iI p e (cj (atC p e.pc) (cj (show((atI p e.pc).kind==(1:Int))=false from(aa.2 (by omega))) (cj (show((atI p e.pc).kind==(2:Int))=false from(aa.2 (by omega))) (cj (show((atI p e.pc).kind==(3:Int))=false from(aa.2 (by omega))) (cj (show((atI p e.pc).kind==(4:Int))=false from(aa.2 (by omega))) (cj (show((atI p e.pc).kind==(5:Int))=false from(aa.2 (by omega))) (cj (ay.2 hk) (cj (rf (0:Int)) trivial)))))))))))
theorem FX(p:Pg)(e:En)(hk:(atI p e.pc).kind=7)(hf:e.ft=false):Vc (vF_ 26 [.agg (pgA p),.agg (enA e)] [.fv,.fv,.b false,iN p e,.bd false,.bd false,.bd false,.bd false,.bd false,.bd false,.bd true] [] (aI 0) []):=al (cj hf (gQ p (iI p e (cj (atC p e.pc) (cj (show((atI p e.pc).kind==(1:Int))=false from(aa.2 (by omega))) (cj (show((atI p e.pc).kind==(2:Int))=false from(aa.2 (by omega))) (cj (show((atI p e.pc).kind==(3:Int))=false from(aa.2 (by omega))) (cj (show((atI p e.pc).kind==(4:Int))=false from(aa.2 (by omega))) (cj (show((atI p e.pc).kind==(5:Int))=false from(aa.2 (by omega))) (cj (show((atI p e.pc).kind==(6:Int))=false from(aa.2 (by omega))) (cj (ay.2 hk) (cj (rf (0:Int)) trivial))))))))))))
theorem FW(p:Pg)(e:En)(hk:(atI p e.pc).kind=8)(hf:e.ft=false):Vc (vF_ 26 [.agg (pgA p),.agg (enA e)] [.fv,.fv,.b false,iN p e,.bd false,.bd false,.bd false,.bd false,.bd false,.bd false,.bd false,.bd true] [] (aI 0) []):=al (cj hf (gQ p (iI p e (cj (atC p e.pc) (cj (show((atI p e.pc).kind==(1:Int))=false from(aa.2 (by omega))) (cj (show((atI p e.pc).kind==(2:Int))=false from(aa.2 (by omega))) (cj (show((atI p e.pc).kind==(3:Int))=false from(aa.2 (by omega))) (cj (show((atI p e.pc).kind==(4:Int))=false from(aa.2 (by omega))) (cj (show((atI p e.pc).kind==(5:Int))=false from(aa.2 (by omega))) (cj (show((atI p e.pc).kind==(6:Int))=false from(aa.2 (by omega))) (cj (show((atI p e.pc).kind==(7:Int))=false from(aa.2 (by omega))) (cj (ay.2 hk) (cj (rf (0:Int)) trivial)))))))))))))
theorem FV(p:Pg)(e:En)(hk:(atI p e.pc).kind=9)(hf:e.ft=false):Vc (vF_ 26 [.agg (pgA p),.agg (enA e)] [.fv,.fv,.b false,iN p e,.bd false,.bd false,.bd false,.bd false,.bd false,.bd false,.bd false,.bd false,.bd true] [] (aI 0) []):=al (cj hf (gQ p (iI p e (cj (atC p e.pc) (cj (show((atI p e.pc).kind==(1:Int))=false from(aa.2 (by omega))) (cj (show((atI p e.pc).kind==(2:Int))=false from(aa.2 (by omega))) (cj (show((atI p e.pc).kind==(3:Int))=false from(aa.2 (by omega))) (cj (show((atI p e.pc).kind==(4:Int))=false from(aa.2 (by omega))) (cj (show((atI p e.pc).kind==(5:Int))=false from(aa.2 (by omega))) (cj (show((atI p e.pc).kind==(6:Int))=false from(aa.2 (by omega))) (cj (show((atI p e.pc).kind==(7:Int))=false from(aa.2 (by omega))) (cj (show((atI p e.pc).kind==(8:Int))=false from(aa.2 (by omega))) (cj (ay.2 hk) (cj (rf (0:Int)) trivial))))))))))))))
theorem C7(p:Pg)(e:En)(hk:(atI p e.pc).kind=10)(hf:e.ft=false):Vc (vF_ 26 [.agg (pgA p),.agg (enA e)] [.fv,.fv,.b false,iN p e,.bd false,.bd false,.bd false,.bd false,.bd false,.bd false,.bd false,.bd false,.bd false,.bd true] [] (aI 0) []):=al (cj hf (gQ p (iI p e (cj (atC p e.pc) (cj (show((atI p e.pc).kind==(1:Int))=false from(aa.2 (by omega))) (cj (show((atI p e.pc).kind==(2:Int))=false from(aa.2 (by omega))) (cj (show((atI p e.pc).kind==(3:Int))=false from(aa.2 (by omega))) (cj (show((atI p e.pc).kind==(4:Int))=false from(aa.2 (by omega))) (cj (show((atI p e.pc).kind==(5:Int))=false from(aa.2 (by omega))) (cj (show((atI p e.pc).kind==(6:Int))=false from(aa.2 (by omega))) (cj (show((atI p e.pc).kind==(7:Int))=false from(aa.2 (by omega))) (cj (show((atI p e.pc).kind==(8:Int))=false from(aa.2 (by omega))) (cj (show((atI p e.pc).kind==(9:Int))=false from(aa.2 (by omega))) (cj (ay.2 hk) (cj (rf (0:Int)) trivial)))))))))))))))
theorem C6(p:Pg)(e:En)(hk:(atI p e.pc).kind=11)(hf:e.ft=false):Vc (vF_ 26 [.agg (pgA p),.agg (enA e)] [.fv,.fv,.b false,iN p e,.bd false,.bd false,.bd false,.bd false,.bd false,.bd false,.bd false,.bd false,.bd false,.bd false,.bd true] [] (aI 1) []):=al (cj hf (gQ p (iI p e (cj (atC p e.pc) (cj (show((atI p e.pc).kind==(1:Int))=false from(aa.2 (by omega))) (cj (show((atI p e.pc).kind==(2:Int))=false from(aa.2 (by omega))) (cj (show((atI p e.pc).kind==(3:Int))=false from(aa.2 (by omega))) (cj (show((atI p e.pc).kind==(4:Int))=false from(aa.2 (by omega))) (cj (show((atI p e.pc).kind==(5:Int))=false from(aa.2 (by omega))) (cj (show((atI p e.pc).kind==(6:Int))=false from(aa.2 (by omega))) (cj (show((atI p e.pc).kind==(7:Int))=false from(aa.2 (by omega))) (cj (show((atI p e.pc).kind==(8:Int))=false from(aa.2 (by omega))) (cj (show((atI p e.pc).kind==(9:Int))=false from(aa.2 (by omega))) (cj (show((atI p e.pc).kind==(10:Int))=false from(aa.2 (by omega))) (cj (ay.2 hk) (cj (rf (1:Int)) trivial))))))))))))))))
theorem C5(p:Pg)(e:En)(hk:(atI p e.pc).kind=12)(hf:e.ft=false):Vc (vF_ 26 [.agg (pgA p),.agg (enA e)] [.fv,.fv,.b false,iN p e,.bd false,.bd false,.bd false,.bd false,.bd false,.bd false,.bd false,.bd false,.bd false,.bd false,.bd false] [] (aI 2) []):=al (cj hf (gQ p (iI p e (cj (atC p e.pc) (cj (show((atI p e.pc).kind==(1:Int))=false from(aa.2 (by omega))) (cj (show((atI p e.pc).kind==(2:Int))=false from(aa.2 (by omega))) (cj (show((atI p e.pc).kind==(3:Int))=false from(aa.2 (by omega))) (cj (show((atI p e.pc).kind==(4:Int))=false from(aa.2 (by omega))) (cj (show((atI p e.pc).kind==(5:Int))=false from(aa.2 (by omega))) (cj (show((atI p e.pc).kind==(6:Int))=false from(aa.2 (by omega))) (cj (show((atI p e.pc).kind==(7:Int))=false from(aa.2 (by omega))) (cj (show((atI p e.pc).kind==(8:Int))=false from(aa.2 (by omega))) (cj (show((atI p e.pc).kind==(9:Int))=false from(aa.2 (by omega))) (cj (show((atI p e.pc).kind==(10:Int))=false from(aa.2 (by omega))) (cj (show((atI p e.pc).kind==(11:Int))=false from(aa.2 (by omega))) (cj (rf (2:Int)) trivial))))))))))))))))
theorem ED(p:Pg)(e:En)(hP:OkP p):pC_ 26 [.agg (pgA p),.agg (enA e)] (.int .i64 (Ff p e)) []:=by
 obtain⟨⟨hk,_⟩,_⟩:=gl hP e.pc
 unfold Ff
 cases hf:e.ft with
 |true=>rw[ai (.inl rfl)];exact PureC.vc (FU p e hf)
 |false=>
  by_cases k12:(atI p e.pc).kind=12
  ·rw[ai (.inr k12)];exact PureC.vc (C5 p e k12 hf)
  ·rw[af (by rintro(h |h);cases h;exact k12 h)]
   by_cases k11:(atI p e.pc).kind=11
   ·rw[ai k11];exact PureC.vc (C6 p e k11 hf)
   ·rw[af k11]
    have hc:(atI p e.pc).kind=1∨(atI p e.pc).kind=2∨(atI p e.pc).kind=3∨(atI p e.pc).kind=4∨(atI p e.pc).kind=5∨(atI p e.pc).kind=6∨(atI p e.pc).kind=7∨(atI p e.pc).kind=8∨(atI p e.pc).kind=9∨(atI p e.pc).kind=10:=by omega
    rcases hc with h |h |h |h |h |h |h |h |h |h
    ·exact PureC.vc (F3 p e h hf)
    ·exact PureC.vc (F2 p e h hf)
    ·exact PureC.vc (F1 p e h hf)
    ·exact PureC.vc (F0 p e h hf)
    ·exact PureC.vc (FZ p e h hf)
    ·exact PureC.vc (FY p e h hf)
    ·exact PureC.vc (FX p e h hf)
    ·exact PureC.vc (FW p e h hf)
    ·exact PureC.vc (FV p e h hf)
    ·exact PureC.vc (C7 p e h hf)
end
end Go.Proofs.Ytdanmboalfmifaa.Px
namespace Go.Proofs.Ytdanmboalfmifaa.Rx
section
open Go.RowKit
def enL{α:Type}:Nat->List α->List (Nat×α)
 |_,[]=>[]
 |k,a::l=>(k,a)::enL (k+1) l
theorem rN{α:Type}: ∀(l:List α) (k i:Nat),ba (enL k l) (k+i)=l[i]?
 | [],_,_=>by simp[enL,ba]
 |a::l,k,0=>by
  show(bif Nat.beq (k+0) k then some a else ba (enL (k+1) l) (k+0))=_
  rw[cz,cy]
  rfl
 |a::l,k,i+1=>by
  have e:Nat.beq (k+(i+1)) k=false:=by
   cases hb:Nat.beq (k+(i+1)) k with
   |false=>rfl
   |true=>have:=aj hb;omega
  show(bif Nat.beq (k+(i+1)) k then some a else ba (enL (k+1) l) (k+(i+1)))=_
  rw[e,show k+(i+1)=k+1+i by omega]
  show ba (enL (k+1) l) (k+1+i)=_
  rw[rN l (k+1) i,ch]
theorem i7{α:Type}(d:α): ∀(l:List (Nat×α)) (i:Nat),ic d l i=(ba l i).getD d
 | [],_=>rfl
 | (k,v)::l,i=>by
  unfold ic ba
  cases Nat.beq i k with
  |true=>rfl
  |false=>exact i7 d l i
def qa(id n:Nat)(l:List AV)(H:List Blk)(r:List (Nat×Nat))(l':List AV)(H':List Blk):Prop:=
 match wE id n ⟨enL 0 l,enL 0 H,H.length⟩ with
 |some q=>match leS r q.1.st ⟨enL 0 l',enL 0 H',H'.length⟩ with
  |some ps=>mV ((l'.length=l.length)::(q.2++ps))
  |none=>False
 |none=>False
section
variable{P:Program}
theorem PureC.shrT{f:FuncId}{args l l':List AV}{H H':List Blk}{id n:Nat}{r:List (Nat×Nat)}(h:PureC P f args (.tup l) H)(hv:Vc (qa id n l H r l' H')):PureC P f args (.tup l') H':=by
 intro w R vs hR hl ha
 refine(h w R vs hR hl ha).mono ?_
 rintro e w' ⟨z,cx,rfl,rfl,k1,k2,k3,k4,k5,k6,k7⟩
 have hv:=hv.out
 unfold qa at hv
 split at hv
 ·rename_i q hq
  split at hv
  ·rename_i ps hps
   obtain⟨us,rfl,h1,h2⟩: ∃us:Array Value,z= .tuple us∧l.length=us.size∧ ∀(j:Nat) x v,l[j]? =some x->us[j]? =some v->Rep cx x v:=by
    cases k7 with
    |pure h=>cases h with
     |tup hl h=>exact⟨_,rfl,hl,fun j x v h1 h2=> .pure (h j x v h1 h2)⟩
    |tup hl h=>exact⟨_,rfl,hl,h⟩
   letI d0:Dfs:=⟨[]⟩
   have g0: ∀{α:Type} (L:List α) i,ba (enL 0 L) i=L[i]? :=fun L i=>by
    have:=rN L 0 i
    rwa [a7] at this
   have hs:SRep cx (⟨enL 0 l,enL 0 H,H.length⟩:Sm).st ⟨us,[]⟩ us.size:=by
    refine⟨?_,k2,fun t=> ?_,fun i hi=> ?_,rfl,rfl⟩
    ·rw[k1];funext i;exact(g0 H i).symm
    ·show Rep cx (ic .junk (enL 0 l) t) (us.getD t undef)
     rw[i7,g0]
     cases ht:l[t]? with
     |none=>exact .pure (.junk _)
     |some x=>
      have h3:t<us.size:=by rw[<-h1];exact(az.1 ht).1
      have h4:us.getD t undef=us[t]:=by simp[Array.getD,h3]
      rw[h4]
      exact h2 t x _ ht (ao h3)
    ·have hi:(ba (enL 0 H) i).isSome=true:=hi
     rw[g0] at hi
     exact Classical.byContradiction fun hn=>by rw[di (bz.1 hn)] at hi;cases hi
   have hal:=fO hv
   obtain⟨cx1,hs1,hx1,hw1⟩:=SRep.shr (J':=q.1) (ps:=q.2) hs hq fun p hp=>hal p (bG _ (bW _ hp))
   obtain⟨cx',hs',hx2,hw2⟩:=hs1.le hps fun p hp=>hal p (bG _ (bN _ hp))
   have hx:=hx1.trans hx2
   have hw:=hw2.trans hw1
   have hll:l'.length=l.length:=hal _ (d4 ..)
   refine⟨_,cx',rfl,hw.symm, ?_,hs'.c,by rw[hx.B];exact k3,fun g hg=>hx.R g (k4 g hg),fun g hg=> ?_,k6,.tup (hll.trans h1) fun j x v hj hu=> ?_⟩
   ·rw[hs'.H]
    funext i;exact g0 H' i
   ·rcases hx.Rn g hg with h3 |h3
    ·exact k5 g h3
    ·rw[k3] at h3;exact .inr (bz.1 h3)
   ·have h3:=hs'.env j
    have h4:Rep cx' (ic .junk (enL 0 l') j) (us.getD j undef):=h3
    rw[i7,g0,hj] at h4
    have h5:us.getD j undef=v:=by simp[aU,hu]
    rw[h5] at h4
    exact h4
  ·cases hv
 ·cases hv
end
end
end Go.Proofs.Ytdanmboalfmifaa.Rx
