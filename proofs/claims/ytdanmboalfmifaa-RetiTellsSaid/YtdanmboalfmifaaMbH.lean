import Derived.Test.YtdanmboalfmifaaMbG
import Derived.Test.YtdanmboalfmifaaMbD
import Derived.Test.YtdanmboalfmifaaMbB
import Derived.Lib.AppendZeros
import Derived.Deep.QuietTactic
import Derived.Laws.Rows
import Derived.Test.YtdanmboalfmifaaMbF
import Derived.Test.YtdanmboalfmifaaMbE
set_option linter.unusedVariables false
set_option linter.unusedSimpArgs false
set_option maxRecDepth 100000
namespace Go.Proofs.Ytdanmboalfmifaa.Px
section
open Go.RowKit Go.Proofs.Ytdanmboalfmifaa.Rx
theorem y8(c:Cf)(k:Nat)(hk:k<c.b.length)(e:En)(t:Option Int):(apl c k e t=⟨c.s,c.b.set k e,c.r,c.e⟩∧ ∀u,t=some u->e.nxt=u)∨ ∃u,t=some u∧apl c k e t=⟨c.s.go u,(c.b.set k (e.to u)).take (k+1),c.r,c.e⟩:=by
 cases t with
 |none=>exact .inl ⟨rfl,fun _ h=>by cases h⟩
 |some u=>
  have h1:(c.b.set k e).getD k default=e:=by rw[cD c.b k k e hk,ai rfl]
  have h2:apl c k e (some u)=if((c.b.set k e).getD k default).nxt=u then(⟨c.s,c.b.set k e,c.r,c.e⟩:Cf) else⟨c.s.go u,((c.b.set k e).set k (((c.b.set k e).getD k default).to u)).take (k+1),c.r,c.e⟩:=rfl
  rw[h1] at h2
  by_cases h0:e.nxt=u
  ·rw[ai h0] at h2
   exact .inl ⟨h2,fun v hv=>by cases hv;exact h0⟩
  ·rw[ah h0,List.set_set] at h2
   exact .inr ⟨u,rfl,h2⟩
theorem z9(l:List En){n j:Nat}(h:j<n):(l.take n).getD j default=l.getD j default:=by
 rw[au,au,a9,ai h]
theorem Cor.doN{p:Pg}{c d:Cf}{o:List Ob}{k:Nat}(h:Cor p c)(e:doO p c k=some (d,o)):Cor p d∧hdP d=hdP c:=by
 obtain⟨hk,hdn,hc,rd,_⟩:=Gl e
 obtain⟨q,hq,_,_,hK⟩:=ii hc
 obtain rfl:k=q:=by omega
 obtain⟨h1,h2,h3,h4⟩:=vq p c k
 rcases y8 c k hk (ouV p c k).1 (ouV p c k).2.1 with⟨r1,hu⟩|⟨u,hu,r1⟩
 ·rw[r1] at rd
  subst rd
  have g: ∀j,(c.b.set k (ouV p c k).1).getD j default=if k=j then(ouV p c k).1 else c.b.getD j default:=fun j=>cD c.b k j _ hk
  have gp: ∀j,((c.b.set k (ouV p c k).1).getD j default).pc=(c.b.getD j default).pc:=fun j=>by
   rw[g];split
   ·rename_i q;subst q;exact h1
   ·rfl
  have gn: ∀j,((c.b.set k (ouV p c k).1).getD j default).nxt=(c.b.getD j default).nxt:=fun j=>by
   rw[g];split
   ·rename_i q;subst q;exact h3
   ·rfl
  have hl:(c.b.set k (ouV p c k).1).length=c.b.length:=aq
  refine⟨⟨fun j hj=> ?_,fun j hj=> ?_,fun j hj=> ?_⟩, ?_⟩
  ·have hj:j<c.b.length:=by rw[<-hl];exact hj
   by_cases hjk:j<k
   ·exact(h.ent j hj).alk (Alk.loc hj (by rw[hl];exact hj) (fun _=>rfl) rfl rfl rfl fun i hi=>by rw[g,ah (by omega)])
   ·by_cases hjk2:j=k
    ·subst hjk2
     refine EC.self (u:=(ouV p c j).1.nxt) (h.ent j hk) ⟨hk,by rw[hl];exact hk,fun _=>rfl,rfl,rfl,fun i hi=>by rw[g,ah (by omega)]⟩ hdn hK ?_ hu fun _=>h3
     rw[g,ai rfl]
     rfl
    ·exact(h.ent j hj).alk (Alk.stab (by omega) hj h1 hdn h4)
  ·have hj:j+1<c.b.length:=by rw[<-hl];exact hj
   show((c.b.set k (ouV p c k).1).getD (j+1) default).pc=((c.b.set k (ouV p c k).1).getD j default).nxt
   rw[gp,gn];exact h.chn j hj
  ·have hj:j+1=c.b.length:=by rw[<-hl];exact hj
   show c.s.pc=((c.b.set k (ouV p c k).1).getD j default).nxt
   rw[gn];exact h.lst j hj
  ·unfold hdP
   show(if(c.b.set k (ouV p c k).1).length=0 then c.s.pc else((c.b.set k (ouV p c k).1).getD 0 default).pc)=_
   rw[hl,gp]
 ·rw[r1] at rd
  subst rd
  have hl:((c.b.set k ((ouV p c k).1.to u)).take (k+1)).length=k+1:=by rw[aS,aq];omega
  have g: ∀j,j<k+1->((c.b.set k ((ouV p c k).1.to u)).take (k+1)).getD j default=if k=j then(ouV p c k).1.to u else c.b.getD j default:=fun j hj=>by
   rw[z9 _ hj];exact cD c.b k j _ hk
  have gp: ∀j,j<k+1->(((c.b.set k ((ouV p c k).1.to u)).take (k+1)).getD j default).pc=(c.b.getD j default).pc:=fun j hj=>by
   rw[g j hj];split
   ·rename_i q;subst q;exact h1
   ·rfl
  refine⟨⟨fun j hj=> ?_,fun j hj=> ?_,fun j hj=> ?_⟩, ?_⟩
  ·have hj:j<k+1:=by rw[<-hl];exact hj
   by_cases hjk:j<k
   ·exact(h.ent j (by omega)).alk (Alk.loc (by omega) (by rw[hl];exact hj) (fun _=>rfl) rfl rfl rfl fun i hi=>by rw[g i (by omega),ah (by omega)])
   ·obtain rfl:j=k:=by omega
    refine EC.self (u:=u) (h.ent j hk) ⟨hk,by rw[hl];exact hj,fun _=>rfl,rfl,rfl,fun i hi=>by rw[g i (by omega),ah (by omega)]⟩ hdn hK ?_ (fun t ht=>by rw[hu] at ht;cases ht;rfl) fun hn=>by rw[hu] at hn;cases hn
    rw[g j (by omega),ai rfl]
  ·have hj:j+1<k+1:=by rw[<-hl];exact hj
   show(((c.b.set k ((ouV p c k).1.to u)).take (k+1)).getD (j+1) default).pc=(((c.b.set k ((ouV p c k).1.to u)).take (k+1)).getD j default).nxt
   rw[gp _ hj,g j (by omega),ah (by omega)]
   exact h.chn j (by omega)
  ·have hj:j+1=k+1:=by rw[<-hl];exact hj
   obtain rfl:j=k:=by omega
   show u=(((c.b.set j ((ouV p c j).1.to u)).take (j+1)).getD j default).nxt
   rw[g j (by omega),ai rfl]
   rfl
  ·unfold hdP
   show(if((c.b.set k ((ouV p c k).1.to u)).take (k+1)).length=0 then(c.s.go u).pc else(((c.b.set k ((ouV p c k).1.to u)).take (k+1)).getD 0 default).pc)=_
   rw[hl,ah (by omega),ah (by omega),gp 0 (by omega)]
theorem Cor.doO{p:Pg}{c d:Cf}{o:List Ob}{i:Int}(h:Cor p c)(e:doO p c i=some (d,o)):Cor p d∧hdP d=hdP c:=by
 have hc:cnV p c i=true:=by
  unfold Px.doO at e
  split at e
  ·assumption
  ·cases e
 obtain⟨k,rfl,_⟩:=ii hc
 exact h.doN e
theorem vN(p:Pg)(l:List En)(a:Int): ∀j v f,ldF p l a j=some (v,f,true)->f<j
 |0,_,_,q=>by cases q
 |j+1,v,f,q=>by
  unfold ldF at q
  split at q
  ·split at q
   ·have h5:=congrArg (fun q:Int×Int×Bool=>q.2.1) (Option.some.inj q)
    have h6:(j:Int)=f:=h5
    omega
   ·have h5:=congrArg (fun q:Int×Int×Bool=>q.2.2) (Option.some.inj q)
    cases h5
  ·have:=vN p l a j v f q
   omega
theorem sn(p:Pg){l:List En}(a:Int){i:Nat}{e:En}(hi:i<l.length)(hn:(l.getD i default).kn=false): ∀k v f,ldF p l a k=some (v,f,true)->(i:Int)<=f->ldF p (l.set i e) a k=some (v,f,true)
 |0,_,_,h,_=>by cases h
 |k+1,v,f,h,hf=>by
  unfold ldF at h ⊢
  by_cases hik:i=k
  ·subst hik
   rw[ah (fun q=>by rw[hn] at q;cases q.2.1)] at h
   have:=vN p l a i v f h
   omega
  ·have e2:(l.set i e).getD k default=l.getD k default:=by rw[cD l i k e hi,ah hik]
   have e1:enI p (l.set i e) k=enI p l k:=by unfold enI;rw[e2]
   rw[e1,e2]
   split
   ·rename_i hc
    rw[ai hc] at h
    exact h
   ·rename_i hc
    rw[ah hc] at h
    exact sn p a hi hn k v f h hf
theorem oD(p:Pg){l:List En}(a:Int){i:Nat}{e:En}(hi:i<l.length)(hp:e.pc=(l.getD i default).pc)(hn:(l.getD i default).kn=false)(ha:e.adr≠a): ∀k,ldF p (l.set i e) a k=ldF p l a k
 |0=>rfl
 |k+1=>by
  unfold ldF
  by_cases hik:i=k
  ·subst hik
   have e2:(l.set i e).getD i default=e:=by rw[cD l i i e hi,ai rfl]
   rw[e2,hn,ah (fun q=>ha q.2.2),ah (fun q=>by cases q.2.1)]
   exact oD p a hi hp hn ha i
  ·have e2:(l.set i e).getD k default=l.getD k default:=by rw[cD l i k e hi,ah hik]
   have e1:enI p (l.set i e) k=enI p l k:=by unfold enI;rw[e2]
   rw[e1,e2,oD p a hi hp hn ha k]
theorem l7(p:Pg){l:List En}(r:Int){i:Nat}{e:En}(hi:i<l.length)(hp:e.pc=(l.getD i default).pc)(hd:dl (enI p l i)=false): ∀k,eB p (l.set i e) r k=eB p l r k
 |0=>rfl
 |k+1=>by
  unfold eB
  by_cases hik:i=k
  ·subst hik
   have e2:(l.set i e).getD i default=e:=by rw[cD l i i e hi,ai rfl]
   have e1:enI p (l.set i e) i=enI p l i:=by unfold enI;rw[e2,hp]
   rw[e1,hd,ah (fun q=>by cases q.1),ah (fun q=>by cases q.1)]
   exact l7 p r hi hp hd i
  ·have e2:(l.set i e).getD k default=l.getD k default:=by rw[cD l i k e hi,ah hik]
   have e1:enI p (l.set i e) k=enI p l k:=by unfold enI;rw[e2]
   rw[e1,e2,l7 p r hi hp hd k]
theorem sF(p:Pg)(l:List En)(i a:Int): ∀j k q,hzG p l i a k j=some q-> ∀n,k<=n->n<q-> ¬hzB p l i a n
 |0,_,_,e,_,_,_=>by cases e
 |j+1,k,q,e,n,h1,h2=>by
  unfold hzG at e
  split at e
  ·cases e;omega
  ·rename_i hh
   by_cases hn:n=k
   ·subst hn;exact hh
   ·exact sF p l i a j (k+1) q e n (by omega) h2
theorem pQ(p:Pg)(l:List En)(i a:Int): ∀j k,hzG p l i a k j=none-> ∀n,k<=n->n<k+j-> ¬hzB p l i a n
 |0,_,_,n,h1,h2=>by omega
 |j+1,k,e,n,h1,h2=>by
  unfold hzG at e
  split at e
  ·cases e
  ·rename_i hh
   by_cases hn:n=k
   ·subst hn;exact hh
   ·exact pQ p l i a j (k+1) e n (by omega) (by omega)
theorem EC.load{p:Pg}{c:Cf}{j:Nat}(h:EC p c j)(hk:(enX p c j).kind=2)(hd:(c.b.getD j default).dn=true):(c.b.getD j default).kn=true∧(c.b.getD j default).adr=adV p c j (enX p c j)∧(¬(c.s.m.length:Int)<=adV p c j (enX p c j)->(c.b.getD j default).frm=(ldV p c.s.m c.b j (adV p c j (enX p c j))).2.1∧(c.b.getD j default).val=(ldV p c.s.m c.b j (adV p c j (enX p c j))).1∧(ldV p c.s.m c.b j (adV p c j (enX p c j))).2.2=true):=by
 obtain⟨h1,h2,_⟩:=h.don hd (by omega)
 have hK:=h1
 unfold cnK at hK
 rw[ah (by omega),ah (by omega),ah (by omega),ai hk] at hK
 unfold ouV at h2
 rw[ah (by omega),ah (by omega),ah (by omega),ai hk] at h2
 by_cases hm:(c.s.m.length:Int)<=adV p c j (enX p c j)
 ·rw[ai hm] at h2
  exact⟨by rw[<-h2];rfl,by rw[<-h2];rfl,fun q=>absurd hm q⟩
 ·rw[ah hm] at h2
  refine⟨by rw[<-h2];rfl,by rw[<-h2];rfl,fun _=>⟨by rw[<-h2];rfl,by rw[<-h2];rfl, ?_⟩⟩
  have:=(eS hK).2
  rw[bC hm,cZ] at this
  exact this
theorem EC.told{p:Pg}{c:Cf}{k j:Nat}(h:EC p c j)(hkj:k<j)(hj:j<c.b.length){e:En}{a:Int}(hp:e.pc=(c.b.getD k default).pc)(ha:e.adr=a)(h3:(enX p c k).kind=3)(hn:(c.b.getD k default).kn=false)(hz:(c.s.m.length:Int)<=a∨ ¬((enX p c j).kind=2∧(c.b.getD j default).kn=true∧(c.b.getD j default).adr=a∧(c.b.getD j default).frm<k)):EC p ⟨c.s,c.b.set k e,c.r,c.e⟩ j:=by
 have hk:k<c.b.length:=by omega
 have hpc: ∀i,((c.b.set k e).getD i default).pc=(c.b.getD i default).pc:=fun i=>by
  rw[cD c.b k i e hk]
  split
  ·rename_i q;subst q;exact hp
  ·rfl
 have hen:(c.b.set k e).getD j default=c.b.getD j default:=by rw[cD c.b k j e hk,ah (by omega)]
 have hds:dl (enI p c.b k)=false:=by
  have:enI p c.b k=enX p c k:=rfl
  rw[this]
  unfold dl
  rw[h3]
  rfl
 have hrg: ∀r,c8 p c.s (c.b.set k e) j r=c8 p c.s c.b j r:=fun r=>by
  unfold c8
  rw[aq,l7 p r hk hp hds]
 have hre:reV p c.s.st (c.b.set k e) j=reV p c.s.st c.b j:=by
  unfold reV
  rw[aq]
  exact dm p _ _ _ _ _ _ fun i _=>hpc _
 refine h.alk0 ⟨rfl,hen,fun r _=>hrg r,hre⟩ fun hd=>⟨hj,by show j<(c.b.set k e).length;rw[aq];exact hj,rfl,rfl,hen,fun r _=>hrg r,fun k2 hm ht=> ?_,hre, ?_⟩
 ·obtain⟨g1,g2,g3⟩:=h.load k2 hd
  obtain⟨g4,_,_⟩:=g3 hm
  show ldV p c.s.m (c.b.set k e) j _=_
  by_cases hab:adV p c j (enX p c j)=a
  ·have hf:(k:Int)<=(c.b.getD j default).frm:=by
    rcases hz with hz |hz
    ·rw[hab] at hm;exact absurd hz hm
    ·by_cases hlt:(c.b.getD j default).frm<k
     ·exact absurd ⟨k2,g1,g2.trans hab,hlt⟩ hz
     ·omega
   rw[g4] at hf
   unfold ldV at hf ht ⊢
   rw[aq]
   cases hq:ldF p c.b (adV p c j (enX p c j)) (cl0 (j:Int) c.b.length) with
   |none=>
    rw[hq] at hf
    have h9:(if 0<=adV p c j (enX p c j)∧adV p c j (enX p c j)<c.s.m.length then(c.s.m.getD (adV p c j (enX p c j)).toNat 0, -1,true) else(0, -1,true):Int×Int×Bool).2.1= -1:=by split<;>rfl
    have h8:(k:Int)<=(if 0<=adV p c j (enX p c j)∧adV p c j (enX p c j)<c.s.m.length then(c.s.m.getD (adV p c j (enX p c j)).toNat 0, -1,true) else(0, -1,true):Int×Int×Bool).2.1:=hf
    rw[h9] at h8
    omega
   |some x=>
    rw[hq] at hf ht
    obtain⟨v,f,t⟩:=x
    obtain rfl:t=true:=ht
    rw[sn p _ hk hn _ v f hq hf]
  ·unfold ldV
   rw[aq,oD p _ hk hp hn (by rw[ha];exact fun q=>hab q.symm)]
 ·unfold mL
  rw[aq]
  exact lK p _ _ fun i _ _=>hpc i
theorem vY(p:Pg)(l:List En)(i a:Int): ∀j k q,hzG p l i a k j=some q->k<=q
 |0,_,_,e=>by cases e
 |j+1,k,q,e=>by
  unfold hzG at e
  split at e
  ·cases e;exact aB _
  ·have:=vY p l i a j (k+1) q e
   omega
theorem EC.adr{p:Pg}{c d:Cf}{k:Nat}(h:EC p c k)(hL:Loc p c d k)(h3:(enX p c k).kind=3)(hn:(c.b.getD k default).kn=false)(hab:tAB p c k (enX p c k)=true){ft:Bool}(hft:ft=decide ((c.s.m.length:Int)<=adV p c k (enX p c k)))(he:d.b.getD k default={c.b.getD k default with adr:=adV p c k (enX p c k),kn:=true,ft:=ft}):EC p d k:=by
 have hx:enX p d k=enX p c k:=by
  unfold enX
  rw[he]
 refine⟨fun hd _=> ?_,fun _=> .inl (by rw[hx];exact h3),fun _ _=> ?_,fun _ hk=> ?_,fun hk=> ?_,fun _=> ?_,fun hk=> ?_⟩
 ·rw[he] at hd
  obtain⟨h1,h2,_⟩:=h.don hd (by omega)
  have ho:ouV p c k=((c.b.getD k default).done.vl (tD p c k (enX p c k)).1,none,[]):=by
   unfold ouV
   rw[ah (by omega),ah (by omega),ai h3]
  have ho2:ouV p d k=((d.b.getD k default).done.vl (tD p c k (enX p c k)).1,none,[]):=by
   unfold ouV tD
   rw[hx,ah (by omega),ah (by omega),ai h3,hL.reg]
  rw[ho] at h2
  rw[hx,hL.cnK,ho2,he]
  refine⟨h1, ?_,fun t ht=>by cases ht⟩
  have g1:(c.b.getD k default).dn=true:=hd
  have g2:(tD p c k (enX p c k)).1=(c.b.getD k default).val:=congrArg En.val h2
  rw[g2]
  revert g1
  generalize c.b.getD k default=e0
  intro g1
  obtain⟨x1,x2,x3,x4,x5,x6,x7,x8⟩:=e0
  obtain rfl:x6=true:=g1
  rfl
 ·rw[hx,(hL.tAB _).1,(hL.tAB _).2,hL.m,he]
  exact⟨hab,rfl,hft⟩
 ·rw[he] at hk;cases hk
 ·rw[hx] at hk;omega
 ·rw[he]
  exact h.nx1 (.inl (by omega))
 ·rw[hx] at hk;omega
theorem Cor.adrO{p:Pg}{c d:Cf}{o:List Ob}{i:Int}(h:Cor p c)(e:adrO p c i=some (d,o)):Cor p d∧hdP d=hdP c:=by
 unfold Px.adrO at e
 split at e
 ·rename_i hc
  obtain⟨k,rfl,hk,hn,hK⟩:=mI hc
  have hab:tAB p c k (enX p c k)=true:=by
   unfold caV at hc
   rw[aK] at hc
   exact(eS (eS (eS hc).2).2).2
  have h3:(enX p c k).kind=3:=by
   unfold caV at hc
   rw[aK] at hc
   exact ax.1 (eS (eS (eS hc).2).2).1
  rw[aK,af] at e
  generalize hA:adV p c k (enX p c k)=a at*
  have main: ∀ft:Bool,ft=decide ((c.s.m.length:Int)<=a)->(∀j,k<j->j<c.b.length->(c.s.m.length:Int)<=a∨ ¬((enX p c j).kind=2∧(c.b.getD j default).kn=true∧(c.b.getD j default).adr=a∧(c.b.getD j default).frm<k)->EC p ⟨c.s,c.b.set k {c.b.getD k default with adr:=a,kn:=true,ft:=ft},c.r,c.e⟩ j)∧(∀j,j<=k->EC p ⟨c.s,c.b.set k {c.b.getD k default with adr:=a,kn:=true,ft:=ft},c.r,c.e⟩ j):=fun ft hft=>by
   have g: ∀j,(c.b.set k {c.b.getD k default with adr:=a,kn:=true,ft:=ft}).getD j default=if k=j then{c.b.getD k default with adr:=a,kn:=true,ft:=ft} else c.b.getD j default:=fun j=>cD c.b k j _ hk
   refine⟨fun j h1 h2 h4=>EC.told (h.ent j h2) h1 h2 rfl rfl h3 hn h4,fun j h1=> ?_⟩
   by_cases hjk:j=k
   ·subst hjk
    refine EC.adr (h.ent j hk) ⟨hk,by show j<(c.b.set _ _).length;rw[aq];exact hk,fun _=>rfl,rfl,rfl,fun i hi=>by rw[g,ah (by omega)]⟩ h3 hn hab (ft:=ft) (by rw[hA];exact hft) ?_
    rw[g,ai rfl,hA]
   ·exact(h.ent j (by omega)).alk (Alk.loc (by omega) (by show j<(c.b.set _ _).length;rw[aq];omega) (fun _=>rfl) rfl rfl rfl fun i hi=>by rw[g,ah (by omega)])
  have gp: ∀(ft:Bool) j,((c.b.set k {c.b.getD k default with adr:=a,kn:=true,ft:=ft}).getD j default).pc=(c.b.getD j default).pc∧((c.b.set k {c.b.getD k default with adr:=a,kn:=true,ft:=ft}).getD j default).nxt=(c.b.getD j default).nxt:=fun ft j=>by
   rw[cD c.b k j _ hk]
   split
   ·rename_i q;subst q;exact⟨rfl,rfl⟩
   ·exact⟨rfl,rfl⟩
  have whole: ∀ft:Bool,ft=decide ((c.s.m.length:Int)<=a)->(∀j,k<j->j<c.b.length->(c.s.m.length:Int)<=a∨ ¬((enX p c j).kind=2∧(c.b.getD j default).kn=true∧(c.b.getD j default).adr=a∧(c.b.getD j default).frm<k))->Cor p ⟨c.s,c.b.set k {c.b.getD k default with adr:=a,kn:=true,ft:=ft},c.r,c.e⟩∧hdP ⟨c.s,c.b.set k {c.b.getD k default with adr:=a,kn:=true,ft:=ft},c.r,c.e⟩=hdP c:=fun ft hft hz=>by
   have hl:(c.b.set k {c.b.getD k default with adr:=a,kn:=true,ft:=ft}).length=c.b.length:=aq
   obtain⟨m1,m2⟩:=main ft hft
   refine⟨⟨fun j hj=> ?_,fun j hj=> ?_,fun j hj=> ?_⟩, ?_⟩
   ·have hj:j<c.b.length:=by rw[<-hl];exact hj
    by_cases hjk:j<=k
    ·exact m2 j hjk
    ·exact m1 j (by omega) hj (hz j (by omega) hj)
   ·have hj:j+1<c.b.length:=by rw[<-hl];exact hj
    show((c.b.set k _).getD (j+1) default).pc=((c.b.set k _).getD j default).nxt
    rw[(gp ft _).1,(gp ft _).2];exact h.chn j hj
   ·have hj:j+1=c.b.length:=by rw[<-hl];exact hj
    show c.s.pc=((c.b.set k _).getD j default).nxt
    rw[(gp ft _).2];exact h.lst j hj
   ·unfold hdP
    show(if(c.b.set k _).length=0 then c.s.pc else((c.b.set k _).getD 0 default).pc)=_
    rw[hl,(gp ft 0).1]
  unfold tV at e
  rw[hA] at e
  split at e
  ·rename_i hm
   obtain⟨rfl,_⟩:=Prod.mk.inj e
   exact whole true (bL hm).symm fun _ _ _=> .inl hm
  ·rename_i hm
   have hf:(c.b.getD k default).ft=decide ((c.s.m.length:Int)<=a):=by
    rw[bC hm]
    exact(h.ent k hk).f3 h3 hn
   have hU:(upE c k fun e=>e.ad a)=⟨c.s,c.b.set k {c.b.getD k default with adr:=a,kn:=true,ft:=(c.b.getD k default).ft},c.r,c.e⟩:=rfl
   generalize hft:(c.b.getD k default).ft=ft at hf hU
   have hlen:(upE c k fun e=>e.ad a).b.length=c.b.length:=aq
   have hzB: ∀j,k<j->(hzB p (upE c k fun e=>e.ad a).b k a j↔(enX p c j).kind=2∧(c.b.getD j default).kn=true∧(c.b.getD j default).adr=a∧(c.b.getD j default).frm<k):=fun j hj=>by
    have e1:(upE c k fun e=>e.ad a).b.getD j default=c.b.getD j default:=by
     show(c.b.set k _).getD j default=_
     rw[cD c.b k j _ hk,ah (by omega)]
    unfold Px.hzB enI enX
    rw[e1]
   have hz0:hz0 (k:Int) (upE c k fun e=>e.ad a).b.length=k+1:=by
    rw[hlen];unfold Px.hz0;omega
   split at e
   ·rename_i q hz
    obtain⟨rfl,_⟩:=Prod.mk.inj e
    unfold hzV at hz
    split at hz
    ·rename_i n hn2
     have hq:(n:Int)=q:=congrArg Prod.fst hz
     subst hq
     rw[hz0,hlen] at hn2
     have hge:=vY p _ _ _ _ _ _ hn2
     have hmin:=sF p _ _ _ _ _ _ hn2
     have hnl:n<c.b.length:=by
      have:=qQ p _ _ _ _ _ _ hn2
      omega
     rw[aK,hU]
     obtain⟨m1,m2⟩:=main ft hf
     have hl:((c.b.set k {c.b.getD k default with adr:=a,kn:=true,ft:=ft}).take n).length=n:=by rw[aS,aq];omega
     have gt: ∀j,j<n->((c.b.set k {c.b.getD k default with adr:=a,kn:=true,ft:=ft}).take n).getD j default=(c.b.set k {c.b.getD k default with adr:=a,kn:=true,ft:=ft}).getD j default:=fun j hj=>z9 _ hj
     refine⟨⟨fun j hj=> ?_,fun j hj=> ?_,fun j hj=> ?_⟩, ?_⟩
     ·have hj:j<n:=by rw[<-hl];exact hj
      have hE:EC p ⟨c.s,c.b.set k {c.b.getD k default with adr:=a,kn:=true,ft:=ft},c.r,c.e⟩ j:=by
       by_cases hjk:j<=k
       ·exact m2 j hjk
       ·refine m1 j (by omega) (by omega) (.inr fun hh=>hmin j (by omega) hj ((hzB j (by omega)).2 hh))
      exact hE.alk (Alk.loc (by show j<(c.b.set _ _).length;rw[aq];omega) (by rw[hl];exact hj) (fun _=>rfl) rfl rfl rfl fun i hi=>gt i (by omega))
     ·have hj:j+1<n:=by rw[<-hl];exact hj
      show(((c.b.set k _).take n).getD (j+1) default).pc=(((c.b.set k _).take n).getD j default).nxt
      rw[gt _ hj,gt _ (by omega),(gp ft _).1,(gp ft _).2];exact h.chn j (by omega)
     ·have hj:j+1=n:=by rw[<-hl];exact hj
      show((c.b.set k _).getD n default).pc=(((c.b.set k _).take n).getD j default).nxt
      rw[gt _ (by omega),(gp ft _).1,(gp ft _).2, <-hj];exact h.chn j (by omega)
     ·unfold hdP
      show(if((c.b.set k _).take n).length=0 then _ else(((c.b.set k _).take n).getD 0 default).pc)=_
      rw[hl,ah (by omega),ah (by omega),gt 0 (by omega),(gp ft 0).1]
    ·cases hz
   ·rename_i q hz
    obtain⟨rfl,_⟩:=Prod.mk.inj e
    rw[hU]
    refine whole ft hf fun j h1 h2=> .inr fun hh=> ?_
    unfold hzV at hz
    split at hz
    ·cases hz
    ·rename_i hn2
     rw[hz0,hlen] at hn2
     exact pQ p _ _ _ _ _ hn2 j (by omega) (by omega) ((hzB j h1).2 hh)
 ·cases e
def o8(W c len:Int)(i:In)(s:S8):S8×List Ob×Int:=
 if i.kind=1 then((s.set i.d (Wd.doV W i.op (vlV W s i.a) (vlV W s i.b))).go (s.pc+1),[],0)
 else if i.kind=4 then(if vlV W s i.a=0 then s.go (s.pc+1) else(s.set i.d (vlV W s i.b)).go (s.pc+1),[],0)
 else if i.kind=2 then(if Wd.maskV W (vlV W s i.a+vlV W s i.b)<c then((s.set i.d (s.m.getD (Wd.maskV W (vlV W s i.a+vlV W s i.b)).toNat 0)).go (s.pc+1),[⟨1,Wd.maskV W (vlV W s i.a+vlV W s i.b)⟩],0) else(s,[],2))
 else if i.kind=3 then(if Wd.maskV W (vlV W s i.a+vlV W s i.b)<c then({s with m:=s.m.set (Wd.maskV W (vlV W s i.a+vlV W s i.b)).toNat (s.reg i.d),pc:=s.pc+1},[⟨2,Wd.maskV W (vlV W s i.a+vlV W s i.b)⟩],0) else(s,[],2))
 else if i.kind=5 then(if Wd.doV W i.op (vlV W s i.a) (vlV W s i.b)=0 then(s.go (s.pc+1),[⟨3,s.pc+1⟩],0) else(s.go i.tg,[⟨3,i.tg⟩],0))
 else if i.kind=6 then(s.go i.tg,[],0)
 else if i.kind=7 then(s.go (if len<vlV W s i.a then len else vlV W s i.a),[⟨3,if len<vlV W s i.a then len else vlV W s i.a⟩],0)
 else if i.kind=8 then(if 4<=s.st.length then(s,[],2) else({s with st:=s.st++[s.pc+1],pc:=i.tg},[],0))
 else if i.kind=9 then(if s.st.length=0 then(s,[],2) else({s with st:=s.st.take (s.st.length-1),pc:=s.st.getD (s.st.length-1) 0},[⟨3,s.st.getD (s.st.length-1) 0⟩],0))
 else if i.kind=10 then(s.go (s.pc+1),[],0)
 else if i.kind=11 then(s,[],1)
 else(s,[],2)
structure Stp (p:Pg) (c:Cf):Prop where
 e:(rtV p c).e=(o8 p.W c.s.m.length p.is.length (enX p c 0) (c.s.go (c.b.getD 0 default).pc)).2.2
 go:(o8 p.W c.s.m.length p.is.length (enX p c 0) (c.s.go (c.b.getD 0 default).pc)).2.2=0->(o8 p.W c.s.m.length p.is.length (enX p c 0) (c.s.go (c.b.getD 0 default).pc)).1=(rtV p c).s.go (c.b.getD 0 default).nxt
 en:(o8 p.W c.s.m.length p.is.length (enX p c 0) (c.s.go (c.b.getD 0 default).pc)).2.2≠0->(o8 p.W c.s.m.length p.is.length (enX p c 0) (c.s.go (c.b.getD 0 default).pc)).1=c.s.go (c.b.getD 0 default).pc∧(rtV p c).s=c.s.go (c.b.getD 0 default).pc
def pfr(f:Int):Int:=if 0<=f then f-1 else f
structure Gon (p:Pg) (c:Cf) (s2:S8):Prop where
 crt:crV p c=true
 m:s2.m.length=c.s.m.length
 rg: ∀r:Int,0<=r∧r<4->s2.reg r=if dl (enX p c 0)=true∧(enX p c 0).d=r then(c.b.getD 0 default).val else c.s.reg r
 ld: ∀a:Int,0<=a∧a<c.s.m.length->s2.m.getD a.toNat 0=if(enX p c 0).kind=3∧(c.b.getD 0 default).adr=a then(c.b.getD 0 default).val else c.s.m.getD a.toNat 0
 ar:(enX p c 0).kind=3->0<=(c.b.getD 0 default).adr∧(c.b.getD 0 default).adr<c.s.m.length
 st:reG p c.b 0 1 c.s.st=some s2.st
theorem pz(p:Pg)(l:List En)(r:Int): ∀k,k+1<=l.length->eB p l r (k+1)=match eB p (ay l) r k with
  |some x=>some x
  |none=>if dl (enI p l 0)=true∧(enI p l 0).d=r then some (if(l.getD 0 default).dn then((l.getD 0 default).val,true) else(0,false)) else none
 |0,_=>rfl
 |k+1,h=>by
  have e2:(ay l).getD k default=(l.getD (k+1) default).pop:=dB l (by omega)
  have e1:enI p (ay l) k=enI p l (k+1):=by unfold enI;rw[e2];rfl
  rw[show eB p l r (k+1+1)=if dl (enI p l (k+1))=true∧(enI p l (k+1)).d=r then some (if(l.getD (k+1) default).dn then((l.getD (k+1) default).val,true) else(0,false)) else eB p l r (k+1) from rfl]
  rw[show eB p (ay l) r (k+1)=if dl (enI p (ay l) k)=true∧(enI p (ay l) k).d=r then some (if((ay l).getD k default).dn then(((ay l).getD k default).val,true) else(0,false)) else eB p (ay l) r k from rfl]
  rw[e1,e2]
  by_cases hc:dl (enI p l (k+1))=true∧(enI p l (k+1)).d=r
  ·rw[ai hc,ai hc];rfl
  ·rw[ah hc,ah hc]
   exact pz p l r k (by omega)
def upL(x:Int×Int×Bool):Int×Int×Bool:=if x.2.2 then(x.1,x.2.1+1,true) else(0,0,false)
theorem oC(p:Pg)(l:List En)(a:Int): ∀k,k+1<=l.length->ldF p l a (k+1)=match ldF p (ay l) a k with
  |some x=>some (upL x)
  |none=>if(enI p l 0).kind=3∧(l.getD 0 default).kn=true∧(l.getD 0 default).adr=a then some (if(l.getD 0 default).dn then((l.getD 0 default).val,0,true) else(0,0,false)) else none
 |0,_=>rfl
 |k+1,h=>by
  have e2:(ay l).getD k default=(l.getD (k+1) default).pop:=dB l (by omega)
  have e1:enI p (ay l) k=enI p l (k+1):=by unfold enI;rw[e2];rfl
  rw[show ldF p l a (k+1+1)=if(enI p l (k+1)).kind=3∧(l.getD (k+1) default).kn=true∧(l.getD (k+1) default).adr=a then some (if(l.getD (k+1) default).dn then((l.getD (k+1) default).val,((k+1:Nat):Int),true) else(0,0,false)) else ldF p l a (k+1) from rfl]
  rw[show ldF p (ay l) a (k+1)=if(enI p (ay l) k).kind=3∧((ay l).getD k default).kn=true∧((ay l).getD k default).adr=a then some (if((ay l).getD k default).dn then(((ay l).getD k default).val,(k:Int),true) else(0,0,false)) else ldF p (ay l) a k from rfl]
  rw[e1,e2]
  by_cases hc:(enI p l (k+1)).kind=3∧(l.getD (k+1) default).kn=true∧(l.getD (k+1) default).adr=a
  ·rw[ai hc,ai (show(enI p l (k+1)).kind=3∧(l.getD (k+1) default).pop.kn=true∧(l.getD (k+1) default).pop.adr=a from hc)]
   show some (if(l.getD (k+1) default).dn=true then _ else _)=some (upL (if(l.getD (k+1) default).dn=true then((l.getD (k+1) default).val,(k:Int),true) else(0,0,false)))
   cases (l.getD (k+1) default).dn<;>rfl
  ·rw[ah hc,ah (show ¬((enI p l (k+1)).kind=3∧(l.getD (k+1) default).pop.kn=true∧(l.getD (k+1) default).pop.adr=a) from hc)]
   exact oC p l a k (by omega)
theorem vO(p:Pg)(l:List En)(a:Int): ∀j x,ldF p l a j=some x->0<=x.2.1
 |0,_,q=>by cases q
 |j+1,x,q=>by
  unfold ldF at q
  split at q
  ·rw[<-Option.some.inj q]
   split
   ·show(0:Int)<=(j:Int);omega
   ·exact dx 0
  ·exact vO p l a j x q
theorem Gon.val{p:Pg}{c:Cf}{s2:S8}(h:Gon p c s2){k:Nat}(hk:k+1<c.b.length)(r:Int):c8 p s2 (ay c.b) k r=c8 p c.s c.b (k+1:Nat) r:=by
 obtain⟨_,_,hdn,_⟩:=gh h.crt
 unfold c8
 rw[bE (by rw[dA];omega),bE (by omega),pz p c.b r k (by omega)]
 split
 ·rename_i hr
  cases eB p (ay c.b) r k with
  |some x=>rfl
  |none=>
   have h2:=h.rg r hr
   show(s2.reg r,true)=match (if dl (enX p c 0)=true∧(enX p c 0).d=r then some (if(c.b.getD 0 default).dn=true then((c.b.getD 0 default).val,true) else(0,false)) else none:Option (Int×Bool)) with |some x=>x |none=>(c.s.reg r,true)
   rw[h2]
   by_cases hc:dl (enX p c 0)=true∧(enX p c 0).d=r
   ·have hd:(c.b.getD 0 default).dn=true:=by
     rcases hdn with q |q
     ·exact q
     ·have:=hc.1
      unfold dl at this
      rw[q] at this
      cases this
    rw[ai hc,ai hc,ai hd]
   ·rw[ah hc,ah hc]
 ·rfl
theorem Gon.vlf{p:Pg}{c:Cf}{s2:S8}(h:Gon p c s2){k:Nat}(hk:k+1<c.b.length)(v:Vl):cC p s2 (ay c.b) k v=cC p c.s c.b (k+1:Nat) v:=by
 unfold cC
 split
 ·exact h.val hk v.n
 ·rfl
theorem Gon.ldv{p:Pg}{c:Cf}{s2:S8}(h:Gon p c s2){k:Nat}(hk:k+1<c.b.length)(a:Int)(ht:(ldV p c.s.m c.b (k+1:Nat) a).2.2=true):ldV p s2.m (ay c.b) k a=((ldV p c.s.m c.b (k+1:Nat) a).1,pfr (ldV p c.s.m c.b (k+1:Nat) a).2.1,true):=by
 obtain⟨_,_,hdn,hkn⟩:=gh h.crt
 unfold ldV at ht ⊢
 rw[bE (by omega),oC p c.b a k (by omega)] at ht
 rw[bE (by rw[dA];omega),bE (by omega),oC p c.b a k (by omega)]
 cases hq:ldF p (ay c.b) a k with
 |some x=>
  rw[hq] at ht
  obtain⟨v,f,t⟩:=x
  cases t with
  |false=>cases ht
  |true=>
   have hf:=vO p _ _ _ _ hq
   show(v,f,true)=(v,pfr (f+1),true)
   have hf2:(0:Int)<=f:=hf
   unfold pfr
   rw[ai (by omega),Int.add_sub_cancel]
 |none=>
  rw[hq] at ht
  have e0:enI p c.b 0=(enX p c 0):=rfl
  show(if 0<=a∧a<(s2.m.length:Int) then(s2.m.getD a.toNat 0, -1,true) else(0, -1,true):Int×Int×Bool)=_
  rw[h.m]
  by_cases hc:(enX p c 0).kind=3∧(c.b.getD 0 default).kn=true∧(c.b.getD 0 default).adr=a
  ·have hd:(c.b.getD 0 default).dn=true:=by
    rcases hdn with q |q
    ·exact q
    ·omega
   have hr:=h.ar hc.1
   rw[hc.2.2] at hr
   simp only[e0,ai hc,ai hd]
   rw[ai hr,h.ld a hr,ai ⟨hc.1,hc.2.2⟩]
   rfl
  ·simp only[e0,ah hc]
   by_cases hr:0<=a∧a<(c.s.m.length:Int)
   ·rw[ai hr,ai hr,h.ld a hr,ah (fun q=>hc ⟨q.1,hkn q.1,q.2⟩)]
    rfl
   ·rw[ah hr,ah hr]
    rfl
theorem Gon.rev{p:Pg}{c:Cf}{s2:S8}(h:Gon p c s2){k:Nat}(hk:k+1<c.b.length):reV p s2.st (ay c.b) k=reV p c.s.st c.b (k+1:Nat):=by
 unfold reV
 rw[bE (by rw[dA];omega),bE (by omega)]
 have h1: ∀st,reG p c.b 0 (k+1) st=match reG p c.b 0 1 st with |none=>none |some M=>reG p c.b 1 k M:=fun st=>by
  rw[show reG p c.b 0 1 st=(if(enI p c.b 0).kind=8 then(if 4<=st.length then none else some (st++[(c.b.getD 0 default).pc+1])) else if(enI p c.b 0).kind=9 then(if st.length=0 then none else some (st.take (st.length-1))) else some st) from rfl]
  rw[show reG p c.b 0 (k+1) st=(if(enI p c.b 0).kind=8 then(if 4<=st.length then none else reG p c.b 1 k (st++[(c.b.getD 0 default).pc+1])) else if(enI p c.b 0).kind=9 then(if st.length=0 then none else reG p c.b 1 k (st.take (st.length-1))) else reG p c.b 1 k st) from rfl]
  split
  ·split<;>rfl
  ·split
   ·split<;>rfl
   ·rfl
 rw[h1,h.st]
 exact dm p _ _ _ _ _ _ fun i hi=>by
  rw[bg,dB c.b (by omega),iR 1 i]
  rfl
theorem Gon.ou{p:Pg}{c:Cf}{s2:S8}(h:Gon p c s2){k:Nat}(hk:k+1<c.b.length)(r:List Int)(e:Int)(hK:cnK p c (k+1:Nat) (enX p c (k+1))=true):cnK p ⟨s2,ay c.b,r,e⟩ k (enX p c (k+1))=true∧ouV p ⟨s2,ay c.b,r,e⟩ k=((ouV p c (k+1)).1.pop,(ouV p c (k+1)).2.1,(ouV p c (k+1)).2.2):=by
 have e2:(ay c.b).getD k default=(c.b.getD (k+1) default).pop:=dB c.b hk
 have hx:enX p ⟨s2,ay c.b,r,e⟩ k=enX p c (k+1):=by
  unfold enX
  show atI p ((ay c.b).getD k default).pc=_
  rw[e2]
  rfl
 have hV:=fun v=>h.vlf hk v
 have hR:=fun q=>h.val hk q
 have hL:=fun a=>h.ldv hk a
 have hE:=h.rev hk
 have hm:((s2.m.length:Nat):Int)=(c.s.m.length:Int):=by rw[h.m]
 unfold cnK at hK ⊢
 unfold ouV
 rw[hx]
 unfold tAB adV tA tB tD at*
 simp only[hV,hR,hm,hE,e2]
 by_cases k1:(enX p c (k+1)).kind=1
 ·simp only[ai k1] at hK ⊢
  exact⟨hK,rfl⟩
 simp only[ah k1] at hK ⊢
 by_cases k5:(enX p c (k+1)).kind=5
 ·have k4: ¬(enX p c (k+1)).kind=4:=by omega
  have k3: ¬(enX p c (k+1)).kind=3:=by omega
  have k2: ¬(enX p c (k+1)).kind=2:=by omega
  simp only[ai k5,ah k4,ah k3,ah k2] at hK ⊢
  exact⟨hK,rfl⟩
 simp only[ah k5] at hK ⊢
 by_cases k4:(enX p c (k+1)).kind=4
 ·simp only[ai k4] at hK ⊢
  exact⟨hK,rfl⟩
 simp only[ah k4] at hK ⊢
 by_cases k2:(enX p c (k+1)).kind=2
 ·have k3: ¬(enX p c (k+1)).kind=3:=by omega
  simp only[ai k2,ah k3] at hK ⊢
  obtain⟨h0,h3⟩:=eS hK
  rw[h0]
  by_cases hm:(c.s.m.length:Int)<=Wd.maskV p.W ((cC p c.s c.b (k+1:Nat) (enX p c (k+1)).a).1+(cC p c.s c.b (k+1:Nat) (enX p c (k+1)).b).1)
  ·simp only[ai hm,bL hm]
   exact⟨by simp,rfl⟩
  ·rw[bC hm,cZ] at h3
   simp only[ah hm,bC hm]
   rw[hL _ h3]
   exact⟨rfl,rfl⟩
 simp only[ah k2] at hK ⊢
 by_cases k3:(enX p c (k+1)).kind=3
 ·simp only[ai k3] at hK ⊢
  exact⟨hK,rfl⟩
 simp only[ah k3] at hK ⊢
 by_cases k7:(enX p c (k+1)).kind=7
 ·simp only[ai k7] at hK ⊢
  exact⟨hK,rfl⟩
 simp only[ah k7] at hK ⊢
 refine⟨hK, ?_⟩
 cases reV p c.s.st c.b (k+1:Nat) with
 |none=>rfl
 |some L=>
  by_cases h0:L.length=0
  ·simp only[ai h0];rfl
  ·simp only[ah h0];rfl
theorem EC.pop{p:Pg}{c:Cf}{s2:S8}(h:Gon p c s2){k:Nat}(hk:k+1<c.b.length)(r:List Int)(e:Int)(hE:EC p c (k+1)):EC p ⟨s2,ay c.b,r,e⟩ k:=by
 have e2:(ay c.b).getD k default=(c.b.getD (k+1) default).pop:=dB c.b hk
 have hx:enX p ⟨s2,ay c.b,r,e⟩ k=enX p c (k+1):=by
  unfold enX
  show atI p ((ay c.b).getD k default).pc=_
  rw[e2]
  rfl
 refine⟨fun hd hkk=> ?_,fun hf=> ?_,fun hkk hn=> ?_,fun hkk hn=> ?_,fun hkk=> ?_,fun hkk=> ?_,fun hkk=> ?_⟩
 ·rw[hx] at hkk ⊢
  have hd:(c.b.getD (k+1) default).dn=true:=by
   have:((ay c.b).getD k default).dn=true:=hd
   rw[e2] at this;exact this
  obtain⟨g1,g2,g3⟩:=hE.don hd hkk
  obtain⟨q1,q2⟩:=h.ou hk r e g1
  rw[q2]
  show _∧(ouV p c (k+1)).1.pop=(ay c.b).getD k default∧ ∀t,(ouV p c (k+1)).2.1=some t->((ay c.b).getD k default).nxt=t
  rw[e2,g2]
  exact⟨q1,rfl,g3⟩
 ·rw[hx]
  have hf:(c.b.getD (k+1) default).ft=true:=by
   have:((ay c.b).getD k default).ft=true:=hf
   rw[e2] at this;exact this
  rcases hE.ftn hf with q |q |⟨q,q1,q2⟩
  ·exact .inl q
  ·exact .inr (.inl q)
  ·refine .inr (.inr ⟨q, ?_, ?_⟩)
   ·show((ay c.b).getD k default).dn=true
    rw[e2];exact q1
   ·rw[(h.ou hk r e (hE.don q1 (by rcases q with q |q<;>omega)).1).2]
    exact q2
 ·rw[hx] at hkk ⊢
  have hn:(c.b.getD (k+1) default).kn=true:=by
   have:((ay c.b).getD k default).kn=true:=hn
   rw[e2] at this;exact this
  obtain⟨g1,g2,g3⟩:=hE.kno hkk hn
  have vA:=h.vlf hk (enX p c (k+1)).a
  have vB:=h.vlf hk (enX p c (k+1)).b
  have hm:((s2.m.length:Nat):Int)=(c.s.m.length:Int):=by rw[h.m]
  unfold tAB adV tA tB at*
  show((cC p s2 (ay c.b) k (enX p c (k+1)).a).2&&(cC p s2 (ay c.b) k (enX p c (k+1)).b).2)=true∧((ay c.b).getD k default).adr=Wd.maskV p.W ((cC p s2 (ay c.b) k (enX p c (k+1)).a).1+(cC p s2 (ay c.b) k (enX p c (k+1)).b).1)∧((ay c.b).getD k default).ft=decide ((s2.m.length:Int)<=Wd.maskV p.W ((cC p s2 (ay c.b) k (enX p c (k+1)).a).1+(cC p s2 (ay c.b) k (enX p c (k+1)).b).1))
  rw[vA,vB,hm,e2]
  exact⟨g1,g2,g3⟩
 ·rw[hx] at hkk
  have hn:(c.b.getD (k+1) default).kn=false:=by
   have:((ay c.b).getD k default).kn=false:=hn
   rw[e2] at this;exact this
  show((ay c.b).getD k default).ft=false
  rw[e2]
  exact hE.f3 hkk hn
 ·rw[hx] at hkk
  show((ay c.b).getD k default).ft=(match reV p s2.st (ay c.b) k with |none=>true |some L=>decide (4<=L.length))
  rw[e2,h.rev hk]
  exact hE.cal hkk
 ·rw[hx] at hkk
  show((ay c.b).getD k default).nxt=((ay c.b).getD k default).pc+1
  rw[e2]
  exact hE.nx1 hkk
 ·rw[hx] at hkk ⊢
  show((ay c.b).getD k default).nxt=_
  rw[e2]
  exact hE.nx6 hkk
theorem xv{s:S8}{d v r:Int}(hd:0<=d∧d<4)(hr:0<=r∧r<4):(s.set d v).reg r=if d=r then v else s.reg r:=by
 have h1:d=0∨d=1∨d=2∨d=3:=by omega
 have h2:r=0∨r=1∨r=2∨r=3:=by omega
 rcases h1 with rfl |rfl |rfl |rfl<;>rcases h2 with rfl |rfl |rfl |rfl<;>rfl
theorem yE(m:List Int)(n k:Nat)(v:Int)(hn:n<m.length):(m.set n v).getD k 0=if n=k then v else m.getD k 0:=by
 by_cases h:n=k
 ·subst h
  rw[ai rfl];simp[List.getD,hn]
 ·rw[ah h];simp[List.getD,cd,h]
theorem GT(p:Pg)(pc:Int)(h0:0<=pc)(h1:pc<p.is.length):Vc (vF_ 29 [.agg (pgA p), aI pc] [.fz,.bd false,.bd false] [] (.agg (inA (p.is.getD pc.toNat default))) []):=al (cj (df (pc<0)) (cj (df (pc>=(↑p.is.length:Int))) (cj (bi pc p.is.length) (cj (rf ((p.is.getD (Int.toNat pc) default).kind)) (cj (rf ((p.is.getD (Int.toNat pc) default).op)) (cj (rf ((p.is.getD (Int.toNat pc) default).d)) (cj (rf ((p.is.getD (Int.toNat pc) default).a.reg)) (cj (rf ((p.is.getD (Int.toNat pc) default).a.n)) (cj (rf ((p.is.getD (Int.toNat pc) default).b.reg)) (cj (rf ((p.is.getD (Int.toNat pc) default).b.n)) (cj (rf ((p.is.getD (Int.toNat pc) default).nm)) (cj (rf ((p.is.getD (Int.toNat pc) default).tg)) trivial))))))))))))
theorem Dp{Z:Prop}(z:Z):(RF (12:Int) (RF (0:Int) (RF (0:Int) (RF false (RF (0:Int) (RF false (RF (0:Int) (RF (ByteArray.mk (Array.mk [])) (RF (0:Int) Z))))))))):=⟨rfl,rfl,rfl,rfl,rfl,rfl,rfl,rfl,rfl,z⟩
theorem CZ(p:Pg)(pc:Int)(h0: ¬0<=pc):Vc (vF_ 29 [.agg (pgA p), aI pc] [.fz,.bd true] [] (.agg (inA {In0 with kind:=12})) []):=al (cj (dt (pc<0)) (Dp trivial))
theorem CY(p:Pg)(pc:Int)(h0:0<=pc)(h1: ¬pc<p.is.length):Vc (vF_ 29 [.agg (pgA p), aI pc] [.fz,.bd false,.bd true] [] (.agg (inA {In0 with kind:=12})) []):=al (cj (df (pc<0)) (cj (dt (pc>=(↑p.is.length:Int))) (Dp trivial)))
theorem atC(p:Pg)(pc:Int):pC_ 29 [.agg (pgA p),.int .i64 pc] (.agg (inA (atI p pc))) []:=by
 by_cases h0:0<=pc
 ·by_cases h1:pc<p.is.length
  ·rw[ri h0 h1];exact PureC.vc (GT p pc h0 h1)
  ·rw[jQ fun h=>h1 h.2];exact PureC.vc (CY p pc h0 h1)
 ·rw[jQ fun h=>h0 h.1];exact PureC.vc (CZ p pc h0)
end
end Go.Proofs.Ytdanmboalfmifaa.Px
namespace Go.Proofs.Ytdanmboalfmifaa
section
open Go.RowKit
abbrev Part:=Option Addr×Nat×List Int
def Part.v(p:Part):Value:= .slice p.1 p.2.2.length p.2.1
def nh:List Part->List Int
 | []=>[]
 |p::l=>p.2.2++nh l
set_option maxHeartbeats 2000000 in
theorem tQ(A:Option Addr)(n c:Nat)(xs:List Int)(w:World)(hn:n=xs.length)(hr:Rd w w.heap.size A (xs.map (Value.int .i64)))(hs:n<=1000000):
  Calls Try.prog 30 #[.slice A n c] w (RetOwn w.heap.size 3 (xs.map (Value.int .i64)) w):=by
 subst hn
 obtain⟨i0,hi0,hz0,hs0,hb0⟩:=info_parts FY
 cases A with
 |none=>
  have hx:xs=[]:=by have:=hr.none_nil;simpa using this
  subst hx
  have he: ∀w:World,(binOp .eql 38 (.slice none 0 c) (.slice none 0 0)).run Try.prog w= .ok (.bool true) w:=fun _=>rfl
  go_enter Try.func30,Try.ntmps30
  go_wp2_with fail
  go_ret
  exact⟨_,rfl,World.ownsRow_nil _ _ _ _,up0 _⟩
 |some ad=>
  have hlit:=vo w 3 _ rfl
  have he: ∀w:World,(binOp .eql 38 (.slice (some ad) xs.length c) (.slice none 0 0)).run Try.prog w= .ok (.bool false) w:=fun _=>rfl
  go_enter Try.func30,Try.ntmps30
  go_wp2_with (at_builtin;refine xf _ rfl (.tmp 5) (.tmp 6) _ rfl w.heap.size 3 i0 _ 8 Try.underlying38 hi0 hz0 hs0 hb0 rfl _ 0 [] rfl hlit (w.alloc (.cells #[] 3)).heap.size (some ad) xs.length c (xs.map (Value.int .i64)) rfl (by simp) (hr.allocT _) (vW _ _) (by omega) (by omega) (by simp) ?_;intro v1 w1 hown1 hb1)
  go_ret
  refine⟨_,rfl, ?_,(upA (up0 w) _).trans hb1⟩
  have:=vn hown1
  rwa [cS]
end
end Go.Proofs.Ytdanmboalfmifaa
namespace Go.Proofs.Ytdanmboalfmifaa.Px
section
open Go.RowKit Go.Proofs.Ytdanmboalfmifaa.Rx
theorem q9{a:AV}{l:List Int}(h:PartOk a l)(hl:l.length<=1000000):pC_ 30 [a] (.own 0 0 1 0 l.length) [aZ l]:=
 PureC.ofOwn (k:= .i64) (l:=l) rfl (fun _ _=>rfl) fun w R vs hR hn ha=>by
  obtain⟨v,rfl,hv⟩:=rZ rfl hn ha
  obtain⟨A,c,rfl,hr⟩:=h.rep hv hR
  exact tQ A _ c l w rfl hr hl
def gV(l:List En)(k i j:Nat):AV:=bif Nat.blt i k then enC (l.getD (i+1) default).pop j else enC (l.getD (i+1) default) j
def lpS(l:List En)(n k:Nat):Sm:=⟨[(0,enR l),(2,.bptr 1 0),(3,.nils),(4,.bool false),(5,.own 0 0 8 0 n),(15,.int .i64 n),(16,.int .i64 k)],[(0,⟨0,false,35,.rows 8 n (gV l k)⟩),(1,⟨0,false,35,.box (enA En0)⟩)],2⟩
theorem ow{a b:Nat}(h:a<b):Nat.blt a b=true:=by rw[bw];exact h
theorem ox{a b:Nat}(h: ¬a<b):Nat.blt a b=false:=by
 cases hb:Nat.blt a b with
 |false=>rfl
 |true=>rw[bw] at hb;exact absurd hb h
theorem yc(l:List En)(k j:Nat):gV l k k j=enC (l.getD (k+1) default) j:=by
 unfold gV;rw[ox (b8 k)];rfl
theorem rV{l:List En}{n k:Nat}{v:AV}(hv:v= .int .i64 (l.getD (k+1) default).pop.frm): ∀i,i<n-> ∀j,j<8->(bif Nat.ble 3 j&&Nat.blt j (3+1)&&Nat.beq i k then[v].getD (j-3) .junk else gV l k i j)=gV l (k+1) i j:=by
 intro i hi j hj
 by_cases hik:i=k
 ·subst hik
  rw[cz]
  unfold gV
  rw[ox (b8 i),ow (cI i)]
  subst hv
  match j,hj with
  |0,_=>rfl
  |1,_=>rfl
  |2,_=>rfl
  |3,_=>rfl
  |4,_=>rfl
  |5,_=>rfl
  |6,_=>rfl
  |7,_=>rfl
 ·have h1:Nat.beq i k=false:=by
   cases hb:Nat.beq i k with
   |false=>rfl
   |true=>exact absurd (aj hb) hik
  rw[h1,Bool.and_false]
  show gV l k i j=_
  unfold gV
  by_cases hlt:i<k
  ·rw[ow hlt,ow (by omega)]
  ·rw[ox hlt,ox (by omega)]
theorem vi(l:List En){n:Nat}(hl:l.length=n+1): ∀i,i<n-> ∀j,j<8->gV l n i j=an enC (ay l) i j:=by
 intro i hi j hj
 unfold gV an
 rw[ow hi,dB l (by omega)]
 rfl
theorem El(l:List En)(k:Nat):Option.some (gV l k (k+0) (3:Nat))=Option.some (aI (l.getD (k+1) default).frm):=(congrArg some (yc l k 3))
theorem Do(l:List En)(n:Nat)(k:Nat){Z:Prop}(z:Z):(RR l.length 8 (fun i j=>an enC l i j) (RF false (RF (0:Nat) (RF n (RF (n:Int) (RF ((k:Int)+1) Z)))))):=⟨fun _ _ _ _=>rfl,rfl,rfl,rfl,rfl,rfl,z⟩
theorem wZ(l:List En){Z:Prop}(z:Z):(RF (0:Int) (RF (0:Int) (RF (0:Int) (RF (0:Int) (RF (0:Int) (RF false (RF false (RF false (RF l.length Z))))))))):=⟨rfl,rfl,rfl,rfl,rfl,rfl,rfl,rfl,rfl,z⟩
theorem Ce(l:List En)(n k:Nat)(hl:l.length=n+1)(hk:k<n)(hb:l.length<1000000)(hs:(l.getD (k+1) default).frm<0):Vc (vC_ 24 0 (lpS l n k) [.bd true,.lv (aI (l.getD (k+1) default).frm),.bd true] .nrm [(0,0),(1,1)] (lpS l n (k+1))):=al (cj (dt ((k:Int)<n)) (cj (bi k n) (cj (El l k) (cj (pv (k+0<n)) (cj (dt ((l.getD (k+1) default).frm<0)) (cj (bi k n) (cj (pv (k+0<n)) (cj (i6 (k+1)) (cj (rf n) (cj (show ∀(i:Nat),i<n-> ∀(j:Nat),j<8->(bif Nat.ble (3:Nat) j&&Nat.blt j (4:Nat)&&Nat.beq i (k+0) then List.getD [aI (l.getD (k+1) default).frm] (j-3) AV.junk else gV l k i j)=gV l (k+1) i j from(rV (k:=k) (by rw[vh (by omega)]))) (wZ l (Do l n k trivial))))))))))))
theorem FF(l:List En)(n k:Nat)(hl:l.length=n+1)(hk:k<n)(hb:l.length<1000000)(hs: ¬(l.getD (k+1) default).frm<0)(h64:(l.getD (k+1) default).frm<=1000000):Vc (vC_ 24 0 (lpS l n k) [.bd true,.lv (aI (l.getD (k+1) default).frm),.bd false] .nrm [(0,0),(1,1)] (lpS l n (k+1))):=al (cj (dt ((k:Int)<n)) (cj (bi k n) (cj (El l k) (cj (pv (k+0<n)) (cj (df ((l.getD (k+1) default).frm<0)) (cj (i6 ((l.getD (k+1) default).frm-1)) (cj (bi k n) (cj (pv (k+0<n)) (cj (i6 (k+1)) (cj (rf n) (cj (show ∀(i:Nat),i<n-> ∀(j:Nat),j<8->(bif Nat.ble (3:Nat) j&&Nat.blt j (4:Nat)&&Nat.beq i (k+0) then List.getD [aI ((l.getD (k+1) default).frm-1)] (j-3) AV.junk else gV l k i j)=gV l (k+1) i j from(rV (k:=k) (by rw[vg (by omega)]))) (wZ l (Do l n k trivial)))))))))))))
theorem Cg(l:List En)(n k:Nat)(hk: ¬k<n):Vc (vC_ 24 0 (lpS l n k) [.bd false] (.ext 0) [(0,0),(1,1)] (lpS l n k)):=al (cj (df ((k:Int)<n)) (cj (rf n) (cj (rr n 8 fun i j=>gV l k i j) (wZ l (cj (rr l.length 8 fun i j=>an enC l i j) (cj (rf false) (cj (rf (0:Nat)) (cj (rf n) (cj (rf (n:Int)) (cj (rf (k:Int)) trivial))))))))))
theorem yr(l:List En)(n:Nat)(hl:l.length=n+1)(hb:l.length<1000000)(h64: ∀x∈l,x.frm<=1000000):oL_ 24 0 (lpS l n 0).st (.ext 0) (lpS l n n).st:=
 Ok.loop (P:=Try.prog) (nt:=cN Try.prog 24) (c:=lpC Try.prog 24 0) (F:=fun k=>lpS l n k) (m:=n) (x:= .ext 0) (J:=lpS l n n) (fun k hk=>by
  by_cases hs:(l.getD (k+1) default).frm<0
  ·exact Ok.vc (Ce l n k hl hk hb hs)
  ·exact Ok.vc (FF l n k hl hk hb hs (h64 _ (cW (by omega))))) (Ok.vc (Cg l n n (b8 _))) (by simp)
theorem Cc(l:List En)(n:Nat)(hl:l.length=n+1)(hb:l.length<1000000)(h:oL_ 24 0 (lpS l n 0).st (.ext 0) (lpS l n n).st):Vc (vF_ 24 [enR l] [.bd false,.lp [(0,1),(1,0)] (lpS l n 0) (.ext 0) (lpS l n n)] [(0,0)] (.tup [.agg (enA (l.getD 0 default)),.own 0 0 8 0 (ay l).length,.bool true]) [enB (ay l)]):=al (cj (e0 l.length 0) (cj (pv ((0:Int)<=1∧(1:Int)<=l.length∧(l.length:Int)<=l.length)) (cj (pv ((l.length-1)*48<=140737488355328∧l.length-1<=140737488355328)) (cj (pv (l.length-1=n)) (cj (rr (l.length-1) 8 fun i j=>an enC l (i+1) j) (wZ l (cj (rr l.length 8 fun i j=>an enC l i j) (cj (rf false) (cj (rf (0:Nat)) (cj (pv (l.length-1=n)) (cj (pv ((↑(l.length-1):Int)=(n:Int))) (cj (rf (0:Int)) (cj h (cj (pv ((0:Int)<=0∧(0:Int)<l.length)) (cj (show n=(ay l).length from by rw[dA];omega) (cj (show ∀(i:Nat),i<n-> ∀(j:Nat),j<8->gV l n i j=an enC (ay l) i j from(vi l hl)) (cj (rf ((l.getD 0 default).pc)) (cj (rf ((l.getD 0 default).val)) (cj (rf ((l.getD 0 default).adr)) (cj (rf ((l.getD 0 default).frm)) (cj (rf ((l.getD 0 default).nxt)) (cj (rf ((l.getD 0 default).dn)) (cj (rf ((l.getD 0 default).kn)) (cj (rf ((l.getD 0 default).ft)) (cj (rf (0:Nat)) (cj (show n=(ay l).length from by rw[dA];omega) (cj (rf true) trivial)))))))))))))))))))))))))))
theorem FE(l:List En)(h0:0<l.length)(hb:l.length<1000000)(h64: ∀x∈l,x.frm<=1000000):pC_ 24 [enR l] (.tup [.agg (enA (l.getD 0 default)),.own 0 0 8 0 (ay l).length,.bool true]) [enB (ay l)]:=by
 obtain⟨n,hn⟩: ∃n,l.length=n+1:=⟨l.length-1,by omega⟩
 exact PureC.vc (Cc l n hn hb (yr l n hn hb h64))
theorem vR(s:S8)(h1:pC_ 30 [lR s.m] (.own 0 0 1 0 s.m.length) [aZ s.m])(h2:pC_ 30 [lR s.st] (.own 0 0 1 0 s.st.length) [aZ s.st]):Vc (vF_ 25 [.agg (s8R s)] [.cl [lR s.m] (.own 0 0 1 0 s.m.length) [aZ s.m],.cl [lR s.st] (.own 0 0 1 0 s.st.length) [aZ s.st]] [(0,2),(1,3)] (.agg (s8A s (.own 0 0 1 0 s.m.length) (.own 1 0 1 0 s.st.length)++[.nils,.nils, aI 0])) [aZ s.m,aZ s.st]):=al (cj (rf s.m.length) (cj (rr s.m.length 1 fun i j=>aI (s.m.getD i 0)) (cj h1 (cj (rf s.st.length) (cj (rr s.st.length 1 fun i j=>aI (s.st.getD i 0)) (cj h2 (cj (rf s.m.length) (cj (rr s.m.length 1 fun i j=>aI (s.m.getD i 0)) (cj (rf s.st.length) (cj (rr s.st.length 1 fun i j=>aI (s.st.getD i 0)) (cj (rf s.r0) (cj (rf s.r1) (cj (rf s.r2) (cj (rf s.r3) (cj (rf (0:Nat)) (cj (rf s.m.length) (cj (rf (0:Nat)) (cj (rf s.st.length) (cj (rf s.pc) (cj (rf (0:Int)) trivial))))))))))))))))))))
theorem FM(s:S8)(hm:s.m.length<=1000000)(hs:s.st.length<=1000000):pC_ 25 [.agg (s8R s)] (.agg (s8A s (.own 0 0 1 0 s.m.length) (.own 1 0 1 0 s.st.length)++[.nils,.nils,.int .i64 0])) [aZ s.m,aZ s.st]:=PureC.vc (vR s (q9 (.row _) hm) (q9 (.row _) hs))
theorem pV(c:Cf)(h:(c.e !=0)=true):Vc (vF_ 27 [.agg (cfA c)] [.fv,.bd true] [] (.bool true) []):=al (cj h (cj (rf true) trivial))
theorem nQ(c:Cf)(h:(c.e !=0)=false):Vc (vF_ 27 [.agg (cfA c)] [.fv,.bd false] [] (.bool false) []):=al (cj h (cj (rf false) trivial))
structure FrE (p:Pg) (e:En):Prop where
 d:e.dn=false->e.val=0∧e.frm= -1
 a:(e.dn=false∧(atI p e.pc).kind≠3∨(atI p e.pc).kind=3∧e.kn=false)->e.adr=0∧e.kn=false∧e.ft=false
def Frs(p:Pg)(c:Cf):Prop:= ∀e∈c.b,FrE p e
theorem FrE.mk'{p:Pg}{e:En}(hd:e.dn=true)(h3: ¬(atI p e.pc).kind=3):FrE p e:=
 ⟨fun h=>(by rw[hd] at h;cases h),fun h=>h.elim (fun h=>by rw[hd] at h;cases h.1) fun h=>absurd h.1 h3⟩
theorem FrE.pop{p:Pg}{e:En}(h:FrE p e):FrE p e.pop:=
 ⟨fun hd=>⟨(h.d hd).1,by show(if 0<=e.frm then e.frm-1 else e.frm)= -1;rw[(h.d hd).2];rfl⟩,h.a⟩
theorem Frs.set{p:Pg}{c:Cf}(h:Frs p c){k:Nat}{e:En}(he:FrE p e): ∀x∈c.b.set k e,FrE p x:=
 fun x hx=>(bQ hx).elim (h x) fun hx=>hx▸he
theorem Frs.goV{p:Pg}{c:Cf}(h:Frs p c){k:Nat}(hk:k<c.b.length)(t:Int):Frs p (goV c k t):=by
 unfold Px.goV
 split
 ·exact h
 ·have he:FrE p ((c.b.getD k default).to t):=⟨(h _ (cW hk)).d,(h _ (cW hk)).a⟩
  exact fun x hx=>h.set he x (cP hx)
theorem Frs.doO{p:Pg}{c c2:Cf}{o:List Ob}(h:Frs p c){i:Int}(e:doO p c i=some (c2,o)):Frs p c2:=by
 unfold Px.doO at e
 split at e
 ·rename_i hc
  obtain⟨k,rfl,hk,hd,hK⟩:=ii hc
  rw[aK,af] at e
  have hE:=h _ (cW hk)
  have hlD:(upE c k En.done).b.length=c.b.length:=aq
  unfold dmV at e
  by_cases k3:(enX p c k).kind=3
  ·rw[ah (by omega),ah (by omega),ai k3] at e
   cases e
   exact h.set ⟨fun hx=>Bool.noConfusion hx,fun hx=>hx.elim (fun hx=>Bool.noConfusion hx.1) fun hx=>hE.a (.inr hx)⟩
  have mk: ∀g:En->En,(g (c.b.getD k default)).pc=(c.b.getD k default).pc->(g (c.b.getD k default)).dn=true->Frs p (upE c k g):=fun g h1 h2=>h.set (FrE.mk' h2 (by rw[h1];exact k3))
  have hD:Frs p (upE c k En.done):=mk _ rfl rfl
  have go: ∀t,Frs p (Px.goV (upE c k En.done) k t):=fun t=>hD.goV (by rw[hlD];exact hk) t
  by_cases k1:(enX p c k).kind=1
  ·rw[ai k1] at e;cases e;exact mk _ rfl rfl
  rw[ah k1] at e
  by_cases k4:(enX p c k).kind=4
  ·rw[ai k4] at e;cases e;exact mk _ rfl rfl
  rw[ah k4,ah k3] at e
  by_cases k2:(enX p c k).kind=2
  ·rw[ai k2] at e
   split at e
   ·cases e;exact mk _ rfl rfl
   ·cases e;exact mk _ rfl rfl
  rw[ah k2] at e
  by_cases k5:(enX p c k).kind=5
  ·rw[ai k5] at e;cases e;exact go _
  rw[ah k5] at e
  by_cases k7:(enX p c k).kind=7
  ·rw[ai k7] at e;cases e;exact go _
  rw[ah k7] at e
  split at e
  ·cases e;exact mk _ rfl rfl
  ·split at e
   ·cases e;exact mk _ rfl rfl
   ·cases e;exact go _
 ·cases e
theorem Frs.adrO{p:Pg}{c c2:Cf}{o:List Ob}(h:Frs p c){i:Int}(e:adrO p c i=some (c2,o)):Frs p c2:=by
 unfold Px.adrO at e
 split at e
 ·rename_i hc
  obtain⟨k,rfl,hk,hd,hK⟩:=mI hc
  rw[aK,af] at e
  have hE:=h _ (cW hk)
  have mk: ∀g:En->En,(g (c.b.getD k default)).pc=(c.b.getD k default).pc->(g (c.b.getD k default)).dn=(c.b.getD k default).dn->(g (c.b.getD k default)).kn=true->(g (c.b.getD k default)).val=(c.b.getD k default).val->(g (c.b.getD k default)).frm=(c.b.getD k default).frm->Frs p (upE c k g):=
   fun g h1 h2 h3 h4 h5=>h.set ⟨fun hx=>by rw[h4,h5];exact hE.d (h2▸hx),fun hx=>hx.elim (fun hx=>absurd hK (by rw[h1] at hx;exact hx.2)) fun hx=>by rw[h3] at hx;cases hx.2⟩
  unfold tV at e
  split at e
  ·cases e;exact mk _ rfl rfl rfl rfl rfl
  ·split at e
   ·cases e
    exact fun x hx=>mk (fun e=>e.ad (adV p c k (enX p c k))) rfl rfl rfl rfl rfl x (cP hx)
   ·cases e;exact mk _ rfl rfl rfl rfl rfl
 ·cases e
theorem Frs.ftO{p:Pg}{c c2:Cf}{g:Int}(h:Frs p c)(e:ftO p c g=some c2):Frs p c2:=by
 unfold Px.ftO at e
 split at e
 ·cases e
  have hE:FrE p (ftE p c g):=by
   unfold ftE
   by_cases k5:(atI p c.s.pc).kind=5
   ·rw[ai k5];exact⟨fun _=>⟨rfl,rfl⟩,fun _=>⟨rfl,rfl,rfl⟩⟩
   rw[ah k5]
   by_cases k6:(atI p c.s.pc).kind=6
   ·rw[ai k6];exact⟨fun _=>⟨rfl,rfl⟩,fun _=>⟨rfl,rfl,rfl⟩⟩
   rw[ah k6]
   by_cases k7:(atI p c.s.pc).kind=7
   ·rw[ai k7];exact⟨fun _=>⟨rfl,rfl⟩,fun _=>⟨rfl,rfl,rfl⟩⟩
   rw[ah k7]
   by_cases k9:(atI p c.s.pc).kind=9
   ·rw[ai k9];exact⟨fun _=>⟨rfl,rfl⟩,fun _=>⟨rfl,rfl,rfl⟩⟩
   rw[ah k9]
   by_cases k8:(atI p c.s.pc).kind=8
   ·rw[ai k8];exact FrE.mk' rfl (by show ¬(atI p c.s.pc).kind=3;omega)
   rw[ah k8]
   split
   ·exact⟨fun _=>⟨rfl,rfl⟩,fun _=>⟨rfl,rfl,rfl⟩⟩
   ·exact⟨fun _=>⟨rfl,rfl⟩,fun _=>⟨rfl,rfl,rfl⟩⟩
  exact fun x hx=>(aV.1 hx).elim (h x) fun hx=>(aH.1 hx)▸hE
 ·cases e
theorem Frs.rtO{p:Pg}{c c2:Cf}(h:Frs p c)(e:rtO p c=some c2):Frs p c2:=by
 unfold Px.rtO at e
 split at e
 ·cases e
  have hpop: ∀x∈ay c.b,FrE p x:=fun x hx=>by
   obtain⟨e,he,rfl⟩:=pF hx
   exact(h e he).pop
  have hnil: ∀x∈([]:List En),FrE p x:=fun x hx=>absurd hx dO
  unfold rtV
  split
  ·exact hnil
  split
  ·exact hnil
  split
  ·exact hpop
  split
  ·exact hpop
  split
  ·exact hpop
  split
  ·exact hpop
  ·exact hpop
 ·cases e
theorem Frs.sayO{p:Pg}{c c2:Cf}{o:List Ob}(h:Frs p c){d:Dr}(e:sayO p c d=some (c2,o)):Frs p c2:=by
 unfold Px.sayO at e
 split at e
 ·cases hq:Px.ftO p c d.n with
  |none=>rw[hq] at e;cases e
  |some x=>rw[hq] at e;cases e;exact h.ftO hq
 ·split at e
  ·exact h.doO e
  ·split at e
   ·exact h.adrO e
   ·split at e
    ·split at e
     ·cases hq:Px.rtO p c with
      |none=>rw[hq] at e;cases e
      |some x=>rw[hq] at e;cases e;exact h.rtO hq
     ·cases e
    ·cases e
structure XOk (p:Pg) (c:Cf):Prop where
 I:Inv p c
 F:Frs p c
structure BOk (p:Pg) (c:Cf):Prop where
 P:OkP p
 x:XOk p c
 w:p.win<=90
theorem BOk.m{p:Pg}{c:Cf}(h:BOk p c):MOk p c:=h.x.I.ok h.P (by have:=h.w;omega)
theorem BOk.bl{p:Pg}{c:Cf}(h:BOk p c):c.b.length<=90:=by
 have h1:=h.x.I.bl
 have h2:=h.w
 omega
theorem BOk.ml{p:Pg}{c:Cf}(h:BOk p c):c.s.m.length<=16:=h.x.I.ml▸h.P.sum
theorem XOk.ok{p:Pg}{c:Cf}(h:XOk p c)(hP:OkP p)(hw:p.win<=90):BOk p c:=⟨hP,h,hw⟩
theorem XOk.ftO{p:Pg}{c c2:Cf}{g:Int}(hP:OkP p)(h:XOk p c)(e:ftO p c g=some c2):XOk p c2:=⟨Inv.ftO hP h.I e,h.F.ftO e⟩
theorem XOk.doO{p:Pg}{c c2:Cf}{o:List Ob}(hP:OkP p)(hw:p.win<=90)(h:XOk p c){i:Int}(e:doO p c i=some (c2,o)):XOk p c2:=⟨Inv.doO hP (by omega) h.I e,h.F.doO e⟩
theorem XOk.adrO{p:Pg}{c c2:Cf}{o:List Ob}(hP:OkP p)(h:XOk p c){i:Int}(e:adrO p c i=some (c2,o)):XOk p c2:=⟨Inv.adrO hP h.I e,h.F.adrO e⟩
theorem iI(p:Pg)(e:En){Z:Prop}(z:Z):(RF p.ls.length (RR p.ls.length 2 (fun i j=>an lbC p.ls i j) (RF p.is.length (RR p.is.length 9 (fun i j=>an inC p.is i j) (RF e.pc Z))))):=⟨rfl,fun _ _ _ _=>rfl,rfl,fun _ _ _ _=>rfl,rfl,z⟩
theorem gI(p:Pg){Z:Prop}(z:Z):(RF p.W (RF p.win (RF p.fuel (RF p.r0 (RF p.r1 (RF p.r2 (RF p.r3 (RF p.ms.length (RR p.ms.length 3 (fun i j=>an mmC p.ms i j) Z))))))))):=⟨rfl,rfl,rfl,rfl,rfl,rfl,rfl,rfl,fun _ _ _ _=>rfl,z⟩
abbrev iO(p:Pg)(e:En):Orc:= .cl [.agg (pgA p), aI e.pc] (.agg (inA (atI p e.pc))) []
theorem EA(p:Pg)(e:En)(hk:(atI p e.pc).kind=10):Vc (vF_ 31 [.agg (pgA p),.agg (enA e)] [.fv,.fv,iO p e,.bd true] [] (.bool true) []):=al (gI p (iI p e (cj (atC p e.pc) (cj (ax.2 hk) (cj (rf true) trivial)))))
theorem Ez(p:Pg)(e:En)(hk:(atI p e.pc).kind=3)(hd:e.dn=false):Vc (vF_ 31 [.agg (pgA p),.agg (enA e)] [.fv,.fv,iO p e,.bd false,.bd true,.b true,.b false,.b false,.b false] [] (.bool false) []):=al (gI p (iI p e (cj (atC p e.pc) (cj (show((atI p e.pc).kind==(10:Int))=false from(aa.2 (by omega))) (cj (ax.2 hk) (cj (rf true) (cj hd (cj hd (cj hd (cj (rf false) trivial))))))))))
theorem Ey(p:Pg)(e:En)(hk:(atI p e.pc).kind=3)(hd:e.dn=true):Vc (vF_ 31 [.agg (pgA p),.agg (enA e)] [.fv,.fv,iO p e,.bd false,.bd true,.b true,.b true,.b true,.b true] [] (.bool e.kn) []):=al (gI p (iI p e (cj (atC p e.pc) (cj (show((atI p e.pc).kind==(10:Int))=false from(aa.2 (by omega))) (cj (ax.2 hk) (cj (rf true) (cj hd (cj hd (cj hd (cj (rf e.kn) trivial))))))))))
theorem Hm(p:Pg)(e:En)(k10: ¬(atI p e.pc).kind=10)(k3: ¬(atI p e.pc).kind=3):Vc (vF_ 31 [.agg (pgA p),.agg (enA e)] [.fv,.fv,iO p e,.bd false,.bd false] [] (.bool e.dn) []):=al (gI p (iI p e (cj (atC p e.pc) (cj (show((atI p e.pc).kind==(10:Int))=false from(aa.2 (by omega))) (cj (show((atI p e.pc).kind==(3:Int))=false from(aa.2 (by omega))) (cj (rf e.dn) trivial))))))
theorem ryC(p:Pg)(e:En):pC_ 31 [.agg (pgA p),.agg (enA e)] (.bool ((e.dn||(atI p e.pc).kind==10)&&((atI p e.pc).kind !=3||e.kn))) []:=by
 by_cases k10:(atI p e.pc).kind=10
 ·rw[show((atI p e.pc).kind==10)=true from ax.2 k10,show((atI p e.pc).kind !=3)=true from bG.2 (by omega),Bool.or_true]
  exact PureC.vc (EA p e k10)
 ·rw[show((atI p e.pc).kind==10)=false from aa.2 k10,Bool.or_false]
  by_cases k3:(atI p e.pc).kind=3
  ·rw[show((atI p e.pc).kind !=3)=false from aw.2 k3,cZ]
   cases hd:e.dn with
   |false=>exact PureC.vc (Ez p e k3 hd)
   |true=>rw[cM];exact PureC.vc (Ey p e k3 hd)
  ·rw[show((atI p e.pc).kind !=3)=true from bG.2 k3,mT,Bool.and_true]
   exact PureC.vc (Hm p e k10 k3)
theorem At(c:Cf){Z:Prop}(z:Z):(RF c.b.length (RR c.b.length 8 (fun i j=>an enC c.b i j) (RF c.r.length (RR c.r.length 1 (fun i j=>aI (c.r.getD i 0)) (RF c.e Z))))):=⟨rfl,fun _ _ _ _=>rfl,rfl,fun _ _ _ _=>rfl,rfl,z⟩
theorem As(c:Cf){Z:Prop}(z:Z):(RF c.s.r0 (RF c.s.r1 (RF c.s.r2 (RF c.s.r3 (RF c.s.m.length (RR c.s.m.length 1 (fun i j=>aI (List.getD c.s.m i 0)) (RF c.s.st.length (RR c.s.st.length 1 (fun i j=>aI (List.getD c.s.st i 0)) (RF c.s.pc Z))))))))):=⟨rfl,rfl,rfl,rfl,rfl,fun _ _ _ _=>rfl,rfl,fun _ _ _ _=>rfl,rfl,z⟩
theorem IZ(p:Pg)(c:Cf)(hF:pC_ 27 [.agg (cfA c)] (.bool true) []):Vc (vF_ 9 [.agg (pgA p),.agg (cfA c)] [.fv,.fv,.cl [.agg (cfA c)] (.bool true) []] [] (.bool false) []):=al (As c (At c (cj hF (cj (rf false) trivial))))
theorem I5(p:Pg)(c:Cf)(hF:pC_ 27 [.agg (cfA c)] (.bool false) [])(hl:c.b.length=0):Vc (vF_ 9 [.agg (pgA p),.agg (cfA c)] [.fv,.fv,.cl [.agg (cfA c)] (.bool false) [],.bd false] [] (.bool false) []):=al (As c (At c (cj hF (cj (df ((↑c.b.length:Int)>0)) (cj (rf false) trivial)))))
theorem IW(p:Pg)(c:Cf)(hF:pC_ 27 [.agg (cfA c)] (.bool false) [])(hl:0<c.b.length)(hb:c.b.length<1000000)(tb:Bool)(h1:pC_ 31 [.agg (pgA p),.agg (enA (c.b.getD 0 default))] (.bool tb) []):Vc (vF_ 9 [.agg (pgA p),.agg (cfA c)] [.fv,.fv,.cl [.agg (cfA c)] (.bool false) [],.bd true,.cl [.agg (pgA p),.agg (enA (c.b.getD 0 default))] (.bool tb) []] [] (.bool tb) []):=al (As c (At c (cj hF (cj (dt ((↑c.b.length:Int)>0)) (cj (pv ((0:Int)<=0∧(0:Int)<c.b.length)) (gI p (cj (rf p.ls.length) (cj (rr p.ls.length 2 fun i j=>an lbC p.ls i j) (cj (rf p.is.length) (cj (rr p.is.length 9 fun i j=>an inC p.is i j) (cj (rf ((c.b.getD 0 default).pc)) (cj (rf ((c.b.getD 0 default).val)) (cj (rf ((c.b.getD 0 default).adr)) (cj (rf ((c.b.getD 0 default).frm)) (cj (rf ((c.b.getD 0 default).nxt)) (cj (rf ((c.b.getD 0 default).dn)) (cj (rf ((c.b.getD 0 default).kn)) (cj (rf ((c.b.getD 0 default).ft)) (cj h1 (cj (rf tb) trivial))))))))))))))))))))
theorem FL(p:Pg)(c:Cf)(hb:c.b.length<1000000):pC_ 9 [.agg (pgA p),.agg (cfA c)] (.bool (crV p c)) []:=by
 unfold crV
 by_cases h0:c.e=0
 ·rw[ai h0]
  have hF:=PureC.vc (nQ c (aw.2 h0))
  cases hl:c.b with
  |nil=>exact PureC.vc (I5 p c hF (by rw[hl];rfl))
  |cons e l=>
   have he:e=(c.b.getD 0 default):=by rw[hl];rfl
   have:=IW p c hF (by rw[hl];exact Nat.succ_pos _) hb _ (ryC p (c.b.getD 0 default))
   rw[<-he] at this
   exact PureC.vc this
 ·rw[ah h0]
  exact PureC.vc (IZ p c (PureC.vc (pV c (bG.2 h0))))
def Gg(p:Pg)(e:En):Int:=if e.ft=true∨(atI p e.pc).kind=12 then 2 else if(atI p e.pc).kind=11 then 1 else 0
theorem GX(p:Pg)(e:En)(hf:e.ft=true):Vc (vF_ 26 [.agg (pgA p),.agg (enA e)] [.fv,.fv,.b true] [] (aI 2) []):=al (cj hf (cj (rf (2:Int)) trivial))
theorem G6(p:Pg)(e:En)(hk:(atI p e.pc).kind=1)(hf:e.ft=false):Vc (vF_ 26 [.agg (pgA p),.agg (enA e)] [.fv,.fv,.b false,iO p e,.bd true] [] (aI 0) []):=al (cj hf (gI p (iI p e (cj (atC p e.pc) (cj (ax.2 hk) (cj (rf (0:Int)) trivial))))))
theorem G5(p:Pg)(e:En)(hk:(atI p e.pc).kind=2)(hf:e.ft=false):Vc (vF_ 26 [.agg (pgA p),.agg (enA e)] [.fv,.fv,.b false,iO p e,.bd false,.bd true] [] (aI 0) []):=al (cj hf (gI p (iI p e (cj (atC p e.pc) (cj (show((atI p e.pc).kind==(1:Int))=false from(aa.2 (by omega))) (cj (ax.2 hk) (cj (rf (0:Int)) trivial)))))))
theorem G4(p:Pg)(e:En)(hk:(atI p e.pc).kind=3)(hf:e.ft=false):Vc (vF_ 26 [.agg (pgA p),.agg (enA e)] [.fv,.fv,.b false,iO p e,.bd false,.bd false,.bd true] [] (aI 0) []):=al (cj hf (gI p (iI p e (cj (atC p e.pc) (cj (show((atI p e.pc).kind==(1:Int))=false from(aa.2 (by omega))) (cj (show((atI p e.pc).kind==(2:Int))=false from(aa.2 (by omega))) (cj (ax.2 hk) (cj (rf (0:Int)) trivial))))))))
theorem G3(p:Pg)(e:En)(hk:(atI p e.pc).kind=4)(hf:e.ft=false):Vc (vF_ 26 [.agg (pgA p),.agg (enA e)] [.fv,.fv,.b false,iO p e,.bd false,.bd false,.bd false,.bd true] [] (aI 0) []):=al (cj hf (gI p (iI p e (cj (atC p e.pc) (cj (show((atI p e.pc).kind==(1:Int))=false from(aa.2 (by omega))) (cj (show((atI p e.pc).kind==(2:Int))=false from(aa.2 (by omega))) (cj (show((atI p e.pc).kind==(3:Int))=false from(aa.2 (by omega))) (cj (ax.2 hk) (cj (rf (0:Int)) trivial)))))))))
theorem G2(p:Pg)(e:En)(hk:(atI p e.pc).kind=5)(hf:e.ft=false):Vc (vF_ 26 [.agg (pgA p),.agg (enA e)] [.fv,.fv,.b false,iO p e,.bd false,.bd false,.bd false,.bd false,.bd true] [] (aI 0) []):=al (cj hf (gI p (iI p e (cj (atC p e.pc) (cj (show((atI p e.pc).kind==(1:Int))=false from(aa.2 (by omega))) (cj (show((atI p e.pc).kind==(2:Int))=false from(aa.2 (by omega))) (cj (show((atI p e.pc).kind==(3:Int))=false from(aa.2 (by omega))) (cj (show((atI p e.pc).kind==(4:Int))=false from(aa.2 (by omega))) (cj (ax.2 hk) (cj (rf (0:Int)) trivial))))))))))
theorem G1(p:Pg)(e:En)(hk:(atI p e.pc).kind=6)(hf:e.ft=false):Vc (vF_ 26 [.agg (pgA p),.agg (enA e)] [.fv,.fv,.b false,iO p e,.bd false,.bd false,.bd false,.bd false,.bd false,.bd true] [] (aI 0) []):=al (cj hf (gI p (iI p e (cj (atC p e.pc) (cj (show((atI p e.pc).kind==(1:Int))=false from(aa.2 (by omega))) (cj (show((atI p e.pc).kind==(2:Int))=false from(aa.2 (by omega))) (cj (show((atI p e.pc).kind==(3:Int))=false from(aa.2 (by omega))) (cj (show((atI p e.pc).kind==(4:Int))=false from(aa.2 (by omega))) (cj (show((atI p e.pc).kind==(5:Int))=false from(aa.2 (by omega))) (cj (ax.2 hk) (cj (rf (0:Int)) trivial)))))))))))
theorem G0(p:Pg)(e:En)(hk:(atI p e.pc).kind=7)(hf:e.ft=false):Vc (vF_ 26 [.agg (pgA p),.agg (enA e)] [.fv,.fv,.b false,iO p e,.bd false,.bd false,.bd false,.bd false,.bd false,.bd false,.bd true] [] (aI 0) []):=al (cj hf (gI p (iI p e (cj (atC p e.pc) (cj (show((atI p e.pc).kind==(1:Int))=false from(aa.2 (by omega))) (cj (show((atI p e.pc).kind==(2:Int))=false from(aa.2 (by omega))) (cj (show((atI p e.pc).kind==(3:Int))=false from(aa.2 (by omega))) (cj (show((atI p e.pc).kind==(4:Int))=false from(aa.2 (by omega))) (cj (show((atI p e.pc).kind==(5:Int))=false from(aa.2 (by omega))) (cj (show((atI p e.pc).kind==(6:Int))=false from(aa.2 (by omega))) (cj (ax.2 hk) (cj (rf (0:Int)) trivial))))))))))))
theorem GZ(p:Pg)(e:En)(hk:(atI p e.pc).kind=8)(hf:e.ft=false):Vc (vF_ 26 [.agg (pgA p),.agg (enA e)] [.fv,.fv,.b false,iO p e,.bd false,.bd false,.bd false,.bd false,.bd false,.bd false,.bd false,.bd true] [] (aI 0) []):=al (cj hf (gI p (iI p e (cj (atC p e.pc) (cj (show((atI p e.pc).kind==(1:Int))=false from(aa.2 (by omega))) (cj (show((atI p e.pc).kind==(2:Int))=false from(aa.2 (by omega))) (cj (show((atI p e.pc).kind==(3:Int))=false from(aa.2 (by omega))) (cj (show((atI p e.pc).kind==(4:Int))=false from(aa.2 (by omega))) (cj (show((atI p e.pc).kind==(5:Int))=false from(aa.2 (by omega))) (cj (show((atI p e.pc).kind==(6:Int))=false from(aa.2 (by omega))) (cj (show((atI p e.pc).kind==(7:Int))=false from(aa.2 (by omega))) (cj (ax.2 hk) (cj (rf (0:Int)) trivial)))))))))))))
theorem GY(p:Pg)(e:En)(hk:(atI p e.pc).kind=9)(hf:e.ft=false):Vc (vF_ 26 [.agg (pgA p),.agg (enA e)] [.fv,.fv,.b false,iO p e,.bd false,.bd false,.bd false,.bd false,.bd false,.bd false,.bd false,.bd false,.bd true] [] (aI 0) []):=al (cj hf (gI p (iI p e (cj (atC p e.pc) (cj (show((atI p e.pc).kind==(1:Int))=false from(aa.2 (by omega))) (cj (show((atI p e.pc).kind==(2:Int))=false from(aa.2 (by omega))) (cj (show((atI p e.pc).kind==(3:Int))=false from(aa.2 (by omega))) (cj (show((atI p e.pc).kind==(4:Int))=false from(aa.2 (by omega))) (cj (show((atI p e.pc).kind==(5:Int))=false from(aa.2 (by omega))) (cj (show((atI p e.pc).kind==(6:Int))=false from(aa.2 (by omega))) (cj (show((atI p e.pc).kind==(7:Int))=false from(aa.2 (by omega))) (cj (show((atI p e.pc).kind==(8:Int))=false from(aa.2 (by omega))) (cj (ax.2 hk) (cj (rf (0:Int)) trivial))))))))))))))
theorem DR(p:Pg)(e:En)(hk:(atI p e.pc).kind=10)(hf:e.ft=false):Vc (vF_ 26 [.agg (pgA p),.agg (enA e)] [.fv,.fv,.b false,iO p e,.bd false,.bd false,.bd false,.bd false,.bd false,.bd false,.bd false,.bd false,.bd false,.bd true] [] (aI 0) []):=al (cj hf (gI p (iI p e (cj (atC p e.pc) (cj (show((atI p e.pc).kind==(1:Int))=false from(aa.2 (by omega))) (cj (show((atI p e.pc).kind==(2:Int))=false from(aa.2 (by omega))) (cj (show((atI p e.pc).kind==(3:Int))=false from(aa.2 (by omega))) (cj (show((atI p e.pc).kind==(4:Int))=false from(aa.2 (by omega))) (cj (show((atI p e.pc).kind==(5:Int))=false from(aa.2 (by omega))) (cj (show((atI p e.pc).kind==(6:Int))=false from(aa.2 (by omega))) (cj (show((atI p e.pc).kind==(7:Int))=false from(aa.2 (by omega))) (cj (show((atI p e.pc).kind==(8:Int))=false from(aa.2 (by omega))) (cj (show((atI p e.pc).kind==(9:Int))=false from(aa.2 (by omega))) (cj (ax.2 hk) (cj (rf (0:Int)) trivial)))))))))))))))
theorem DQ(p:Pg)(e:En)(hk:(atI p e.pc).kind=11)(hf:e.ft=false):Vc (vF_ 26 [.agg (pgA p),.agg (enA e)] [.fv,.fv,.b false,iO p e,.bd false,.bd false,.bd false,.bd false,.bd false,.bd false,.bd false,.bd false,.bd false,.bd false,.bd true] [] (aI 1) []):=al (cj hf (gI p (iI p e (cj (atC p e.pc) (cj (show((atI p e.pc).kind==(1:Int))=false from(aa.2 (by omega))) (cj (show((atI p e.pc).kind==(2:Int))=false from(aa.2 (by omega))) (cj (show((atI p e.pc).kind==(3:Int))=false from(aa.2 (by omega))) (cj (show((atI p e.pc).kind==(4:Int))=false from(aa.2 (by omega))) (cj (show((atI p e.pc).kind==(5:Int))=false from(aa.2 (by omega))) (cj (show((atI p e.pc).kind==(6:Int))=false from(aa.2 (by omega))) (cj (show((atI p e.pc).kind==(7:Int))=false from(aa.2 (by omega))) (cj (show((atI p e.pc).kind==(8:Int))=false from(aa.2 (by omega))) (cj (show((atI p e.pc).kind==(9:Int))=false from(aa.2 (by omega))) (cj (show((atI p e.pc).kind==(10:Int))=false from(aa.2 (by omega))) (cj (ax.2 hk) (cj (rf (1:Int)) trivial))))))))))))))))
theorem DP(p:Pg)(e:En)(hk:(atI p e.pc).kind=12)(hf:e.ft=false):Vc (vF_ 26 [.agg (pgA p),.agg (enA e)] [.fv,.fv,.b false,iO p e,.bd false,.bd false,.bd false,.bd false,.bd false,.bd false,.bd false,.bd false,.bd false,.bd false,.bd false] [] (aI 2) []):=al (cj hf (gI p (iI p e (cj (atC p e.pc) (cj (show((atI p e.pc).kind==(1:Int))=false from(aa.2 (by omega))) (cj (show((atI p e.pc).kind==(2:Int))=false from(aa.2 (by omega))) (cj (show((atI p e.pc).kind==(3:Int))=false from(aa.2 (by omega))) (cj (show((atI p e.pc).kind==(4:Int))=false from(aa.2 (by omega))) (cj (show((atI p e.pc).kind==(5:Int))=false from(aa.2 (by omega))) (cj (show((atI p e.pc).kind==(6:Int))=false from(aa.2 (by omega))) (cj (show((atI p e.pc).kind==(7:Int))=false from(aa.2 (by omega))) (cj (show((atI p e.pc).kind==(8:Int))=false from(aa.2 (by omega))) (cj (show((atI p e.pc).kind==(9:Int))=false from(aa.2 (by omega))) (cj (show((atI p e.pc).kind==(10:Int))=false from(aa.2 (by omega))) (cj (show((atI p e.pc).kind==(11:Int))=false from(aa.2 (by omega))) (cj (rf (2:Int)) trivial))))))))))))))))
theorem FH(p:Pg)(e:En)(hP:OkP p):pC_ 26 [.agg (pgA p),.agg (enA e)] (.int .i64 (Gg p e)) []:=by
 obtain⟨⟨hk,_⟩,_⟩:=ik hP e.pc
 unfold Gg
 cases hf:e.ft with
 |true=>rw[ai (.inl rfl)];exact PureC.vc (GX p e hf)
 |false=>
  by_cases k12:(atI p e.pc).kind=12
  ·rw[ai (.inr k12)];exact PureC.vc (DP p e k12 hf)
  ·rw[ah (by rintro(h |h);cases h;exact k12 h)]
   by_cases k11:(atI p e.pc).kind=11
   ·rw[ai k11];exact PureC.vc (DQ p e k11 hf)
   ·rw[ah k11]
    have hc:(atI p e.pc).kind=1∨(atI p e.pc).kind=2∨(atI p e.pc).kind=3∨(atI p e.pc).kind=4∨(atI p e.pc).kind=5∨(atI p e.pc).kind=6∨(atI p e.pc).kind=7∨(atI p e.pc).kind=8∨(atI p e.pc).kind=9∨(atI p e.pc).kind=10:=by omega
    rcases hc with h |h |h |h |h |h |h |h |h |h
    ·exact PureC.vc (G6 p e h hf)
    ·exact PureC.vc (G5 p e h hf)
    ·exact PureC.vc (G4 p e h hf)
    ·exact PureC.vc (G3 p e h hf)
    ·exact PureC.vc (G2 p e h hf)
    ·exact PureC.vc (G1 p e h hf)
    ·exact PureC.vc (G0 p e h hf)
    ·exact PureC.vc (GZ p e h hf)
    ·exact PureC.vc (GY p e h hf)
    ·exact PureC.vc (DR p e h hf)
end
end Go.Proofs.Ytdanmboalfmifaa.Px
namespace Go.Proofs.Ytdanmboalfmifaa.Rx
section
open Go.RowKit
def enL{α:Type}:Nat->List α->List (Nat×α)
 |_,[]=>[]
 |k,a::l=>(k,a)::enL (k+1) l
theorem sI{α:Type}: ∀(l:List α) (k i:Nat),ba (enL k l) (k+i)=l[i]?
 | [],_,_=>by simp[enL,ba]
 |a::l,k,0=>by
  show(bif Nat.beq (k+0) k then some a else ba (enL (k+1) l) (k+0))=_
  rw[cA,cz]
  rfl
 |a::l,k,i+1=>by
  have e:Nat.beq (k+(i+1)) k=false:=by
   cases hb:Nat.beq (k+(i+1)) k with
   |false=>rfl
   |true=>have:=aj hb;omega
  show(bif Nat.beq (k+(i+1)) k then some a else ba (enL (k+1) l) (k+(i+1)))=_
  rw[e,show k+(i+1)=k+1+i by omega]
  show ba (enL (k+1) l) (k+1+i)=_
  rw[sI l (k+1) i,dP]
theorem i8{α:Type}(d:α): ∀(l:List (Nat×α)) (i:Nat),g6 d l i=(ba l i).getD d
 | [],_=>rfl
 | (k,v)::l,i=>by
  unfold g6 ba
  cases Nat.beq i k with
  |true=>rfl
  |false=>exact i8 d l i
def qv(id n:Nat)(l:List AV)(H:List Blk)(r:List (Nat×Nat))(l':List AV)(H':List Blk):Prop:=
 match xq id n ⟨enL 0 l,enL 0 H,H.length⟩ with
 |some q=>match leS r q.1.st ⟨enL 0 l',enL 0 H',H'.length⟩ with
  |some ps=>nh ((l'.length=l.length)::(q.2++ps))
  |none=>False
 |none=>False
section
variable{P:Program}
theorem PureC.shrT{f:FuncId}{args l l':List AV}{H H':List Blk}{id n:Nat}{r:List (Nat×Nat)}(h:PureC P f args (.tup l) H)(hv:Vc (qv id n l H r l' H')):PureC P f args (.tup l') H':=by
 intro w R vs hR hl ha
 refine(h w R vs hR hl ha).mono ?_
 rintro e w' ⟨z,cx,rfl,rfl,k1,k2,k3,k4,k5,k6,k7⟩
 have hv:=hv.out
 unfold qv at hv
 split at hv
 ·rename_i q hq
  split at hv
  ·rename_i ps hps
   obtain⟨us,rfl,h1,h2⟩: ∃us:Array Value,z= .tuple us∧l.length=us.size∧ ∀(j:Nat) x v,l[j]? =some x->us[j]? =some v->Rep cx x v:=by
    cases k7 with
    |pure h=>cases h with
     |tup hl h=>exact⟨_,rfl,hl,fun j x v h1 h2=> .pure (h j x v h1 h2)⟩
    |tup hl h=>exact⟨_,rfl,hl,h⟩
   letI d0:Dfs:=⟨[]⟩
   have g0: ∀{α:Type} (L:List α) i,ba (enL 0 L) i=L[i]? :=fun L i=>by
    have:=sI L 0 i
    rwa [bg] at this
   have hs:SRep cx (⟨enL 0 l,enL 0 H,H.length⟩:Sm).st ⟨us,[]⟩ us.size:=by
    refine⟨?_,k2,fun t=> ?_,fun i hi=> ?_,rfl,rfl⟩
    ·rw[k1];funext i;exact(g0 H i).symm
    ·show Rep cx (g6 .junk (enL 0 l) t) (us.getD t undef)
     rw[i8,g0]
     cases ht:l[t]? with
     |none=>exact .pure (.junk _)
     |some x=>
      have h3:t<us.size:=by rw[<-h1];exact(az.1 ht).1
      have h4:us.getD t undef=us[t]:=by simp[Array.getD,h3]
      rw[h4]
      exact h2 t x _ ht (ao h3)
    ·have hi:(ba (enL 0 H) i).isSome=true:=hi
     rw[g0] at hi
     exact Classical.byContradiction fun hn=>by rw[dj (bt.1 hn)] at hi;cases hi
   have hal:=fM hv
   obtain⟨cx1,hs1,hx1,hw1⟩:=SRep.shr (J':=q.1) (ps:=q.2) hs hq fun p hp=>hal p (bO _ (b6 _ hp))
   obtain⟨cx',hs',hx2,hw2⟩:=hs1.le hps fun p hp=>hal p (bO _ (bW _ hp))
   have hx:=hx1.trans hx2
   have hw:=hw2.trans hw1
   have hll:l'.length=l.length:=hal _ (d4 ..)
   refine⟨_,cx',rfl,hw.symm, ?_,hs'.c,by rw[hx.B];exact k3,fun g hg=>hx.R g (k4 g hg),fun g hg=> ?_,k6,.tup (hll.trans h1) fun j x v hj hu=> ?_⟩
   ·rw[hs'.H]
    funext i;exact g0 H' i
   ·rcases hx.Rn g hg with h3 |h3
    ·exact k5 g h3
    ·rw[k3] at h3;exact .inr (bt.1 h3)
   ·have h3:=hs'.env j
    have h4:Rep cx' (g6 .junk (enL 0 l') j) (us.getD j undef):=h3
    rw[i8,g0,hj] at h4
    have h5:us.getD j undef=v:=by simp[aU,hu]
    rw[h5] at h4
    exact h4
  ·cases hv
 ·cases hv
end
end
end Go.Proofs.Ytdanmboalfmifaa.Rx
namespace Go.Proofs.Ytdanmboalfmifaa.Px
section
open Go.RowKit Go.Proofs.Ytdanmboalfmifaa.Rx
def rtT(o:Option Cf):Cf×Bool:=match o with
 |some x=>(x,true)
 |none=>(Cf0,false)
theorem s3{l:List Int}: ∀i,i<l.length-1-> ∀j,j<1->AV.int .i64 (l.getD i 0)= .int .i64 ((l.take (l.length-1)).getD i 0):=fun i hi j hj=>by
 rw[km l (l.length-1) i hi]
theorem s5{l:List Int}{x:Int}: ∀i,i<l.length+1-> ∀j,j<1->(bif Nat.blt i l.length then AV.int .i64 (l.getD i 0) else[AV.int .i64 x].getD ((i-l.length+0)*1+j) .junk)= .int .i64 ((l++[x]).getD i 0):=fun i hi j hj=>by
 obtain rfl:j=0:=by omega
 exact jy (l:=l) (x:=x) (g:=fun a b=>[AV.int .i64 x].getD ((a+0)*1+b) .junk) rfl i hi _ fun _=>rfl
theorem gw(c:Cf){Z:Prop}(z:Z):(RR c.s.m.length 1 (fun i j=>aI (List.getD c.s.m i 0)) (RF c.s.st.length (RR c.s.st.length 1 (fun i j=>aI (List.getD c.s.st i 0)) (RF c.s.pc (RF c.b.length (RR c.b.length 8 (fun i j=>an enC c.b i j) (RF c.r.length (RR c.r.length 1 (fun i j=>aI (c.r.getD i 0)) (RF c.e Z))))))))):=⟨fun _ _ _ _=>rfl,rfl,fun _ _ _ _=>rfl,rfl,rfl,fun _ _ _ _=>rfl,rfl,fun _ _ _ _=>rfl,rfl,z⟩
theorem gv(p:Pg)(c:Cf){Z:Prop}(z:Z):(RF p.ls.length (RR p.ls.length 2 (fun i j=>an lbC p.ls i j) (RF p.is.length (RR p.is.length 9 (fun i j=>an inC p.is i j) (RF c.s.r0 (RF c.s.r1 (RF c.s.r2 (RF c.s.r3 (RF c.s.m.length Z))))))))):=⟨rfl,fun _ _ _ _=>rfl,rfl,fun _ _ _ _=>rfl,rfl,rfl,rfl,rfl,rfl,z⟩
theorem cw(p:Pg){Z:Prop}(z:Z):(RF p.W (RF p.win (RF p.fuel (RF p.r0 (RF p.r1 (RF p.r2 (RF p.r3 (RF p.ms.length (RR p.ms.length 3 (fun i j=>an mmC p.ms i j) Z))))))))):=⟨rfl,rfl,rfl,rfl,rfl,rfl,rfl,rfl,fun _ _ _ _=>rfl,z⟩
theorem GI(p:Pg)(c:Cf)(h:pC_ 9 [.agg (pgA p),.agg (cfA c)] (.bool false) []):Vc (vF_ 8 [.agg (pgA p),.agg (cfA c)] [.fv,.fv,.cl [.agg (pgA p),.agg (cfA c)] (.bool false) []] [] (.tup [.agg (s8A Cf0.s (.own 0 0 1 0 Cf0.s.m.length) (.own 1 0 1 0 Cf0.s.st.length)++[.own 2 0 8 0 Cf0.b.length,.own 3 0 1 0 Cf0.r.length, aI Cf0.e]),.bool false]) [aZ Cf0.s.m,aZ Cf0.s.st,enB Cf0.b,aZ Cf0.r]):=al (cw p (gv p c (gw c (cj h (cj (rf (0:Nat)) (cj (rf (0:Nat)) (cj (rf (0:Nat)) (cj (rf (0:Nat)) (cj (rf (0:Int)) (cj (rf (0:Int)) (cj (rf (0:Int)) (cj (rf (0:Int)) (cj (rf (0:Nat)) (cj (rf (0:Nat)) (cj (rf (0:Nat)) (cj (rf (0:Nat)) (cj (rf (0:Int)) (cj (rf (0:Nat)) (cj (rf (0:Nat)) (cj (rf (0:Nat)) (cj (rf (0:Nat)) (cj (rf (0:Int)) (cj (rf false) trivial)))))))))))))))))))))))
theorem dD(c:Cf){Z:Prop}(z:Z):(RF c.s.r0 (RF c.s.r1 (RF c.s.r2 (RF c.s.r3 (RF c.s.m.length (RR c.s.m.length 1 (fun i j=>aI (List.getD c.s.m i 0)) (RF c.s.st.length (RR c.s.st.length 1 (fun i j=>aI (List.getD c.s.st i 0)) (RF c.s.pc Z))))))))):=⟨rfl,rfl,rfl,rfl,rfl,fun _ _ _ _=>rfl,rfl,fun _ _ _ _=>rfl,rfl,z⟩
theorem gG(c:Cf){Z:Prop}(z:Z):(RF ((c.b.getD 0 default).dn) (RF ((c.b.getD 0 default).kn) (RF ((c.b.getD 0 default).ft) Z))):=⟨rfl,rfl,rfl,z⟩
theorem gF(p:Pg)(c:Cf){Z:Prop}(z:Z):(RF p.ls.length (RR p.ls.length 2 (fun i j=>an lbC p.ls i j) (RF p.is.length (RR p.is.length 9 (fun i j=>an inC p.is i j) (RF ((c.b.getD 0 default).pc) (RF ((c.b.getD 0 default).val) (RF ((c.b.getD 0 default).adr) (RF ((c.b.getD 0 default).frm) (RF ((c.b.getD 0 default).nxt) Z))))))))):=⟨rfl,fun _ _ _ _=>rfl,rfl,fun _ _ _ _=>rfl,rfl,rfl,rfl,rfl,rfl,z⟩
abbrev gS(c:Cf):Prop:=PureC Try.prog 25 [.agg (s8R c.s)] (.agg (s8A c.s (.own 0 0 1 0 c.s.m.length) (.own 1 0 1 0 c.s.st.length)++[.nils,.nils,.int .i64 0])) [aZ c.s.m,aZ c.s.st]
abbrev gT(c:Cf):Prop:=PureC Try.prog 24 [enR c.b] (.tup [.agg (enA (c.b.getD 0 default)),.own 0 0 8 0 (ay c.b).length,.bool true]) [enB (ay c.b)]
abbrev gU(p:Pg)(c:Cf):Prop:=PureC Try.prog 9 [.agg (pgA p),.agg (cfA c)] (.bool true) []
abbrev gX(c:Cf):Orc:= .cl [.agg (s8R c.s)] (.agg (s8A c.s (.own 0 0 1 0 c.s.m.length) (.own 1 0 1 0 c.s.st.length)++[.nils,.nils, aI 0])) [aZ c.s.m,aZ c.s.st]
abbrev gY(c:Cf):Orc:= .cl [enR c.b] (.tup [.agg (enA (c.b.getD 0 default)),.own 0 0 8 0 (ay c.b).length,.bool true]) [enB (ay c.b)]
abbrev gZ(p:Pg)(c:Cf):Orc:= .cl [.agg (pgA p),.agg (cfA c)] (.bool true) []
theorem wz(p:Pg)(c:Cf)(en:Int)(hb:c.b.length<1000000)(hs:c.s.st.length<=1000)(hm:c.s.m.length<=1000000)(h1:gU p c)(h2:gT c)(h3:gS c)(h4:pC_ 26 [.agg (pgA p),.agg (enA (c.b.getD 0 default))] (aI en) [])(h5:pC_ 27 [.agg (cfA (⟨c.s,[],[],en⟩:Cf))] (.bool true) []):Vc (vF_ 8 [.agg (pgA p),.agg (cfA c)] [.fv,.fv,gZ p c,gY c,gX c,.cl [.agg (pgA p),.agg (enA (c.b.getD 0 default))] (aI en) [],.cp [.agg (cfA (⟨c.s,[],[],en⟩:Cf))] (.bool true)] [(0,3),(1,4)] (.tup [.agg (s8A (⟨c.s.go (c.b.getD 0 default).pc,[],[],en⟩:Cf).s (.own 0 0 1 0 (⟨c.s.go (c.b.getD 0 default).pc,[],[],en⟩:Cf).s.m.length) (.own 1 0 1 0 (⟨c.s.go (c.b.getD 0 default).pc,[],[],en⟩:Cf).s.st.length)++[.own 2 0 8 0 (⟨c.s.go (c.b.getD 0 default).pc,[],[],en⟩:Cf).b.length,.own 3 0 1 0 (⟨c.s.go (c.b.getD 0 default).pc,[],[],en⟩:Cf).r.length, aI (⟨c.s.go (c.b.getD 0 default).pc,[],[],en⟩:Cf).e]),.bool true]) [aZ (⟨c.s.go (c.b.getD 0 default).pc,[],[],en⟩:Cf).s.m,aZ (⟨c.s.go (c.b.getD 0 default).pc,[],[],en⟩:Cf).s.st,enB (⟨c.s.go (c.b.getD 0 default).pc,[],[],en⟩:Cf).b,aZ (⟨c.s.go (c.b.getD 0 default).pc,[],[],en⟩:Cf).r]):=al (cw p (gv p c (gw c (cj h1 (cj (rf c.b.length) (cj (rr c.b.length 8 fun i j=>an enC c.b i j) (cj h2 (dD c (cj h3 (cw p (gF p c (gG c (cj h4 (dD c (cj (rf (0:Nat)) (cj (rf (0:Nat)) (cj (rf en) (cj h5 (cj (rf c.s.m.length) (cj (rr c.s.m.length 1 fun i j=>aI (List.getD c.s.m i 0)) (cj (rf c.s.st.length) (cj (rr c.s.st.length 1 fun i j=>aI (List.getD c.s.st i 0)) (cj (rf (0:Nat)) (cj (rf (0:Nat)) (cj (rf c.s.r0) (cj (rf c.s.r1) (cj (rf c.s.r2) (cj (rf c.s.r3) (cj (rf (0:Nat)) (cj (rf c.s.m.length) (cj (rf (0:Nat)) (cj (rf c.s.st.length) (cj (rf ((c.b.getD 0 default).pc)) (cj (rf (0:Nat)) (cj (rf (0:Nat)) (cj (rf (0:Nat)) (cj (rf (0:Nat)) (cj (rf en) (cj (rf true) trivial)))))))))))))))))))))))))))))))))))))))
theorem jV(c:Cf){Z:Prop}(z:Z):(RF ((ay c.b).length) (RF (0:Nat) (RF c.r.length (RF (0:Int) (RF true Z))))):=⟨rfl,rfl,rfl,rfl,rfl,z⟩
theorem w3(c:Cf){Z:Prop}(z:Z):(RF c.s.r1 (RF c.s.r2 (RF c.s.r3 (RF (0:Nat) (RF c.s.m.length (RF (0:Nat) (RF c.s.st.length (RF c.s.pc (RF (0:Nat) Z))))))))):=⟨rfl,rfl,rfl,rfl,rfl,rfl,rfl,rfl,rfl,z⟩
theorem Ar(c:Cf){Z:Prop}(z:Z):(RF c.s.m.length (RR c.s.m.length 1 (fun i j=>aI (List.getD c.s.m i 0)) (RF c.s.st.length (RR c.s.st.length 1 (fun i j=>aI (List.getD c.s.st i 0)) (RF ((ay c.b).length) (RR ((ay c.b).length) 8 (fun i j=>an enC (ay c.b) i j) (RF c.r.length (RR c.r.length 1 (fun i j=>aI (c.r.getD i 0)) (RF ((c.b.getD 0 default).val) Z))))))))):=⟨rfl,fun _ _ _ _=>rfl,rfl,fun _ _ _ _=>rfl,rfl,fun _ _ _ _=>rfl,rfl,fun _ _ _ _=>rfl,rfl,z⟩
theorem iH(p:Pg)(c:Cf){Z:Prop}(z:Z):(RF p.ls.length (RR p.ls.length 2 (fun i j=>an lbC p.ls i j) (RF p.is.length (RR p.is.length 9 (fun i j=>an inC p.is i j) (RF ((c.b.getD 0 default).pc) Z))))):=⟨rfl,fun _ _ _ _=>rfl,rfl,fun _ _ _ _=>rfl,rfl,z⟩
theorem eO{Z:Prop}(z:Z):(RF (0:Nat) (RF (0:Nat) (RF (0:Int) Z))):=⟨rfl,rfl,rfl,z⟩
abbrev iM(p:Pg)(c:Cf):Prop:=PureC Try.prog 26 [.agg (pgA p),.agg (enA (c.b.getD 0 default))] (.int .i64 0) []
abbrev iL(c:Cf):Prop:=PureC Try.prog 27 [.agg (cfA (⟨c.s,[],[],0⟩:Cf))] (.bool false) []
abbrev iK(c:Cf):Prop:=PureC Try.prog 30 [lR c.r] (.own 0 0 1 0 c.r.length) [aZ c.r]
abbrev eQ(p:Pg)(c:Cf):Orc:= .cl [.agg (pgA p), aI (c.b.getD 0 default).pc] (.agg (inA (enX p c 0))) []
abbrev iN(p:Pg)(c:Cf):Orc:= .cl [.agg (pgA p),.agg (enA (c.b.getD 0 default))] (aI 0) []
abbrev eR(c:Cf):Orc:= .cp [.agg (cfA (⟨c.s,[],[],0⟩:Cf))] (.bool false)
abbrev eP(c:Cf):Orc:= .cl [lR c.r] (.own 0 0 1 0 c.r.length) [aZ c.r]
theorem y0(p:Pg)(c:Cf)(hb:c.b.length<1000000)(hs:c.s.st.length<=1000)(hm:c.s.m.length<=1000000)(h1:gU p c)(h2:gT c)(h3:gS c)(h4:iM p c)(h5:iL c)(h6:iK c)(hk:(enX p c 0).kind=1)(hd:(enX p c 0).d=0):Vc (vF_ 8 [.agg (pgA p),.agg (cfA c)] [.fv,.fv,gZ p c,gY c,gX c,iN p c,eR c,eQ p c,.fv,.fv,.bd true,.bd true,.bd true,.iy 0,eP c] [(0,3),(1,4),(2,1),(3,6)] (.tup [.agg (s8A (⟨c.s.set 0 (c.b.getD 0 default).val,ay c.b,c.r,0⟩:Cf).s (.own 0 0 1 0 (⟨c.s.set 0 (c.b.getD 0 default).val,ay c.b,c.r,0⟩:Cf).s.m.length) (.own 1 0 1 0 (⟨c.s.set 0 (c.b.getD 0 default).val,ay c.b,c.r,0⟩:Cf).s.st.length)++[.own 2 0 8 0 (⟨c.s.set 0 (c.b.getD 0 default).val,ay c.b,c.r,0⟩:Cf).b.length,.own 3 0 1 0 (⟨c.s.set 0 (c.b.getD 0 default).val,ay c.b,c.r,0⟩:Cf).r.length, aI (⟨c.s.set 0 (c.b.getD 0 default).val,ay c.b,c.r,0⟩:Cf).e]),.bool true]) [aZ (⟨c.s.set 0 (c.b.getD 0 default).val,ay c.b,c.r,0⟩:Cf).s.m,aZ (⟨c.s.set 0 (c.b.getD 0 default).val,ay c.b,c.r,0⟩:Cf).s.st,enB (⟨c.s.set 0 (c.b.getD 0 default).val,ay c.b,c.r,0⟩:Cf).b,aZ (⟨c.s.set 0 (c.b.getD 0 default).val,ay c.b,c.r,0⟩:Cf).r]):=al (cw p (gv p c (gw c (cj h1 (cj (rf c.b.length) (cj (rr c.b.length 8 fun i j=>an enC c.b i j) (cj h2 (dD c (cj h3 (cw p (gF p c (gG c (cj h4 (dD c (eO (cj h5 (cw p (iH p c (cj (atC p (c.b.getD 0 default).pc) (cj (e1 ((enX p c 0).kind) 1) (cj (dt ((enX p c 0).d>=0)) (cj (dt ((enX p c 0).d<((4:Nat):Int))) (cj (pv ((enX p c 0).d=((0:Nat):Int))) (cj (bi (0:Nat) (4:Nat)) (cj (rf c.r.length) (cj (rr c.r.length 1 fun i j=>aI (c.r.getD i 0)) (cj h6 (Ar c (w3 c (jV c trivial))))))))))))))))))))))))))))))
theorem ul(c:Cf){Z:Prop}(z:Z):(RF ((c.b.getD 0 default).val) (RF c.s.r2 (RF c.s.r3 (RF (0:Nat) (RF c.s.m.length (RF (0:Nat) (RF c.s.st.length (RF c.s.pc (RF (0:Nat) Z))))))))):=⟨rfl,rfl,rfl,rfl,rfl,rfl,rfl,rfl,rfl,z⟩
theorem gH(c:Cf){Z:Prop}(z:Z):(RF c.s.m.length (RR c.s.m.length 1 (fun i j=>aI (List.getD c.s.m i 0)) (RF c.s.st.length (RR c.s.st.length 1 (fun i j=>aI (List.getD c.s.st i 0)) (RF ((ay c.b).length) (RR ((ay c.b).length) 8 (fun i j=>an enC (ay c.b) i j) (RF c.r.length (RR c.r.length 1 (fun i j=>aI (c.r.getD i 0)) (RF c.s.r0 Z))))))))):=⟨rfl,fun _ _ _ _=>rfl,rfl,fun _ _ _ _=>rfl,rfl,fun _ _ _ _=>rfl,rfl,fun _ _ _ _=>rfl,rfl,z⟩
theorem yZ(p:Pg)(c:Cf)(hb:c.b.length<1000000)(hs:c.s.st.length<=1000)(hm:c.s.m.length<=1000000)(h1:gU p c)(h2:gT c)(h3:gS c)(h4:iM p c)(h5:iL c)(h6:iK c)(hk:(enX p c 0).kind=1)(hd:(enX p c 0).d=1):Vc (vF_ 8 [.agg (pgA p),.agg (cfA c)] [.fv,.fv,gZ p c,gY c,gX c,iN p c,eR c,eQ p c,.fv,.fv,.bd true,.bd true,.bd true,.iy 1,eP c] [(0,3),(1,4),(2,1),(3,6)] (.tup [.agg (s8A (⟨c.s.set 1 (c.b.getD 0 default).val,ay c.b,c.r,0⟩:Cf).s (.own 0 0 1 0 (⟨c.s.set 1 (c.b.getD 0 default).val,ay c.b,c.r,0⟩:Cf).s.m.length) (.own 1 0 1 0 (⟨c.s.set 1 (c.b.getD 0 default).val,ay c.b,c.r,0⟩:Cf).s.st.length)++[.own 2 0 8 0 (⟨c.s.set 1 (c.b.getD 0 default).val,ay c.b,c.r,0⟩:Cf).b.length,.own 3 0 1 0 (⟨c.s.set 1 (c.b.getD 0 default).val,ay c.b,c.r,0⟩:Cf).r.length, aI (⟨c.s.set 1 (c.b.getD 0 default).val,ay c.b,c.r,0⟩:Cf).e]),.bool true]) [aZ (⟨c.s.set 1 (c.b.getD 0 default).val,ay c.b,c.r,0⟩:Cf).s.m,aZ (⟨c.s.set 1 (c.b.getD 0 default).val,ay c.b,c.r,0⟩:Cf).s.st,enB (⟨c.s.set 1 (c.b.getD 0 default).val,ay c.b,c.r,0⟩:Cf).b,aZ (⟨c.s.set 1 (c.b.getD 0 default).val,ay c.b,c.r,0⟩:Cf).r]):=al (cw p (gv p c (gw c (cj h1 (cj (rf c.b.length) (cj (rr c.b.length 8 fun i j=>an enC c.b i j) (cj h2 (dD c (cj h3 (cw p (gF p c (gG c (cj h4 (dD c (eO (cj h5 (cw p (iH p c (cj (atC p (c.b.getD 0 default).pc) (cj (e1 ((enX p c 0).kind) 1) (cj (dt ((enX p c 0).d>=0)) (cj (dt ((enX p c 0).d<((4:Nat):Int))) (cj (pv ((enX p c 0).d=((1:Nat):Int))) (cj (bi (1:Nat) (4:Nat)) (cj (rf c.r.length) (cj (rr c.r.length 1 fun i j=>aI (c.r.getD i 0)) (cj h6 (gH c (ul c (jV c trivial))))))))))))))))))))))))))))))
theorem uk(c:Cf){Z:Prop}(z:Z):(RF c.s.r1 (RF ((c.b.getD 0 default).val) (RF c.s.r3 (RF (0:Nat) (RF c.s.m.length (RF (0:Nat) (RF c.s.st.length (RF c.s.pc (RF (0:Nat) Z))))))))):=⟨rfl,rfl,rfl,rfl,rfl,rfl,rfl,rfl,rfl,z⟩
theorem yY(p:Pg)(c:Cf)(hb:c.b.length<1000000)(hs:c.s.st.length<=1000)(hm:c.s.m.length<=1000000)(h1:gU p c)(h2:gT c)(h3:gS c)(h4:iM p c)(h5:iL c)(h6:iK c)(hk:(enX p c 0).kind=1)(hd:(enX p c 0).d=2):Vc (vF_ 8 [.agg (pgA p),.agg (cfA c)] [.fv,.fv,gZ p c,gY c,gX c,iN p c,eR c,eQ p c,.fv,.fv,.bd true,.bd true,.bd true,.iy 2,eP c] [(0,3),(1,4),(2,1),(3,6)] (.tup [.agg (s8A (⟨c.s.set 2 (c.b.getD 0 default).val,ay c.b,c.r,0⟩:Cf).s (.own 0 0 1 0 (⟨c.s.set 2 (c.b.getD 0 default).val,ay c.b,c.r,0⟩:Cf).s.m.length) (.own 1 0 1 0 (⟨c.s.set 2 (c.b.getD 0 default).val,ay c.b,c.r,0⟩:Cf).s.st.length)++[.own 2 0 8 0 (⟨c.s.set 2 (c.b.getD 0 default).val,ay c.b,c.r,0⟩:Cf).b.length,.own 3 0 1 0 (⟨c.s.set 2 (c.b.getD 0 default).val,ay c.b,c.r,0⟩:Cf).r.length, aI (⟨c.s.set 2 (c.b.getD 0 default).val,ay c.b,c.r,0⟩:Cf).e]),.bool true]) [aZ (⟨c.s.set 2 (c.b.getD 0 default).val,ay c.b,c.r,0⟩:Cf).s.m,aZ (⟨c.s.set 2 (c.b.getD 0 default).val,ay c.b,c.r,0⟩:Cf).s.st,enB (⟨c.s.set 2 (c.b.getD 0 default).val,ay c.b,c.r,0⟩:Cf).b,aZ (⟨c.s.set 2 (c.b.getD 0 default).val,ay c.b,c.r,0⟩:Cf).r]):=al (cw p (gv p c (gw c (cj h1 (cj (rf c.b.length) (cj (rr c.b.length 8 fun i j=>an enC c.b i j) (cj h2 (dD c (cj h3 (cw p (gF p c (gG c (cj h4 (dD c (eO (cj h5 (cw p (iH p c (cj (atC p (c.b.getD 0 default).pc) (cj (e1 ((enX p c 0).kind) 1) (cj (dt ((enX p c 0).d>=0)) (cj (dt ((enX p c 0).d<((4:Nat):Int))) (cj (pv ((enX p c 0).d=((2:Nat):Int))) (cj (bi (2:Nat) (4:Nat)) (cj (rf c.r.length) (cj (rr c.r.length 1 fun i j=>aI (c.r.getD i 0)) (cj h6 (gH c (uk c (jV c trivial))))))))))))))))))))))))))))))
theorem uj(c:Cf){Z:Prop}(z:Z):(RF c.s.r1 (RF c.s.r2 (RF ((c.b.getD 0 default).val) (RF (0:Nat) (RF c.s.m.length (RF (0:Nat) (RF c.s.st.length (RF c.s.pc (RF (0:Nat) Z))))))))):=⟨rfl,rfl,rfl,rfl,rfl,rfl,rfl,rfl,rfl,z⟩
theorem yX(p:Pg)(c:Cf)(hb:c.b.length<1000000)(hs:c.s.st.length<=1000)(hm:c.s.m.length<=1000000)(h1:gU p c)(h2:gT c)(h3:gS c)(h4:iM p c)(h5:iL c)(h6:iK c)(hk:(enX p c 0).kind=1)(hd:(enX p c 0).d=3):Vc (vF_ 8 [.agg (pgA p),.agg (cfA c)] [.fv,.fv,gZ p c,gY c,gX c,iN p c,eR c,eQ p c,.fv,.fv,.bd true,.bd true,.bd true,.iy 3,eP c] [(0,3),(1,4),(2,1),(3,6)] (.tup [.agg (s8A (⟨c.s.set 3 (c.b.getD 0 default).val,ay c.b,c.r,0⟩:Cf).s (.own 0 0 1 0 (⟨c.s.set 3 (c.b.getD 0 default).val,ay c.b,c.r,0⟩:Cf).s.m.length) (.own 1 0 1 0 (⟨c.s.set 3 (c.b.getD 0 default).val,ay c.b,c.r,0⟩:Cf).s.st.length)++[.own 2 0 8 0 (⟨c.s.set 3 (c.b.getD 0 default).val,ay c.b,c.r,0⟩:Cf).b.length,.own 3 0 1 0 (⟨c.s.set 3 (c.b.getD 0 default).val,ay c.b,c.r,0⟩:Cf).r.length, aI (⟨c.s.set 3 (c.b.getD 0 default).val,ay c.b,c.r,0⟩:Cf).e]),.bool true]) [aZ (⟨c.s.set 3 (c.b.getD 0 default).val,ay c.b,c.r,0⟩:Cf).s.m,aZ (⟨c.s.set 3 (c.b.getD 0 default).val,ay c.b,c.r,0⟩:Cf).s.st,enB (⟨c.s.set 3 (c.b.getD 0 default).val,ay c.b,c.r,0⟩:Cf).b,aZ (⟨c.s.set 3 (c.b.getD 0 default).val,ay c.b,c.r,0⟩:Cf).r]):=al (cw p (gv p c (gw c (cj h1 (cj (rf c.b.length) (cj (rr c.b.length 8 fun i j=>an enC c.b i j) (cj h2 (dD c (cj h3 (cw p (gF p c (gG c (cj h4 (dD c (eO (cj h5 (cw p (iH p c (cj (atC p (c.b.getD 0 default).pc) (cj (e1 ((enX p c 0).kind) 1) (cj (dt ((enX p c 0).d>=0)) (cj (dt ((enX p c 0).d<((4:Nat):Int))) (cj (pv ((enX p c 0).d=((3:Nat):Int))) (cj (bi (3:Nat) (4:Nat)) (cj (rf c.r.length) (cj (rr c.r.length 1 fun i j=>aI (c.r.getD i 0)) (cj h6 (gH c (uj c (jV c trivial))))))))))))))))))))))))))))))
theorem yW(p:Pg)(c:Cf)(hb:c.b.length<1000000)(hs:c.s.st.length<=1000)(hm:c.s.m.length<=1000000)(h1:gU p c)(h2:gT c)(h3:gS c)(h4:iM p c)(h5:iL c)(h6:iK c)(hk:(enX p c 0).kind=2)(hd:(enX p c 0).d=0):Vc (vF_ 8 [.agg (pgA p),.agg (cfA c)] [.fv,.fv,gZ p c,gY c,gX c,iN p c,eR c,eQ p c,.fv,.fv,.bd false,.bd true,.bd true,.bd true,.iy 0,eP c] [(0,3),(1,4),(2,1),(3,6)] (.tup [.agg (s8A (⟨c.s.set 0 (c.b.getD 0 default).val,ay c.b,c.r,0⟩:Cf).s (.own 0 0 1 0 (⟨c.s.set 0 (c.b.getD 0 default).val,ay c.b,c.r,0⟩:Cf).s.m.length) (.own 1 0 1 0 (⟨c.s.set 0 (c.b.getD 0 default).val,ay c.b,c.r,0⟩:Cf).s.st.length)++[.own 2 0 8 0 (⟨c.s.set 0 (c.b.getD 0 default).val,ay c.b,c.r,0⟩:Cf).b.length,.own 3 0 1 0 (⟨c.s.set 0 (c.b.getD 0 default).val,ay c.b,c.r,0⟩:Cf).r.length, aI (⟨c.s.set 0 (c.b.getD 0 default).val,ay c.b,c.r,0⟩:Cf).e]),.bool true]) [aZ (⟨c.s.set 0 (c.b.getD 0 default).val,ay c.b,c.r,0⟩:Cf).s.m,aZ (⟨c.s.set 0 (c.b.getD 0 default).val,ay c.b,c.r,0⟩:Cf).s.st,enB (⟨c.s.set 0 (c.b.getD 0 default).val,ay c.b,c.r,0⟩:Cf).b,aZ (⟨c.s.set 0 (c.b.getD 0 default).val,ay c.b,c.r,0⟩:Cf).r]):=al (cw p (gv p c (gw c (cj h1 (cj (rf c.b.length) (cj (rr c.b.length 8 fun i j=>an enC c.b i j) (cj h2 (dD c (cj h3 (cw p (gF p c (gG c (cj h4 (dD c (eO (cj h5 (cw p (iH p c (cj (atC p (c.b.getD 0 default).pc) (cj (e0 ((enX p c 0).kind) 1) (cj (e1 ((enX p c 0).kind) 2) (cj (dt ((enX p c 0).d>=0)) (cj (dt ((enX p c 0).d<((4:Nat):Int))) (cj (pv ((enX p c 0).d=((0:Nat):Int))) (cj (bi (0:Nat) (4:Nat)) (cj (rf c.r.length) (cj (rr c.r.length 1 fun i j=>aI (c.r.getD i 0)) (cj h6 (Ar c (w3 c (jV c trivial)))))))))))))))))))))))))))))))
theorem yV(p:Pg)(c:Cf)(hb:c.b.length<1000000)(hs:c.s.st.length<=1000)(hm:c.s.m.length<=1000000)(h1:gU p c)(h2:gT c)(h3:gS c)(h4:iM p c)(h5:iL c)(h6:iK c)(hk:(enX p c 0).kind=2)(hd:(enX p c 0).d=1):Vc (vF_ 8 [.agg (pgA p),.agg (cfA c)] [.fv,.fv,gZ p c,gY c,gX c,iN p c,eR c,eQ p c,.fv,.fv,.bd false,.bd true,.bd true,.bd true,.iy 1,eP c] [(0,3),(1,4),(2,1),(3,6)] (.tup [.agg (s8A (⟨c.s.set 1 (c.b.getD 0 default).val,ay c.b,c.r,0⟩:Cf).s (.own 0 0 1 0 (⟨c.s.set 1 (c.b.getD 0 default).val,ay c.b,c.r,0⟩:Cf).s.m.length) (.own 1 0 1 0 (⟨c.s.set 1 (c.b.getD 0 default).val,ay c.b,c.r,0⟩:Cf).s.st.length)++[.own 2 0 8 0 (⟨c.s.set 1 (c.b.getD 0 default).val,ay c.b,c.r,0⟩:Cf).b.length,.own 3 0 1 0 (⟨c.s.set 1 (c.b.getD 0 default).val,ay c.b,c.r,0⟩:Cf).r.length, aI (⟨c.s.set 1 (c.b.getD 0 default).val,ay c.b,c.r,0⟩:Cf).e]),.bool true]) [aZ (⟨c.s.set 1 (c.b.getD 0 default).val,ay c.b,c.r,0⟩:Cf).s.m,aZ (⟨c.s.set 1 (c.b.getD 0 default).val,ay c.b,c.r,0⟩:Cf).s.st,enB (⟨c.s.set 1 (c.b.getD 0 default).val,ay c.b,c.r,0⟩:Cf).b,aZ (⟨c.s.set 1 (c.b.getD 0 default).val,ay c.b,c.r,0⟩:Cf).r]):=al (cw p (gv p c (gw c (cj h1 (cj (rf c.b.length) (cj (rr c.b.length 8 fun i j=>an enC c.b i j) (cj h2 (dD c (cj h3 (cw p (gF p c (gG c (cj h4 (dD c (eO (cj h5 (cw p (iH p c (cj (atC p (c.b.getD 0 default).pc) (cj (e0 ((enX p c 0).kind) 1) (cj (e1 ((enX p c 0).kind) 2) (cj (dt ((enX p c 0).d>=0)) (cj (dt ((enX p c 0).d<((4:Nat):Int))) (cj (pv ((enX p c 0).d=((1:Nat):Int))) (cj (bi (1:Nat) (4:Nat)) (cj (rf c.r.length) (cj (rr c.r.length 1 fun i j=>aI (c.r.getD i 0)) (cj h6 (gH c (ul c (jV c trivial)))))))))))))))))))))))))))))))
theorem yU(p:Pg)(c:Cf)(hb:c.b.length<1000000)(hs:c.s.st.length<=1000)(hm:c.s.m.length<=1000000)(h1:gU p c)(h2:gT c)(h3:gS c)(h4:iM p c)(h5:iL c)(h6:iK c)(hk:(enX p c 0).kind=2)(hd:(enX p c 0).d=2):Vc (vF_ 8 [.agg (pgA p),.agg (cfA c)] [.fv,.fv,gZ p c,gY c,gX c,iN p c,eR c,eQ p c,.fv,.fv,.bd false,.bd true,.bd true,.bd true,.iy 2,eP c] [(0,3),(1,4),(2,1),(3,6)] (.tup [.agg (s8A (⟨c.s.set 2 (c.b.getD 0 default).val,ay c.b,c.r,0⟩:Cf).s (.own 0 0 1 0 (⟨c.s.set 2 (c.b.getD 0 default).val,ay c.b,c.r,0⟩:Cf).s.m.length) (.own 1 0 1 0 (⟨c.s.set 2 (c.b.getD 0 default).val,ay c.b,c.r,0⟩:Cf).s.st.length)++[.own 2 0 8 0 (⟨c.s.set 2 (c.b.getD 0 default).val,ay c.b,c.r,0⟩:Cf).b.length,.own 3 0 1 0 (⟨c.s.set 2 (c.b.getD 0 default).val,ay c.b,c.r,0⟩:Cf).r.length, aI (⟨c.s.set 2 (c.b.getD 0 default).val,ay c.b,c.r,0⟩:Cf).e]),.bool true]) [aZ (⟨c.s.set 2 (c.b.getD 0 default).val,ay c.b,c.r,0⟩:Cf).s.m,aZ (⟨c.s.set 2 (c.b.getD 0 default).val,ay c.b,c.r,0⟩:Cf).s.st,enB (⟨c.s.set 2 (c.b.getD 0 default).val,ay c.b,c.r,0⟩:Cf).b,aZ (⟨c.s.set 2 (c.b.getD 0 default).val,ay c.b,c.r,0⟩:Cf).r]):=al (cw p (gv p c (gw c (cj h1 (cj (rf c.b.length) (cj (rr c.b.length 8 fun i j=>an enC c.b i j) (cj h2 (dD c (cj h3 (cw p (gF p c (gG c (cj h4 (dD c (eO (cj h5 (cw p (iH p c (cj (atC p (c.b.getD 0 default).pc) (cj (e0 ((enX p c 0).kind) 1) (cj (e1 ((enX p c 0).kind) 2) (cj (dt ((enX p c 0).d>=0)) (cj (dt ((enX p c 0).d<((4:Nat):Int))) (cj (pv ((enX p c 0).d=((2:Nat):Int))) (cj (bi (2:Nat) (4:Nat)) (cj (rf c.r.length) (cj (rr c.r.length 1 fun i j=>aI (c.r.getD i 0)) (cj h6 (gH c (uk c (jV c trivial)))))))))))))))))))))))))))))))
theorem yT(p:Pg)(c:Cf)(hb:c.b.length<1000000)(hs:c.s.st.length<=1000)(hm:c.s.m.length<=1000000)(h1:gU p c)(h2:gT c)(h3:gS c)(h4:iM p c)(h5:iL c)(h6:iK c)(hk:(enX p c 0).kind=2)(hd:(enX p c 0).d=3):Vc (vF_ 8 [.agg (pgA p),.agg (cfA c)] [.fv,.fv,gZ p c,gY c,gX c,iN p c,eR c,eQ p c,.fv,.fv,.bd false,.bd true,.bd true,.bd true,.iy 3,eP c] [(0,3),(1,4),(2,1),(3,6)] (.tup [.agg (s8A (⟨c.s.set 3 (c.b.getD 0 default).val,ay c.b,c.r,0⟩:Cf).s (.own 0 0 1 0 (⟨c.s.set 3 (c.b.getD 0 default).val,ay c.b,c.r,0⟩:Cf).s.m.length) (.own 1 0 1 0 (⟨c.s.set 3 (c.b.getD 0 default).val,ay c.b,c.r,0⟩:Cf).s.st.length)++[.own 2 0 8 0 (⟨c.s.set 3 (c.b.getD 0 default).val,ay c.b,c.r,0⟩:Cf).b.length,.own 3 0 1 0 (⟨c.s.set 3 (c.b.getD 0 default).val,ay c.b,c.r,0⟩:Cf).r.length, aI (⟨c.s.set 3 (c.b.getD 0 default).val,ay c.b,c.r,0⟩:Cf).e]),.bool true]) [aZ (⟨c.s.set 3 (c.b.getD 0 default).val,ay c.b,c.r,0⟩:Cf).s.m,aZ (⟨c.s.set 3 (c.b.getD 0 default).val,ay c.b,c.r,0⟩:Cf).s.st,enB (⟨c.s.set 3 (c.b.getD 0 default).val,ay c.b,c.r,0⟩:Cf).b,aZ (⟨c.s.set 3 (c.b.getD 0 default).val,ay c.b,c.r,0⟩:Cf).r]):=al (cw p (gv p c (gw c (cj h1 (cj (rf c.b.length) (cj (rr c.b.length 8 fun i j=>an enC c.b i j) (cj h2 (dD c (cj h3 (cw p (gF p c (gG c (cj h4 (dD c (eO (cj h5 (cw p (iH p c (cj (atC p (c.b.getD 0 default).pc) (cj (e0 ((enX p c 0).kind) 1) (cj (e1 ((enX p c 0).kind) 2) (cj (dt ((enX p c 0).d>=0)) (cj (dt ((enX p c 0).d<((4:Nat):Int))) (cj (pv ((enX p c 0).d=((3:Nat):Int))) (cj (bi (3:Nat) (4:Nat)) (cj (rf c.r.length) (cj (rr c.r.length 1 fun i j=>aI (c.r.getD i 0)) (cj h6 (gH c (uj c (jV c trivial)))))))))))))))))))))))))))))))
theorem yS(p:Pg)(c:Cf)(hb:c.b.length<1000000)(hs:c.s.st.length<=1000)(hm:c.s.m.length<=1000000)(h1:gU p c)(h2:gT c)(h3:gS c)(h4:iM p c)(h5:iL c)(h6:iK c)(hk:(enX p c 0).kind=4)(hd:(enX p c 0).d=0):Vc (vF_ 8 [.agg (pgA p),.agg (cfA c)] [.fv,.fv,gZ p c,gY c,gX c,iN p c,eR c,eQ p c,.fv,.fv,.bd false,.bd false,.bd true,.bd true,.bd true,.iy 0,eP c] [(0,3),(1,4),(2,1),(3,6)] (.tup [.agg (s8A (⟨c.s.set 0 (c.b.getD 0 default).val,ay c.b,c.r,0⟩:Cf).s (.own 0 0 1 0 (⟨c.s.set 0 (c.b.getD 0 default).val,ay c.b,c.r,0⟩:Cf).s.m.length) (.own 1 0 1 0 (⟨c.s.set 0 (c.b.getD 0 default).val,ay c.b,c.r,0⟩:Cf).s.st.length)++[.own 2 0 8 0 (⟨c.s.set 0 (c.b.getD 0 default).val,ay c.b,c.r,0⟩:Cf).b.length,.own 3 0 1 0 (⟨c.s.set 0 (c.b.getD 0 default).val,ay c.b,c.r,0⟩:Cf).r.length, aI (⟨c.s.set 0 (c.b.getD 0 default).val,ay c.b,c.r,0⟩:Cf).e]),.bool true]) [aZ (⟨c.s.set 0 (c.b.getD 0 default).val,ay c.b,c.r,0⟩:Cf).s.m,aZ (⟨c.s.set 0 (c.b.getD 0 default).val,ay c.b,c.r,0⟩:Cf).s.st,enB (⟨c.s.set 0 (c.b.getD 0 default).val,ay c.b,c.r,0⟩:Cf).b,aZ (⟨c.s.set 0 (c.b.getD 0 default).val,ay c.b,c.r,0⟩:Cf).r]):=al (cw p (gv p c (gw c (cj h1 (cj (rf c.b.length) (cj (rr c.b.length 8 fun i j=>an enC c.b i j) (cj h2 (dD c (cj h3 (cw p (gF p c (gG c (cj h4 (dD c (eO (cj h5 (cw p (iH p c (cj (atC p (c.b.getD 0 default).pc) (cj (e0 ((enX p c 0).kind) 1) (cj (e0 ((enX p c 0).kind) 2) (cj (e1 ((enX p c 0).kind) 4) (cj (dt ((enX p c 0).d>=0)) (cj (dt ((enX p c 0).d<((4:Nat):Int))) (cj (pv ((enX p c 0).d=((0:Nat):Int))) (cj (bi (0:Nat) (4:Nat)) (cj (rf c.r.length) (cj (rr c.r.length 1 fun i j=>aI (c.r.getD i 0)) (cj h6 (Ar c (w3 c (jV c trivial))))))))))))))))))))))))))))))))
theorem yR(p:Pg)(c:Cf)(hb:c.b.length<1000000)(hs:c.s.st.length<=1000)(hm:c.s.m.length<=1000000)(h1:gU p c)(h2:gT c)(h3:gS c)(h4:iM p c)(h5:iL c)(h6:iK c)(hk:(enX p c 0).kind=4)(hd:(enX p c 0).d=1):Vc (vF_ 8 [.agg (pgA p),.agg (cfA c)] [.fv,.fv,gZ p c,gY c,gX c,iN p c,eR c,eQ p c,.fv,.fv,.bd false,.bd false,.bd true,.bd true,.bd true,.iy 1,eP c] [(0,3),(1,4),(2,1),(3,6)] (.tup [.agg (s8A (⟨c.s.set 1 (c.b.getD 0 default).val,ay c.b,c.r,0⟩:Cf).s (.own 0 0 1 0 (⟨c.s.set 1 (c.b.getD 0 default).val,ay c.b,c.r,0⟩:Cf).s.m.length) (.own 1 0 1 0 (⟨c.s.set 1 (c.b.getD 0 default).val,ay c.b,c.r,0⟩:Cf).s.st.length)++[.own 2 0 8 0 (⟨c.s.set 1 (c.b.getD 0 default).val,ay c.b,c.r,0⟩:Cf).b.length,.own 3 0 1 0 (⟨c.s.set 1 (c.b.getD 0 default).val,ay c.b,c.r,0⟩:Cf).r.length, aI (⟨c.s.set 1 (c.b.getD 0 default).val,ay c.b,c.r,0⟩:Cf).e]),.bool true]) [aZ (⟨c.s.set 1 (c.b.getD 0 default).val,ay c.b,c.r,0⟩:Cf).s.m,aZ (⟨c.s.set 1 (c.b.getD 0 default).val,ay c.b,c.r,0⟩:Cf).s.st,enB (⟨c.s.set 1 (c.b.getD 0 default).val,ay c.b,c.r,0⟩:Cf).b,aZ (⟨c.s.set 1 (c.b.getD 0 default).val,ay c.b,c.r,0⟩:Cf).r]):=al (cw p (gv p c (gw c (cj h1 (cj (rf c.b.length) (cj (rr c.b.length 8 fun i j=>an enC c.b i j) (cj h2 (dD c (cj h3 (cw p (gF p c (gG c (cj h4 (dD c (eO (cj h5 (cw p (iH p c (cj (atC p (c.b.getD 0 default).pc) (cj (e0 ((enX p c 0).kind) 1) (cj (e0 ((enX p c 0).kind) 2) (cj (e1 ((enX p c 0).kind) 4) (cj (dt ((enX p c 0).d>=0)) (cj (dt ((enX p c 0).d<((4:Nat):Int))) (cj (pv ((enX p c 0).d=((1:Nat):Int))) (cj (bi (1:Nat) (4:Nat)) (cj (rf c.r.length) (cj (rr c.r.length 1 fun i j=>aI (c.r.getD i 0)) (cj h6 (gH c (ul c (jV c trivial))))))))))))))))))))))))))))))))
theorem yQ(p:Pg)(c:Cf)(hb:c.b.length<1000000)(hs:c.s.st.length<=1000)(hm:c.s.m.length<=1000000)(h1:gU p c)(h2:gT c)(h3:gS c)(h4:iM p c)(h5:iL c)(h6:iK c)(hk:(enX p c 0).kind=4)(hd:(enX p c 0).d=2):Vc (vF_ 8 [.agg (pgA p),.agg (cfA c)] [.fv,.fv,gZ p c,gY c,gX c,iN p c,eR c,eQ p c,.fv,.fv,.bd false,.bd false,.bd true,.bd true,.bd true,.iy 2,eP c] [(0,3),(1,4),(2,1),(3,6)] (.tup [.agg (s8A (⟨c.s.set 2 (c.b.getD 0 default).val,ay c.b,c.r,0⟩:Cf).s (.own 0 0 1 0 (⟨c.s.set 2 (c.b.getD 0 default).val,ay c.b,c.r,0⟩:Cf).s.m.length) (.own 1 0 1 0 (⟨c.s.set 2 (c.b.getD 0 default).val,ay c.b,c.r,0⟩:Cf).s.st.length)++[.own 2 0 8 0 (⟨c.s.set 2 (c.b.getD 0 default).val,ay c.b,c.r,0⟩:Cf).b.length,.own 3 0 1 0 (⟨c.s.set 2 (c.b.getD 0 default).val,ay c.b,c.r,0⟩:Cf).r.length, aI (⟨c.s.set 2 (c.b.getD 0 default).val,ay c.b,c.r,0⟩:Cf).e]),.bool true]) [aZ (⟨c.s.set 2 (c.b.getD 0 default).val,ay c.b,c.r,0⟩:Cf).s.m,aZ (⟨c.s.set 2 (c.b.getD 0 default).val,ay c.b,c.r,0⟩:Cf).s.st,enB (⟨c.s.set 2 (c.b.getD 0 default).val,ay c.b,c.r,0⟩:Cf).b,aZ (⟨c.s.set 2 (c.b.getD 0 default).val,ay c.b,c.r,0⟩:Cf).r]):=al (cw p (gv p c (gw c (cj h1 (cj (rf c.b.length) (cj (rr c.b.length 8 fun i j=>an enC c.b i j) (cj h2 (dD c (cj h3 (cw p (gF p c (gG c (cj h4 (dD c (eO (cj h5 (cw p (iH p c (cj (atC p (c.b.getD 0 default).pc) (cj (e0 ((enX p c 0).kind) 1) (cj (e0 ((enX p c 0).kind) 2) (cj (e1 ((enX p c 0).kind) 4) (cj (dt ((enX p c 0).d>=0)) (cj (dt ((enX p c 0).d<((4:Nat):Int))) (cj (pv ((enX p c 0).d=((2:Nat):Int))) (cj (bi (2:Nat) (4:Nat)) (cj (rf c.r.length) (cj (rr c.r.length 1 fun i j=>aI (c.r.getD i 0)) (cj h6 (gH c (uk c (jV c trivial))))))))))))))))))))))))))))))))
theorem yP(p:Pg)(c:Cf)(hb:c.b.length<1000000)(hs:c.s.st.length<=1000)(hm:c.s.m.length<=1000000)(h1:gU p c)(h2:gT c)(h3:gS c)(h4:iM p c)(h5:iL c)(h6:iK c)(hk:(enX p c 0).kind=4)(hd:(enX p c 0).d=3):Vc (vF_ 8 [.agg (pgA p),.agg (cfA c)] [.fv,.fv,gZ p c,gY c,gX c,iN p c,eR c,eQ p c,.fv,.fv,.bd false,.bd false,.bd true,.bd true,.bd true,.iy 3,eP c] [(0,3),(1,4),(2,1),(3,6)] (.tup [.agg (s8A (⟨c.s.set 3 (c.b.getD 0 default).val,ay c.b,c.r,0⟩:Cf).s (.own 0 0 1 0 (⟨c.s.set 3 (c.b.getD 0 default).val,ay c.b,c.r,0⟩:Cf).s.m.length) (.own 1 0 1 0 (⟨c.s.set 3 (c.b.getD 0 default).val,ay c.b,c.r,0⟩:Cf).s.st.length)++[.own 2 0 8 0 (⟨c.s.set 3 (c.b.getD 0 default).val,ay c.b,c.r,0⟩:Cf).b.length,.own 3 0 1 0 (⟨c.s.set 3 (c.b.getD 0 default).val,ay c.b,c.r,0⟩:Cf).r.length, aI (⟨c.s.set 3 (c.b.getD 0 default).val,ay c.b,c.r,0⟩:Cf).e]),.bool true]) [aZ (⟨c.s.set 3 (c.b.getD 0 default).val,ay c.b,c.r,0⟩:Cf).s.m,aZ (⟨c.s.set 3 (c.b.getD 0 default).val,ay c.b,c.r,0⟩:Cf).s.st,enB (⟨c.s.set 3 (c.b.getD 0 default).val,ay c.b,c.r,0⟩:Cf).b,aZ (⟨c.s.set 3 (c.b.getD 0 default).val,ay c.b,c.r,0⟩:Cf).r]):=al (cw p (gv p c (gw c (cj h1 (cj (rf c.b.length) (cj (rr c.b.length 8 fun i j=>an enC c.b i j) (cj h2 (dD c (cj h3 (cw p (gF p c (gG c (cj h4 (dD c (eO (cj h5 (cw p (iH p c (cj (atC p (c.b.getD 0 default).pc) (cj (e0 ((enX p c 0).kind) 1) (cj (e0 ((enX p c 0).kind) 2) (cj (e1 ((enX p c 0).kind) 4) (cj (dt ((enX p c 0).d>=0)) (cj (dt ((enX p c 0).d<((4:Nat):Int))) (cj (pv ((enX p c 0).d=((3:Nat):Int))) (cj (bi (3:Nat) (4:Nat)) (cj (rf c.r.length) (cj (rr c.r.length 1 fun i j=>aI (c.r.getD i 0)) (cj h6 (gH c (uj c (jV c trivial))))))))))))))))))))))))))))))))
theorem GM(p:Pg)(c:Cf)(hb:c.b.length<1000000)(hs:c.s.st.length<=1000)(hm:c.s.m.length<=1000000)(h1:gU p c)(h2:gT c)(h3:gS c)(h4:iM p c)(h5:iL c)(h6:iK c)(hk:(enX p c 0).kind=3)(ha:0<=(c.b.getD 0 default).adr)(ha1:(c.b.getD 0 default).adr<c.s.m.length):Vc (vF_ 8 [.agg (pgA p),.agg (cfA c)] [.fv,.fv,gZ p c,gY c,gX c,iN p c,eR c,eQ p c,.fv,.fv,.bd false,.bd false,.bd false,.bd true,.bd true,.bd true,eP c] [(0,3),(1,4),(2,1),(3,6)] (.tup [.agg (s8A (⟨{c.s with m:=c.s.m.set (c.b.getD 0 default).adr.toNat (c.b.getD 0 default).val},ay c.b,c.r,0⟩:Cf).s (.own 0 0 1 0 (⟨{c.s with m:=c.s.m.set (c.b.getD 0 default).adr.toNat (c.b.getD 0 default).val},ay c.b,c.r,0⟩:Cf).s.m.length) (.own 1 0 1 0 (⟨{c.s with m:=c.s.m.set (c.b.getD 0 default).adr.toNat (c.b.getD 0 default).val},ay c.b,c.r,0⟩:Cf).s.st.length)++[.own 2 0 8 0 (⟨{c.s with m:=c.s.m.set (c.b.getD 0 default).adr.toNat (c.b.getD 0 default).val},ay c.b,c.r,0⟩:Cf).b.length,.own 3 0 1 0 (⟨{c.s with m:=c.s.m.set (c.b.getD 0 default).adr.toNat (c.b.getD 0 default).val},ay c.b,c.r,0⟩:Cf).r.length, aI (⟨{c.s with m:=c.s.m.set (c.b.getD 0 default).adr.toNat (c.b.getD 0 default).val},ay c.b,c.r,0⟩:Cf).e]),.bool true]) [aZ (⟨{c.s with m:=c.s.m.set (c.b.getD 0 default).adr.toNat (c.b.getD 0 default).val},ay c.b,c.r,0⟩:Cf).s.m,aZ (⟨{c.s with m:=c.s.m.set (c.b.getD 0 default).adr.toNat (c.b.getD 0 default).val},ay c.b,c.r,0⟩:Cf).s.st,enB (⟨{c.s with m:=c.s.m.set (c.b.getD 0 default).adr.toNat (c.b.getD 0 default).val},ay c.b,c.r,0⟩:Cf).b,aZ (⟨{c.s with m:=c.s.m.set (c.b.getD 0 default).adr.toNat (c.b.getD 0 default).val},ay c.b,c.r,0⟩:Cf).r]):=al (cw p (gv p c (gw c (cj h1 (cj (rf c.b.length) (cj (rr c.b.length 8 fun i j=>an enC c.b i j) (cj h2 (dD c (cj h3 (cw p (gF p c (gG c (cj h4 (dD c (eO (cj h5 (cw p (iH p c (cj (atC p (c.b.getD 0 default).pc) (cj (e0 ((enX p c 0).kind) 1) (cj (e0 ((enX p c 0).kind) 2) (cj (e0 ((enX p c 0).kind) 4) (cj (e1 ((enX p c 0).kind) 3) (cj (dt ((c.b.getD 0 default).adr>=0)) (cj (dt ((c.b.getD 0 default).adr<(↑(c.s.m.length):Int))) (cj (bi ((c.b.getD 0 default).adr) (↑(c.s.m.length):Int)) (cj (pv (Int.toNat (c.b.getD 0 default).adr+0<c.s.m.length)) (cj (rf c.r.length) (cj (rr c.r.length 1 fun i j=>aI (c.r.getD i 0)) (cj h6 (cj (pv (c.s.m.length=(List.set c.s.m (Int.toNat (c.b.getD 0 default).adr) (c.b.getD 0 default).val).length)) (cj (show ∀(i:Nat),i<c.s.m.length-> ∀(j:Nat),j<1->(bif Nat.ble (0:Nat) j&&Nat.blt j (1:Nat)&&Nat.beq i (Int.toNat (c.b.getD 0 default).adr+0) then List.getD [aI (c.b.getD 0 default).val] (j-0) AV.junk else aI (List.getD c.s.m i 0))=aI (List.getD (List.set c.s.m (Int.toNat (c.b.getD 0 default).adr) (c.b.getD 0 default).val) i 0) from fV) (cj (rf c.s.st.length) (cj (rr c.s.st.length 1 fun i j=>aI (List.getD c.s.st i 0)) (cj (rf ((ay c.b).length)) (cj (rr ((ay c.b).length) 8 fun i j=>an enC (ay c.b) i j) (cj (rf c.r.length) (cj (rr c.r.length 1 fun i j=>aI (c.r.getD i 0)) (cj (rf c.s.r0) (cj (rf c.s.r1) (cj (rf c.s.r2) (cj (rf c.s.r3) (cj (rf (0:Nat)) (cj (pv (c.s.m.length=(List.set c.s.m (Int.toNat (c.b.getD 0 default).adr) (c.b.getD 0 default).val).length)) (cj (rf (0:Nat)) (cj (rf c.s.st.length) (cj (rf c.s.pc) (cj (rf (0:Nat)) (cj (rf ((ay c.b).length)) (cj (rf (0:Nat)) (cj (rf c.r.length) (cj (rf (0:Int)) (cj (rf true) trivial)))))))))))))))))))))))))))))))))))))))))))))))))))))
theorem ui(c:Cf){Z:Prop}(z:Z):(RF c.s.pc (RF (0:Nat) (RF ((ay c.b).length) (RF (0:Nat) (RF c.r.length (RF (0:Int) (RF true Z))))))):=⟨rfl,rfl,rfl,rfl,rfl,rfl,rfl,z⟩
theorem zx(c:Cf){Z:Prop}(z:Z):(RF ((ay c.b).length) (RR ((ay c.b).length) 8 (fun i j=>an enC (ay c.b) i j) (RF c.r.length (RR c.r.length 1 (fun i j=>aI (c.r.getD i 0)) (RF c.s.r0 (RF c.s.r1 (RF c.s.r2 (RF c.s.r3 (RF (0:Nat) Z))))))))):=⟨rfl,fun _ _ _ _=>rfl,rfl,fun _ _ _ _=>rfl,rfl,rfl,rfl,rfl,rfl,z⟩
theorem GL(p:Pg)(c:Cf)(hb:c.b.length<1000000)(hs:c.s.st.length<=1000)(hm:c.s.m.length<=1000000)(h1:gU p c)(h2:gT c)(h3:gS c)(h4:iM p c)(h5:iL c)(h6:iK c)(hk:(enX p c 0).kind=8)(hp:0<=(c.b.getD 0 default).pc)(hp1:(c.b.getD 0 default).pc<=1000000):Vc (vF_ 8 [.agg (pgA p),.agg (cfA c)] [.fv,.fv,gZ p c,gY c,gX c,iN p c,eR c,eQ p c,.fv,.fv,.bd false,.bd false,.bd false,.bd false,.bd true,eP c] [(0,3),(1,4),(2,1),(3,7)] (.tup [.agg (s8A (⟨{c.s with st:=c.s.st++[(c.b.getD 0 default).pc+1]},ay c.b,c.r,0⟩:Cf).s (.own 0 0 1 0 (⟨{c.s with st:=c.s.st++[(c.b.getD 0 default).pc+1]},ay c.b,c.r,0⟩:Cf).s.m.length) (.own 1 0 1 0 (⟨{c.s with st:=c.s.st++[(c.b.getD 0 default).pc+1]},ay c.b,c.r,0⟩:Cf).s.st.length)++[.own 2 0 8 0 (⟨{c.s with st:=c.s.st++[(c.b.getD 0 default).pc+1]},ay c.b,c.r,0⟩:Cf).b.length,.own 3 0 1 0 (⟨{c.s with st:=c.s.st++[(c.b.getD 0 default).pc+1]},ay c.b,c.r,0⟩:Cf).r.length, aI (⟨{c.s with st:=c.s.st++[(c.b.getD 0 default).pc+1]},ay c.b,c.r,0⟩:Cf).e]),.bool true]) [aZ (⟨{c.s with st:=c.s.st++[(c.b.getD 0 default).pc+1]},ay c.b,c.r,0⟩:Cf).s.m,aZ (⟨{c.s with st:=c.s.st++[(c.b.getD 0 default).pc+1]},ay c.b,c.r,0⟩:Cf).s.st,enB (⟨{c.s with st:=c.s.st++[(c.b.getD 0 default).pc+1]},ay c.b,c.r,0⟩:Cf).b,aZ (⟨{c.s with st:=c.s.st++[(c.b.getD 0 default).pc+1]},ay c.b,c.r,0⟩:Cf).r]):=al (cw p (gv p c (gw c (cj h1 (cj (rf c.b.length) (cj (rr c.b.length 8 fun i j=>an enC c.b i j) (cj h2 (dD c (cj h3 (cw p (gF p c (gG c (cj h4 (dD c (eO (cj h5 (cw p (iH p c (cj (atC p (c.b.getD 0 default).pc) (cj (e0 ((enX p c 0).kind) 1) (cj (e0 ((enX p c 0).kind) 2) (cj (e0 ((enX p c 0).kind) 4) (cj (e0 ((enX p c 0).kind) 3) (cj (e1 ((enX p c 0).kind) 8) (cj (i6 ((c.b.getD 0 default).pc+1)) (cj (ap c.s.st.length 1 8) (cj (rf c.r.length) (cj (rr c.r.length 1 fun i j=>aI (c.r.getD i 0)) (cj h6 (cj (rf c.s.m.length) (cj (rr c.s.m.length 1 fun i j=>aI (List.getD c.s.m i 0)) (cj (pv (c.s.st.length+1=(c.s.st++[(c.b.getD 0 default).pc+1]).length)) (cj (show ∀(i:Nat),i<c.s.st.length+1-> ∀(j:Nat),j<1->(bif Nat.blt i c.s.st.length then aI (List.getD c.s.st i 0) else List.getD [aI ((c.b.getD 0 default).pc+1)] ((i-c.s.st.length+0)*1+j) AV.junk)=aI (List.getD (c.s.st++[(c.b.getD 0 default).pc+1]) i (0:Int)) from s5) (zx c (cj (rf c.s.m.length) (cj (rf (0:Nat)) (cj (pv (c.s.st.length+1=(c.s.st++[(c.b.getD 0 default).pc+1]).length)) (ui c trivial))))))))))))))))))))))))))))))))))))))
theorem GK(p:Pg)(c:Cf)(hb:c.b.length<1000000)(hs:c.s.st.length<=1000)(hm:c.s.m.length<=1000000)(h1:gU p c)(h2:gT c)(h3:gS c)(h4:iM p c)(h5:iL c)(h6:iK c)(hk:(enX p c 0).kind=9)(hz:c.s.st.length≠0):Vc (vF_ 8 [.agg (pgA p),.agg (cfA c)] [.fv,.fv,gZ p c,gY c,gX c,iN p c,eR c,eQ p c,.fv,.fv,.bd false,.bd false,.bd false,.bd false,.bd false,.bd true,eP c] [(0,3),(1,4),(2,1),(3,6)] (.tup [.agg (s8A c.s (.own 0 0 1 0 c.s.m.length) (.own 1 0 1 0 (c.s.st.length-1))++[.own 2 0 8 0 (ay c.b).length,.own 3 0 1 0 c.r.length, aI 0]),.bool true]) [aZ c.s.m,aZ c.s.st,enB (ay c.b),aZ c.r]):=al (cw p (gv p c (gw c (cj h1 (cj (rf c.b.length) (cj (rr c.b.length 8 fun i j=>an enC c.b i j) (cj h2 (dD c (cj h3 (cw p (gF p c (gG c (cj h4 (dD c (eO (cj h5 (cw p (iH p c (cj (atC p (c.b.getD 0 default).pc) (cj (e0 ((enX p c 0).kind) 1) (cj (e0 ((enX p c 0).kind) 2) (cj (e0 ((enX p c 0).kind) 4) (cj (e0 ((enX p c 0).kind) 3) (cj (e0 ((enX p c 0).kind) 8) (cj (e1 ((enX p c 0).kind) 9) (cj (i6 ((↑(c.s.st.length):Int)-1)) (cj (pv (((0:Int)<=if(↑(c.s.st.length):Int)-1<0 then(0:Int) else(↑(c.s.st.length):Int)-1)∧(if(↑(c.s.st.length):Int)-1<0 then(0:Int) else(↑(c.s.st.length):Int)-1)<=(↑(c.s.st.length):Int))) (cj (rf c.r.length) (cj (rr c.r.length 1 fun i j=>aI (c.r.getD i 0)) (cj h6 (gH c (cj (rf c.s.r1) (cj (rf c.s.r2) (cj (rf c.s.r3) (cj (rf (0:Nat)) (cj (rf c.s.m.length) (cj (rf (0:Nat)) (cj (pv (Int.toNat (if(↑(c.s.st.length):Int)-1<0 then(0:Int) else(↑(c.s.st.length):Int)-1)=c.s.st.length-1)) (ui c trivial)))))))))))))))))))))))))))))))))))))))
theorem Em(c:Cf):c.s.st.length-1=(List.take (c.s.st.length-1) c.s.st).length:=by rw[aS];omega
theorem CP(c:Cf):Vc (qv 1 (c.s.st.length-1) [.agg (s8A c.s (.own 0 0 1 0 c.s.m.length) (.own 1 0 1 0 (c.s.st.length-1))++[.own 2 0 8 0 (ay c.b).length,.own 3 0 1 0 c.r.length, aI 0]),.bool true] [aZ c.s.m,aZ c.s.st,enB (ay c.b),aZ c.r] [(0,0),(1,1),(2,2),(3,3)] [.agg (s8A c.s (.own 0 0 1 0 c.s.m.length) (.own 1 0 1 0 (c.s.st.take (c.s.st.length-1)).length)++[.own 2 0 8 0 (ay c.b).length,.own 3 0 1 0 c.r.length, aI 0]),.bool true] [aZ c.s.m,aZ (c.s.st.take (c.s.st.length-1)),enB (ay c.b),aZ c.r]):=al (cj (rf (2:Nat)) (cj (pv (c.s.st.length-1<=c.s.st.length)) (cj (pv ((0:Nat)+(c.s.st.length-1)<=c.s.st.length-1)) (cj (rf c.s.m.length) (cj (rr c.s.m.length 1 fun i j=>aI (List.getD c.s.m i 0)) (cj (Em c) (cj (show ∀(i:Nat),i<c.s.st.length-1-> ∀(j:Nat),j<1->aI (List.getD c.s.st i 0)=aI (List.getD (List.take (c.s.st.length-1) c.s.st) i 0) from s3) (zx c (cj (rf c.s.m.length) (cj (rf (0:Nat)) (cj (Em c) (ui c trivial))))))))))))
theorem GJ(p:Pg)(c:Cf)(hb:c.b.length<1000000)(hs:c.s.st.length<=1000)(hm:c.s.m.length<=1000000)(h1:gU p c)(h2:gT c)(h3:gS c)(h4:iM p c)(h5:iL c)(h6:iK c)(k1: ¬(enX p c 0).kind=1)(k2: ¬(enX p c 0).kind=2)(k4: ¬(enX p c 0).kind=4)(k3: ¬(enX p c 0).kind=3)(k8: ¬(enX p c 0).kind=8)(k9: ¬(enX p c 0).kind=9):Vc (vF_ 8 [.agg (pgA p),.agg (cfA c)] [.fv,.fv,gZ p c,gY c,gX c,iN p c,eR c,eQ p c,.fv,.fv,.bd false,.bd false,.bd false,.bd false,.bd false,.bd false,eP c] [(0,3),(1,4),(2,1),(3,6)] (.tup [.agg (s8A (⟨c.s,ay c.b,c.r,0⟩:Cf).s (.own 0 0 1 0 (⟨c.s,ay c.b,c.r,0⟩:Cf).s.m.length) (.own 1 0 1 0 (⟨c.s,ay c.b,c.r,0⟩:Cf).s.st.length)++[.own 2 0 8 0 (⟨c.s,ay c.b,c.r,0⟩:Cf).b.length,.own 3 0 1 0 (⟨c.s,ay c.b,c.r,0⟩:Cf).r.length, aI (⟨c.s,ay c.b,c.r,0⟩:Cf).e]),.bool true]) [aZ (⟨c.s,ay c.b,c.r,0⟩:Cf).s.m,aZ (⟨c.s,ay c.b,c.r,0⟩:Cf).s.st,enB (⟨c.s,ay c.b,c.r,0⟩:Cf).b,aZ (⟨c.s,ay c.b,c.r,0⟩:Cf).r]):=al (cw p (gv p c (gw c (cj h1 (cj (rf c.b.length) (cj (rr c.b.length 8 fun i j=>an enC c.b i j) (cj h2 (dD c (cj h3 (cw p (gF p c (gG c (cj h4 (dD c (eO (cj h5 (cw p (iH p c (cj (atC p (c.b.getD 0 default).pc) (cj (e0 ((enX p c 0).kind) 1) (cj (e0 ((enX p c 0).kind) 2) (cj (e0 ((enX p c 0).kind) 4) (cj (e0 ((enX p c 0).kind) 3) (cj (e0 ((enX p c 0).kind) 8) (cj (e0 ((enX p c 0).kind) 9) (cj (rf c.r.length) (cj (rr c.r.length 1 fun i j=>aI (c.r.getD i 0)) (cj h6 (gH c (w3 c (jV c trivial)))))))))))))))))))))))))))))))
structure RdOk (p:Pg) (c:Cf):Prop where
 P:OkP p
 rt:RtOk p c
 frm: ∀e∈c.b, -1000000<=e.frm∧e.frm<=1000000
 bl:c.b.length<=400
 ml:c.s.m.length<=1000
 sl:c.s.st.length<=300
 rl:c.r.length<=1000
abbrev tW:Prop:= ∀(p:Pg) (c:Cf),RdOk p c->PureC Try.prog 8 [.agg (pgA p),.agg (cfA c)] (.tup [.agg (s8A (rtT (rtO p c)).1.s (.own 0 0 1 0 (rtT (rtO p c)).1.s.m.length) (.own 1 0 1 0 (rtT (rtO p c)).1.s.st.length)++[.own 2 0 8 0 (rtT (rtO p c)).1.b.length,.own 3 0 1 0 (rtT (rtO p c)).1.r.length,.int .i64 (rtT (rtO p c)).1.e]),.bool (rtT (rtO p c)).2]) [aZ (rtT (rtO p c)).1.s.m,aZ (rtT (rtO p c)).1.s.st,enB (rtT (rtO p c)).1.b,aZ (rtT (rtO p c)).1.r]
theorem yd:tW:=fun p c h=>by
 have hb:c.b.length<1000000:=by have:=h.bl;omega
 have hs:c.s.st.length<=1000:=by have:=h.sl;omega
 have hm:c.s.m.length<=1000000:=by have:=h.ml;omega
 have hC:=FL p c hb
 have ho:=h.rt
 unfold rtO
 cases hc:crV p c with
 |false=>rw[hc] at hC;exact PureC.vc (GI p c hC)
 |true=>
 have h1:=hC
 rw[hc] at h1
 rw[ai rfl]
 obtain⟨he,hl,hdn,hkn⟩:=gh hc
 have h2:=FE c.b hl hb (fun x hx=>(h.frm x hx).2)
 have h3:=FM c.s hm (by omega)
 have h6:=q9 (.row c.r) (by have:=h.rl;omega)
 have h4:pC_ 26 [.agg (pgA p),.agg (enA (c.b.getD 0 default))] (.int .i64 (if(c.b.getD 0 default).ft=true∨(enX p c 0).kind=12 then 2 else if(enX p c 0).kind=11 then 1 else 0)) []:=FH p (c.b.getD 0 default) h.P
 show pC_ 8 [.agg (pgA p),.agg (cfA c)] (.tup [.agg (s8A (rtV p c).s (.own 0 0 1 0 (rtV p c).s.m.length) (.own 1 0 1 0 (rtV p c).s.st.length)++[.own 2 0 8 0 (rtV p c).b.length,.own 3 0 1 0 (rtV p c).r.length,.int .i64 (rtV p c).e]),.bool true]) [aZ (rtV p c).s.m,aZ (rtV p c).s.st,enB (rtV p c).b,aZ (rtV p c).r]
 have fin: ∀en:Int, ¬en=0->pC_ 27 [.agg (cfA (⟨c.s,[],[],en⟩:Cf))] (.bool true) []:=fun en hz=>PureC.vc (pV _ (bG.2 hz))
 cases hf:(c.b.getD 0 default).ft with
 |true=>
  rw[ai (.inl hf)] at h4
  rw[show rtV p c=⟨c.s.go (c.b.getD 0 default).pc,[],[],2⟩ from by unfold rtV;rw[ai (.inl hf)]]
  exact PureC.vc (wz p c 2 hb hs hm h1 h2 h3 h4 (fin 2 (by decide)))
 |false=>
 by_cases k12:(enX p c 0).kind=12
 ·rw[ai (.inr k12)] at h4
  rw[show rtV p c=⟨c.s.go (c.b.getD 0 default).pc,[],[],2⟩ from by unfold rtV;rw[ai (.inr k12)]]
  exact PureC.vc (wz p c 2 hb hs hm h1 h2 h3 h4 (fin 2 (by decide)))
 have n12: ¬((c.b.getD 0 default).ft=true∨(enX p c 0).kind=12):=by rintro(h |h);rw[hf] at h;cases h;exact k12 h
 rw[ah n12] at h4
 by_cases k11:(enX p c 0).kind=11
 ·rw[ai k11] at h4
  rw[show rtV p c=⟨c.s.go (c.b.getD 0 default).pc,[],[],1⟩ from by unfold rtV;rw[ah n12,ai k11]]
  exact PureC.vc (wz p c 1 hb hs hm h1 h2 h3 h4 (fin 1 (by decide)))
 rw[ah k11] at h4
 have h5:pC_ 27 [.agg (cfA (⟨c.s,[],[],0⟩:Cf))] (.bool false) []:=PureC.vc (nQ _ rfl)
 by_cases k1:(enX p c 0).kind=1
 ·obtain⟨hd0,hd1⟩:=ho.d (fg k1)
  rcases qS hd0 hd1 with hd |hd |hd |hd
  ·rw[show rtV p c=⟨c.s.set 0 (c.b.getD 0 default).val,ay c.b,c.r,0⟩ from by unfold rtV;rw[ah n12,ah k11,ai (fg k1),hd,he]];exact PureC.vc (y0 p c hb hs hm h1 h2 h3 h4 h5 h6 k1 hd)
  ·rw[show rtV p c=⟨c.s.set 1 (c.b.getD 0 default).val,ay c.b,c.r,0⟩ from by unfold rtV;rw[ah n12,ah k11,ai (fg k1),hd,he]];exact PureC.vc (yZ p c hb hs hm h1 h2 h3 h4 h5 h6 k1 hd)
  ·rw[show rtV p c=⟨c.s.set 2 (c.b.getD 0 default).val,ay c.b,c.r,0⟩ from by unfold rtV;rw[ah n12,ah k11,ai (fg k1),hd,he]];exact PureC.vc (yY p c hb hs hm h1 h2 h3 h4 h5 h6 k1 hd)
  ·rw[show rtV p c=⟨c.s.set 3 (c.b.getD 0 default).val,ay c.b,c.r,0⟩ from by unfold rtV;rw[ah n12,ah k11,ai (fg k1),hd,he]];exact PureC.vc (yX p c hb hs hm h1 h2 h3 h4 h5 h6 k1 hd)
 by_cases k2:(enX p c 0).kind=2
 ·obtain⟨hd0,hd1⟩:=ho.d (fe k2)
  rcases qS hd0 hd1 with hd |hd |hd |hd
  ·rw[show rtV p c=⟨c.s.set 0 (c.b.getD 0 default).val,ay c.b,c.r,0⟩ from by unfold rtV;rw[ah n12,ah k11,ai (fe k2),hd,he]];exact PureC.vc (yW p c hb hs hm h1 h2 h3 h4 h5 h6 k2 hd)
  ·rw[show rtV p c=⟨c.s.set 1 (c.b.getD 0 default).val,ay c.b,c.r,0⟩ from by unfold rtV;rw[ah n12,ah k11,ai (fe k2),hd,he]];exact PureC.vc (yV p c hb hs hm h1 h2 h3 h4 h5 h6 k2 hd)
  ·rw[show rtV p c=⟨c.s.set 2 (c.b.getD 0 default).val,ay c.b,c.r,0⟩ from by unfold rtV;rw[ah n12,ah k11,ai (fe k2),hd,he]];exact PureC.vc (yU p c hb hs hm h1 h2 h3 h4 h5 h6 k2 hd)
  ·rw[show rtV p c=⟨c.s.set 3 (c.b.getD 0 default).val,ay c.b,c.r,0⟩ from by unfold rtV;rw[ah n12,ah k11,ai (fe k2),hd,he]];exact PureC.vc (yT p c hb hs hm h1 h2 h3 h4 h5 h6 k2 hd)
 by_cases k4:(enX p c 0).kind=4
 ·obtain⟨hd0,hd1⟩:=ho.d (fd k4)
  rcases qS hd0 hd1 with hd |hd |hd |hd
  ·rw[show rtV p c=⟨c.s.set 0 (c.b.getD 0 default).val,ay c.b,c.r,0⟩ from by unfold rtV;rw[ah n12,ah k11,ai (fd k4),hd,he]];exact PureC.vc (yS p c hb hs hm h1 h2 h3 h4 h5 h6 k4 hd)
  ·rw[show rtV p c=⟨c.s.set 1 (c.b.getD 0 default).val,ay c.b,c.r,0⟩ from by unfold rtV;rw[ah n12,ah k11,ai (fd k4),hd,he]];exact PureC.vc (yR p c hb hs hm h1 h2 h3 h4 h5 h6 k4 hd)
  ·rw[show rtV p c=⟨c.s.set 2 (c.b.getD 0 default).val,ay c.b,c.r,0⟩ from by unfold rtV;rw[ah n12,ah k11,ai (fd k4),hd,he]];exact PureC.vc (yQ p c hb hs hm h1 h2 h3 h4 h5 h6 k4 hd)
  ·rw[show rtV p c=⟨c.s.set 3 (c.b.getD 0 default).val,ay c.b,c.r,0⟩ from by unfold rtV;rw[ah n12,ah k11,ai (fd k4),hd,he]];exact PureC.vc (yP p c hb hs hm h1 h2 h3 h4 h5 h6 k4 hd)
 have kd: ¬(dl (enX p c 0)=true):=by simp[dl,k1,k2,k4]
 have e0:rtV p c=if(enX p c 0).kind=3 then⟨{c.s with m:=c.s.m.set (c.b.getD 0 default).adr.toNat (c.b.getD 0 default).val},ay c.b,c.r,0⟩ else if(enX p c 0).kind=8 then⟨{c.s with st:=c.s.st++[(c.b.getD 0 default).pc+1]},ay c.b,c.r,0⟩ else if(enX p c 0).kind=9 then⟨{c.s with st:=c.s.st.take (c.s.st.length-1)},ay c.b,c.r,0⟩ else⟨c.s,ay c.b,c.r,0⟩:=by
  unfold rtV;rw[ah n12,ah k11,ah kd,he]
 rw[e0]
 by_cases k3:(enX p c 0).kind=3
 ·rw[ai k3]
  obtain⟨ha,ha1⟩:=ho.m k3 hf (hkn k3)
  exact PureC.vc (GM p c hb hs hm h1 h2 h3 h4 h5 h6 k3 ha ha1)
 rw[ah k3]
 by_cases k8:(enX p c 0).kind=8
 ·rw[ai k8];exact PureC.vc (GL p c hb hs hm h1 h2 h3 h4 h5 h6 k8 ho.pc.1 ho.pc.2)
 rw[ah k8]
 by_cases k9:(enX p c 0).kind=9
 ·rw[ai k9];exact PureC.shrT (PureC.vc (GK p c hb hs hm h1 h2 h3 h4 h5 h6 k9 (ho.st k9 hf (by rcases hdn with h |h;exact h;omega)))) (CP c)
 rw[ah k9];exact PureC.vc (GJ p c hb hs hm h1 h2 h3 h4 h5 h6 k1 k2 k4 k3 k8 k9)
theorem Ca(p:Pg)(c:Cf)(h:RdOk p c):pC_ 8 [.agg (pgA p),.agg (cfA c)] (.tup [.agg (cfA (rtT (rtO p c)).1),.bool (rtT (rtO p c)).2]) []:=(yd p c h).frozenT
theorem FD(p:Pg)(c:Cf)(h:RdOk p c):pC_ 9 [.agg (pgA p),.agg (cfA c)] (.bool (rtT (rtO p c)).2) []:=by
 have e:(rtT (rtO p c)).2=crV p c:=by
  unfold rtO
  cases crV p c<;>rfl
 rw[e]
 exact FL p c (by have:=h.bl;omega)
theorem EI(p:Pg)(c:Cf)(h:RdOk p c):pC_ 18 [.agg (pgA p),.agg (cfA c)] (.tup [.agg (cfA (rtT (rtO p c)).1),.bool (rtT (rtO p c)).2]) []:=by
 have h:=EH p c h.rt h.frm
 cases e:rtO p c with
 |some x=>rw[e] at h;exact h
 |none=>rw[e] at h;exact h
theorem RdOk.of{p:Pg}{c:Cf}(hP:OkP p)(hw:p.win<=300)(hI:Inv p c):RdOk p c:=
 have hk:=hI.ok hP (by omega)
 ⟨hP,hk.rt,hk.bf,by have:=hI.bl;omega,by rw[hI.ml];have:=hP.sum;omega,by have:=hI.st;omega,by have:=hI.rl;omega⟩
theorem jW(m z w:List Int):RdOk (bB m) (wkC m z w):=RdOk.of (eG m) (by have:=fI m;omega) (jr m z w)
theorem EB{m z w:List Int}{x:Cf}(e:rtO (bB m) (wkC m z w)=some x):CfS x:=by
 have hP:=eG m
 have hL:=rH m z w
 have he:=(Liv.rtO hL.1 e).e
 exact CfS.of hP (by have:=fI m;omega) (Inv.rtO hP (jr m z w) e) (by omega)
theorem rC(m z w:List Int):pC_ 10 [.agg (cfA (rtT (rtO (bB m) (wkC m z w))).1),.agg (cfA (rtT (rtO (bB m) (wkC m z w))).1)] (.bool true) []:=by
 cases e:rtO (bB m) (wkC m z w) with
 |some q=>exact(EB e).self
 |none=>exact sm0
def p16:Pg:=⟨2,4,0,0,0,0,0,[⟨⟨#[109]⟩,false,2⟩],[],[⟨3,0,1,vQ 0,vQ 0,⟨#[]⟩,0⟩,⟨11,0,0,vQ 0,vQ 0,⟨#[]⟩,0⟩]⟩
def s16(m:List Int)(pc:Int):S8:=⟨0,0,0,0,m,[],pc⟩
def e16(kn:Bool):En:=⟨0,3,1, -1,1,true,kn,false⟩
def h16:En:=⟨1,0,0, -1, -1,true,false,false⟩
def c16:Nat->Cf
 |0=>⟨s16 [1,2] (-1),[e16 true,h16],[4],0⟩
 |1=>⟨s16 [1,3] (-1),[h16],[4],0⟩
 |2=>⟨s16 [1,3] 1,[],[],1⟩
 |_=>⟨s16 [1,2] (-1),[e16 false,h16],[4],0⟩
def rdb(p:Pg)(c:Cf):Bool:=decide (dl (enX p c 0)=true->0<=(enX p c 0).d∧(enX p c 0).d<4)&&decide ((enX p c 0).kind=3->(c.b.getD 0 default).ft=false->(c.b.getD 0 default).kn=true->0<=(c.b.getD 0 default).adr∧(c.b.getD 0 default).adr<c.s.m.length)&&decide ((enX p c 0).kind=9->(c.b.getD 0 default).ft=false->(c.b.getD 0 default).dn=true->c.s.st.length≠0)&&decide (0<=(c.b.getD 0 default).pc∧(c.b.getD 0 default).pc<=1000000)&&c.b.all (fun e=>decide (-1000000<=e.frm∧e.frm<=1000000))&&decide (c.b.length<=400∧c.s.m.length<=1000∧c.s.st.length<=300∧c.r.length<=1000)
theorem sH(l:List En)(i j:Nat)(hj:j<8):jJ (an enC l i j)=true:=by
 show jJ (enC (l.getD i default) j)=true
 exact(match j,hj with |0,_=>rfl |1,_=>rfl |2,_=>rfl |3,_=>rfl |4,_=>rfl |5,_=>rfl |6,_=>rfl |7,_=>rfl)
theorem xC: ∀(i:Nat),i<1-> ∀(j:Nat),j<3->List.getD [AV.str (ByteArray.mk (Array.mk [(109:UInt8)])),AV.bool false,aI 2] ((i+0)*3+j) AV.junk=an mmC [Mm.mk (ByteArray.mk (Array.mk [(109:UInt8)])) false (2:Nat)] i j:=(fun i hi j hj=>match i,hi,j,hj with |0,_,0,_=>rfl |0,_,1,_=>rfl |0,_,2,_=>rfl)
theorem xB: ∀(i:Nat),i<2-> ∀(j:Nat),j<9->List.getD [aI 3,aI 0,aI 1,AV.bool false,aI 0,AV.bool false,aI 0,AV.str (ByteArray.mk (Array.mk [])),aI 0,aI 11,aI 0,aI 0,AV.bool false,aI 0,AV.bool false,aI 0,AV.str (ByteArray.mk (Array.mk [])),aI 0] ((i+0)*9+j) AV.junk=an inC [In.mk (3:Int) (0:Int) (1:Int) (vQ (0:Int)) (vQ (0:Int)) (ByteArray.mk (Array.mk [])) (0:Int),In.mk (11:Int) (0:Int) (0:Int) (vQ (0:Int)) (vQ (0:Int)) (ByteArray.mk (Array.mk [])) (0:Int)] i j:=(fun i hi j hj=>match i,hi,j,hj with |0,_,0,_=>rfl |0,_,1,_=>rfl |0,_,2,_=>rfl |0,_,3,_=>rfl |0,_,4,_=>rfl |0,_,5,_=>rfl |0,_,6,_=>rfl |0,_,7,_=>rfl |0,_,8,_=>rfl |1,_,0,_=>rfl |1,_,1,_=>rfl |1,_,2,_=>rfl |1,_,3,_=>rfl |1,_,4,_=>rfl |1,_,5,_=>rfl |1,_,6,_=>rfl |1,_,7,_=>rfl |1,_,8,_=>rfl)
theorem Er: ∀(i:Nat),i<2-> ∀(j:Nat),j<1->List.getD [aI 1,aI 2] ((i+0)*1+j) AV.junk=aI (List.getD [(1:Int),(2:Int)] i (0:Int)):=(fun i hi j hj=>match i,hi,j,hj with |0,_,0,_=>rfl |1,_,0,_=>rfl)
theorem Eq: ∀(i:Nat),i<1-> ∀(j:Nat),j<1->List.getD [aI 4] ((i+0)*1+j) AV.junk=aI (List.getD [(4:Int)] i (0:Int)):=(fun i hi j hj=>match i,hi,j,hj with |0,_,0,_=>rfl)
theorem DB{Z:Prop}(z:Z):(RF (0:Nat) (RF (-1:Int) (RF (2:Nat) Z))):=⟨rfl,rfl,rfl,z⟩
theorem DA{Z:Prop}(z:Z):(RF (0:Int) (RF (0:Int) (RF (0:Int) (RF (0:Int) (RF (2:Nat) Z))))):=⟨rfl,rfl,rfl,rfl,rfl,z⟩
theorem xb{Z:Prop}(z:Z):(RF (2:Int) (RF (4:Int) (RF (0:Int) (RF (0:Int) (RF (0:Int) (RF (0:Int) (RF (0:Int) (RF (1:Nat) Z)))))))):=⟨rfl,rfl,rfl,rfl,rfl,rfl,rfl,rfl,z⟩
theorem rh(h0:pC_ 8 [.agg (pgA p16),.agg (cfA (c16 0))] (.tup [.agg (s8A (c16 1).s (.own 0 0 1 0 (c16 1).s.m.length) (.own 1 0 1 0 (c16 1).s.st.length)++[.own 2 0 8 0 (c16 1).b.length,.own 3 0 1 0 (c16 1).r.length, aI (c16 1).e]),.bool true]) [aZ (c16 1).s.m,aZ (c16 1).s.st,enB (c16 1).b,aZ (c16 1).r])(h1:pC_ 8 [.agg (pgA p16),.agg (cfA (c16 1))] (.tup [.agg (s8A (c16 2).s (.own 0 0 1 0 (c16 2).s.m.length) (.own 1 0 1 0 (c16 2).s.st.length)++[.own 2 0 8 0 (c16 2).b.length,.own 3 0 1 0 (c16 2).r.length, aI (c16 2).e]),.bool true]) [aZ (c16 2).s.m,aZ (c16 2).s.st,enB (c16 2).b,aZ (c16 2).r])(h2:pC_ 8 [.agg (pgA p16),.agg (cfA (c16 2))] (.tup [.agg (s8A Cf0.s (.own 0 0 1 0 Cf0.s.m.length) (.own 1 0 1 0 Cf0.s.st.length)++[.own 2 0 8 0 Cf0.b.length,.own 3 0 1 0 Cf0.r.length, aI Cf0.e]),.bool false]) [aZ Cf0.s.m,aZ Cf0.s.st,enB Cf0.b,aZ Cf0.r])(h3:pC_ 9 [.agg (pgA p16),.agg (cfA (c16 3))] (.bool false) []):Vc (vF_ 11 [] [.cr [.agg (pgA p16),.agg (cfA (c16 0))] (.tup [.agg (s8A (c16 1).s (.own 0 0 1 0 (c16 1).s.m.length) (.own 1 0 1 0 (c16 1).s.st.length)++[.own 2 0 8 0 (c16 1).b.length,.own 3 0 1 0 (c16 1).r.length, aI (c16 1).e]),.bool true]) [aZ (c16 1).s.m,aZ (c16 1).s.st,enB (c16 1).b,aZ (c16 1).r],.cr [.agg (pgA p16),.agg (cfA (c16 1))] (.tup [.agg (s8A (c16 2).s (.own 0 0 1 0 (c16 2).s.m.length) (.own 1 0 1 0 (c16 2).s.st.length)++[.own 2 0 8 0 (c16 2).b.length,.own 3 0 1 0 (c16 2).r.length, aI (c16 2).e]),.bool true]) [aZ (c16 2).s.m,aZ (c16 2).s.st,enB (c16 2).b,aZ (c16 2).r],.cr [.agg (pgA p16),.agg (cfA (c16 2))] (.tup [.agg (s8A Cf0.s (.own 0 0 1 0 Cf0.s.m.length) (.own 1 0 1 0 Cf0.s.st.length)++[.own 2 0 8 0 Cf0.b.length,.own 3 0 1 0 Cf0.r.length, aI Cf0.e]),.bool false]) [aZ Cf0.s.m,aZ Cf0.s.st,enB Cf0.b,aZ Cf0.r],.cl [.agg (pgA p16),.agg (cfA (c16 3))] (.bool false) []] [] (.bool true) []):=al (xb (cj (xC) (cj (rf (0:Nat)) (cj (rf (2:Nat)) (cj (xB) (DA (cj (Er) (DB (cj (show ∀(i:Nat),i<2-> ∀(j:Nat),j<8->List.getD [aI 0,aI 3,aI 1,aI (-1:Int),aI 1,AV.bool true,AV.bool true,AV.bool false,aI 1,aI 0,aI 0,aI (-1:Int),aI (-1:Int),AV.bool true,AV.bool false,AV.bool false] ((i+0)*8+j) AV.junk=an enC [e16 true,h16] i j from(fun i hi j hj=>match i,hi,j,hj with |0,_,0,_=>rfl |0,_,1,_=>rfl |0,_,2,_=>rfl |0,_,3,_=>rfl |0,_,4,_=>rfl |0,_,5,_=>rfl |0,_,6,_=>rfl |0,_,7,_=>rfl |1,_,0,_=>rfl |1,_,1,_=>rfl |1,_,2,_=>rfl |1,_,3,_=>rfl |1,_,4,_=>rfl |1,_,5,_=>rfl |1,_,6,_=>rfl |1,_,7,_=>rfl)) (cj (rf (1:Nat)) (cj (Eq) (cj (rf (0:Int)) (cj (show kT [Blk.mk (nat_lit 0) false (nat_lit 3) (BC.rows (nat_lit 1) (nat_lit 2) fun(a a_1:Nat)=>aI (List.getD [(1:Int),(3:Int)] a (0:Int))),Blk.mk (nat_lit 0) false (nat_lit 3) (BC.rows (nat_lit 1) (nat_lit 0) fun(a a_1:Nat)=>aI (List.getD [] a (0:Int))),Blk.mk (nat_lit 0) false (nat_lit 35) (BC.rows (nat_lit 8) (nat_lit 1) fun(a a_1:Nat)=>an enC [h16] a a_1),Blk.mk (nat_lit 0) false (nat_lit 3) (BC.rows (nat_lit 1) (nat_lit 1) fun(a a_1:Nat)=>aI (List.getD [(4:Int)] a (0:Int)))] from by intro b hb m n f h i hi j hj;simp only[bN,dO,or_false] at hb;rcases hb with rfl |rfl |rfl |rfl<;>cases h<;>first |rfl |exact sH _ _ _ hj) (cj h0 (xb (cj (xC) (cj (rf (0:Nat)) (cj (rf (2:Nat)) (cj (xB) (cj (rf (0:Int)) (cj (rf (0:Int)) (cj (rf (0:Int)) (cj (rf (0:Int)) (cj (rf (2:Nat)) (cj (rr 2 1 fun i j=>aI (List.getD [(1:Int),(3:Int)] i (0:Int))) (cj (rf (0:Nat)) (cj (rr 0 1 fun i j=>aI (List.getD [] i (0:Int))) (cj (rf (-1:Int)) (cj (rf (1:Nat)) (cj (rr 1 8 fun i j=>an enC [h16] i j) (cj (rf (1:Nat)) (cj (rr 1 1 fun i j=>aI (List.getD [(4:Int)] i (0:Int))) (cj (rf (0:Int)) (cj (show kT [Blk.mk (nat_lit 0) false (nat_lit 3) (BC.rows (nat_lit 1) (nat_lit 2) fun(a a_1:Nat)=>aI (List.getD [(1:Int),(3:Int)] a (0:Int))),Blk.mk (nat_lit 0) false (nat_lit 3) (BC.rows (nat_lit 1) (nat_lit 0) fun(a a_1:Nat)=>aI (List.getD [] a (0:Int))),Blk.mk (nat_lit 0) false (nat_lit 35) (BC.rows (nat_lit 8) (nat_lit 0) fun(a a_1:Nat)=>an enC [] a a_1),Blk.mk (nat_lit 0) false (nat_lit 3) (BC.rows (nat_lit 1) (nat_lit 0) fun(a a_1:Nat)=>aI (List.getD [] a (0:Int)))] from by intro b hb m n f h i hi j hj;simp only[bN,dO,or_false] at hb;rcases hb with rfl |rfl |rfl |rfl<;>cases h<;>first |rfl |exact sH _ _ _ hj) (cj h1 (xb (cj (xC) (cj (rf (0:Nat)) (cj (rf (2:Nat)) (cj (xB) (cj (rf (0:Int)) (cj (rf (0:Int)) (cj (rf (0:Int)) (cj (rf (0:Int)) (cj (rf (2:Nat)) (cj (rr 2 1 fun i j=>aI (List.getD [(1:Int),(3:Int)] i (0:Int))) (cj (rf (0:Nat)) (cj (rr 0 1 fun i j=>aI (List.getD [] i (0:Int))) (cj (rf (1:Int)) (cj (rf (0:Nat)) (cj (rr 0 8 fun i j=>an enC [] i j) (cj (rf (0:Nat)) (cj (rr 0 1 fun i j=>aI (List.getD [] i (0:Int))) (cj (rf (1:Int)) (cj (show kT [Blk.mk (nat_lit 0) false (nat_lit 3) (BC.rows (nat_lit 1) (nat_lit 0) fun(a a_1:Nat)=>aI (List.getD [] a (0:Int))),Blk.mk (nat_lit 0) false (nat_lit 3) (BC.rows (nat_lit 1) (nat_lit 0) fun(a a_1:Nat)=>aI (List.getD [] a (0:Int))),Blk.mk (nat_lit 0) false (nat_lit 35) (BC.rows (nat_lit 8) (nat_lit 0) fun(a a_1:Nat)=>an enC [] a a_1),Blk.mk (nat_lit 0) false (nat_lit 3) (BC.rows (nat_lit 1) (nat_lit 0) fun(a a_1:Nat)=>aI (List.getD [] a (0:Int)))] from by intro b hb m n f h i hi j hj;simp only[bN,dO,or_false] at hb;rcases hb with rfl |rfl |rfl |rfl<;>cases h<;>first |rfl |exact sH _ _ _ hj) (cj h2 (cj (pv ((0:Int)<=0∧(0:Int)<(2:Nat))) (cj (pv ((0:Nat)<2)) (cj (pv ((0:Int)<=1∧(1:Int)<(2:Nat))) (cj (pv ((1:Nat)<2)) (xb (cj (xC) (cj (rf (0:Nat)) (cj (rf (2:Nat)) (cj (xB) (DA (cj (Er) (DB (cj (show ∀(i:Nat),i<2-> ∀(j:Nat),j<8->(bif Nat.ble (6:Nat) j&&Nat.blt j (7:Nat)&&Nat.beq (i+0) (0:Nat) then List.getD [AV.bool false] (j-6) AV.junk else List.getD [aI 0,aI 3,aI 1,aI (-1:Int),aI 1,AV.bool true,AV.bool true,AV.bool false,aI 1,aI 0,aI 0,aI (-1:Int),aI (-1:Int),AV.bool true,AV.bool false,AV.bool false] ((i+0)*8+j) AV.junk)=an enC [e16 false,h16] i j from(fun i hi j hj=>match i,hi,j,hj with |0,_,0,_=>rfl |0,_,1,_=>rfl |0,_,2,_=>rfl |0,_,3,_=>rfl |0,_,4,_=>rfl |0,_,5,_=>rfl |0,_,6,_=>rfl |0,_,7,_=>rfl |1,_,0,_=>rfl |1,_,1,_=>rfl |1,_,2,_=>rfl |1,_,3,_=>rfl |1,_,4,_=>rfl |1,_,5,_=>rfl |1,_,6,_=>rfl |1,_,7,_=>rfl)) (cj (rf (1:Nat)) (cj (Eq) (cj (rf (0:Int)) (cj h3 (cj (rf true) trivial))))))))))))))))))))))))))))))))))))))))))))))))))))))))))))))))))))))))))
theorem rS{p:Pg}{c:Cf}(hP:OkP p)(h:rdb p c=true):RdOk p c:=by
 unfold rdb at h
 simp only[av,aL,decide_eq_true_eq] at h
 obtain⟨⟨⟨⟨⟨h1,h2⟩,h3⟩,h4⟩,h5⟩,h6,h7,h8,h9⟩:=h
 exact⟨hP,⟨h1,h2,h3,by omega,by omega,by omega,h4⟩,h5,h6,h7,h8,h9⟩
theorem Cb(hO:tW){p:Pg}{c x:Cf}{tb:Bool}(h:RdOk p c)(e:rtT (rtO p c)=(x,tb)):pC_ 8 [.agg (pgA p),.agg (cfA c)] (.tup [.agg (s8A x.s (.own 0 0 1 0 x.s.m.length) (.own 1 0 1 0 x.s.st.length)++[.own 2 0 8 0 x.b.length,.own 3 0 1 0 x.r.length,.int .i64 x.e]),.bool tb]) [aZ x.s.m,aZ x.s.st,enB x.b,aZ x.r]:=by
 have g:=hO p c h
 rw[e] at g
 exact g
theorem H2{p:Pg}{c:Cf}{tb:Bool}(h:RdOk p c)(e:(rtT (rtO p c)).2=tb):pC_ 9 [.agg (pgA p),.agg (cfA c)] (.bool tb) []:=by
 have g:=FD p c h
 rw[e] at g
 exact g
theorem mN(hO:tW):pC_ 11 [] (.bool true) []:=by
 have hP:OkP p16:=Fc (by kernel_rfl)
 have r0:RdOk p16 (c16 0):=rS hP (by kernel_rfl)
 have r1:RdOk p16 (c16 1):=rS hP (by kernel_rfl)
 have r2:RdOk p16 (c16 2):=rS hP (by kernel_rfl)
 have r3:RdOk p16 (c16 3):=rS hP (by kernel_rfl)
 exact PureC.vc (rh (Cb hO r0 (by kernel_rfl)) (Cb hO r1 (by kernel_rfl)) (Cb hO r2 (by kernel_rfl)) (H2 r3 (by kernel_rfl)))
theorem itk{l:List Int}{n i:Nat}(h:i<n):AV.int .i64 (l.getD i 0)=AV.int .i64 ((l.take n).getD i 0):=by
 rw[au,au,a9,ai h]
def rtS(w:List Int)(p:Pg)(s:S8)(n:Nat):Sm:=⟨[(6,.bool false),(2,lR w),(7,.bptr 0 0),(8,.bptr 1 0),(10,.int .i64 n)],[(0,⟨0,false,33,.box (pgA p)⟩),(1,⟨0,false,40,.box (s8N s)⟩)],2⟩
theorem Ep(B:List Int): ∀(i:Nat),i<B.length->AV.int IntKind.u8 (B.getD i 0)=AV.int IntKind.u8 (B.getD i 0):=(fun _ _=>rfl)
theorem Dz(w:List Int)(s:S8){Z:Prop}(z:Z):(RR s.m.length 1 (fun i j=>aI (s.m.getD i 0)) (RF s.pc (RF false (RF w.length (RR w.length 1 (fun i j=>aI (w.getD i 0)) Z))))):=⟨fun _ _ _ _=>rfl,rfl,rfl,rfl,fun _ _ _ _=>rfl,z⟩
theorem um(p:Pg)(s:S8){Z:Prop}(z:Z):(RF p.ls.length (RR p.ls.length 2 (fun i j=>an lbC p.ls i j) (RF p.is.length (RR p.is.length 9 (fun i j=>an inC p.is i j) (RF s.r0 (RF s.r1 (RF s.r2 (RF s.r3 (RF s.m.length Z))))))))):=⟨rfl,fun _ _ _ _=>rfl,rfl,fun _ _ _ _=>rfl,rfl,rfl,rfl,rfl,rfl,z⟩
theorem n4(p:Pg){Z:Prop}(z:Z):(RF p.W (RF p.win (RF p.fuel (RF p.r0 (RF p.r1 (RF p.r2 (RF p.r3 (RF p.ms.length (RR p.ms.length 3 (fun i j=>an mmC p.ms i j) Z))))))))):=⟨rfl,rfl,rfl,rfl,rfl,rfl,rfl,rfl,fun _ _ _ _=>rfl,z⟩
theorem Dy(c:Cf){Z:Prop}(z:Z):(RF c.b.length (RR c.b.length 8 (fun i j=>an enC c.b i j) (RF c.r.length (RR c.r.length 1 (fun i j=>aI (c.r.getD i 0)) (RF c.e Z))))):=⟨rfl,fun _ _ _ _=>rfl,rfl,fun _ _ _ _=>rfl,rfl,z⟩
theorem Dx(s:S8)(c:Cf){Z:Prop}(z:Z):(RF c.s.r0 (RF c.s.r1 (RF c.s.r2 (RF c.s.r3 (RF c.s.m.length (RR c.s.m.length 1 (fun i j=>aI (List.getD c.s.m i 0)) (RF c.s.st.length (RR c.s.st.length 1 (fun i j=>aI (List.getD c.s.st i 0)) (RF c.s.pc Z))))))))):=⟨rfl,rfl,rfl,rfl,rfl,fun _ _ _ _=>rfl,rfl,fun _ _ _ _=>rfl,rfl,z⟩
theorem Av(s:S8)(c:Cf){Z:Prop}(z:Z):(RR c.s.m.length 1 (fun i j=>aI (List.getD c.s.m i 0)) (RF c.s.st.length (RR c.s.st.length 1 (fun i j=>aI (List.getD c.s.st i 0)) (RF c.s.pc (RF c.b.length (RR c.b.length 8 (fun i j=>an enC c.b i j) (RF c.r.length (RR c.r.length 1 (fun i j=>aI (c.r.getD i 0)) (RF c.e Z))))))))):=⟨fun _ _ _ _=>rfl,rfl,fun _ _ _ _=>rfl,rfl,rfl,fun _ _ _ _=>rfl,rfl,fun _ _ _ _=>rfl,rfl,z⟩
theorem Au(p:Pg)(s:S8)(c:Cf){Z:Prop}(z:Z):(RF p.ls.length (RR p.ls.length 2 (fun i j=>an lbC p.ls i j) (RF p.is.length (RR p.is.length 9 (fun i j=>an inC p.is i j) (RF c.s.r0 (RF c.s.r1 (RF c.s.r2 (RF c.s.r3 (RF c.s.m.length Z))))))))):=⟨rfl,fun _ _ _ _=>rfl,rfl,fun _ _ _ _=>rfl,rfl,rfl,rfl,rfl,rfl,z⟩
theorem Hn(w B:List Int)(p:Pg)(s:S8)(n:Nat)(hs:s.st=[])(hn:n<=w.length)(h40:n<40)(c x:Cf)(d:List Dr)(tb:Bool)(h0:pC_ 14 [.agg (pgA p),.agg (s8R s),lR (w.take n)] (.tup [.agg (cfA c),drR d]) [])(h1:pC_ 17 [.agg (cfA c)] (bR B) [])(h2:pC_ 8 [.agg (pgA p),.agg (cfA c)] (.tup [.agg (cfA x),.bool tb]) [])(h3:pC_ 18 [.agg (pgA p),.agg (cfA c)] (.tup [.agg (cfA x),.bool tb]) [])(h4:pC_ 10 [.agg (cfA x),.agg (cfA x)] (.bool true) [])(h5:pC_ 9 [.agg (pgA p),.agg (cfA c)] (.bool tb) []):Vc (vC_ 6 0 (rtS w p s n) [.bd true,.bd true,.cl [.agg (pgA p),.agg (s8R s),lR (w.take n)] (.tup [.agg (cfA c),drR d]) [],.cl [.agg (cfA c)] (bR B) [],.cl [.agg (pgA p),.agg (cfA c)] (.tup [.agg (cfA x),.bool tb]) [],.cl [.agg (pgA p),.agg (cfA c)] (.tup [.agg (cfA x),.bool tb]) [],.bd false,.cl [.agg (cfA x),.agg (cfA x)] (.bool true) [],.cl [.agg (pgA p),.agg (cfA c)] (.bool tb) [],.bd false,.cl [.agg (cfA c)] (bR B) [],.by_ B,.by_ B,.bd false] .nrm [(0,0),(1,1)] (rtS w p s (n+3))):=al (cj (dt ((n:Int)<=w.length)) (cj (dt ((n:Int)<40)) (cj (pv ((0:Int)<=n∧(n:Int)<=w.length)) (n4 p (um p s (cj (rr s.m.length 1 fun i j=>aI (s.m.getD i 0)) (cj (show s.st.length=0 from by rw[hs];rfl) (cj (rf s.pc) (cj (show n=(List.take n w).length from by rw[aS];omega) (cj (show ∀(i:Nat),i<n-> ∀(j:Nat),j<1->aI (w.getD i 0)=aI (List.getD (List.take n w) i 0) from(fun i hi j hj=>itk (show i<n by omega))) (cj h0 (Dx s c (Dy c (cj h1 (n4 p (Au p s c (Av s c (cj h2 (n4 p (Au p s c (Av s c (cj h3 (cj (show(!tb==tb)=false from by rw[gj];rfl) (cj (rf x.s.r0) (cj (rf x.s.r1) (cj (rf x.s.r2) (cj (rf x.s.r3) (cj (rf x.s.m.length) (cj (rr x.s.m.length 1 fun i j=>aI (List.getD x.s.m i 0)) (cj (rf x.s.st.length) (cj (rr x.s.st.length 1 fun i j=>aI (List.getD x.s.st i 0)) (cj (rf x.s.pc) (cj (rf x.b.length) (cj (rr x.b.length 8 fun i j=>an enC x.b i j) (cj (rf x.r.length) (cj (rr x.r.length 1 fun i j=>aI (x.r.getD i 0)) (cj (rf x.e) (cj (rf x.s.r0) (cj (rf x.s.r1) (cj (rf x.s.r2) (cj (rf x.s.r3) (cj (rf x.s.m.length) (cj (rr x.s.m.length 1 fun i j=>aI (List.getD x.s.m i 0)) (cj (rf x.s.st.length) (cj (rr x.s.st.length 1 fun i j=>aI (List.getD x.s.st i 0)) (cj (rf x.s.pc) (cj (rf x.b.length) (cj (rr x.b.length 8 fun i j=>an enC x.b i j) (cj (rf x.r.length) (cj (rr x.r.length 1 fun i j=>aI (x.r.getD i 0)) (cj (rf x.e) (cj h4 (n4 p (Au p s c (Av s c (cj h5 (cj (show(!tb==tb)=false from by rw[gj];rfl) (Dx s c (Dy c (cj h1 (cj (rf B.length) (cj (Ep B) (cj (rf B.length) (cj (Ep B) (cj (show(!ByteArray.toList (Go.strOfNums B)==ByteArray.toList (Go.strOfNums B))=false from by rw[gj];rfl) (cj (i6 (n+3)) (n4 p (um p s (Dz w s (cj (rf ((n:Int)+3)) trivial))))))))))))))))))))))))))))))))))))))))))))))))))))))))))))))))))))))
theorem Dw(w:List Int)(s:S8)(n:Nat){Z:Prop}(z:Z):(RR s.m.length 1 (fun i j=>aI (s.m.getD i 0)) (RF s.pc (RF false (RF w.length (RR w.length 1 (fun i j=>aI (w.getD i 0)) (RF (n:Int) Z)))))):=⟨fun _ _ _ _=>rfl,rfl,rfl,rfl,fun _ _ _ _=>rfl,rfl,z⟩
theorem Hr(w B:List Int)(p:Pg)(s:S8)(n:Nat)(hs:s.st=[])(hn: ¬n<=w.length):Vc (vC_ 6 0 (rtS w p s n) [.bd false] (.ext 0) [(0,0),(1,1)] (rtS w p s n)):=al (cj (df ((n:Int)<=w.length)) (n4 p (um p s (Dw w s n trivial))))
theorem ED(w B:List Int)(p:Pg)(s:S8)(n:Nat)(hs:s.st=[])(hn:n<=w.length)(h40: ¬n<40):Vc (vC_ 6 0 (rtS w p s n) [.bd true,.bd false] (.ext 0) [(0,0),(1,1)] (rtS w p s n)):=al (cj (dt ((n:Int)<=w.length)) (cj (df ((n:Int)<40)) (n4 p (um p s (Dw w s n trivial)))))
theorem uG(m zs w:List Int)(p:Pg)(s s2:S8)(n:Nat)(hs:s.st=[])(h1:pC_ 12 [lR m] (.agg (pgA p)) [])(h2:pC_ 13 [.agg (pgA p),lR zs, aI 1] (.tup [.agg (s8N s),.agg (s8N s2)]) [])(h3:oL_ 6 0 (rtS w p s 0).st (.ext 0) (rtS w p s n).st)(hW:pC_ 11 [] (.bool true) []):Vc (vF_ 6 [lR m,lR zs,lR w] [.cl [lR m] (.agg (pgA p)) [],.cl [.agg (pgA p),lR zs, aI 1] (.tup [.agg (s8N s),.agg (s8N s2)]) [],.lp [(0,0),(1,1)] (rtS w p s 0) (.ext 0) (rtS w p s n),.cl [] (.bool true) []] [] (.bool true) []):=al (cj (rf m.length) (cj (rr m.length 1 fun i j=>aI (m.getD i 0)) (cj h1 (n4 p (cj (rf p.ls.length) (cj (rr p.ls.length 2 fun i j=>an lbC p.ls i j) (cj (rf p.is.length) (cj (rr p.is.length 9 fun i j=>an inC p.is i j) (cj (rf zs.length) (cj (rr zs.length 1 fun i j=>aI (zs.getD i 0)) (cj (rf (1:Int)) (cj h2 (n4 p (um p s (Dz w s (cj (rf (0:Int)) (cj h3 (cj hW (cj (rf true) trivial)))))))))))))))))))
theorem uW(m zs w:List Int)(n:Nat)(hn:n<=w.length)(h40:n<40):Ok Try.prog (cN Try.prog 6) (lpC Try.prog 6 0) (rtS w (bB m) (sA (bB m) zs) n).st .nrm (rtS w (bB m) (sA (bB m) zs) (n+3)).st:=
 Ok.vc (Hn w _ (bB m) (sA (bB m) zs) n rfl hn h40 (wkC m zs (w.take n)) _ _ _ (ns m zs (w.take n)) (uy m zs (w.take n)).rcode (Ca _ _ (jW m zs (w.take n))) (EI _ _ (jW m zs (w.take n))) (rC m zs (w.take n)) (FD _ _ (jW m zs (w.take n))))
theorem xL(m zs w:List Int):oL_ 6 0 (rtS w (bB m) (sA (bB m) zs) 0).st (.ext 0) (rtS w (bB m) (sA (bB m) zs) (3*(min (w.length/3+1) 14))).st:=
 Ok.loop (P:=Try.prog) (nt:=cN Try.prog 6) (c:=lpC Try.prog 6 0) (F:=fun k=>rtS w (bB m) (sA (bB m) zs) (3*k)) (m:=(min (w.length/3+1) 14)) (x:= .ext 0) (J:=rtS w (bB m) (sA (bB m) zs) (3*(min (w.length/3+1) 14))) (fun k hk=>uW m zs w (3*k) (by omega) (by omega)) (by
  by_cases h:3*(min (w.length/3+1) 14)<=w.length
  ·exact Ok.vc (ED w [] (bB m) (sA (bB m) zs) _ rfl h (by omega))
  ·exact Ok.vc (Hr w [] (bB m) (sA (bB m) zs) _ rfl h)) (by simp)
theorem qG(hO:tW)(m zs w:List Int):pC_ 6 [lR m,lR zs,lR w] (.bool true) []:=by
 have hP:=eG m
 exact PureC.vc (uG m zs w (bB m) (sA (bB m) zs) (sB (bB m) zs 1) _ rfl (mkC m) (ip (bB m) zs 1 hP) (xL m zs w) (mN hO))
theorem walk_RetiTells(A0:Option Addr)(c0:Nat)(z0:List Int)(A1:Option Addr)(c1:Nat)(z1:List Int)(A2:Option Addr)(c2:Nat)(z2:List Int)(W:World)(hc0:z0.length<=c0)(hm0:c0<=maxLen)(hr0:Rd W W.heap.size A0 (z0.map (Value.int .i64)))(hc1:z1.length<=c1)(hm1:c1<=maxLen)(hr1:Rd W W.heap.size A1 (z1.map (Value.int .i64)))(hc2:z2.length<=c2)(hm2:c2<=maxLen)(hr2:Rd W W.heap.size A2 (z2.map (Value.int .i64))):Calls Try.prog 6 #[.slice A0 z0.length c0,.slice A1 z1.length c1,.slice A2 z2.length c2] W (RetB (.bool true) W):=
 (qG yd z0 z1 z2).lawB (R:=fun g=>g<W.heap.size) (fun _ h=>h) rfl (fun j x v hx hv=>match j,hx,hv with
  |0,rfl,rfl=> .ofRd hr0 hc0 hm0
  |1,rfl,rfl=> .ofRd hr1 hc1 hm1
  |2,rfl,rfl=> .ofRd hr2 hc2 hm2)
theorem kS{a b:Bool}(h:(bif a then b else false)=true):a=true∧b=true:=by
 cases a with
 |true=>exact⟨rfl,h⟩
 |false=>cases h
theorem CI{x y:En}(e0:x.pc=y.pc)(e1:x.val=y.val)(e2:x.adr=y.adr)(e3:x.frm=y.frm)(e4:x.nxt=y.nxt)(e5:x.dn=y.dn)(e6:x.kn=y.kn)(e7:x.ft=y.ft):x=y:=by
 cases x;cases y
 simp only at e0 e1 e2 e3 e4 e5 e6 e7
 subst e0 e1 e2 e3 e4 e5 e6 e7
 rfl
theorem BZ{x y:En}(h:x≠y):(!bif x.pc==y.pc then bif x.val==y.val then bif x.adr==y.adr then bif x.frm==y.frm then bif x.nxt==y.nxt then bif x.dn==y.dn then bif x.kn==y.kn then bif x.ft==y.ft then true else false else false else false else false else false else false else false else false)=true:=by
 cases hb:(bif x.pc==y.pc then bif x.val==y.val then bif x.adr==y.adr then bif x.frm==y.frm then bif x.nxt==y.nxt then bif x.dn==y.dn then bif x.kn==y.kn then bif x.ft==y.ft then true else false else false else false else false else false else false else false else false) with
 |false=>rfl
 |true=>
  obtain⟨a0,hb⟩:=kS hb
  obtain⟨a1,hb⟩:=kS hb
  obtain⟨a2,hb⟩:=kS hb
  obtain⟨a3,hb⟩:=kS hb
  obtain⟨a4,hb⟩:=kS hb
  obtain⟨a5,hb⟩:=kS hb
  obtain⟨a6,hb⟩:=kS hb
  obtain⟨a7,hb⟩:=kS hb
  exact absurd (CI (ax.1 a0) (ax.1 a1) (ax.1 a2) (ax.1 a3) (ax.1 a4) (ax.1 a5) (ax.1 a6) (ax.1 a7)) h
theorem C1(a:List En)(b:List En){Z:Prop}(z:Z):(RF a.length (RR a.length 8 (fun i j=>an enC a i j) (RF b.length (RR b.length 8 (fun i j=>an enC b i j) Z)))):=⟨rfl,fun _ _ _ _=>rfl,rfl,fun _ _ _ _=>rfl,z⟩
theorem zZ(a b:List En)(k:Nat)(hl:a.length=b.length)(hk:k<a.length)(hb:a.length<1000000000)(he:(a.getD k default)=(b.getD k default)):Vc (vC_ 15 0 (xcS (enR a) (enR b) k) [.bd true,.bd false] .nrm [] (xcS (enR a) (enR b) (k+1))):=al (cj (dt ((k:Int)<a.length)) (cj (bi k a.length) (cj (bi k b.length) (cj (show(!bif (a.getD k default).pc==(b.getD k default).pc then bif (a.getD k default).val==(b.getD k default).val then bif (a.getD k default).adr==(b.getD k default).adr then bif (a.getD k default).frm==(b.getD k default).frm then bif (a.getD k default).nxt==(b.getD k default).nxt then bif (a.getD k default).dn==(b.getD k default).dn then bif (a.getD k default).kn==(b.getD k default).kn then bif (a.getD k default).ft==(b.getD k default).ft then true else false else false else false else false else false else false else false else false)=false from by rw[he];simp) (cj (i6 (k+1)) (C1 a b (cj (rf ((k:Int)+1)) (cj (rf false) trivial))))))))
theorem Fu(a b:List En)(k:Nat)(hl:a.length=b.length)(hk:k<a.length)(hb:a.length<1000000000)(he:(a.getD k default)≠(b.getD k default)):Vc (vC_ 15 0 (xcS (enR a) (enR b) k) [.bd true,.bd true] .ret [] xfS):=al (cj (dt ((k:Int)<a.length)) (cj (bi k a.length) (cj (bi k b.length) (cj (show(!bif (a.getD k default).pc==(b.getD k default).pc then bif (a.getD k default).val==(b.getD k default).val then bif (a.getD k default).adr==(b.getD k default).adr then bif (a.getD k default).frm==(b.getD k default).frm then bif (a.getD k default).nxt==(b.getD k default).nxt then bif (a.getD k default).dn==(b.getD k default).dn then bif (a.getD k default).kn==(b.getD k default).kn then bif (a.getD k default).ft==(b.getD k default).ft then true else false else false else false else false else false else false else false else false)=true from(BZ he)) (cj (rf false) trivial)))))
theorem Fx(a b:List En)(k:Nat)(hl:a.length=b.length)(hk: ¬k<a.length)(hk2:k<1000000000):Vc (vC_ 15 0 (xcS (enR a) (enR b) k) [.bd false] (.ext 0) [] (xcS (enR a) (enR b) k)):=al (cj (df ((k:Int)<a.length)) (C1 a b (cj (rf (k:Int)) (cj (rf false) trivial))))
theorem sf(a b:List En)(hl:a.length=b.length)(hb:a.length<1000000000)(h: ∀i,i<a.length->a.getD i default=b.getD i default): ∀j k,k+j=a.length->OkL Try.prog (cN Try.prog 15) (lpC Try.prog 15 0) (xcS (enR a) (enR b) k).st (.ext 0) (xcS (enR a) (enR b) a.length).st
 |0,k,hk=>by
  obtain rfl:k=a.length:=by omega
  exact OkL.exit (Ok.vc (Fx a b _ hl (b8 _) hb)) (by simp)
 |j+1,k,hk=>OkL.step (Ok.vc (zZ a b k hl (by omega) hb (h k (by omega)))) (sf a b hl hb h j (k+1) (by omega))
theorem se(a b:List En)(hl:a.length=b.length)(hb:a.length<1000000000): ∀j k,k+j=a.length->(∃i,k<=i∧i<a.length∧a.getD i default≠b.getD i default)->OkL Try.prog (cN Try.prog 15) (lpC Try.prog 15 0) (xcS (enR a) (enR b) k).st .ret (xfS).st
 |0,k,hk,h=>by obtain⟨i,h1,h2,_⟩:=h;omega
 |j+1,k,hk,h=>by
  by_cases he:(a.getD k default)=(b.getD k default)
  ·obtain⟨i,h1,h2,h3⟩:=h
   have:i≠k:=fun e=>by subst e;exact h3 he
   exact OkL.step (Ok.vc (zZ a b k hl (by omega) hb he)) (se a b hl hb j (k+1) (by omega) ⟨i,by omega,h2,h3⟩)
  ·exact OkL.exit (Ok.vc (Fu a b k hl (by omega) hb he)) (by simp)
theorem Fv(a b:List En)(hl: ¬a.length=b.length):Vc (vF_ 15 [enR a,enR b] [.bd true] [] (.bool false) []):=al (cj (show((a.length:Int) !=(b.length:Int))=true from(bG.2 (by omega))) (cj (rf false) trivial))
theorem C0(a:List En)(b:List En){Z:Prop}(z:Z):(RF a.length (RR a.length 8 (fun i j=>an enC a i j) (RF b.length (RR b.length 8 (fun i j=>an enC b i j) (RF (0:Int) (RF false Z)))))):=⟨rfl,fun _ _ _ _=>rfl,rfl,fun _ _ _ _=>rfl,rfl,rfl,z⟩
theorem Ft(a b:List En)(n:Nat)(hl:a.length=b.length)(h:oL_ 15 0 (xcS (enR a) (enR b) 0).st (.ext 0) (xcS (enR a) (enR b) n).st):Vc (vF_ 15 [enR a,enR b] [.bd false,.lp [] (xcS (enR a) (enR b) 0) (.ext 0) (xcS (enR a) (enR b) n)] [] (.bool true) []):=al (cj (show((a.length:Int) !=(b.length:Int))=false from(aw.2 (by omega))) (C0 a b (cj h (cj (rf true) trivial))))
theorem Fw(a b:List En)(hl:a.length=b.length)(h:oL_ 15 0 (xcS (enR a) (enR b) 0).st .ret (xfS).st):Vc (vF_ 15 [enR a,enR b] [.bd false,.lp [] (xcS (enR a) (enR b) 0) .ret xfS] [] (.bool false) []):=al (cj (show((a.length:Int) !=(b.length:Int))=false from(aw.2 (by omega))) (C0 a b (cj h (cj (rf false) trivial))))
theorem HW(a b:List En)(hb:a.length<1000000000):pC_ 15 [enR a,enR b] (.bool (decide (a=b))) []:=by
 by_cases hl:a.length=b.length
 ·by_cases h: ∀i,i<a.length->a.getD i default=b.getD i default
  ·rw[bL (v4 hl h)]
   exact PureC.vc (Ft a b _ hl (sf a b hl hb h a.length 0 (by omega)).ok)
  ·rw[bC (fun e=>h fun i _=>by rw[e])]
   refine PureC.vc (Fw a b hl (se a b hl hb a.length 0 (by omega) ?_).ok)
   apply Classical.byContradiction
   intro hn
   exact h fun i hi=>Classical.byContradiction fun he=>hn ⟨i,cc _,hi,he⟩
 ·rw[bC (fun e=>hl (by rw[e]))]
  exact PureC.vc (Fv a b hl)
theorem Ed(l:List En)(h:l.length<1000000000):pC_ 15 [enR l,enR l] (.bool true) []:=by
 have h:=HW l l h
 rw[bL rfl] at h
 exact h
end
end Go.Proofs.Ytdanmboalfmifaa.Px
