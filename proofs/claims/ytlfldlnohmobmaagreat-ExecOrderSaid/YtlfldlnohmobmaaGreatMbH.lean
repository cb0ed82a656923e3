import Derived.Test.YtlfldlnohmobmaaGreatMbG
import Derived.Test.YtlfldlnohmobmaaGreatMbD
import Derived.RangeFuncNested
import Derived.RangeFuncLeaves
import Derived.RangeFuncBound
import Derived.RangeFuncCalls
import Derived.WalkKit
import Derived.OwnWalkIn
import Derived.TacticsInMore
import Derived.LoopNIn
import Derived.LoopIn
import Derived.Test.YtlfldlnohmobmaaGreatMbE
import Derived.Test.YtlfldlnohmobmaaGreatMbB
import Derived.Lib.AppendZeros
import Derived.Deep.QuietTactic
import Derived.Laws.Rows
import Derived.Test.YtlfldlnohmobmaaGreatMbF
set_option linter.unusedVariables false
set_option linter.unusedSimpArgs false
set_option maxRecDepth 100000
namespace Go.Proofs.YtlfldlnohmobmaaGreat.Px
section
open Go.RowKit Go.Proofs.YtlfldlnohmobmaaGreat.Rx
structure FrE (p:Pg) (e:En):Prop where
 d:e.dn=false->e.val=0∧e.frm= -1
 a:(e.dn=false∧(atI p e.pc).kind≠3∨(atI p e.pc).kind=3∧e.kn=false)->e.adr=0∧e.kn=false∧e.ft=false
def Frs(p:Pg)(c:Cf):Prop:= ∀e∈c.b,FrE p e
theorem FrE.mk'{p:Pg}{e:En}(hd:e.dn=true)(h3: ¬(atI p e.pc).kind=3):FrE p e:=
 ⟨fun h=>(by rw[hd] at h;cases h),fun h=>h.elim (fun h=>by rw[hd] at h;cases h.1) fun h=>absurd h.1 h3⟩
theorem FrE.pop{p:Pg}{e:En}(h:FrE p e):FrE p e.pop:=
 ⟨fun hd=>⟨(h.d hd).1,by show(if 0<=e.frm then e.frm-1 else e.frm)= -1;rw[(h.d hd).2];rfl⟩,h.a⟩
theorem Frs.set{p:Pg}{c:Cf}(h:Frs p c){k:Nat}{e:En}(he:FrE p e): ∀x∈c.b.set k e,FrE p x:=
 fun x hx=>(ct hx).elim (h x) fun hx=>hx▸he
theorem Frs.goV{p:Pg}{c:Cf}(h:Frs p c){k:Nat}(hk:k<c.b.length)(t:Int):Frs p (goV c k t):=by
 unfold Px.goV
 split
 ·exact h
 ·have he:FrE p ((c.b.getD k default).to t):=⟨(h _ (cM hk)).d,(h _ (cM hk)).a⟩
  exact fun x hx=>h.set he x (cf hx)
theorem Frs.doO{p:Pg}{c c2:Cf}{o:List Ob}(h:Frs p c){i:Int}(e:doO p c i=some (c2,o)):Frs p c2:=by
 unfold Px.doO at e
 split at e
 ·rename_i hc
  obtain⟨k,rfl,hk,hd,hK⟩:=jQ hc
  rw[aC,ai] at e
  have hE:=h _ (cM hk)
  have hlD:(upE c k En.done).b.length=c.b.length:=az
  unfold dmV at e
  by_cases k3:(enX p c k).kind=3
  ·rw[an (by omega),an (by omega),aq k3] at e
   cases e
   exact h.set ⟨fun hx=>Bool.noConfusion hx,fun hx=>hx.elim (fun hx=>Bool.noConfusion hx.1) fun hx=>hE.a (.inr hx)⟩
  have mk: ∀g:En->En,(g (c.b.getD k default)).pc=(c.b.getD k default).pc->(g (c.b.getD k default)).dn=true->Frs p (upE c k g):=fun g h1 h2=>h.set (FrE.mk' h2 (by rw[h1];exact k3))
  have hD:Frs p (upE c k En.done):=mk _ rfl rfl
  have go: ∀t,Frs p (Px.goV (upE c k En.done) k t):=fun t=>hD.goV (by rw[hlD];exact hk) t
  by_cases k1:(enX p c k).kind=1
  ·rw[aq k1] at e;cases e;exact mk _ rfl rfl
  rw[an k1] at e
  by_cases k4:(enX p c k).kind=4
  ·rw[aq k4] at e;cases e;exact mk _ rfl rfl
  rw[an k4,an k3] at e
  by_cases k2:(enX p c k).kind=2
  ·rw[aq k2] at e
   split at e
   ·cases e;exact mk _ rfl rfl
   ·cases e;exact mk _ rfl rfl
  rw[an k2] at e
  by_cases k5:(enX p c k).kind=5
  ·rw[aq k5] at e;cases e;exact go _
  rw[an k5] at e
  by_cases k7:(enX p c k).kind=7
  ·rw[aq k7] at e;cases e;exact go _
  rw[an k7] at e
  split at e
  ·cases e;exact mk _ rfl rfl
  ·split at e
   ·cases e;exact mk _ rfl rfl
   ·cases e;exact go _
 ·cases e
theorem Frs.adrO{p:Pg}{c c2:Cf}{o:List Ob}(h:Frs p c){i:Int}(e:adrO p c i=some (c2,o)):Frs p c2:=by
 unfold Px.adrO at e
 split at e
 ·rename_i hc
  obtain⟨k,rfl,hk,hd,hK⟩:=nU hc
  rw[aC,ai] at e
  have hE:=h _ (cM hk)
  have mk: ∀g:En->En,(g (c.b.getD k default)).pc=(c.b.getD k default).pc->(g (c.b.getD k default)).dn=(c.b.getD k default).dn->(g (c.b.getD k default)).kn=true->(g (c.b.getD k default)).val=(c.b.getD k default).val->(g (c.b.getD k default)).frm=(c.b.getD k default).frm->Frs p (upE c k g):=
   fun g h1 h2 h3 h4 h5=>h.set ⟨fun hx=>by rw[h4,h5];exact hE.d (h2▸hx),fun hx=>hx.elim (fun hx=>absurd hK (by rw[h1] at hx;exact hx.2)) fun hx=>by rw[h3] at hx;cases hx.2⟩
  unfold qi at e
  split at e
  ·cases e;exact mk _ rfl rfl rfl rfl rfl
  ·split at e
   ·cases e
    exact fun x hx=>mk (fun e=>e.ad (adV p c k (enX p c k))) rfl rfl rfl rfl rfl x (cf hx)
   ·cases e;exact mk _ rfl rfl rfl rfl rfl
 ·cases e
theorem Frs.ftO{p:Pg}{c c2:Cf}{g:Int}(h:Frs p c)(e:ftO p c g=some c2):Frs p c2:=by
 unfold Px.ftO at e
 split at e
 ·cases e
  have hE:FrE p (ftE p c g):=by
   unfold ftE
   by_cases k5:(atI p c.s.pc).kind=5
   ·rw[aq k5];exact⟨fun _=>⟨rfl,rfl⟩,fun _=>⟨rfl,rfl,rfl⟩⟩
   rw[an k5]
   by_cases k6:(atI p c.s.pc).kind=6
   ·rw[aq k6];exact⟨fun _=>⟨rfl,rfl⟩,fun _=>⟨rfl,rfl,rfl⟩⟩
   rw[an k6]
   by_cases k7:(atI p c.s.pc).kind=7
   ·rw[aq k7];exact⟨fun _=>⟨rfl,rfl⟩,fun _=>⟨rfl,rfl,rfl⟩⟩
   rw[an k7]
   by_cases k9:(atI p c.s.pc).kind=9
   ·rw[aq k9];exact⟨fun _=>⟨rfl,rfl⟩,fun _=>⟨rfl,rfl,rfl⟩⟩
   rw[an k9]
   by_cases k8:(atI p c.s.pc).kind=8
   ·rw[aq k8];exact FrE.mk' rfl (by show ¬(atI p c.s.pc).kind=3;omega)
   rw[an k8]
   split
   ·exact⟨fun _=>⟨rfl,rfl⟩,fun _=>⟨rfl,rfl,rfl⟩⟩
   ·exact⟨fun _=>⟨rfl,rfl⟩,fun _=>⟨rfl,rfl,rfl⟩⟩
  exact fun x hx=>(a8.1 hx).elim (h x) fun hx=>(aG.1 hx)▸hE
 ·cases e
theorem Frs.rtO{p:Pg}{c c2:Cf}(h:Frs p c)(e:rtO p c=some c2):Frs p c2:=by
 unfold Px.rtO at e
 split at e
 ·cases e
  have hpop: ∀x∈co c.b,FrE p x:=fun x hx=>by
   obtain⟨e,he,rfl⟩:=rc hx
   exact(h e he).pop
  have hnil: ∀x∈([]:List En),FrE p x:=fun x hx=>absurd hx g6
  unfold rtV
  split
  ·exact hnil
  split
  ·exact hnil
  split
  ·exact hpop
  split
  ·exact hpop
  split
  ·exact hpop
  split
  ·exact hpop
  ·exact hpop
 ·cases e
theorem Frs.sayO{p:Pg}{c c2:Cf}{o:List Ob}(h:Frs p c){d:Dr}(e:sayO p c d=some (c2,o)):Frs p c2:=by
 unfold Px.sayO at e
 split at e
 ·cases hq:Px.ftO p c d.n with
  |none=>rw[hq] at e;cases e
  |some x=>rw[hq] at e;cases e;exact h.ftO hq
 ·split at e
  ·exact h.doO e
  ·split at e
   ·exact h.adrO e
   ·split at e
    ·split at e
     ·cases hq:Px.rtO p c with
      |none=>rw[hq] at e;cases e
      |some x=>rw[hq] at e;cases e;exact h.rtO hq
     ·cases e
    ·cases e
theorem tz{p:Pg}{l:List Int}: ∀j i c o,Frs p c->Frs p (wkR p l j i c o).1
 |0,i,c,o,h=>h
 |j+1,i,c,o,h=>by
  unfold wkR
  split
  ·exact h
  ·cases e:sayO p c (wkD p l c i) with
   |none=>exact h
   |some x=>exact tz j (i+1) x.1 _ (h.sayO (o:=x.2) e)
theorem Ag(m z w:List Int):Frs (bz m) (wkC m z w):=tz _ _ _ _ fun x hx=>absurd hx g6
structure XOk (p:Pg) (c:Cf):Prop where
 I:Inv p c
 F:Frs p c
structure BOk (p:Pg) (c:Cf):Prop where
 P:OkP p
 x:XOk p c
 w:p.win<=90
theorem BOk.m{p:Pg}{c:Cf}(h:BOk p c):MOk p c:=h.x.I.ok h.P (by have:=h.w;omega)
theorem BOk.bl{p:Pg}{c:Cf}(h:BOk p c):c.b.length<=90:=by
 have h1:=h.x.I.bl
 have h2:=h.w
 omega
theorem BOk.ml{p:Pg}{c:Cf}(h:BOk p c):c.s.m.length<=16:=h.x.I.ml▸h.P.sum
theorem XOk.ok{p:Pg}{c:Cf}(h:XOk p c)(hP:OkP p)(hw:p.win<=90):BOk p c:=⟨hP,h,hw⟩
theorem XOk.beg{p:Pg}{c:Cf}(h:Inv p c)(hb:c.b=[]):XOk p c:=⟨h,fun x hx=>by rw[hb] at hx;exact absurd hx g6⟩
theorem XOk.ftO{p:Pg}{c c2:Cf}{g:Int}(hP:OkP p)(h:XOk p c)(e:ftO p c g=some c2):XOk p c2:=⟨Inv.ftO hP h.I e,h.F.ftO e⟩
theorem XOk.doO{p:Pg}{c c2:Cf}{o:List Ob}(hP:OkP p)(hw:p.win<=90)(h:XOk p c){i:Int}(e:doO p c i=some (c2,o)):XOk p c2:=⟨Inv.doO hP (by omega) h.I e,h.F.doO e⟩
theorem XOk.adrO{p:Pg}{c c2:Cf}{o:List Ob}(hP:OkP p)(h:XOk p c){i:Int}(e:adrO p c i=some (c2,o)):XOk p c2:=⟨Inv.adrO hP h.I e,h.F.adrO e⟩
theorem C2(m z w:List Int):XOk (bz m) (wkC m z w):=⟨gB m z w,Ag m z w⟩
theorem tC(m z w:List Int):BOk (bz m) (wkC m z w):=⟨eO m,C2 m z w,by have:=eN m;omega⟩
theorem uV{l:List En}{k i j:Nat}(h:i<k):ao enC l i j=ao enC (l.take k) i j:=by
 unfold ao
 rw[au,au,aZ,aq h]
theorem cP{l:List En}{c j:Nat}(h:j<c):(l.take c).getD j default=l.getD j default:=by
 rw[au,au,aZ,aq h]
theorem Nd(p:Pg)(pc:Int)(h0:0<=pc)(h1:pc<p.is.length):Vc (vF_ 84 [.agg (pgA p), aI pc] [.fz,.bd false,.bd false] [] (.agg (inA (p.is.getD pc.toNat default))) []):=aj (cj (df (pc<0)) (cj (df (pc>=(↑p.is.length:Int))) (cj (bi pc p.is.length) (cj (rf ((p.is.getD (Int.toNat pc) default).kind)) (cj (rf ((p.is.getD (Int.toNat pc) default).op)) (cj (rf ((p.is.getD (Int.toNat pc) default).d)) (cj (rf ((p.is.getD (Int.toNat pc) default).a.reg)) (cj (rf ((p.is.getD (Int.toNat pc) default).a.n)) (cj (rf ((p.is.getD (Int.toNat pc) default).b.reg)) (cj (rf ((p.is.getD (Int.toNat pc) default).b.n)) (cj (rf ((p.is.getD (Int.toNat pc) default).nm)) (cj (rf ((p.is.getD (Int.toNat pc) default).tg)) trivial))))))))))))
theorem IC{Z:Prop}(z:Z):(RF (12:Int) (RF (0:Int) (RF (0:Int) (RF false (RF (0:Int) (RF false (RF (0:Int) (RF (ByteArray.mk (Array.mk [])) (RF (0:Int) Z))))))))):=⟨rfl,rfl,rfl,rfl,rfl,rfl,rfl,rfl,rfl,z⟩
theorem Hl(p:Pg)(pc:Int)(h0: ¬0<=pc):Vc (vF_ 84 [.agg (pgA p), aI pc] [.fz,.bd true] [] (.agg (inA {In0 with kind:=12})) []):=aj (cj (dt (pc<0)) (IC trivial))
theorem Hj(p:Pg)(pc:Int)(h0:0<=pc)(h1: ¬pc<p.is.length):Vc (vF_ 84 [.agg (pgA p), aI pc] [.fz,.bd false,.bd true] [] (.agg (inA {In0 with kind:=12})) []):=aj (cj (df (pc<0)) (cj (dt (pc>=(↑p.is.length:Int))) (IC trivial)))
theorem atC(p:Pg)(pc:Int):pC_ 84 [.agg (pgA p),.int .i64 pc] (.agg (inA (atI p pc))) []:=by
 by_cases h0:0<=pc
 ·by_cases h1:pc<p.is.length
  ·rw[s9 h0 h1];exact PureC.vc (Nd p pc h0 h1)
  ·rw[kL fun h=>h1 h.2];exact PureC.vc (Hj p pc h0 h1)
 ·rw[kL fun h=>h0 h.1];exact PureC.vc (Hl p pc h0)
theorem G5(l:List En)(n:Int)(k:Nat)(hE:(if(l.length:Int)<(if n<0 then 0 else n) then(l.length:Int) else(if n<0 then 0 else n))=(k:Int))(hkl:k<=l.length)(hb:l.length<1000000):Vc (vF_ 69 [enR l, aI n] [] [(0,0)] (.own 0 0 8 0 (l.take k).length) [enB (l.take k)]):=aj (cj (show((0:Int)<=if(l.length:Int)<if n<0 then(0:Int) else n then(l.length:Int) else if n<0 then(0:Int) else n)∧(if(l.length:Int)<if n<0 then(0:Int) else n then(l.length:Int) else if n<0 then(0:Int) else n)<=(l.length:Int) from by rw[hE];omega) (cj (show Int.toNat (if(l.length:Int)<if n<0 then(0:Int) else n then(l.length:Int) else if n<0 then(0:Int) else n)*48<=140737488355328∧Int.toNat (if(l.length:Int)<if n<0 then(0:Int) else n then(l.length:Int) else if n<0 then(0:Int) else n)<=140737488355328 from by rw[hE,aC];omega) (cj (show Int.toNat (if(l.length:Int)<if n<0 then(0:Int) else n then(l.length:Int) else if n<0 then(0:Int) else n)=(List.take k l).length from by rw[hE,aM,aC];omega) (cj (show ∀(i:Nat),i<Int.toNat (if(l.length:Int)<if n<0 then(0:Int) else n then(l.length:Int) else if n<0 then(0:Int) else n)-> ∀(j:Nat),j<8->ao enC l i j=ao enC (List.take k l) i j from(fun i hi j hj=>by rw[hE,aC] at hi;exact uV hi)) (cj (rf (0:Nat)) (cj (show Int.toNat (if(l.length:Int)<if n<0 then(0:Int) else n then(l.length:Int) else if n<0 then(0:Int) else n)=(List.take k l).length from by rw[hE,aM,aC];omega) trivial))))))
theorem PD(l:List En)(n:Int)(k:Nat)(hk:(k:Int)=min (max n 0) (l.length:Int))(hb:l.length<1000000):pC_ 69 [enR l,.int .i64 n] (.own 0 0 8 0 (l.take k).length) [enB (l.take k)]:=by
 refine PureC.vc (G5 l n k ?_ (by omega) hb)
 rw[hk]
 repeat' split
 all_goals omega
theorem s6(l:List En)(n:Int)(k:Nat)(hk:(k:Int)=min (max n 0) (l.length:Int))(hb:l.length<1000000):pC_ 69 [enR l,.int .i64 n] (enR (l.take k)) []:=(PD l n k hk hb).frozen
theorem Eu{k:Nat}(h:1<=k∧k<=16):IntKind.i64.wrap (1*2^min ((k:Int)).toNat IntKind.i64.bits)=Wd.sizeV (k:Int):=by
 rcases (by omega:k=1∨k=2∨k=3∨k=4∨k=5∨k=6∨k=7∨k=8∨k=9∨k=10∨k=11∨k=12∨k=13∨k=14∨k=15∨k=16) with rfl |rfl |rfl |rfl |rfl |rfl |rfl |rfl |rfl |rfl |rfl |rfl |rfl |rfl |rfl |rfl<;>decide
theorem yl{k:Nat}(h:1<=k∧k<=16)(n:Int):bits .and .i64 n (Wd.sizeV (k:Int)-1)=Wd.maskV (k:Int) n:=by
 have h1:Wd.okB (k:Int)=true:=Wd.okB_iff.2 (by omega)
 have:=Wd.bits_mask n k h.2
 simp only[Wd.sizeV,Wd.maskV,h1,if_true,aC]
 exact this
theorem wI(k:Nat)(h:1<=k∧k<=16):Vc (vF_ 98 [aI k] [.bd true,.bd true] [] (.bool true) []):=aj (cj (dt ((1:Int)<=k)) (cj (dt ((k:Int)<=16)) (cj (rf true) trivial)))
theorem wK(w:Int)(h:w<1):Vc (vF_ 98 [aI w] [.bd false] [] (.bool false) []):=aj (cj (df ((1:Int)<=w)) (cj (rf false) trivial))
theorem wL(w:Int)(h:16<w):Vc (vF_ 98 [aI w] [.bd true,.bd false] [] (.bool false) []):=aj (cj (dt ((1:Int)<=w)) (cj (df (w<=16)) (cj (rf false) trivial)))
theorem wE(k:Nat)(h:1<=k∧k<=16):Vc (vF_ 99 [aI k] [.cl [aI k] (.bool true) []] [] (aI (Wd.sizeV k)) []):=aj (cj (rf (k:Int)) (cj (PureC.vc (wI k h)) (cj (pv ((0:Int)<=k)) (cj (show IntKind.wrap IntKind.i64 ((1:Int)*2^Min.min k (64:Nat))=Wd.sizeV (k:Int) from(Eu h)) trivial))))
theorem Ae(k:Nat)(n:Int)(h:1<=k∧k<=16):Vc (vF_ 86 [aI k, aI n] [.cl [aI k] (.bool true) [],.cl [aI k] (aI (Wd.sizeV k)) []] [] (aI (Wd.maskV k n)) []):=aj (cj (rf (k:Int)) (cj (PureC.vc (wI k h)) (cj (rf (k:Int)) (cj (PureC.vc (wE k h)) (cj (show inK IntKind.i64 (Wd.sizeV (k:Int)-1) from by have:=Wd.sizeV_bd (k:Int);exact fB (by omega) (by omega)) (cj (show Go.bits Go.BinOp.and IntKind.i64 n (Wd.sizeV (k:Int)-1)=Wd.maskV (k:Int) n from(yl h n)) trivial))))))
theorem Af(w n:Int)(hm:Wd.maskV w n=0)(h:pC_ 98 [aI w] (.bool false) []):Vc (vF_ 86 [aI w, aI n] [.cl [aI w] (.bool false) []] [] (aI (Wd.maskV w n)) []):=aj (cj (rf w) (cj h (cj (show(0:Int)=Wd.maskV w n from hm.symm) trivial)))
theorem ca(w n:Int):pC_ 86 [.int .i64 w,.int .i64 n] (.int .i64 (Wd.maskV w n)) []:=by
 by_cases h:1<=w∧w<=16
 ·obtain⟨k,rfl⟩: ∃k:Nat,w=(k:Int):=⟨w.toNat,by omega⟩
  exact PureC.vc (Ae k n (by omega))
 ·refine PureC.vc (Af w n (rn h) ?_)
  by_cases h1:w<1
  ·exact PureC.vc (wK w h1)
  ·exact PureC.vc (wL w (by omega))
end
end Go.Proofs.YtlfldlnohmobmaaGreat.Px
namespace Go.Proofs.YtlfldlnohmobmaaGreat.Rx
section
open Go.RowKit
section
variable{P:Program}{ops:Array Oper}{Q:Exit->Act->World->Prop}{r n:Nat}
theorem Aj{o:Oper}{a:Act}{K K':Act->World->Prop}(hK: ∀a w,K a w->K' a w)(res:Result Next)(h:o.upon P a K Q res):o.uponIn (Fence.wide.inRound r) n P a K' Q res:=by
 cases res with
 |ok x w'=>
  cases x<;>simp only[Oper.upon,Oper.uponIn] at h ⊢
  case value=>exact hK _ _ h
  case skip=>exact hK _ _ h
  case defer=>exact hK _ _ h
  case enter f args=>exact⟨by simp[Fence.wide,Fence.inRound],CallsIn.inRound r (callsIn_wide.2 (h.mono fun e w'' he=>by cases e<;>first |exact hK _ _ he |exact he))⟩
  case row row args=>exact⟨by simp[Fence.wide,Fence.inRound],fun c cs _=>let⟨v,w'',q,s⟩:=h c cs;⟨v,w'',hK _ _ q,stepsIn_wide.2 s⟩⟩
  all_goals exact h
 |halt x w'=>cases x<;>simp only[Oper.upon,Oper.uponIn] at h ⊢ <;>exact h
def kx(ops:Array Oper):Bool:=ops.toList.all fun o=>match o.op with | .defer _=>false |_=>true
theorem sM{i:Nat}{o:Oper}(h:kx ops=true)(ho:ops[i]? =some o): ∀c,o.op≠ .defer c:=fun c e=>by
 unfold kx at h
 rw[aN] at h
 have:=h o (by have:=gy ho;simpa using this)
 rw[e] at this
 simp at this
theorem fJ(hL: ¬LetsOut Q)(hd:kx ops=true): ∀(l:List Nat) (a:Act) (w:World),wpOps P ops Q l a w->wpOpsIn (Fence.wide.inRound r) n P ops Q l a w
 | [],a,w,h=>h
 |i::l,a,w,h=>by
  unfold wpOps at h
  unfold wpOpsIn
  cases ho:ops[i]? with
  |none=>rw[ho] at h;exact fJ hL hd l a w h
  |some o=>
   rw[ho] at h
   simp only at h ⊢
   split
   ·rename_i hw
    rw[aq hw] at h
    rcases h with h |h
    ·refine⟨fun f _=>trivial, ?_⟩
     rw[show Oper.semAt (Fence.wide.inRound r).round a.eval o=execOp a.eval o from Oper.semAt_eq _ _ _ (sM hd ho)]
     exact Aj (fun a w=>fJ hL hd l a w) _ h
    ·exact absurd h.2 hL
   ·rename_i hw
    rw[an hw] at h
    exact⟨fun f _=>trivial,fJ hL hd l _ w h⟩
theorem wH{id:Nat}{a:Act}{w:World}(hL: ¬LetsOut Q)(hd:kx ops=true)(hm:P.follows .mixedOrders=true)
  (h:wpAny P .any ops Q ops.size (Array.replicate ops.size false) a {w with drawn:=w.drawn+1}):(Code.region id ops true).wpIn (Fence.wide.inRound r) n P Q a w:=
 wpIn_region_draw fun t=>by
  simp only[Region.schedule,hm,jo,if_true]
  exact fJ hL hd _ a _ (wpAny_sound ops.size t _ a _ h)
end
def fO:Code->Bool
 | .skip | .exit _ | .ret=>true
 | .region _ ops _=>kx ops
 | .seq a b | .cond _ a b=>fO a&&fO b
 | .block _ c=>fO c
 |_=>false
section
variable{P:Program}
abbrev c8:Dfs:=⟨[]⟩
theorem cv{md:Bool}{call:cR}(hcall:fg P call){nt l n:Nat}: ∀(c:Code) {st:St} {orc:List Orc} {q:X×St×List Orc×List Prop} {cx:Cx} {a:Act},fO c=true->bZ P (f9 P md) false md call nt c st orc=some q->(∀p∈q.2.2.2,p)-> @SRep c8 cx st a nt->
  ∀Q:Exit->Act->World->Prop, ¬LetsOut Q->(∀cx' a', @SRep c8 cx' q.2.1 a' nt->Stab cx cx'->Q q.1.to a' cx'.w)->c.wpIn (Fence.wide.inRound l) n P Q a cx.w
 | .skip,st,orc,q,cx,a,hc,h,hp,hs,Q,hL,hQ=>by
  simp only[bZ,ai] at h;subst h
  exact wpIn_skip (hQ cx a hs (Stab.refl cx))
 | .region id ops draw,st,orc,q,cx,a,hc,h,hp,hs,Q,hL,hQ=>by
  have hreg: ∀{orc':List Orc} {q1:St×List Orc×List Prop},nK P (f9 P md) md call nt ops draw st orc'=some q1->(∀p∈q1.2.2,p)->(∀cx' a', @SRep c8 cx' q1.1 a' nt->Stab cx cx'->Q .normal a' cx'.w)->(Code.region id ops draw).wpIn (Fence.wide.inRound l) n P Q a cx.w:=by
   intro orc' q1 hq1 hp1 hQ1
   unfold nK at hq1
   cases draw with
   |true=>
    obtain⟨h1,h2⟩:= @pm P c8 md call hcall nt ops st orc' q1 cx a hq1 hp1 hs Q hQ1
    exact wH hL hc h1 h2
   |false=>exact wpIn_region (fJ hL hc _ a _ (@f7 P c8 md call hcall nt ops Q _ _ _ _ _ _ hq1 hp1 hs hQ1))
  unfold bZ at h
  split at h
  ·simp at h
  ·cases hdw:draw with
   |true=>rw[hdw] at h;simp at h
   |false=>
    rw[hdw] at h
    simp only[bh] at h
    obtain⟨q1,hq1,rfl⟩:=af.1 h
    rw[<-hdw] at hq1 ⊢
    exact hreg hq1 hp hQ
  ·obtain⟨q1,hq1,rfl⟩:=af.1 h
   exact hreg hq1 hp hQ
 | .seq c d,st,orc,q,cx,a,hc,h,hp,hs,Q,hL,hQ=>by
  unfold bZ at h
  rw[fO,av] at hc
  obtain⟨q1,hq1,h1⟩:=ah.1 h
  clear h
  refine wpIn_seq ?_
  split at h1
  ·rename_i hx
   obtain⟨q2,hq2,rfl⟩:=af.1 h1
   refine cv hcall c hc.1 hq1 (fun p hp'=>hp p (by simp[hp'])) hs _ (fun⟨a,w,h⟩=>hL ⟨a,w,h⟩) fun cx1 a1 hs1 ha1=> ?_
   rw[hx]
   exact cv hcall d hc.2 hq2 (fun p hp'=>hp p (by simp[hp'])) hs1 Q hL fun cx2 a2 hs2 ha2=>hQ cx2 a2 hs2 (ha1.trans ha2)
  ·rename_i hx
   simp only[ai] at h1;subst h1
   refine cv hcall c hc.1 hq1 hp hs _ (fun⟨a,w,h⟩=>hL ⟨a,w,h⟩) fun cx1 a1 hs1 ha1=> ?_
   have:=hQ cx1 a1 hs1 ha1
   cases hxx:q1.1 with
   |nrm=>exact absurd hxx hx
   |ext id=>rw[hxx] at this;exact this
   |ret=>rw[hxx] at this;exact this
 | .cond x c d,st,orc,q,cx,a,hc,h,hp,hs,Q,hL,hQ=>by
  unfold bZ at h
  rw[fO,av] at hc
  split at h
  ·simp at h
  split at h
  ·rename_i t ht
   have hr:=iM (cx:=cx) (a:=a) (@SRep.env c8 _ _ _ _ hs) x
   rw[ht] at hr
   have hv:=hr.bool_inv
   split at h
   ·rename_i t' orc' _
    obtain⟨q1,hq1,rfl⟩:=af.1 h
    have e:=hp (t=t') (by simp)
    subst e
    refine wpIn_cond hv ?_
    cases t with
    |true=>exact cv hcall c hc.1 hq1 (fun p hp'=>hp p (by simp[hp'])) hs Q hL hQ
    |false=>exact cv hcall d hc.2 hq1 (fun p hp'=>hp p (by simp[hp'])) hs Q hL hQ
   ·refine wpIn_cond hv ?_
    cases t with
    |true=>exact cv hcall c hc.1 h hp hs Q hL hQ
    |false=>exact cv hcall d hc.2 h hp hs Q hL hQ
  ·cases h
 | .block id c,st,orc,q,cx,a,hc,h,hp,hs,Q,hL,hQ=>by
  unfold bZ at h
  split at h
  ·simp at h
  obtain⟨q1,hq1,h1⟩:=af.1 h
  clear h
  refine wpIn_block ?_
  have hcs:q1.2.2.2=q.2.2.2∧q1.2.1=q.2.1:=by
   rw[<-h1]
   cases hx:q1.1 with
   |nrm=>exact⟨rfl,rfl⟩
   |ext i=>
    simp only
    cases Nat.beq i id<;>exact⟨rfl,rfl⟩
   |ret=>exact⟨rfl,rfl⟩
  refine cv hcall c (by simpa [fO] using hc) hq1 (by rw[hcs.1];exact hp) hs _ (fun⟨a,w,h⟩=>hL ⟨a,w,h⟩) fun cx1 a1 hs1 ha1=> ?_
  have:=hQ cx1 a1 (by rw[<-hcs.2];exact hs1) ha1
  cases hx:q1.1 with
  |nrm=>
   rw[hx] at h1
   simp only at h1
   rw[<-h1,hx] at this
   exact this
  |ext i=>
   rw[hx] at h1
   simp only at h1
   cases hb:Nat.beq i id with
   |true=>
    rw[hb] at h1
    simp only[aU] at h1
    have e:=ar hb
    subst e
    rw[<-h1] at this
    simp only[X.to,Exit.inBlock,if_true]
    exact this
   |false=>
    rw[hb] at h1
    simp only[bh] at h1
    rw[<-h1,hx] at this
    have hne: ¬i=id:=fun e=>by rw[e,dc] at hb;cases hb
    simp only[X.to,Exit.inBlock,hne,if_false]
    exact this
  |ret=>
   rw[hx] at h1
   simp only at h1
   rw[<-h1,hx] at this
   exact this
 | .exit id,st,orc,q,cx,a,hc,h,hp,hs,Q,hL,hQ=>by
  simp only[bZ,ai] at h;subst h
  exact wpIn_exit (hQ cx a hs (Stab.refl cx))
 | .ret,st,orc,q,cx,a,hc,h,hp,hs,Q,hL,hQ=>by
  simp only[bZ,ai] at h;subst h
  exact wpIn_ret (hQ cx a hs (Stab.refl cx))
 | .loop _,st,orc,q,cx,a,hc,h,hp,hs,Q,hL,hQ=>by cases hc
 | .rangeFunc ..,st,orc,q,cx,a,hc,h,hp,hs,Q,hL,hQ=>by cases hc
 | .scope _,st,orc,q,cx,a,hc,h,hp,hs,Q,hL,hQ=>by cases hc
 | .label _,st,orc,q,cx,a,hc,h,hp,hs,Q,hL,hQ=>by cases hc
 | .goto _,st,orc,q,cx,a,hc,h,hp,hs,Q,hL,hQ=>by cases hc
 | .refuse _,st,orc,q,cx,a,hc,h,hp,hs,Q,hL,hQ=>by cases hc
end
end
section
open Go.RowKit
def zH(P:Program)(gf:FuncId)(caps:List AV)(N:Nat)(xs:Nat->List AV):Prop:=
 ∀(w:World) (R:Nat->Prop) (vs:Array Value),(∀g,R g->g<w.heap.size)->caps.length=vs.size->(∀(j:Nat) a v,caps[j]? =some a->vs[j]? =some v->RepP w R a v)->
  ∀(n l:Nat) (J:Nat->World->Prop) (Jx:World->Prop),(∀k W W',J k W->Below W.heap.size W W'->J k W')->(∀k W,J k W-> ∀g,R g->W.heap[g]? =w.heap[g]?)->
   (∀k W (us:Array Value),J k W->k<N->(xs k).length=us.size->(∀(j:Nat) a u,(xs k)[j]? =some a->us[j]? =some u->RepP W R a u)->
    YieldAt Fence.wide (n-1) P l us W fun e W'=>(e= .returned (.bool true)∧J (k+1) W')∨(e= .returned (.bool false)∧Jx W'))->
   ∀W,J 0 W->CallsIn Fence.wide n P gf (#[.func (.yield l) #[] #[]]++vs) W fun e W'=>(∃v,e= .returned v)∧(J N W'∨Jx W')
structure BSt (cx cx':Cx):Prop where
 ext:Ext cx cx'
 box: ∀id b,cx.H id=some b->b.c.isBox=true-> ∃b',cx'.H id=some b'∧b'.c.isBox=true∧cx'.φ id=cx.φ id
theorem Stab.bst{cx cx':Cx}(h:Stab cx cx'):BSt cx cx':=⟨h.ext,fun id b hb hx=>by
 obtain⟨b',h1,h2,h3⟩:=h.ids id b hb
 obtain⟨h4,h5⟩:=h2 (h3 hx)
 exact⟨b',h1,h5.box hx,h4⟩⟩
theorem BSt.trans{a b c:Cx}(h:BSt a b)(k:BSt b c):BSt a c:=⟨h.ext.trans k.ext,fun id x hx hb=>by
 obtain⟨y,h1,h2,h3⟩:=h.box id x hx hb
 obtain⟨z,k1,k2,k3⟩:=k.box id y h1 h2
 exact⟨z,k1,k2,k3.trans h3⟩⟩
def keepC:AV->Bool
 | .own .. | .eptr .. | .agg _ | .tup _ | .clo _ (_::_)=>false
 |_=>true
def nz:AV->Bool
 | .agg cs=>cs.all keepC
 | .tup cs=>cs.all keepC
 | .clo _ cs=>cs.all keepC
 |a=>keepC a
theorem Rep.keepC{cx cx':Cx}{a:AV}{v:Value}(h:Rep cx a v)(ha:Rx.keepC a=true)(hc:CRep cx)(hs:BSt cx cx'):Rep cx' a v:=by
 cases h with
 |pure h=>exact .pure (h.ext hc hs.ext)
 |bptr hb hx hg=>
  obtain⟨b',h1,h2,h3⟩:=hs.box _ _ hb hx
  exact .bptr h1 h2 (h3.trans hg)
 |bsl hb hx hg=>
  obtain⟨b',h1,h2,h3⟩:=hs.box _ _ hb hx
  exact .bsl h1 h2 (h3.trans hg)
 |eptr hb hle ho h=>cases ha
 |own hb hle ho h=>cases ha
 |agg hl h1 h=>cases ha
 |tup hl h=>cases ha
 | @clo f cs vs hl h=>
  cases cs with
  |nil=>exact .clo hl fun j a v hj=>by simp at hj
  |cons c cs=>cases ha
theorem Rep.keep{cx cx':Cx}{a:AV}{v:Value}(h:Rep cx a v)(ha:nz a=true)(hc:CRep cx)(hs:BSt cx cx'):Rep cx' a v:=by
 cases h with
 |agg hl h1 h=>exact .agg hl h1 fun j a v hj hv=>(h j a v hj hv).keepC (aN.1 ha a (aT hj)) hc hs
 |tup hl h=>exact .tup hl fun j a v hj hv=>(h j a v hj hv).keepC (aN.1 ha a (aT hj)) hc hs
 |clo hl h=>exact .clo hl fun j a v hj hv=>(h j a v hj hv).keepC (aN.1 ha a (aT hj)) hc hs
 |pure h=>exact .pure (h.ext hc hs.ext)
 |bptr hb hx hg=>exact(Rep.bptr hb hx hg).keepC rfl hc hs
 |bsl hb hx hg=>exact(Rep.bsl hb hx hg).keepC rfl hc hs
 |eptr hb hle ho h=>cases ha
 |own hb hle ho h=>cases ha
def vz(env:Nat->AV):List Nat->List AV->(Nat->AV)
 |p::ps,x::xs=>vz (upd env p x) ps xs
 |_,_=>env
def ut(r:List (Nat×Nat))(Hk Hk':List (Nat×Blk)):Bool:=Hk.all fun q=> !q.2.c.isBox||(match bc r q.1,bc Hk' q.1 with
 |some i,some b=>Nat.beq i q.1&&b.c.isBox
 |_,_=>false)
theorem s8{r:List (Nat×Nat)}{Hk Hk':List (Nat×Blk)}(h:ut r Hk Hk'=true){id:Nat}{b:Blk}(hb:bc Hk id=some b)(hx:b.c.isBox=true):bc r id=some id∧ ∃b',bc Hk' id=some b'∧b'.c.isBox=true:=by
 have:=aN.1 h _ (dP hb)
 simp only[hx,Bool.not_true,dN] at this
 split at this
 ·rename_i i b' h1 h2
  rw[av] at this
  rw[ar this.1] at h1
  exact⟨h1,b',h2,this.2⟩
 ·cases this
def zF(P:Program)(nt:Nat)(c:Code)(st:St)(x:X)(st':St):Prop:=
 ∀(l n:Nat) (cx:Cx) (a:Act), @SRep c8 cx st a nt-> ∀Q:Exit->Act->World->Prop, ¬LetsOut Q->(∀cx' a', @SRep c8 cx' st' a' nt->Stab cx cx'->Q x.to a' cx'.w)->c.wpIn (Fence.wide.inRound l) n P Q a cx.w
def Rnd(P:Program)(nt:Nat)(ps:List Nat)(xk:List AV)(assign body:Code)(I:Sm)(Hk:List (Nat×Blk))(x:X)(Hk':List (Nat×Blk)):Prop:=
 ∃st1 st2 r qs,zF P nt assign ⟨vz I.st.env ps xk,bc Hk,I.next⟩ .nrm st1∧zF P nt body st1 x st2∧ut r Hk Hk'=true∧leS r st2 ⟨[],Hk',I.next⟩=some qs∧ ∀p∈qs,p
def oN(P:Program)(md:Bool)(nt:Nat)(ps:List Nat)(xk:List AV)(assign body:Code)(I:Sm)(Hk:List (Nat×Blk))(orc:List Orc)(x:X)(r:List (Nat×Nat))(Hk':List (Nat×Blk)):Prop:=
 match bZ P (f9 P md) false md (lX P (ly P (f9 P md) md 100 false)) nt assign ⟨vz I.st.env ps xk,bc Hk,I.next⟩ orc with
 |some q=>match bZ P (f9 P md) false md (lX P (ly P (f9 P md) md 100 false)) nt body q.2.1 q.2.2.1 with
  |some q2=>bif fO assign&&fO body&&eqX q.1 .nrm&&eqX q2.1 x&&ut r Hk Hk' then match leS r q2.2.1 ⟨[],Hk',I.next⟩ with
   |some qs=>oC (q.2.2.2++q2.2.2.2++qs)
   |none=>False
   else False
  |none=>False
 |none=>False
section
variable{P:Program}
theorem Rnd.vc{md:Bool}{nt:Nat}{ps:List Nat}{xk:List AV}{assign body:Code}{I:Sm}{Hk Hk':List (Nat×Blk)}{orc:List Orc}{x:X}{r:List (Nat×Nat)}(h:Vc (oN P md nt ps xk assign body I Hk orc x r Hk')):Rnd P nt ps xk assign body I Hk x Hk':=by
 replace h:=h.out
 unfold oN at h
 split at h
 ·rename_i q hq
  split at h
  ·rename_i q2 hq2
   cases hb:fO assign&&fO body&&eqX q.1 .nrm&&eqX q2.1 x&&ut r Hk Hk' with
   |false=>rw[hb] at h;exact h.elim
   |true=>
    rw[hb] at h
    simp only[aU] at h
    simp only[av] at hb
    obtain⟨⟨⟨⟨b1,b2⟩,b3⟩,b4⟩,b5⟩:=hb
    split at h
    ·rename_i qs hqs
     have hall:=gx h
     refine⟨q.2.1,q2.2.1,r,qs,fun l n cx a hs Q hL hQ=> ?_,fun l n cx a hs Q hL hQ=> ?_,b5,hqs,fun p hp=>hall p (by simp[hp])⟩
     ·exact cv (jS 100) assign b1 hq (fun p hp=>hall p (by simp[hp])) hs Q hL (by rw[s3 b3];exact hQ)
     ·exact cv (jS 100) body b2 hq2 (fun p hp=>hall p (by simp[hp])) hs Q hL (by rw[s3 b4];exact hQ)
    ·cases h
  ·cases h
 ·cases h
theorem rP{cx:Cx}: ∀(ps:List Nat) (xs:List AV) (us:List Value) (env:Nat->AV) (t:Array Value),xs.length=us.length->ps.length=us.length->(∀p∈ps,p<t.size)->(∀i,Rep cx (env i) (t.getD i undef))->(∀(j:Nat) a u,xs[j]? =some a->us[j]? =some u->Rep cx a u)->
  ∀i,Rep cx (vz env ps xs i) (((ps.zip us).foldl (fun t q=>t.setIfInBounds q.1 q.2) t).getD i undef)
 | [],xs,us,env,t,h1,h2,hp,he,hx,i=>by cases xs<;>simpa [vz] using he i
 |p::ps,[],us,env,t,h1,h2,hp,he,hx,i=>by simp at h1 h2;omega
 |p::ps,x::xs,[],env,t,h1,h2,hp,he,hx,i=>by simp at h2
 |p::ps,x::xs,u::us,env,t,h1,h2,hp,he,hx,i=>by
  refine rP ps xs us (upd env p x) (t.setIfInBounds p u) (by simpa using h1) (by simpa using h2) (fun q hq=>by rw[fD];exact hp q (by simp[hq])) (fun k=> ?_) (fun j a v ha hv=>hx (j+1) a v (by simpa using ha) (by simpa using hv)) i
  rw[aY,eE]
  by_cases e:k=p
  ·subst e
   rw[ba]
   have:=hp k (by simp)
   simpa [this] using hx 0 x u rfl rfl
  ·rw[aV _ _ _ _ e]
   have e': ¬p=k:=fun h=>e h.symm
   simp only[e',if_false]
   rw[<-aY]
   exact he k
theorem pd: ∀(l:List (Nat×Value)) (t:Array Value),(l.foldl (fun t q=>t.setIfInBounds q.1 q.2) t).size=t.size
 | [],t=>rfl
 |q::l,t=>by rw[List.foldl_cons,pd l,fD]
def b6(fn:FuncId)(a:Act)(ps:Array Tmp)(assign body:Code)(D:Nat)(st:LoopState)(pe:Option Code):Loop:={state:=st,pending:=pe,fn,tmps:=a.tmps,params:=ps,assign,body,defers:=D}
def G1(P:Program)(l:Nat)(jump:Option Code)(w:World)(R:Ending->World->Prop):Prop:= ∃v w',(Instr.endRound l jump).run P w= .ok v w'∧R (.returned v) w'
structure Btw (P:Program) (cx0:Cx) (I:Sm) (a:Act) (nt:Nat) (l D:Nat) (rec:Loop) (Hk:List (Nat×Blk)) (W:World) (cx:Cx):Prop where
 w:cx.w=W
 s: @SRep c8 cx ⟨I.st.env,bc Hk,I.next⟩ a nt
 bst:Ext cx0 cx
 hl:W.heap[l]? =some (.loop rec)
 hR: ¬cx.R l
 hD:W.heap[D]? =some (.deferred (some []))
 hRD: ¬cx.R D
theorem SRep.moved{d:Dfs}{cx cx':Cx}{st:St}{a:Act}{nt:Nat}(hs: @SRep d cx st a nt)(hc:CRep cx')(h:Stab cx cx')(hH:cx'.H=cx.H:=by rfl): @SRep d cx' st a nt:=
 ⟨hH.trans hs.H,hc,fun t=>(hs.env t).stab hs.c h,hs.lt,hs.sz,hs.df⟩
theorem Btw.below{cx0:Cx}{I:Sm}{a:Act}{nt l D:Nat}{rec:Loop}{Hk:List (Nat×Blk)}{W W':World}{cx:Cx}(h:Btw P cx0 I a nt l D rec Hk W cx)(hb:Below W.heap.size W W'):Btw P cx0 I a nt l D rec Hk W' ⟨W',cx.R,cx.φ,cx.H,cx.B⟩:=by
 have hw:=h.w
 subst hw
 obtain⟨k1,k2⟩:=g4 (@SRep.c c8 _ _ _ _ h.s) hb
 have hk: ∀(g:Nat) (o:Obj),cx.w.heap[g]? =some o->W'.heap[g]? =some o:=fun g o hg=>(hb.block g (aO.1 hg).1).trans hg
 exact⟨rfl,h.s.moved k1 k2,h.bst.trans k2.ext,hk _ _ h.hl,h.hR,hk _ _ h.hD,h.hRD⟩
theorem Btw.turn{cx0:Cx}{I:Sm}{a:Act}{nt l D:Nat}{rec:Loop}{Hk:List (Nat×Blk)}{W:World}{cx:Cx}(h:Btw P cx0 I a nt l D rec Hk W cx)(hB: ¬cx.B l)(hne:D≠l)(rec':Loop):Btw P cx0 I a nt l D rec' Hk (W.putObj l (.loop rec')) (cx.poke l (.loop rec')):=by
 have hw:=h.w
 subst hw
 exact⟨rfl, @SRep.poke c8 _ _ _ _ h.s l _ _ h.hl rfl h.hR hB,h.bst.trans (gu _ h.hR hB).ext,World.putObj_heap_same (aO.1 h.hl).1,h.hR,(World.putObj_heap_other hne).trans h.hD,h.hRD⟩
end
end
section
open Go.RowKit
section
variable{P:Program}
theorem Btw.round{nt:Nat}{ps:List Nat}{xk:List AV}{assign body:Code}{I:Sm}{Hk Hk':List (Nat×Blk)}{x:X}(hr:Rnd P nt ps xk assign body I Hk x Hk'){cx0:Cx}{a:Act}{l D fn:Nat}{pa:Array Tmp}{W:World}{cx:Cx}
  (h:Btw P cx0 I a nt l D (b6 fn a pa assign body D .ready none) Hk W cx)(hB: ¬cx.B l)(hBD: ¬cx.B D)(hne:D≠l)(hkeep:(I.env.all fun q=>nz q.2)=true)(hps:ps=pa.toList)(hlt: ∀p∈ps,p<nt)
  {us:Array Value}(hl1:xk.length=us.size)(hl2:xk.length=ps.length)(hu: ∀(j:Nat) a u,xk[j]? =some a->us[j]? =some u->Rep cx a u){m:Nat}{jump:Option Code}(hj:jump=match x with | .nrm=>none | .ext id=>some (.exit id)| .ret=>some .ret):
  YieldAt Fence.wide m P l us W fun e W'=>e= .returned (.bool jump.isNone)∧ ∃cx',Btw P cx0 I a nt l D (b6 fn a pa assign body D (if jump.isNone then .ready else .done) jump) Hk' W' cx'∧cx'.B=cx.B:=by
 have hw:=h.w
 subst hw
 letI:Dfs:=c8
 obtain⟨st1,st2,r,qs,hP1,hP2,hbx,hle,hqs⟩:=hr
 have hs:=h.s
 have hy:=run_yield (P:=P) (args:=us) h.hl (by show us.size=pa.size;rw[<-hl1,hl2,hps,dp])
 refine⟨fn,_,assign,body,hy,roundIn_of_wpIn trivial ?_⟩
 clear hy
 have ha0:(({tmps:=(pa.zip us).foldl (fun t q=>t.setIfInBounds q.1 q.2) a.tmps,defers:=[]}:Act)).tmps.size=nt:=by
  show((pa.zip us).foldl (fun t q=>t.setIfInBounds q.1 q.2) a.tmps).size=nt
  rw[<-Array.foldl_toList,pd]
  exact hs.sz
 have hs1: @SRep c8 cx ⟨vz I.st.env ps xk,bc Hk,I.next⟩ {tmps:=(pa.zip us).foldl (fun t q=>t.setIfInBounds q.1 q.2) a.tmps,defers:=[]} nt:=by
  refine @SRep.mk c8 _ _ _ _ hs.H (@SRep.c c8 _ _ _ _ hs) (fun t=> ?_) hs.lt ha0 rfl
  show Rep cx _ (((pa.zip us).foldl (fun t q=>t.setIfInBounds q.1 q.2) a.tmps).getD t undef)
  rw[<-Array.foldl_toList,Array.toList_zip, <-hps]
  exact rP ps xk us.toList I.st.env a.tmps (by simpa using hl1) (by rw[<-hl2,hl1,dp]) (fun p hp=>by rw[hs.sz];exact hlt p hp) (fun t=> @SRep.env c8 _ _ _ _ hs t) (fun j a u h1 h2=>hu j a u h1 (by simpa using h2)) t
 have hS: ∀E∈[l,D], ¬cx.R E∧ ∃o,cx.w.heap[E]? =some o∧o.isCells=false:=fun E hE=>by
  rcases ch.1 hE with rfl |hE
  ·exact⟨h.hR,_,h.hl,rfl⟩
  ·rw[aG.1 hE];exact⟨h.hRD,_,h.hD,rfl⟩
 refine hP1 l m (cx.plus [l,D]) _ (@SRep.plus c8 _ _ _ _ hs1 [l,D] fun E hE=>(hS E hE).2) _ (by rintro⟨_,_,h⟩;exact h) fun cxa aa hsa hta=> ?_
 have ka:=jD hta.ext hS
 have kl:=ka l (by simp);have kD:=ka D (by simp)
 have hal:cxa.w.heap[l]? =some (.loop (b6 fn a pa assign body D .ready none)):=kl.1.trans h.hl
 have haD:cxa.w.heap[D]? =some (.deferred (some [])):=kD.1.trans h.hD
 have hsa': @SRep c8 (cxa.back cx) st1 aa nt:= @SRep.back c8 _ _ _ _ _ hsa fun g hg=>by rw[hta.ext.B];exact .inl hg
 refine⟨_,run_beginRound hal rfl, ?_⟩
 have hlt1:l<cxa.w.heap.size:=(aO.1 hal).1
 have hsb: @SRep c8 ((cxa.back cx).poke l (.loop (b6 fn a pa assign body D .busy none))) st1 aa nt:= @SRep.poke c8 _ _ _ _ hsa' l _ _ hal rfl kl.2 hB
 have hbl:(cxa.w.putObj l (.loop (b6 fn a pa assign body D .busy none))).heap[l]? =some (.loop (b6 fn a pa assign body D .busy none)):=World.putObj_heap_same hlt1
 have hbD:(cxa.w.putObj l (.loop (b6 fn a pa assign body D .busy none))).heap[D]? =some (.deferred (some [])):=(World.putObj_heap_other hne).trans haD
 have hS2: ∀E∈[l,D], ¬((cxa.back cx).poke l (.loop (b6 fn a pa assign body D .busy none))).R E∧ ∃o,((cxa.back cx).poke l (.loop (b6 fn a pa assign body D .busy none))).w.heap[E]? =some o∧o.isCells=false:=fun E hE=>by
  rcases ch.1 hE with rfl |hE
  ·exact⟨kl.2,_,hbl,rfl⟩
  ·rw[aG.1 hE];exact⟨kD.2,_,hbD,rfl⟩
 have hstb:Stab cx ((cxa.back cx).poke l (.loop (b6 fn a pa assign body D .busy none))):=hta.back.trans (gu _ kl.2 hB)
 refine hP2 l m (((cxa.back cx).poke l (.loop (b6 fn a pa assign body D .busy none))).plus [l,D]) _ (@SRep.plus c8 _ _ _ _ hsb [l,D] fun E hE=>(hS2 E hE).2) _ (by rintro⟨_,_,h⟩;exact h) fun cxc ac hsc htc=> ?_
 obtain⟨m1,m2,m3⟩:=fF (@SRep.c c8 _ _ _ _ hsc) (@SRep.H c8 _ _ _ _ hsc) hle hqs (@SRep.env c8 _ _ _ _ hsc)
 have hre:=gL (@SRep.c c8 _ _ _ _ hsc) r (bc Hk')
 have hed:Ext (((cxa.back cx).poke l (.loop (b6 fn a pa assign body D .busy none))).plus [l,D]) (cxc.ren r (bc Hk')):=htc.ext.trans hre
 have kc:=jD hed hS2
 have ml:=kc l (by simp);have mD:=kc D (by simp)
 have hcl:cxc.w.heap[l]? =some (.loop (b6 fn a pa assign body D .busy none)):=ml.1.trans hbl
 have hcD:cxc.w.heap[D]? =some (.deferred (some [])):=mD.1.trans hbD
 have hbst:BSt cx ((cxc.ren r (bc Hk')).back ((cxa.back cx).poke l (.loop (b6 fn a pa assign body D .busy none)))):=by
  refine⟨hstb.ext.trans hed.back,fun id b hb hx=> ?_⟩
  obtain⟨b1,h1,h2,h3⟩:=hstb.bst.box id b hb hx
  obtain⟨b2,h4,h5,h6⟩:=htc.bst.box id b1 h1 h2
  have hb':bc Hk id=some b:=by rw[<-hb, @SRep.H c8 _ _ _ _ hs]
  obtain⟨q1,b',q2,q3⟩:=s8 hbx hb' hx
  refine⟨b',q2,q3, ?_⟩
  show(bc r id).bind cxc.φ=cx.φ id
  rw[q1]
  exact h6.trans h3
 have hsd: @SRep c8 ((cxc.ren r (bc Hk')).back ((cxa.back cx).poke l (.loop (b6 fn a pa assign body D .busy none)))) ⟨I.st.env,bc Hk',I.next⟩ a nt:=by
  have hB2: ∀g,cx.B g->(cxc.ren r (bc Hk')).B g:=fun g hg=>by rw[hed.B];exact .inl hg
  have hc2: @SRep c8 (cxc.ren r (bc Hk')) ⟨fun _=> .junk,bc Hk',I.next⟩ ac nt:= @SRep.mk c8 _ _ _ _ rfl m1 (fun t=> .pure (.junk _)) m3 (@SRep.sz c8 _ _ _ _ hsc) (@SRep.df c8 _ _ _ _ hsc)
  have hc3:= @SRep.back c8 ((cxa.back cx).poke l (.loop (b6 fn a pa assign body D .busy none))) _ _ _ _ hc2 hB2
  refine @SRep.mk c8 _ _ _ _ rfl (@SRep.c c8 _ _ _ _ hc3) (fun t=> ?_) m3 (@SRep.sz c8 _ _ _ _ hs) (@SRep.df c8 _ _ _ _ hs)
  refine(@SRep.env c8 _ _ _ _ hs t).keep ?_ (@SRep.c c8 _ _ _ _ hs) hbst
  show nz (jn .junk I.env t)=true
  have: ∀(L:List (Nat×AV)),(L.all fun q=>nz q.2)=true->nz (jn .junk L t)=true:=fun L=>by
   induction L with
   |nil=>intro _;rfl
   |cons q L ih=>
    obtain⟨k,v⟩:=q
    intro hL
    rw[lF,av] at hL
    rw[jn]
    cases Nat.beq t k with
    |true=>exact hL.1
    |false=>exact ih hL.2
  exact this I.env hkeep
 have hbtw:Btw P cx0 I a nt l D (b6 fn a pa assign body D .busy none) Hk' cxc.w ((cxc.ren r (bc Hk')).back ((cxa.back cx).poke l (.loop (b6 fn a pa assign body D .busy none)))):=
  ⟨rfl,hsd,h.bst.trans hbst.ext,hcl,ml.2,hcD,mD.2⟩
 have hend:=run_endRound (P:=P) jump hcl
 have hfin:G1 P l jump cxc.w (fun e W'=>e= .returned (.bool jump.isNone)∧ ∃cx',Btw P cx0 I a nt l D (b6 fn a pa assign body D (if jump.isNone then .ready else .done) jump) Hk' W' cx'∧cx'.B=cx.B):=
  ⟨_,_,hend,rfl,_,hbtw.turn hB hne _,rfl⟩
 subst hj
 cases x with
 |nrm=>exact hfin
 |ext id=>exact hfin
 |ret=>exact hfin
theorem Ok.range{nt:Nat}{g:Operand}{pa:Array Tmp}{assign body:Code}{gf:FuncId}{caps:List AV}{N m:Nat}{xs:Nat->List AV}{I:Sm}{F:Nat->List (Nat×Blk)}{x:X}{G:List (Nat×Blk)}
  (hg:cb I.st.env g= .clo gf caps)(hcb:caps.all ev=true)(hkeep:(I.env.all fun q=>nz q.2)=true)(hfo:jM P gf=true)(hit:zH P gf caps N xs)(hpl: ∀k,(xs k).length=pa.size)(hlt: ∀p∈pa.toList,p<nt)(hF0:F 0=I.heap)(hm:m<=N)
  (hr: ∀k,k<m->Rnd P nt pa.toList (xs k) assign body I (F k) .nrm (F (k+1)))
  (hend:(m=N∧x= .nrm∧G=F N)∨(m<N∧x≠ .nrm∧Rnd P nt pa.toList (xs m) assign body I (F m) x G)):Ok P nt (.rangeFunc g pa assign body) I.st x (⟨I.env,G,I.next⟩:Sm).st:=by
 intro d cx a hs Q hQ
 obtain⟨fo,g1,g2,g3⟩:=dQ hfo
 obtain⟨bd,hbd⟩:=aE.1 g2
 have hge:=iM hs.env g
 rw[hg] at hge
 obtain⟨vs,hv,hvl,hvr⟩:=hge.clo_inv
 refine(wpIn_wide (n:=2)).1 (wpIn_rangeFunc ?_)
 intro fn hfn
 obtain⟨l,hl⟩: ∃l,l=cx.w.heap.size+1:=⟨_,rfl⟩
 obtain⟨D,hD⟩: ∃D,D=cx.w.heap.size:=⟨_,rfl⟩
 obtain⟨a0,ha0⟩: ∃a0:Act,a0={tmps:=a.tmps,defers:=[]}:=⟨_,rfl⟩
 have hat:a0.tmps=a.tmps:=by rw[ha0]
 obtain⟨W1,hW1⟩: ∃W1,(cx.w.alloc (.deferred (some []))).alloc (.loop (b6 fn a0 pa assign body D .ready none))=W1:=⟨_,rfl⟩
 have hb1:Below cx.w.heap.size cx.w W1:=by rw[<-hW1];exact(((Below.refl _ _).alloc (aB _) _).alloc (by simp) _)
 have hW1l:W1.heap[l]? =some (.loop (b6 fn a0 pa assign body D .ready none)):=by
  rw[<-hW1,hl];have:=World.alloc_heap_new (cx.w.alloc (.deferred (some []))) (.loop (b6 fn a0 pa assign body D .ready none));rwa [World.size_alloc] at this
 have hW1D:W1.heap[D]? =some (.deferred (some [])):=by
  rw[<-hW1,hD];exact(Below.heap_alloc _ _ _ (by simp)).trans (World.alloc_heap_new cx.w _)
 have hne:D≠l:=by omega
 have hnB: ∀c:Cx,c.B=cx.B-> ¬c.B l∧ ¬c.B D:=fun c e=>by
  rw[e]
  exact⟨fun h=>by have:=hs.c.blt l h;omega,fun h=>by have:=hs.c.blt D h;omega⟩
 have hs0: @SRep c8 cx ⟨I.st.env,bc I.heap,I.next⟩ a0 nt:= @SRep.mk c8 _ _ _ _ hs.H hs.c (by rw[ha0];exact hs.env) hs.lt (by rw[ha0];exact hs.sz) (by rw[ha0];rfl)
 have h0:Btw P cx I a0 nt l D (b6 fn a0 pa assign body D .ready none) (F 0) W1 ⟨W1,cx.R,cx.φ,cx.H,cx.B⟩:=by
  obtain⟨k1,k2⟩:=g4 hs.c hb1
  rw[hF0]
  exact⟨rfl,SRep.moved hs0 k1 k2,k2.ext,hW1l,fun h=>by have:=hs.c.rlt l h;omega,hW1D,fun h=>by have:=hs.c.rlt D h;omega⟩
 refine⟨l,[{target:= .collected D,args:= #[]}],W1,{target:= .fn (.func gf) vs,args:= #[.func (.yield l) #[] #[]]},W1,gf, #[.func (.yield l) #[] #[]]++vs,W1, ?_, ?_, ?_, ?_,by simp[Fence.wide], ?_⟩
 ·rw[<-hW1,hl,hD,ha0];exact run_enterLoop_outer _ _ _ _ _
 ·simp only[resolve,hv]
  simp[go_sem]
 ·intro f' hf';trivial
 ·simp[invoke,go_sem,callFunc,g1,hbd,g3]
 have hfin: ∀(st0:LoopState) (pe:Option Code) (H:List (Nat×Blk)) (W2:World) (c:Cx),Btw P cx I a0 nt l D (b6 fn a0 pa assign body D st0 pe) H W2 c->c.B=cx.B->H=G->
   Q x.to {a with defers:=[{target:= .collected D,args:= #[]}]++a.defers} (W2.putObj l (.loop {b6 fn a0 pa assign body D st0 pe with state:= .exhausted})):=by
  intro st0 pe H W2 c hb hcB hH
  subst hH
  have ht:=hb.turn (hnB c hcB).1 hne {b6 fn a0 pa assign body D st0 pe with state:= .exhausted}
  have hw:(c.poke l (.loop {b6 fn a0 pa assign body D st0 pe with state:= .exhausted})).w=W2.putObj l (.loop {b6 fn a0 pa assign body D st0 pe with state:= .exhausted}):=by
   show c.w.putObj l _=_
   rw[hb.w]
  rw[<-hw]
  have htmp:=ht.s
  refine hQ ⟨D::d.l⟩ (c.poke l (.loop {b6 fn a0 pa assign body D st0 pe with state:= .exhausted})) _ (@SRep.mk ⟨D::d.l⟩ _ _ _ _ (@SRep.H c8 _ _ _ _ htmp) (@SRep.c c8 _ _ _ _ htmp) (fun t=> ?_) (@SRep.lt c8 _ _ _ _ htmp) ?_ ?_) ⟨ht.bst,fun e=>(by cases e),[D],rfl,by simp,fun E hE=> ?_⟩
  ·show Rep _ _ (a.tmps.getD t undef)
   rw[<-hat]
   exact @SRep.env c8 _ _ _ _ htmp t
  ·show a.tmps.size=nt
   rw[<-hat]
   exact @SRep.sz c8 _ _ _ _ htmp
  ·show[_]++a.defers=_
   rw[hs.df]
   rfl
  ·rw[aG.1 hE]
   exact⟨by omega,ht.hRD,by rw[hw];exact ht.hD⟩
 refine(hit cx.w cx.R vs hs.c.rlt hvl (fun j b v h1 h2=>(hvr j b v h1 h2).base (aN.1 hcb b (aT h1))) (2-1) l
  (fun k W=>k<=m∧ ∃c,Btw P cx I a0 nt l D (b6 fn a0 pa assign body D .ready none) (F k) W c∧c.B=cx.B)
  (fun W=>m<N∧ ∃c,Btw P cx I a0 nt l D (b6 fn a0 pa assign body D .done (match x with | .nrm=>none | .ext id=>some (.exit id)| .ret=>some .ret)) G W c∧c.B=cx.B)
  (fun k W W' ⟨hk,c,hb,hcB⟩ hbl=>⟨hk,_,hb.below hbl,hcB⟩)
  (fun k W ⟨hk,c,hb,hcB⟩ g hg=>by rw[<-hb.w];exact hb.bst.block g (hs.c.rlt g hg) (.inr hg)) ?_ W1 ⟨bb _,_,h0,rfl⟩).mono ?_
 ·rintro k W us ⟨hk,c,hb,hcB⟩ hkN hul hu
  obtain⟨hBl,hBD⟩:=hnB c hcB
  have hus: ∀(j:Nat) a u,(xs k)[j]? =some a->us[j]? =some u->Rep c a u:=fun j b u h1 h2=>by
   have:=hu j b u h1 h2
   rw[<-hb.w] at this
   exact .pure (this.mono (fun g hg=>hb.bst.R g hg) fun _ _=>rfl)
  have hpl':(xs k).length=pa.toList.length:=by rw[dp];exact hpl k
  by_cases hkm:k<m
  ·obtain⟨f1,f2,f3,f4,f5,f6⟩:=hb.round (hr k hkm) hBl hBD hne hkeep rfl hlt hul hpl' hus (m:=2-1-1) (jump:=none) rfl
   refine⟨f1,f2,f3,f4,f5,f6.mono ?_⟩
   rintro e W' ⟨rfl,c',k1,k2⟩
   exact .inl ⟨rfl,hkm,c',k1,k2.trans hcB⟩
  ·obtain rfl:k=m:=by omega
   rcases hend with⟨h1,_⟩|⟨h1,h2,h3⟩
   ·omega
   ·obtain⟨f1,f2,f3,f4,f5,f6⟩:=hb.round h3 hBl hBD hne hkeep rfl hlt hul hpl' hus (m:=2-1-1) rfl
    refine⟨f1,f2,f3,f4,f5,f6.mono ?_⟩
    rintro e W' ⟨rfl,c',k1,k2⟩
    right
    cases x with
    |nrm=>exact absurd rfl h2
    |ext id=>exact⟨rfl,h1,c',k1,k2.trans hcB⟩
    |ret=>exact⟨rfl,h1,c',k1,k2.trans hcB⟩
 ·rintro e W2 ⟨⟨v,rfl⟩,(⟨hN,c,hb,hcB⟩|⟨hlt',c,hb,hcB⟩)⟩
  ·rcases hend with⟨h1,h2,h3⟩|⟨h1,_⟩
   ·have:=hfin _ _ _ _ c hb hcB h3.symm
    rw[h2] at this
    exact⟨none,_,run_endLoop hb.hl (by simp[b6]),this⟩
   ·omega
  ·have:=hfin _ _ _ _ c hb hcB rfl
   rcases hend with⟨h1,_⟩|⟨h1,h2,h3⟩
   ·omega
   cases x with
   |nrm=>exact absurd rfl h2
   |ext id=>exact⟨some (.exit id),_,run_endLoop hb.hl (by simp[b6]),wpIn_exit this⟩
   |ret=>exact⟨some .ret,_,run_endLoop hb.hl (by simp[b6]),wpIn_ret this⟩
end
def rfs:Code->List Code
 | .seq a b=>rfs a++rfs b
 | .cond _ a b=>rfs a++rfs b
 | .block _ c=>rfs c
 | .loop c=>rfs c
 | .rangeFunc g ps a b=> .rangeFunc g ps a b::rfs b
 |_=>[]
def rfC(P:Program)(f:FuncId)(k:Nat):Code:=(rfs (zf P f)).getD k .skip
def L7:Code->Bool
 | .rangeFunc .. =>true
 |_=>false
def rfG:Code->Operand
 | .rangeFunc g _ _ _=>g
 |_=> .tmp 0
def rfP:Code->Array Tmp
 | .rangeFunc _ ps _ _=>ps
 |_=> #[]
def rfA:Code->Code
 | .rangeFunc _ _ a _=>a
 |_=> .skip
def rfB:Code->Code
 | .rangeFunc _ _ _ b=>b
 |_=> .skip
theorem Kq{c:Code}(h:L7 c=true):c= .rangeFunc (rfG c) (rfP c) (rfA c) (rfB c):=by
 cases c<;>first |rfl |cases h
theorem Ok.rangeC{P:Program}{nt:Nat}{c:Code}{gf:FuncId}{caps:List AV}{N m:Nat}{xs:Nat->List AV}{I:Sm}{F:Nat->List (Nat×Blk)}{x:X}{G:List (Nat×Blk)}(hc:L7 c=true)
  (hg:cb I.st.env (rfG c)= .clo gf caps)(hcb:caps.all ev=true)(hkeep:(I.env.all fun q=>nz q.2)=true)(hfo:jM P gf=true)(hit:zH P gf caps N xs)(hpl: ∀k,(xs k).length=(rfP c).size)(hlt:((rfP c).toList.all fun p=>Nat.blt p nt)=true)(hF0:F 0=I.heap)(hm:m<=N)
  (hr: ∀k,k<m->Rnd P nt (rfP c).toList (xs k) (rfA c) (rfB c) I (F k) .nrm (F (k+1)))
  (hend:(m=N∧x= .nrm∧G=F N)∨(m<N∧x≠ .nrm∧Rnd P nt (rfP c).toList (xs m) (rfA c) (rfB c) I (F m) x G)):Ok P nt c I.st x (⟨I.env,G,I.next⟩:Sm).st:=by
 have h:=Ok.range (P:=P) (nt:=nt) (g:=rfG c) (assign:=rfA c) (body:=rfB c) hg hcb hkeep hfo hit hpl (fun p hp=>by have:=aN.1 hlt p hp;rwa [bH] at this) hF0 hm hr hend
 rw[<-Kq hc] at h
 exact h
end
end Go.Proofs.YtlfldlnohmobmaaGreat.Rx
namespace Go.Proofs.YtlfldlnohmobmaaGreat
section
open Go.RowKit Rx
attribute [local go_sem] Oper.semAt_some
theorem mT{F:Fence}{n s:Nat}{P:Program}{w:World}{ops:Array Oper}{rest:List Oper}{o:Oper}{a:Act}{Q:Exit->Act->World->Prop}(hgd:o.guard=none)(t:TypeId)(x:Operand)(ho:o.op= .load t x)(g off:Nat)(hx:a.eval x= .pointer (some ⟨g,off,none⟩))
  (hs:ef P t=some s)(hg:lZ P t=some true)(us:List Value)(hl:us.length=s)(hc: ∀(j:Nat) u,us[j]? =some u->w.cell? ⟨g,off+j,none⟩=some u)(hK:wpListIn F n P ops Q rest (a.put o.dst (.agg us.toArray)) w):wpListIn F n P ops Q (o::rest) a w:=by
 refine wpListIn_plain hgd fun K hK'=> ?_
 have hrun:=iI (P:=P) hs hg us hl hc
 unfold Oper.wpIn
 refine⟨?_, ?_⟩
 ·simp[Oper.about,ho]
 ·rw[Oper.semAt_plain F _ _ (by rw[ho];intro c hc';cases hc')]
  simp[execOp,ho,hx,hrun,Result.andThen]
  exact hK' _ _ hK
set_option maxRecDepth 100000 in
set_option maxHeartbeats 4000000 in
theorem oA(n l gS oS len cap:Nat)(A:Option Addr)(u:Nat->Nat->Value)(b off:Nat)(hlen:len<=1000000)(hA:0<len->A=some ⟨b,off,none⟩)(J:Nat->World->Prop)(Jx:World->Prop)
  (hJ: ∀k W,J k W->W.cell? ⟨gS,oS,none⟩=some (.slice A len cap)∧ ∀i,i<len-> ∀j,j<8->W.cell? ⟨b,off+(i*8+j),none⟩=some (u i j))
  (hY: ∀k W,J k W->k<len->YieldAt Fence.wide (n-1) Tryz.prog l #[.int .i64 ((len-1-k:Nat):Int),.agg #[u (len-1-k) 0,u (len-1-k) 1,u (len-1-k) 2,u (len-1-k) 3,u (len-1-k) 4,u (len-1-k) 5,u (len-1-k) 6,u (len-1-k) 7]] W fun e W'=>
   (e= .returned (.bool true)∧J (k+1) W')∨(e= .returned (.bool false)∧Jx W'))
  (W:World)(h0:J 0 W):CallsIn Fence.wide n Tryz.prog 118 #[.func (.yield l) #[] #[],.pointer (some ⟨gS,oS,none⟩)] W fun e W'=>(∃v,e= .returned v)∧(J len W'∨Jx W'):=by
 refine callsIn_of_wp Tryz.func118 rfl trivial ?_ rfl
 simp only[Tryz.ntmps118,List.size_toArray,fk,od,Nat.reduceAdd,Nat.reduceSub,Array.replicate_succ,Array.replicate_zero,List.push_toArray,List.append_toArray,List.nil_append,List.cons_append]
 have hS:=(hJ 0 W h0).1
 have hw1:IntKind.i64.wrap ((len:Int)-1)=(len:Int)-1:=IntWalk.i64_in _ (by omega)
 gi_wp2
 gi_loopw [3] (fun i wr=> ∃k:Nat,k<=len∧i= .int .i64 ((len:Int)-1-k)∧J k wr) (fun i _=>(intOf i+1).toNat)
 case atStart=>exact⟨0,bb _,by simp,h0⟩
 case round=>
  obtain⟨k,hk,rfl,hJs⟩:=hrel
  have hSk:=(hJ k wr hJs).1
  by_cases hlt:k<len
  ·obtain⟨m,hm⟩: ∃m,len-1-k=m:=⟨_,rfl⟩
   have hmi:(len:Int)-1-k=(m:Int):=by omega
   have hml:m<len:=by omega
   have hA':=hA (by omega)
   subst hA'
   have hcs:=(hJ k wr hJs).2 m hml
   obtain⟨fn,tmps,assign,body,hy,hR⟩:=hY k wr hJs hlt
   rw[hm] at hy
   rw[hmi]
   have h01:(0:Int)<=(m:Int):=Int.natCast_nonneg m
   have h02:(m:Int)<(len:Int):=by omega
   have hw2:IntKind.i64.wrap ((m:Int)-1)=(m:Int)-1:=IntWalk.i64_in _ (by omega)
   clear hJ hY hA hmi
   gi_wp2_with (refine mT rfl 54 _ rfl b (off+m*8) (by first |rfl | (simp[Act.eval,fx];done)) (s:=8) (by kernel_rfl) (by kernel_rfl) [u m 0,u m 1,u m 2,u m 3,u m 4,u m 5,u m 6,u m 7] rfl (fun j v hv=> ?_) ?_; ·match j,hv with
    |0,rfl=>rw[bN];exact hcs 0 (by omega)
    |1,rfl=>rw[bN];exact hcs 1 (by omega)
    |2,rfl=>rw[bN];exact hcs 2 (by omega)
    |3,rfl=>rw[bN];exact hcs 3 (by omega)
    |4,rfl=>rw[bN];exact hcs 4 (by omega)
    |5,rfl=>rw[bN];exact hcs 5 (by omega)
    |6,rfl=>rw[bN];exact hcs 6 (by omega)
    |7,rfl=>rw[bN];exact hcs 7 (by omega))
   refine⟨fun h=>absurd h (by simp[Fence.wide]), ?_⟩
   refine hR.mono ?_
   rintro e W3 (⟨rfl,hJ3⟩|⟨rfl,hJx3⟩)
   ·gi_wp2
    go_roundw
    case rel=>exact⟨k+1,by omega,by congr 1;omega,hJ3⟩
    case measure=>simp[intOf]
   ·gi_wp2
    refine bodyPost_ret (results_none rfl _ _ _) rfl ?_
    exact⟨⟨_,rfl⟩,.inr hJx3⟩
  ·obtain rfl:k=len:=by omega
   rw[show(k:Int)-1-k= -1 by omega]
   gi_wp2
   go_end0
   exact⟨⟨_,rfl⟩,.inl hJs⟩
namespace Px
def bkP(l:List En):AV:= .rptr 1 (fun q=>[enR l].getD q .junk) 0
def bkX(l:List En)(k:Nat):List AV:=[.int .i64 ((l.length-1-k:Nat):Int),.agg (enA (l.getD (l.length-1-k) default))]
theorem bkC(l:List En)(hb:l.length<=1000000):zH Tryz.prog 118 [bkP l] l.length (bkX l):=by
 intro w R vs hR hl hv n lp J Jx hJb hJR hY W hW
 obtain⟨vs⟩:=vs
 match vs,hl,hv with
 | [v],_,hv=>
  have h0:=hv 0 _ v rfl rfl
  cases h0 with
  | @rptr _ _ g o _ hRg uu h1 h2 h3=>
   have h4:=h3 0 (by omega)
   have h5:=h1 0 (by omega)
   obtain⟨sv,hsv⟩: ∃sv,sv=uu 0:=⟨_,rfl⟩
   rw[<-hsv] at h4 h5
   cases h4 with
   | @row _ _ _ A cap u hn hc hA k1 k2=>
    have hcell: ∀(k:Nat) (W:World) (a:Addr) (x:Value),J k W->R a.block->w.cell? a=some x->W.cell? a=some x:=fun k W a x hk ha hx=>(World.cell?_of_block (hJR k W hk a.block ha)).trans hx
    obtain⟨b,off,hbo⟩: ∃b off,0<l.length->A=some ⟨b,off,none⟩∧R b∧ ∀i,i<l.length-> ∀j,j<8->w.cell? ⟨b,off+(i*8+j),none⟩=some (u i j):=by
     by_cases h:0<l.length
     ·obtain⟨b,off,q1,q2,q3⟩:=hA (by omega)
      exact⟨b,off,fun _=>⟨q1,q2,q3⟩⟩
     ·exact⟨0,0,fun h'=>absurd h' h⟩
    refine oA n lp g (o+0) l.length cap A u b off hb (fun h=>(hbo h).1) J Jx (fun k W hk=>⟨hcell k W _ _ hk hRg h5,fun i hi j hj=> ?_⟩) (fun k W hk hkl=>hY k W _ hk hkl rfl fun j a x ha hx=> ?_) W hW
    ·obtain⟨q1,q2,q3⟩:=hbo (by omega)
     exact hcell k W _ _ hk q2 (q3 i hi j hj)
    ·match j,ha,hx with
     |0,ha,hx=>cases ha;cases hx;exact .int _ _
     |1,ha,hx=>
      cases ha;cases hx
      have hm:l.length-1-k<l.length:=by omega
      have hu: ∀j,j<8->RepP W R (enC (l.getD (l.length-1-k) default) j) (u (l.length-1-k) j):=fun j hj=>(k2 _ hm j hj).mono (fun _ h=>h) fun g hg=>hJR k W hk g hg
      have hone: ∀j,j<8->(u (l.length-1-k) j).oneCell'=true:=fun j hj=>k1 _ hm j hj
      refine .agg rfl (fun j v hv=> ?_) fun j a v ha hv=> ?_
      ·match j,hv with
       |0,rfl=>exact hone 0 (by omega)
       |1,rfl=>exact hone 1 (by omega)
       |2,rfl=>exact hone 2 (by omega)
       |3,rfl=>exact hone 3 (by omega)
       |4,rfl=>exact hone 4 (by omega)
       |5,rfl=>exact hone 5 (by omega)
       |6,rfl=>exact hone 6 (by omega)
       |7,rfl=>exact hone 7 (by omega)
      ·match j,ha,hv with
       |0,rfl,rfl=>exact hu 0 (by omega)
       |1,rfl,rfl=>exact hu 1 (by omega)
       |2,rfl,rfl=>exact hu 2 (by omega)
       |3,rfl,rfl=>exact hu 3 (by omega)
       |4,rfl,rfl=>exact hu 4 (by omega)
       |5,rfl,rfl=>exact hu 5 (by omega)
       |6,rfl,rfl=>exact hu 6 (by omega)
       |7,rfl,rfl=>exact hu 7 (by omega)
end Px
end
end Go.Proofs.YtlfldlnohmobmaaGreat
namespace Go.Proofs.YtlfldlnohmobmaaGreat.Px
section
open Go.RowKit Go.Proofs.YtlfldlnohmobmaaGreat.Rx
def kv(p:Pg)(r:Int)(e:En):Bool:=dR (atI p e.pc)&&((atI p e.pc).d==r)
def rI(p:Pg)(s:S8)(r:Int)(l:List En):Sm:=⟨[(5,pgP p),(6,rgP s),(9,.rptr 1 (fun q=>[AV.int .i64 r].getD q .junk) 0),(10,.bptr 0 0),(11,.bptr 1 0),(23,.clo 118 [bkP l])],[(0,⟨0,false,3,.box [.int .i64 0]⟩),(1,⟨0,false,4,.box [.bool false]⟩)],2⟩
def rG(a:Int)(b:Bool):List (Nat×Blk):=[(0,⟨0,false,3,.box [.int .i64 a]⟩),(1,⟨0,false,4,.box [.bool b]⟩)]
def rJ(p:Pg)(s:S8)(r:Int)(l:List En)(a:Int)(b:Bool):Sm:=⟨(rI p s r l).env,rG a b,2⟩
theorem Gt(i:In)(h:i.kind=1):Vc (vF_ 119 [.agg (inA i)] [.fz,.bd true] [] (.tup [aI i.d,.bool true]) []):=aj (cj (show(i.kind==(1:Int))=true from by rw[h];decide) (cj (rf i.d) (cj (rf true) trivial)))
theorem Gs(i:In)(h:i.kind=2):Vc (vF_ 119 [.agg (inA i)] [.fz,.bd false,.bd true] [] (.tup [aI i.d,.bool true]) []):=aj (cj (show(i.kind==(1:Int))=false from by rw[h];decide) (cj (show(i.kind==(2:Int))=true from by rw[h];decide) (cj (rf i.d) (cj (rf true) trivial))))
theorem Gr(i:In)(h:i.kind=4):Vc (vF_ 119 [.agg (inA i)] [.fz,.bd false,.bd false,.bd true] [] (.tup [aI i.d,.bool true]) []):=aj (cj (show(i.kind==(1:Int))=false from by rw[h];decide) (cj (show(i.kind==(2:Int))=false from by rw[h];decide) (cj (show(i.kind==(4:Int))=true from by rw[h];decide) (cj (rf i.d) (cj (rf true) trivial)))))
theorem Gu(i:In)(h1:i.kind≠1)(h2:i.kind≠2)(h4:i.kind≠4):Vc (vF_ 119 [.agg (inA i)] [.fz,.bd false,.bd false,.bd false] [] (.tup [aI 0,.bool false]) []):=aj (cj (ae.2 h1) (cj (ae.2 h2) (cj (ae.2 h4) (cj (rf (0:Int)) (cj (rf false) trivial)))))
theorem Bz(i:In)(h:dR i=true):pC_ 119 [.agg (inA i)] (.tup [.int .i64 i.d,.bool true]) []:=by
 by_cases h1:i.kind=1
 ·exact PureC.vc (Gt i h1)
 ·by_cases h2:i.kind=2
  ·exact PureC.vc (Gs i h2)
  ·by_cases h4:i.kind=4
   ·exact PureC.vc (Gr i h4)
   ·exfalso;simp[dR,h1,h2,h4] at h
theorem BA(i:In)(h:dR i=false):pC_ 119 [.agg (inA i)] (.tup [.int .i64 0,.bool false]) []:=
 PureC.vc (Gu i (fun e=>by rw[jP e] at h;cases h) (fun e=>by rw[jO e] at h;cases h) (fun e=>by rw[jN e] at h;cases h))
theorem HM(p:Pg)(e:En){Z:Prop}(z:Z):(RF ((atI p e.pc).kind) (RF ((atI p e.pc).op) (RF ((atI p e.pc).d) (RF ((atI p e.pc).a.reg) (RF ((atI p e.pc).a.n) (RF ((atI p e.pc).b.reg) (RF ((atI p e.pc).b.n) (RF ((atI p e.pc).nm) (RF ((atI p e.pc).tg) Z))))))))):=⟨rfl,rfl,rfl,rfl,rfl,rfl,rfl,rfl,rfl,z⟩
theorem HL(p:Pg)(e:En){Z:Prop}(z:Z):(RF p.ls.length (RR p.ls.length 2 (fun i j=>ao lbC p.ls i j) (RF p.is.length (RR p.is.length 9 (fun i j=>ao inC p.is i j) (RF e.pc Z))))):=⟨rfl,fun _ _ _ _=>rfl,rfl,fun _ _ _ _=>rfl,rfl,z⟩
theorem zL(p:Pg){Z:Prop}(z:Z):(RF p.W (RF p.win (RF p.fuel (RF p.r0 (RF p.r1 (RF p.r2 (RF p.r3 (RF p.ms.length (RR p.ms.length 3 (fun i j=>ao mmC p.ms i j) Z))))))))):=⟨rfl,rfl,rfl,rfl,rfl,rfl,rfl,rfl,fun _ _ _ _=>rfl,z⟩
theorem FH(p:Pg)(r:Int)(e:En)(h:dR (atI p e.pc)=true):Vc (vF_ 102 [.agg (pgA p),.agg (enA e), aI r] [.fz,.fz,.cl [.agg (pgA p), aI e.pc] (.agg (inA (atI p e.pc))) [],.cl [.agg (inA (atI p e.pc))] (.tup [aI (atI p e.pc).d,.bool true]) []] [] (.bool ((atI p e.pc).d==r)) []):=aj (zL p (HL p e (cj (atC p e.pc) (HM p e (cj (Bz (atI p e.pc) h) (cj (rf ((atI p e.pc).d==r)) trivial))))))
theorem FI(p:Pg)(r:Int)(e:En)(h:dR (atI p e.pc)=false):Vc (vF_ 102 [.agg (pgA p),.agg (enA e), aI r] [.fz,.fz,.cl [.agg (pgA p), aI e.pc] (.agg (inA (atI p e.pc))) [],.cl [.agg (inA (atI p e.pc))] (.tup [aI 0,.bool false]) []] [] (.bool false) []):=aj (zL p (HL p e (cj (atC p e.pc) (HM p e (cj (BA (atI p e.pc) h) (cj (rf false) trivial))))))
theorem Di(p:Pg)(r:Int)(e:En)(b:Bool)(h:kv p r e=b):pC_ 102 [.agg (pgA p),.agg (enA e),.int .i64 r] (.bool b) []:=by
 subst h
 unfold kv
 cases hd:dR (atI p e.pc) with
 |true=>rw[ci];exact PureC.vc (FH p r e hd)
 |false=>rw[Bool.false_and];exact PureC.vc (FI p r e hd)
theorem Er(e:En)(h:e.dn=true):Vc (vF_ 103 [.agg (enA e)] [.fz,.b false] [] (.tup [aI e.val,.bool true]) []):=aj (cj (show(!e.dn)=false from by rw[h];rfl) (cj (rf e.val) (cj (rf true) trivial)))
theorem Es(e:En)(h:e.dn=false):Vc (vF_ 103 [.agg (enA e)] [.fz,.b true] [] (.tup [aI 0,.bool false]) []):=aj (cj (show(!e.dn)=true from by rw[h];rfl) (cj (rf (0:Int)) (cj (rf false) trivial)))
theorem JC(e:En):pC_ 103 [.agg (enA e)] (.tup [.int .i64 (if e.dn then e.val else 0),.bool e.dn]) []:=by
 cases h:e.dn with
 |true=>exact PureC.vc (Er e h)
 |false=>exact PureC.vc (Es e h)
theorem HK(r:Int)(e:En){Z:Prop}(z:Z):(RF e.dn (RF e.kn (RF e.ft (RF r Z)))):=⟨rfl,rfl,rfl,rfl,z⟩
theorem HJ(p:Pg)(e:En){Z:Prop}(z:Z):(RF p.ls.length (RR p.ls.length 2 (fun i j=>ao lbC p.ls i j) (RF p.is.length (RR p.is.length 9 (fun i j=>ao inC p.is i j) (RF e.pc (RF e.val (RF e.adr (RF e.frm (RF e.nxt Z))))))))):=⟨rfl,fun _ _ _ _=>rfl,rfl,fun _ _ _ _=>rfl,rfl,rfl,rfl,rfl,rfl,z⟩
theorem KA(p:Pg)(s:S8)(r:Int)(l:List En)(j:Int)(e:En)(h:pC_ 102 [.agg (pgA p),.agg (enA e), aI r] (.bool false) []):Vc (oN Tryz.prog false (bY Tryz.prog 89) (rfP (rfC Tryz.prog 89 0)).toList [aI j,.agg (enA e)] (rfA (rfC Tryz.prog 89 0)) (rfB (rfC Tryz.prog 89 0)) (rI p s r l) (rG 0 false) [.cl [.agg (pgA p),.agg (enA e), aI r] (.bool false) []] .nrm [(0,0),(1,1)] (rG 0 false)):=aj (zL p (HJ p e (HK r e (cj h (cj (rf (0:Int)) (cj (rf false) trivial))))))
theorem Fw(p:Pg)(s:S8)(r:Int)(l:List En)(j:Int)(e:En)(h:pC_ 102 [.agg (pgA p),.agg (enA e), aI r] (.bool true) [])(h2:pC_ 103 [.agg (enA e)] (.tup [aI (if e.dn then e.val else 0),.bool e.dn]) []):Vc (oN Tryz.prog false (bY Tryz.prog 89) (rfP (rfC Tryz.prog 89 0)).toList [aI j,.agg (enA e)] (rfA (rfC Tryz.prog 89 0)) (rfB (rfC Tryz.prog 89 0)) (rI p s r l) (rG 0 false) [.cl [.agg (pgA p),.agg (enA e), aI r] (.bool true) [],.cl [.agg (enA e)] (.tup [aI (if e.dn then e.val else 0),.bool e.dn]) []] .ret [(0,0),(1,1)] (rG (if e.dn then e.val else 0) e.dn)):=aj (zL p (HJ p e (HK r e (cj h (cj (rf e.pc) (cj (rf e.val) (cj (rf e.adr) (cj (rf e.frm) (cj (rf e.nxt) (cj (rf e.dn) (cj (rf e.kn) (cj (rf e.ft) (cj h2 (cj (rf (if e.dn=true then e.val else(0:Int))) (cj (rf e.dn) trivial)))))))))))))))
theorem qX{p:Pg}{r:Int}{e:En}:kv p r e=true↔(dR (atI p e.pc)=true∧(atI p e.pc).d=r):=by
 unfold kv
 rw[av,ay]
theorem nd(p:Pg)(l:List En)(r:Int): ∀c,(gr p l r c=none∧ ∀j,j<c->kv p r (l.getD j default)=false)∨
  ∃q,q<c∧kv p r (l.getD q default)=true∧(∀j,q<j->j<c->kv p r (l.getD j default)=false)∧gr p l r c=some (if(l.getD q default).dn then((l.getD q default).val,true) else(0,false))
 |0=> .inl ⟨rfl,fun j hj=>by omega⟩
 |c+1=>by
  unfold gr
  by_cases h:kv p r (l.getD c default)=true
  ·rw[aq (show dR (enI p l c)=true∧(enI p l c).d=r from qX.1 h)]
   exact .inr ⟨c,by omega,h,fun j h1 h2=>by omega,rfl⟩
  ·rw[an (show ¬(dR (enI p l c)=true∧(enI p l c).d=r) from fun e=>h (qX.2 e))]
   have hf:kv p r (l.getD c default)=false:=by simpa using h
   rcases nd p l r c with⟨h1,h2⟩|⟨q,h1,h2,h3,h4⟩
   ·refine .inl ⟨h1,fun j hj=> ?_⟩
    by_cases e:j=c
    ·rw[e];exact hf
    ·exact h2 j (by omega)
   ·refine .inr ⟨q,by omega,h2,fun j hj1 hj2=> ?_,h4⟩
    by_cases e:j=c
    ·rw[e];exact hf
    ·exact h3 j hj1 (by omega)
theorem nc(p:Pg)(s:S8)(r:Int)(l:List En)(k:Nat)(h:kv p r (l.getD (l.length-1-k) default)=false):Rnd Tryz.prog (bY Tryz.prog 89) (rfP (rfC Tryz.prog 89 0)).toList (bkX l k) (rfA (rfC Tryz.prog 89 0)) (rfB (rfC Tryz.prog 89 0)) (rI p s r l) (rG 0 false) .nrm (rG 0 false):=
 Rnd.vc (KA p s r l _ _ (Di p r _ false h))
theorem qR(p:Pg)(s:S8)(r:Int)(l:List En)(k:Nat)(h:kv p r (l.getD (l.length-1-k) default)=true):Rnd Tryz.prog (bY Tryz.prog 89) (rfP (rfC Tryz.prog 89 0)).toList (bkX l k) (rfA (rfC Tryz.prog 89 0)) (rfB (rfC Tryz.prog 89 0)) (rI p s r l) (rG 0 false) .ret
  (rG (if(l.getD (l.length-1-k) default).dn then(l.getD (l.length-1-k) default).val else 0) (l.getD (l.length-1-k) default).dn):=
 Rnd.vc (Fw p s r l _ _ (Di p r _ true h) (JC _))
theorem xB(p:Pg)(s:S8)(r:Int)(l:List En)(hb:l.length<=1000000)(h: ∀j,j<l.length->kv p r (l.getD j default)=false):Ok Tryz.prog (bY Tryz.prog 89) (rfC Tryz.prog 89 0) (rI p s r l).st .nrm (rJ p s r l 0 false).st:=
 Ok.rangeC (by kernel_rfl) rfl rfl rfl (by kernel_rfl) (bkC l hb) (fun _=>by kernel_rfl) (by kernel_rfl) (F:=fun _=>rG 0 false) rfl (aB _) (fun k hk=>nc p s r l k (h _ (by omega))) (.inl ⟨rfl,rfl,rfl⟩)
theorem qS(p:Pg)(s:S8)(r:Int)(l:List En)(hb:l.length<=1000000)(q:Nat)(hq:q<l.length)(h:kv p r (l.getD q default)=true)(hn: ∀j,q<j->j<l.length->kv p r (l.getD j default)=false)(v:Int)(b:Bool)(hv:v=if(l.getD q default).dn then(l.getD q default).val else 0)(hd:b=(l.getD q default).dn):Ok Tryz.prog (bY Tryz.prog 89) (rfC Tryz.prog 89 0) (rI p s r l).st .ret (rJ p s r l v b).st:=by
 subst hv;subst hd
 have e:l.length-1-(l.length-1-q)=q:=by omega
 have hy:=qR p s r l (l.length-1-q) (by rw[e];exact h)
 rw[e] at hy
 exact Ok.rangeC (m:=l.length-1-q) (by kernel_rfl) rfl rfl rfl (by kernel_rfl) (bkC l hb) (fun _=>by kernel_rfl) (by kernel_rfl) (F:=fun _=>rG 0 false) rfl (by omega) (fun k hk=>nc p s r l k (hn _ (by omega) (by omega))) (.inr ⟨by omega,(by simp),hy⟩)
theorem vP(p:Pg)(s:S8){Z:Prop}(z:Z):(RF p.ms.length (RR p.ms.length 3 (fun i j=>ao mmC p.ms i j) (RF p.ls.length (RR p.ls.length 2 (fun i j=>ao lbC p.ls i j) (RF p.is.length (RR p.is.length 9 (fun i j=>ao inC p.is i j) (RF s.r0 (RF s.r1 (RF s.r2 Z))))))))):=⟨rfl,fun _ _ _ _=>rfl,rfl,fun _ _ _ _=>rfl,rfl,fun _ _ _ _=>rfl,rfl,rfl,rfl,z⟩
theorem vO(p:Pg){Z:Prop}(z:Z):(RF (0:Int) (RF false (RF p.W (RF p.win (RF p.fuel (RF p.r0 (RF p.r1 (RF p.r2 (RF p.r3 Z))))))))):=⟨rfl,rfl,rfl,rfl,rfl,rfl,rfl,rfl,rfl,z⟩
theorem vN(l:List En)(i:Int){Z:Prop}(z:Z):(RF l.length (RR l.length 8 (fun i j=>ao enC l i j) (RF i Z))):=⟨rfl,fun _ _ _ _=>rfl,rfl,z⟩
abbrev xG(l:List En)(lt:List En)(i:Int):Prop:=PureC Tryz.prog 69 [enR l,.int .i64 i] (enR lt) []
theorem yn(p:Pg)(s:S8)(l lt:List En)(i r:Int)(v:Int)(b:Bool)(hc:xG l lt i)(h0:0<=r)(h3:r<4)(h:Ok Tryz.prog (bY Tryz.prog 89) (rfC Tryz.prog 89 0) (rI p s r lt).st .ret (rJ p s r lt v b).st):Vc (vF_ 89 [.agg (pgA p),.agg (rgA s),enR l, aI i, aI r] [.fv,.fv,.fv,.bd false,.bd false,.cl [enR l, aI i] (enR lt) [],.fv,.lp [(0,0),(1,1)] (rI p s r lt) .ret (rJ p s r lt v b)] [] (.tup [aI v,.bool b]) []):=aj (cj (df (r<0)) (cj (df (r>=4)) (vN l i (cj hc (vO p (vP p s (cj (rf s.r3) (cj (rf r) (cj (rf lt.length) (cj (rr lt.length 8 fun i j=>ao enC lt i j) (cj h (cj (rf v) (cj (rf b) trivial)))))))))))))
theorem Br(p:Pg)(s:S8)(l lt:List En)(i:Int)(hc:xG l lt i)(h:Ok Tryz.prog (bY Tryz.prog 89) (rfC Tryz.prog 89 0) (rI p s 0 lt).st .nrm (rJ p s 0 lt 0 false).st):Vc (vF_ 89 [.agg (pgA p),.agg (rgA s),enR l, aI i, aI 0] [.fv,.fv,.fv,.bd false,.bd false,.cl [enR l, aI i] (enR lt) [],.fv,.lp [(0,0),(1,1)] (rI p s 0 lt) .nrm (rJ p s 0 lt 0 false)] [] (.tup [aI s.r0,.bool true]) []):=aj (cj (df ((0:Int)<0)) (cj (df ((0:Int)>=4)) (vN l i (cj hc (vO p (vP p s (cj (rf s.r3) (cj (rf (0:Int)) (cj (rf lt.length) (cj (rr lt.length 8 fun i j=>ao enC lt i j) (cj h (cj (rf s.r0) (cj (rf true) trivial)))))))))))))
theorem Bq(p:Pg)(s:S8)(l lt:List En)(i:Int)(hc:xG l lt i)(h:Ok Tryz.prog (bY Tryz.prog 89) (rfC Tryz.prog 89 0) (rI p s 1 lt).st .nrm (rJ p s 1 lt 0 false).st):Vc (vF_ 89 [.agg (pgA p),.agg (rgA s),enR l, aI i, aI 1] [.fv,.fv,.fv,.bd false,.bd false,.cl [enR l, aI i] (enR lt) [],.fv,.lp [(0,0),(1,1)] (rI p s 1 lt) .nrm (rJ p s 1 lt 0 false)] [] (.tup [aI s.r1,.bool true]) []):=aj (cj (df ((1:Int)<0)) (cj (df ((1:Int)>=4)) (vN l i (cj hc (vO p (vP p s (cj (rf s.r3) (cj (rf (1:Int)) (cj (rf lt.length) (cj (rr lt.length 8 fun i j=>ao enC lt i j) (cj h (cj (rf s.r1) (cj (rf true) trivial)))))))))))))
theorem Bp(p:Pg)(s:S8)(l lt:List En)(i:Int)(hc:xG l lt i)(h:Ok Tryz.prog (bY Tryz.prog 89) (rfC Tryz.prog 89 0) (rI p s 2 lt).st .nrm (rJ p s 2 lt 0 false).st):Vc (vF_ 89 [.agg (pgA p),.agg (rgA s),enR l, aI i, aI 2] [.fv,.fv,.fv,.bd false,.bd false,.cl [enR l, aI i] (enR lt) [],.fv,.lp [(0,0),(1,1)] (rI p s 2 lt) .nrm (rJ p s 2 lt 0 false)] [] (.tup [aI s.r2,.bool true]) []):=aj (cj (df ((2:Int)<0)) (cj (df ((2:Int)>=4)) (vN l i (cj hc (vO p (vP p s (cj (rf s.r3) (cj (rf (2:Int)) (cj (rf lt.length) (cj (rr lt.length 8 fun i j=>ao enC lt i j) (cj h (cj (rf s.r2) (cj (rf true) trivial)))))))))))))
theorem Bo(p:Pg)(s:S8)(l lt:List En)(i:Int)(hc:xG l lt i)(h:Ok Tryz.prog (bY Tryz.prog 89) (rfC Tryz.prog 89 0) (rI p s 3 lt).st .nrm (rJ p s 3 lt 0 false).st):Vc (vF_ 89 [.agg (pgA p),.agg (rgA s),enR l, aI i, aI 3] [.fv,.fv,.fv,.bd false,.bd false,.cl [enR l, aI i] (enR lt) [],.fv,.lp [(0,0),(1,1)] (rI p s 3 lt) .nrm (rJ p s 3 lt 0 false)] [] (.tup [aI s.r3,.bool true]) []):=aj (cj (df ((3:Int)<0)) (cj (df ((3:Int)>=4)) (vN l i (cj hc (vO p (vP p s (cj (rf s.r3) (cj (rf (3:Int)) (cj (rf lt.length) (cj (rr lt.length 8 fun i j=>ao enC lt i j) (cj h (cj (rf s.r3) (cj (rf true) trivial)))))))))))))
theorem Bs(p:Pg)(s:S8)(l:List En)(i r:Int)(h:r<0):Vc (vF_ 89 [.agg (pgA p),.agg (rgA s),enR l, aI i, aI r] [.fv,.fv,.fv,.bd true] [] (.tup [aI 0,.bool false]) []):=aj (cj (dt (r<0)) (cj (rf (0:Int)) (cj (rf false) trivial)))
theorem Bt(p:Pg)(s:S8)(l:List En)(i r:Int)(h:3<r):Vc (vF_ 89 [.agg (pgA p),.agg (rgA s),enR l, aI i, aI r] [.fv,.fv,.fv,.bd false,.bd true] [] (.tup [aI 0,.bool false]) []):=aj (cj (df (r<0)) (cj (dt (r>=4)) (cj (rf (0:Int)) (cj (rf false) trivial))))
theorem rq(p:Pg)(s:S8)(l:List En)(i r:Int)(hb:l.length<1000000):pC_ 89 [.agg (pgA p),.agg (rgA s),enR l,.int .i64 i,.int .i64 r] (.tup [.int .i64 (cC p s l i r).1,.bool (cC p s l i r).2]) []:=by
 have hle:=fu i l.length
 have hc:=s6 l i (cl0 i l.length) (by unfold cl0;omega) hb
 have hlen:(l.take (cl0 i l.length)).length=cl0 i l.length:=by rw[aM];omega
 unfold cC
 by_cases hr:0<=r∧r<4
 ·rw[aq hr]
  rcases nd p l r (cl0 i l.length) with⟨h1,h2⟩|⟨q,h1,h2,h3,h4⟩
  ·rw[h1]
   have hl:=fun r' (e:r'=r)=>xB p s r' (l.take (cl0 i l.length)) (by omega) fun j hj=>by rw[cP (by omega),e];exact h2 j (by omega)
   obtain⟨h0,h1⟩:=hr
   rcases jK h0 h1 with rfl |rfl |rfl |rfl
   ·exact PureC.vc (Br p s l _ i hc (hl _ rfl))
   ·exact PureC.vc (Bq p s l _ i hc (hl _ rfl))
   ·exact PureC.vc (Bp p s l _ i hc (hl _ rfl))
   ·exact PureC.vc (Bo p s l _ i hc (hl _ rfl))
  ·rw[h4]
   cases hd:(l.getD q default).dn with
   |true=>exact PureC.vc (yn p s l _ i r (l.getD q default).val true hc hr.1 hr.2 (qS p s r _ (by omega) q (by omega) (by rw[cP (by omega)];exact h2) (fun j a b=>by rw[cP (by omega)];exact h3 j a (by omega)) _ _ (by rw[cP (by omega),hd];rfl) (by rw[cP (by omega),hd])))
   |false=>exact PureC.vc (yn p s l _ i r 0 false hc hr.1 hr.2 (qS p s r _ (by omega) q (by omega) (by rw[cP (by omega)];exact h2) (fun j a b=>by rw[cP (by omega)];exact h3 j a (by omega)) _ _ (by rw[cP (by omega),hd];rfl) (by rw[cP (by omega),hd])))
 ·rw[an hr]
  by_cases h0:r<0
  ·exact PureC.vc (Bs p s l i r h0)
  ·exact PureC.vc (Bt p s l i r (by omega))
theorem HI(p:Pg){Z:Prop}(z:Z):(RF p.W (RF p.win (RF p.fuel (RF p.r0 (RF p.r1 (RF p.r2 (RF p.r3 (RF p.ms.length (RR p.ms.length 3 (fun i j=>ao mmC p.ms i j) Z))))))))):=⟨rfl,rfl,rfl,rfl,rfl,rfl,rfl,rfl,fun _ _ _ _=>rfl,z⟩
theorem Gj(p:Pg)(s:S8)(l:List En)(i n:Int)(h:pC_ 89 [.agg (pgA p),.agg (rgA s),enR l, aI i, aI n] (.tup [aI (cC p s l i n).1,.bool (cC p s l i n).2]) []):Vc (vF_ 85 [.agg (pgA p),.agg (rgA s),enR l, aI i,.agg [.bool true, aI n]] [.fz,.fz,.fz,.cl [.agg (pgA p),.agg (rgA s),enR l, aI i, aI n] (.tup [aI (cC p s l i n).1,.bool (cC p s l i n).2]) []] [] (.tup [aI (cC p s l i n).1,.bool (cC p s l i n).2]) []):=aj (HI p (cj (rf p.ls.length) (cj (rr p.ls.length 2 fun i j=>ao lbC p.ls i j) (cj (rf p.is.length) (cj (rr p.is.length 9 fun i j=>ao inC p.is i j) (cj (rf s.r0) (cj (rf s.r1) (cj (rf s.r2) (cj (rf s.r3) (cj (rf l.length) (cj (rr l.length 8 fun i j=>ao enC l i j) (cj (rf i) (cj (rf n) (cj h (cj (rf (Prod.fst (cC p s l i n))) (cj (rf (Prod.snd (cC p s l i n))) trivial))))))))))))))))
theorem Gk(p:Pg)(s:S8)(l:List En)(i n:Int):Vc (vF_ 85 [.agg (pgA p),.agg (rgA s),enR l, aI i,.agg [.bool false, aI n]] [.fz,.fz,.fz,.cl [aI p.W, aI n] (aI (Wd.maskV p.W n)) []] [] (.tup [aI (Wd.maskV p.W n),.bool true]) []):=aj (cj (rf p.W) (cj (rf n) (cj (ca p.W n) (cj (rf (Wd.maskV p.W n)) (cj (rf true) trivial)))))
theorem rp(p:Pg)(s:S8)(l:List En)(i:Int)(v:Vl)(hb:l.length<1000000):pC_ 85 [.agg (pgA p),.agg (rgA s),enR l,.int .i64 i,.agg (vlA v)] (.tup [.int .i64 (cH p s l i v).1,.bool (cH p s l i v).2]) []:=by
 obtain⟨b,n⟩:=v
 cases b with
 |true=>exact PureC.vc (Gj p s l i n (rq p s l i n hb))
 |false=>exact PureC.vc (Gk p s l i n)
theorem B9(p:Pg)(e:En):Vc (vF_ 97 [.agg (enA e),pgP p] [.fv,.cl [.agg (pgA p), aI e.pc] (.agg (inA (atI p e.pc))) []] [] (.bool ((atI p e.pc).kind==10)) []):=aj (HI p (cj (rf p.ls.length) (cj (rr p.ls.length 2 fun i j=>ao lbC p.ls i j) (cj (rf p.is.length) (cj (rr p.is.length 9 fun i j=>ao inC p.is i j) (cj (rf e.pc) (cj (atC p e.pc) (cj (rf ((atI p e.pc).kind==(10:Int))) trivial))))))))
def ixS(p:Pg)(l:List En)(k:Nat):Sm:=⟨[(0,enR l),(1,(.clo 97 [pgP p])),(7,.int .i64 l.length),(8,.int .i64 k),(4,.int .i64 0)],[],0⟩
def ixJ(k:Int):Sm:=⟨[(4,.int .i64 k)],[],0⟩
def fnc(p:Pg)(e:En):Bool:=(atI p e.pc).kind==10
theorem HH(p:Pg)(l:List En){Z:Prop}(z:Z):(RF l.length (RR l.length 8 (fun i j=>ao enC l i j) (RF p.W (RF p.win (RF p.fuel (RF p.r0 (RF p.r1 (RF p.r2 (RF p.r3 Z))))))))):=⟨rfl,fun _ _ _ _=>rfl,rfl,rfl,rfl,rfl,rfl,rfl,rfl,z⟩
theorem HG(p:Pg){Z:Prop}(z:Z):(RR p.ls.length 2 (fun i j=>ao lbC p.ls i j) (RF p.is.length (RR p.is.length 9 (fun i j=>ao inC p.is i j) Z))):=⟨fun _ _ _ _=>rfl,rfl,fun _ _ _ _=>rfl,z⟩
theorem HF(p:Pg){Z:Prop}(z:Z):(RF p.win (RF p.fuel (RF p.r0 (RF p.r1 (RF p.r2 (RF p.r3 (RF p.ms.length (RR p.ms.length 3 (fun i j=>ao mmC p.ms i j) (RF p.ls.length Z))))))))):=⟨rfl,rfl,rfl,rfl,rfl,rfl,rfl,fun _ _ _ _=>rfl,rfl,z⟩
theorem HE(p:Pg)(l:List En)(k:Nat){Z:Prop}(z:Z):(RF ((l.getD k default).pc) (RF ((l.getD k default).val) (RF ((l.getD k default).adr) (RF ((l.getD k default).frm) (RF ((l.getD k default).nxt) (RF ((l.getD k default).dn) (RF ((l.getD k default).kn) (RF ((l.getD k default).ft) (RF p.W Z))))))))):=⟨rfl,rfl,rfl,rfl,rfl,rfl,rfl,rfl,rfl,z⟩
theorem DB(p:Pg)(l:List En)(k:Nat)(hk:k<l.length)(hb:l.length<1000000)(h:pC_ 97 [.agg (enA (l.getD k default)),pgP p] (.bool false) []):Vc (vC_ 106 0 (ixS p l k) [.bd true,.cl [.agg (enA (l.getD k default)),pgP p] (.bool false) []] .nrm [] (ixS p l (k+1))):=aj (cj (dt ((k:Int)<l.length)) (cj (bi k l.length) (HE p l k (HF p (HG p (cj h (cj (i6 (k+1)) (HH p l (cj (rf p.ms.length) (cj (rr p.ms.length 3 fun i j=>ao mmC p.ms i j) (cj (rf p.ls.length) (cj (rr p.ls.length 2 fun i j=>ao lbC p.ls i j) (cj (rf p.is.length) (cj (rr p.is.length 9 fun i j=>ao inC p.is i j) (cj (rf (l.length:Int)) (cj (rf ((k:Int)+1)) (cj (rf (0:Int)) trivial)))))))))))))))))
theorem GE(p:Pg)(l:List En)(k:Nat)(hk:k<l.length)(hb:l.length<1000000)(h:pC_ 97 [.agg (enA (l.getD k default)),pgP p] (.bool true) []):Vc (vC_ 106 0 (ixS p l k) [.bd true,.cl [.agg (enA (l.getD k default)),pgP p] (.bool true) []] .ret [] (ixJ k)):=aj (cj (dt ((k:Int)<l.length)) (cj (bi k l.length) (HE p l k (HF p (HG p (cj h (cj (rf (k:Int)) trivial)))))))
theorem GF(p:Pg)(l:List En):Vc (vC_ 106 0 (ixS p l l.length) [.bd false] (.ext 0) [] (ixS p l l.length)):=aj (cj (df ((l.length:Int)<l.length)) (HH p l (cj (rf p.ms.length) (cj (rr p.ms.length 3 fun i j=>ao mmC p.ms i j) (cj (rf p.ls.length) (cj (rr p.ls.length 2 fun i j=>ao lbC p.ls i j) (cj (rf p.is.length) (cj (rr p.is.length 9 fun i j=>ao inC p.is i j) (cj (rf (l.length:Int)) (cj (rf (l.length:Int)) (cj (rf (0:Int)) trivial)))))))))))
theorem HD(p:Pg)(l:List En){Z:Prop}(z:Z):(RF p.ms.length (RR p.ms.length 3 (fun i j=>ao mmC p.ms i j) (RF p.ls.length (RR p.ls.length 2 (fun i j=>ao lbC p.ls i j) (RF p.is.length (RR p.is.length 9 (fun i j=>ao inC p.is i j) (RF (l.length:Int) (RF (0:Int) (RF (0:Int) Z))))))))):=⟨rfl,fun _ _ _ _=>rfl,rfl,fun _ _ _ _=>rfl,rfl,fun _ _ _ _=>rfl,rfl,rfl,rfl,z⟩
theorem zK(p:Pg)(l:List En){Z:Prop}(z:Z):(RF l.length (RR l.length 8 (fun i j=>ao enC l i j) (RF p.W (RF p.win (RF p.fuel (RF p.r0 (RF p.r1 (RF p.r2 (RF p.r3 Z))))))))):=⟨rfl,fun _ _ _ _=>rfl,rfl,rfl,rfl,rfl,rfl,rfl,rfl,z⟩
theorem L4(p:Pg)(l:List En)(h:oL_ 106 0 (ixS p l 0).st (.ext 0) (ixS p l l.length).st):Vc (vF_ 106 [enR l,(.clo 97 [pgP p])] [.lp [] (ixS p l 0) (.ext 0) (ixS p l l.length)] [] (aI (-1)) []):=aj (zK p l (HD p l (cj h (cj (rf (-1:Int)) trivial))))
theorem LZ(p:Pg)(l:List En)(k:Int)(h:oL_ 106 0 (ixS p l 0).st .ret (ixJ k).st):Vc (vF_ 106 [enR l,(.clo 97 [pgP p])] [.lp [] (ixS p l 0) .ret (ixJ k)] [] (aI k) []):=aj (zK p l (HD p l (cj h (cj (rf k) trivial))))
theorem HC(p:Pg){Z:Prop}(z:Z):(RF p.ms.length (RR p.ms.length 3 (fun i j=>ao mmC p.ms i j) (RF p.ls.length (RR p.ls.length 2 (fun i j=>ao lbC p.ls i j) (RF p.is.length (RR p.is.length 9 (fun i j=>ao inC p.is i j) Z)))))):=⟨rfl,fun _ _ _ _=>rfl,rfl,fun _ _ _ _=>rfl,rfl,fun _ _ _ _=>rfl,z⟩
theorem MX(p:Pg)(l:List En)(h:pC_ 106 [enR l,(.clo 97 [pgP p])] (aI (-1)) []):Vc (vF_ 96 [enR l,(.clo 97 [pgP p])] [.cl [enR l,(.clo 97 [pgP p])] (aI (-1)) []] [] (.bool false) []):=aj (zK p l (HC p (cj h (cj (df ((-1:Int)>=0)) trivial))))
theorem MW(p:Pg)(l:List En)(k:Int)(h0:0<=k)(h:pC_ 106 [enR l,(.clo 97 [pgP p])] (aI k) []):Vc (vF_ 96 [enR l,(.clo 97 [pgP p])] [.cl [enR l,(.clo 97 [pgP p])] (aI k) [],.bd true] [] (.bool true) []):=aj (zK p l (HC p (cj h (cj (dt (k>=0)) (cj (rf true) trivial)))))
theorem uf(p:Pg)(l lt:List En)(i:Int)(b:Bool)(hc:pC_ 69 [enR l, aI i] (enR lt) [])(h:pC_ 96 [enR lt,(.clo 97 [pgP p])] (.bool b) []):Vc (vF_ 80 [.agg (pgA p),enR l, aI i] [.fz,.cl [enR l, aI i] (enR lt) [],.cl [enR lt,(.clo 97 [pgP p])] (.bool b) []] [] (.bool b) []):=aj (cj (rf l.length) (cj (rr l.length 8 fun i j=>ao enC l i j) (cj (rf i) (cj hc (cj (rf lt.length) (cj (rr lt.length 8 fun i j=>ao enC lt i j) (cj (rf p.W) (cj (rf p.win) (cj (rf p.fuel) (cj (rf p.r0) (cj (rf p.r1) (cj (rf p.r2) (cj (rf p.r3) (cj (rf p.ms.length) (cj (rr p.ms.length 3 fun i j=>ao mmC p.ms i j) (cj (rf p.ls.length) (cj (rr p.ls.length 2 fun i j=>ao lbC p.ls i j) (cj (rf p.is.length) (cj (rr p.is.length 9 fun i j=>ao inC p.is i j) (cj h (cj (rf b) trivial)))))))))))))))))))))
theorem fn1(p:Pg)(e:En)(b:Bool)(h:fnc p e=b):pC_ 97 [.agg (enA e),pgP p] (.bool b) []:=by
 have:=PureC.vc (B9 p e)
 rw[show((atI p e.pc).kind==10)=b from h] at this
 exact this
theorem ui(p:Pg)(l:List En)(hb:l.length<1000000)(h: ∀j,j<l.length->fnc p (l.getD j default)=false): ∀j k,k+j=l.length->OkL Tryz.prog (bY Tryz.prog 106) (lpC Tryz.prog 106 0) (ixS p l k).st (.ext 0) (ixS p l l.length).st
 |0,k,hk=>by
  obtain rfl:k=l.length:=by omega
  exact OkL.exit (Ok.vc (GF p l)) (by simp)
 |j+1,k,hk=>OkL.step (Ok.vc (DB p l k (by omega) hb (fn1 p _ false (h k (by omega))))) (ui p l hb h j (k+1) (by omega))
theorem uh(p:Pg)(l:List En)(hb:l.length<1000000)(q:Nat)(hq:q<l.length)(h:fnc p (l.getD q default)=true)(hn: ∀j,j<q->fnc p (l.getD j default)=false): ∀j k,k+j=q->OkL Tryz.prog (bY Tryz.prog 106) (lpC Tryz.prog 106 0) (ixS p l k).st .ret (ixJ q).st
 |0,k,hk=>by
  obtain rfl:k=q:=by omega
  exact OkL.exit (Ok.vc (GE p l k hq hb (fn1 p _ true h))) (by simp)
 |j+1,k,hk=>OkL.step (Ok.vc (DB p l k (by omega) hb (fn1 p _ false (hn k (by omega))))) (uh p l hb q hq h hn j (k+1) (by omega))
theorem coC(p:Pg)(l:List En)(hb:l.length<1000000):((∀j,j<l.length->fnc p (l.getD j default)=false)∧pC_ 96 [enR l,(.clo 97 [pgP p])] (.bool false) [])∨((∃q,q<l.length∧fnc p (l.getD q default)=true)∧pC_ 96 [enR l,(.clo 97 [pgP p])] (.bool true) []):=by
 by_cases h: ∃q,q<l.length∧fnc p (l.getD q default)=true
 ·have hmin: ∃q,q<l.length∧fnc p (l.getD q default)=true∧ ∀j,j<q->fnc p (l.getD j default)=false:=by
   obtain⟨q,h1,h2⟩:=h
   induction q using Nat.strongRecOn with
   |ind q ih=>
    by_cases h3: ∃j,j<q∧fnc p (l.getD j default)=true
    ·obtain⟨j,h4,h5⟩:=h3
     exact ih j h4 (by omega) h5
    ·refine⟨q,h1,h2,fun j hj=> ?_⟩
     cases hf:fnc p (l.getD j default) with
     |false=>rfl
     |true=>exact absurd ⟨j,hj,hf⟩ h3
  obtain⟨q,h1,h2,h3⟩:=hmin
  exact .inr ⟨⟨q,h1,h2⟩,PureC.vc (MW p l q (by omega) (PureC.vc (LZ p l q (uh p l hb q h1 h2 h3 q 0 (by omega)).ok)))⟩
 ·have hf: ∀j,j<l.length->fnc p (l.getD j default)=false:=fun j hj=>by
   cases hf:fnc p (l.getD j default) with
   |false=>rfl
   |true=>exact absurd ⟨j,hj,hf⟩ h
  exact .inl ⟨hf,PureC.vc (MX p l (PureC.vc (L4 p l (ui p l hb hf l.length 0 (by omega)).ok)))⟩
theorem nW(p:Pg)(l:List En): ∀j k,jT p l k j=true↔ ∃q,k<=q∧q<k+j∧fnc p (l.getD q default)=true
 |0,k=>⟨fun h=>(by cases h),fun⟨q,h1,h2,_⟩=>(by omega)⟩
 |j+1,k=>by
  have ih:=nW p l j (k+1)
  unfold jT
  rw[fH]
  constructor
  ·rintro(h |h)
   ·exact⟨k,aB _,by omega,h⟩
   ·obtain⟨q,h1,h2,h3⟩:=ih.1 h
    exact⟨q,by omega,by omega,h3⟩
  ·rintro⟨q,h1,h2,h3⟩
   by_cases e:q=k
   ·subst e;exact .inl h3
   ·exact .inr (ih.2 ⟨q,by omega,by omega,h3⟩)
theorem LJ(p:Pg)(l:List En)(i:Int)(hb:l.length<1000000):pC_ 80 [.agg (pgA p),enR l,.int .i64 i] (.bool (lC p l i)) []:=by
 have hle:=fu i l.length
 have hc:=s6 l i (cl0 i l.length) (by unfold cl0;omega) hb
 have hlen:(l.take (cl0 i l.length)).length=cl0 i l.length:=by rw[aM];omega
 unfold lC
 rcases coC p (l.take (cl0 i l.length)) (by omega) with⟨h1,h2⟩|⟨⟨q,h1,h3⟩,h2⟩
 ·have e:jT p l 0 (cl0 i l.length)=false:=by
   cases hb:jT p l 0 (cl0 i l.length) with
   |false=>rfl
   |true=>
    obtain⟨q,_,k1,k2⟩:=(nW p l _ 0).1 hb
    have:=h1 q (by omega)
    rw[cP (by omega),k2] at this
    cases this
  rw[e]
  exact PureC.vc (uf p l _ i false hc h2)
 ·have e:jT p l 0 (cl0 i l.length)=true:=(nW p l _ 0).2 ⟨q,by omega,by omega,by rw[cP (by omega)] at h3;exact h3⟩
  rw[e]
  exact PureC.vc (uf p l _ i true hc h2)
def ik(p:Pg)(k a:Int)(e:En):Bool:=bif e.kn&&(e.adr==a) then(atI p e.pc).kind==k else false
def ceV(m:List Int)(a:Int):Int:=if 0<=a∧a<m.length then m.getD a.toNat 0 else 0
def oG(v j:Int)(b:Bool):List (Nat×Blk):=[(0,⟨0,false,3,.box [.int .i64 v]⟩),(1,⟨0,false,3,.box [.int .i64 j]⟩),(2,⟨0,false,4,.box [.bool b]⟩)]
def oI(p:Pg)(m:List Int)(a:Int)(l:List En):Sm:=⟨[(5,pgP p),(1,lR m),(9,.rptr 1 (fun q=>[AV.int .i64 a].getD q .junk) 0),(10,.bptr 0 0),(11,.bptr 1 0),(12,.bptr 2 0),(18,.clo 118 [bkP l])],oG 0 0 false,3⟩
def oJ(p:Pg)(m:List Int)(a:Int)(l:List En)(v j:Int)(b:Bool):Sm:=⟨(oI p m a l).env,oG v j b,3⟩
theorem OZ(p:Pg)(k a:Int)(e:En)(hn:e.kn=false):Vc (vF_ 78 [.agg (pgA p),.agg (enA e), aI k, aI a] [.fz,.fz,.lv (.bool false)] [] (.bool false) []):=aj (cj (congrArg (fun b=>some (AV.bool b)) hn) (cj (rf false) trivial))
theorem O2(p:Pg)(k a:Int)(e:En)(hn:e.kn=true)(ha: ¬e.adr=a):Vc (vF_ 78 [.agg (pgA p),.agg (enA e), aI k, aI a] [.fz,.fz,.lv (.bool true),.bd false] [] (.bool false) []):=aj (cj (congrArg (fun b=>some (AV.bool b)) hn) (cj (ae.2 ha) (cj (rf false) trivial)))
theorem DM(p:Pg){Z:Prop}(z:Z):(RF p.W (RF p.win (RF p.fuel (RF p.r0 (RF p.r1 (RF p.r2 (RF p.r3 (RF p.ms.length (RR p.ms.length 3 (fun i j=>ao mmC p.ms i j) Z))))))))):=⟨rfl,rfl,rfl,rfl,rfl,rfl,rfl,rfl,fun _ _ _ _=>rfl,z⟩
theorem O0(p:Pg)(k a:Int)(e:En)(hn:e.kn=true)(ha:e.adr=a):Vc (vF_ 78 [.agg (pgA p),.agg (enA e), aI k, aI a] [.fz,.fz,.lv (.bool true),.bd true,.cl [.agg (pgA p), aI e.pc] (.agg (inA (atI p e.pc))) []] [] (.bool ((atI p e.pc).kind==k)) []):=aj (cj (congrArg (fun b=>some (AV.bool b)) hn) (cj (ay.2 ha) (DM p (cj (rf p.ls.length) (cj (rr p.ls.length 2 fun i j=>ao lbC p.ls i j) (cj (rf p.is.length) (cj (rr p.is.length 9 fun i j=>ao inC p.is i j) (cj (rf e.pc) (cj (atC p e.pc) (cj (rf ((atI p e.pc).kind==k)) trivial))))))))))
theorem yI(p:Pg)(k a:Int)(e:En)(b:Bool)(h:ik p k a e=b):pC_ 78 [.agg (pgA p),.agg (enA e),.int .i64 k,.int .i64 a] (.bool b) []:=by
 subst h
 unfold ik
 cases hn:e.kn with
 |false=>rw[Bool.false_and];exact PureC.vc (OZ p k a e hn)
 |true=>
  rw[ci]
  by_cases ha:e.adr=a
  ·rw[ay.2 ha];exact PureC.vc (O0 p k a e hn ha)
  ·rw[ae.2 ha];exact PureC.vc (O2 p k a e hn ha)
theorem d8{p:Pg}{k a:Int}{e:En}:ik p k a e=true↔(atI p e.pc).kind=k∧e.kn=true∧e.adr=a:=by
 unfold ik
 cases hn:e.kn with
 |false=>simp
 |true=>
  by_cases ha:e.adr=a
  ·rw[ay.2 ha];simp[ha]
  ·rw[ae.2 ha];simp[ha]
theorem JQ(e:En)(j:Int)(h:e.dn=true):Vc (vF_ 104 [.agg (enA e), aI j] [.fz,.b false] [] (.tup [aI e.val, aI j,.bool true]) []):=aj (cj (show(!e.dn)=false from by rw[h];rfl) (cj (rf e.val) (cj (rf j) (cj (rf true) trivial))))
theorem Ia{Z:Prop}(z:Z):(RF (0:Int) (RF (0:Int) (RF false Z))):=⟨rfl,rfl,rfl,z⟩
theorem JR(e:En)(j:Int)(h:e.dn=false):Vc (vF_ 104 [.agg (enA e), aI j] [.fz,.b true] [] (.tup [aI 0, aI 0,.bool false]) []):=aj (cj (show(!e.dn)=true from by rw[h];rfl) (Ia trivial))
theorem Hb(m:List Int)(a:Int)(h:a<0):Vc (vF_ 105 [lR m, aI a] [.bd true] [] (aI 0) []):=aj (cj (dt (a<0)) (cj (rf (0:Int)) trivial))
theorem Ha(m:List Int)(a:Int)(h0:0<=a)(h: ¬a<m.length):Vc (vF_ 105 [lR m, aI a] [.bd false,.bd true] [] (aI 0) []):=aj (cj (df (a<0)) (cj (dt (a>=(m.length:Int))) (cj (rf (0:Int)) trivial)))
theorem M5(m:List Int)(a:Int)(h0:0<=a)(h:a<m.length):Vc (vF_ 105 [lR m, aI a] [.bd false,.bd false] [] (aI (m.getD a.toNat 0)) []):=aj (cj (df (a<0)) (cj (df (a>=(m.length:Int))) (cj (bi a m.length) (cj (rf (m.getD (Int.toNat a) (0:Int))) trivial))))
theorem NX(e:En)(j:Int):pC_ 104 [.agg (enA e),.int .i64 j] (.tup [.int .i64 (if e.dn then e.val else 0),.int .i64 (if e.dn then j else 0),.bool e.dn]) []:=by
 cases h:e.dn with
 |true=>exact PureC.vc (JQ e j h)
 |false=>exact PureC.vc (JR e j h)
theorem ceC(m:List Int)(a:Int):pC_ 105 [lR m,.int .i64 a] (.int .i64 (ceV m a)) []:=by
 unfold ceV
 by_cases h0:0<=a
 ·by_cases h:a<m.length
  ·rw[aq ⟨h0,h⟩];exact PureC.vc (M5 m a h0 h)
  ·rw[an fun e=>h e.2];exact PureC.vc (Ha m a h0 h)
 ·rw[an fun e=>h0 e.1];exact PureC.vc (Hb m a (by omega))
theorem H9(a:Int)(e:En){Z:Prop}(z:Z):(RF e.dn (RF e.kn (RF e.ft (RF (3:Int) (RF a Z))))):=⟨rfl,rfl,rfl,rfl,rfl,z⟩
theorem H8(p:Pg)(e:En){Z:Prop}(z:Z):(RF p.ls.length (RR p.ls.length 2 (fun i j=>ao lbC p.ls i j) (RF p.is.length (RR p.is.length 9 (fun i j=>ao inC p.is i j) (RF e.pc (RF e.val (RF e.adr (RF e.frm (RF e.nxt Z))))))))):=⟨rfl,fun _ _ _ _=>rfl,rfl,fun _ _ _ _=>rfl,rfl,rfl,rfl,rfl,rfl,z⟩
theorem FQ(p:Pg)(m:List Int)(a:Int)(l:List En)(j:Int)(e:En)(h:pC_ 78 [.agg (pgA p),.agg (enA e), aI 3, aI a] (.bool false) []):Vc (oN Tryz.prog false (bY Tryz.prog 90) (rfP (rfC Tryz.prog 90 0)).toList [aI j,.agg (enA e)] (rfA (rfC Tryz.prog 90 0)) (rfB (rfC Tryz.prog 90 0)) (oI p m a l) (oG 0 0 false) [.cl [.agg (pgA p),.agg (enA e), aI 3, aI a] (.bool false) []] .nrm [(0,0),(1,1),(2,2)] (oG 0 0 false)):=aj (DM p (H8 p e (H9 a e (cj h (Ia trivial)))))
theorem A9(p:Pg)(m:List Int)(a:Int)(l:List En)(j:Int)(e:En)(h:pC_ 78 [.agg (pgA p),.agg (enA e), aI 3, aI a] (.bool true) [])(h2:pC_ 104 [.agg (enA e), aI j] (.tup [aI (if e.dn then e.val else 0), aI (if e.dn then j else 0),.bool e.dn]) []):Vc (oN Tryz.prog false (bY Tryz.prog 90) (rfP (rfC Tryz.prog 90 0)).toList [aI j,.agg (enA e)] (rfA (rfC Tryz.prog 90 0)) (rfB (rfC Tryz.prog 90 0)) (oI p m a l) (oG 0 0 false) [.cl [.agg (pgA p),.agg (enA e), aI 3, aI a] (.bool true) [],.cl [.agg (enA e), aI j] (.tup [aI (if e.dn then e.val else 0), aI (if e.dn then j else 0),.bool e.dn]) []] .ret [(0,0),(1,1),(2,2)] (oG (if e.dn then e.val else 0) (if e.dn then j else 0) e.dn)):=aj (DM p (H8 p e (H9 a e (cj h (cj (rf e.pc) (cj (rf e.val) (cj (rf e.adr) (cj (rf e.frm) (cj (rf e.nxt) (cj (rf e.dn) (cj (rf e.kn) (cj (rf e.ft) (cj (rf j) (cj h2 (cj (rf (if e.dn=true then e.val else(0:Int))) (cj (rf (if e.dn=true then j else(0:Int))) (cj (rf e.dn) trivial)))))))))))))))))
theorem o8(p:Pg)(l:List En)(a:Int): ∀c,(ldF p l a c=none∧ ∀j,j<c->ik p 3 a (l.getD j default)=false)∨
  ∃q,q<c∧ik p 3 a (l.getD q default)=true∧(∀j,q<j->j<c->ik p 3 a (l.getD j default)=false)∧ldF p l a c=some (if(l.getD q default).dn then((l.getD q default).val,(q:Int),true) else(0,0,false))
 |0=> .inl ⟨rfl,fun j hj=>by omega⟩
 |c+1=>by
  unfold ldF
  by_cases h:ik p 3 a (l.getD c default)=true
  ·rw[aq (show(enI p l c).kind=3∧_ from d8.1 h)]
   exact .inr ⟨c,by omega,h,fun j h1 h2=>by omega,rfl⟩
  ·rw[an (show ¬((enI p l c).kind=3∧_) from fun e=>h (d8.2 e))]
   have hf:ik p 3 a (l.getD c default)=false:=by simpa using h
   rcases o8 p l a c with⟨h1,h2⟩|⟨q,h1,h2,h3,h4⟩
   ·refine .inl ⟨h1,fun j hj=> ?_⟩
    by_cases e:j=c
    ·rw[e];exact hf
    ·exact h2 j (by omega)
   ·refine .inr ⟨q,by omega,h2,fun j hj1 hj2=> ?_,h4⟩
    by_cases e:j=c
    ·rw[e];exact hf
    ·exact h3 j hj1 (by omega)
theorem o7(p:Pg)(m:List Int)(a:Int)(l:List En)(k:Nat)(h:ik p 3 a (l.getD (l.length-1-k) default)=false):Rnd Tryz.prog (bY Tryz.prog 90) (rfP (rfC Tryz.prog 90 0)).toList (bkX l k) (rfA (rfC Tryz.prog 90 0)) (rfB (rfC Tryz.prog 90 0)) (oI p m a l) (oG 0 0 false) .nrm (oG 0 0 false):=
 Rnd.vc (FQ p m a l _ _ (yI p 3 a _ false h))
theorem sQ(p:Pg)(m:List Int)(a:Int)(l:List En)(k:Nat)(h:ik p 3 a (l.getD (l.length-1-k) default)=true):Rnd Tryz.prog (bY Tryz.prog 90) (rfP (rfC Tryz.prog 90 0)).toList (bkX l k) (rfA (rfC Tryz.prog 90 0)) (rfB (rfC Tryz.prog 90 0)) (oI p m a l) (oG 0 0 false) .ret
  (oG (if(l.getD (l.length-1-k) default).dn then(l.getD (l.length-1-k) default).val else 0) (if(l.getD (l.length-1-k) default).dn then((l.length-1-k:Nat):Int) else 0) (l.getD (l.length-1-k) default).dn):=
 Rnd.vc (A9 p m a l _ _ (yI p 3 a _ true h) (NX _ _))
theorem yr(p:Pg)(m:List Int)(a:Int)(l:List En)(hb:l.length<=1000000)(h: ∀j,j<l.length->ik p 3 a (l.getD j default)=false):Ok Tryz.prog (bY Tryz.prog 90) (rfC Tryz.prog 90 0) (oI p m a l).st .nrm (oJ p m a l 0 0 false).st:=
 Ok.rangeC (by kernel_rfl) rfl rfl rfl (by kernel_rfl) (bkC l hb) (fun _=>by kernel_rfl) (by kernel_rfl) (F:=fun _=>oG 0 0 false) rfl (aB _) (fun k hk=>o7 p m a l k (h _ (by omega))) (.inl ⟨rfl,rfl,rfl⟩)
theorem yu(p:Pg)(m:List Int)(a:Int)(l:List En)(hb:l.length<=1000000)(q:Nat)(hq:q<l.length)(h:ik p 3 a (l.getD q default)=true)(hn: ∀j,q<j->j<l.length->ik p 3 a (l.getD j default)=false)(v j:Int)(b:Bool)(hv:v=if(l.getD q default).dn then(l.getD q default).val else 0)(hj:j=if(l.getD q default).dn then(q:Int) else 0)(hd:b=(l.getD q default).dn):Ok Tryz.prog (bY Tryz.prog 90) (rfC Tryz.prog 90 0) (oI p m a l).st .ret (oJ p m a l v j b).st:=by
 subst hv;subst hd;subst hj
 have e:l.length-1-(l.length-1-q)=q:=by omega
 have hy:=sQ p m a l (l.length-1-q) (by rw[e];exact h)
 rw[e] at hy
 exact Ok.rangeC (m:=l.length-1-q) (by kernel_rfl) rfl rfl rfl (by kernel_rfl) (bkC l hb) (fun _=>by kernel_rfl) (by kernel_rfl) (F:=fun _=>oG 0 0 false) rfl (by omega) (fun k hk=>o7 p m a l k (hn _ (by omega) (by omega))) (.inr ⟨by omega,(by simp),hy⟩)
theorem H7(lt:List En)(a:Int){Z:Prop}(z:Z):(RF a (RF lt.length (RR lt.length 8 (fun i j=>ao enC lt i j) Z))):=⟨rfl,rfl,fun _ _ _ _=>rfl,z⟩
theorem H6(p:Pg)(m:List Int){Z:Prop}(z:Z):(RF p.r3 (RF p.ms.length (RR p.ms.length 3 (fun i j=>ao mmC p.ms i j) (RF p.ls.length (RR p.ls.length 2 (fun i j=>ao lbC p.ls i j) (RF p.is.length (RR p.is.length 9 (fun i j=>ao inC p.is i j) (RF m.length (RR m.length 1 (fun i j=>aI (m.getD i 0)) Z))))))))):=⟨rfl,rfl,fun _ _ _ _=>rfl,rfl,fun _ _ _ _=>rfl,rfl,fun _ _ _ _=>rfl,rfl,fun _ _ _ _=>rfl,z⟩
theorem H5(p:Pg){Z:Prop}(z:Z):(RF (0:Int) (RF (0:Int) (RF false (RF p.W (RF p.win (RF p.fuel (RF p.r0 (RF p.r1 (RF p.r2 Z))))))))):=⟨rfl,rfl,rfl,rfl,rfl,rfl,rfl,rfl,rfl,z⟩
theorem H4(l:List En)(i:Int){Z:Prop}(z:Z):(RF l.length (RR l.length 8 (fun i j=>ao enC l i j) (RF i Z))):=⟨rfl,fun _ _ _ _=>rfl,rfl,z⟩
theorem Dz(p:Pg)(m:List Int)(l lt:List En)(i a:Int)(v j:Int)(b:Bool)(hc:pC_ 69 [enR l, aI i] (enR lt) [])(h:Ok Tryz.prog (bY Tryz.prog 90) (rfC Tryz.prog 90 0) (oI p m a lt).st .ret (oJ p m a lt v j b).st):Vc (vF_ 90 [.agg (pgA p),lR m,enR l, aI i, aI a] [.fv,.fv,.cl [enR l, aI i] (enR lt) [],.fv,.lp [(0,0),(1,1),(2,2)] (oI p m a lt) .ret (oJ p m a lt v j b)] [] (.tup [aI v, aI j,.bool b]) []):=aj (H4 l i (cj hc (H5 p (H6 p m (H7 lt a (cj h (cj (rf v) (cj (rf j) (cj (rf b) trivial)))))))))
theorem Lt(p:Pg)(m:List Int)(l lt:List En)(i a:Int)(hc:pC_ 69 [enR l, aI i] (enR lt) [])(h:Ok Tryz.prog (bY Tryz.prog 90) (rfC Tryz.prog 90 0) (oI p m a lt).st .nrm (oJ p m a lt 0 0 false).st):Vc (vF_ 90 [.agg (pgA p),lR m,enR l, aI i, aI a] [.fv,.fv,.cl [enR l, aI i] (enR lt) [],.fv,.lp [(0,0),(1,1),(2,2)] (oI p m a lt) .nrm (oJ p m a lt 0 0 false),.cl [lR m, aI a] (aI (ceV m a)) []] [] (.tup [aI (ceV m a), aI (-1),.bool true]) []):=aj (H4 l i (cj hc (H5 p (H6 p m (H7 lt a (cj h (cj (rf m.length) (cj (rr m.length 1 fun i j=>aI (m.getD i 0)) (cj (rf a) (cj (ceC m a) (cj (rf (ceV m a)) (cj (rf (-1:Int)) (cj (rf true) trivial)))))))))))))
theorem Hc(m:List Int)(a:Int):(if 0<=a∧a<m.length then(m.getD a.toNat 0,(-1:Int),true) else(0, -1,true))=(ceV m a, -1,true):=by
 unfold ceV
 by_cases h:0<=a∧a<m.length
 ·rw[aq h,aq h]
 ·rw[an h,an h]
theorem Lu(p:Pg)(m:List Int)(l:List En)(i a:Int)(hb:l.length<1000000):pC_ 90 [.agg (pgA p),lR m,enR l,.int .i64 i,.int .i64 a] (.tup [.int .i64 (ldV p m l i a).1,.int .i64 (ldV p m l i a).2.1,.bool (ldV p m l i a).2.2]) []:=by
 have hle:=fu i l.length
 have hc:=s6 l i (cl0 i l.length) (by unfold cl0;omega) hb
 have hlen:(l.take (cl0 i l.length)).length=cl0 i l.length:=by rw[aM];omega
 unfold ldV
 rcases o8 p l a (cl0 i l.length) with⟨h1,h2⟩|⟨q,h1,h2,h3,h4⟩
 ·rw[h1]
  dsimp only
  rw[Hc]
  exact PureC.vc (Lt p m l _ i a hc (yr p m a _ (by omega) fun j hj=>by rw[cP (by omega)];exact h2 j (by omega)))
 ·rw[h4]
  dsimp only
  have hl:=fun v j b hv hj hd=>yu p m a (l.take (cl0 i l.length)) (by omega) q (by omega) (by rw[cP (by omega)];exact h2) (fun j a b=>by rw[cP (by omega)];exact h3 j a (by omega)) v j b hv hj hd
  rw[cP (by omega)] at hl
  cases hd:(l.getD q default).dn with
  |true=>exact PureC.vc (Dz p m l _ i a (l.getD q default).val q true hc (hl _ _ _ (by rw[hd];rfl) (by rw[hd];rfl) hd.symm))
  |false=>exact PureC.vc (Dz p m l _ i a 0 0 false hc (hl _ _ _ (by rw[hd];rfl) (by rw[hd];rfl) hd.symm))
def BQ(p:Pg)(l:List En)(i a:Int)(k:Nat):Prop:=i<(k:Int)∧hzB p l i a k
instance(p:Pg)(l:List En)(i a:Int)(k:Nat):Decidable (BQ p l i a k):=inferInstanceAs (Decidable (_∧_))
def hzL(p:Pg)(l:List En)(i a:Int):Nat->Nat->Option Nat
 |_,0=>none
 |k,j+1=>if BQ p l i a k then some k else hzL p l i a (k+1) j
def lzS(p:Pg)(l:List En)(i a:Int)(k:Nat):Sm:=⟨[(4,pgP p),(12,enR l),(2,.int .i64 i),(3,.int .i64 a),(13,.int .i64 l.length),(14,.int .i64 k)],[],0⟩
theorem uy(p:Pg)(l:List En)(i:Int)(a:Int){Z:Prop}(z:Z):(RF p.ls.length (RR p.ls.length 2 (fun i j=>ao lbC p.ls i j) (RF p.is.length (RR p.is.length 9 (fun i j=>ao inC p.is i j) (RF l.length (RR l.length 8 (fun i j=>ao enC l i j) (RF i (RF a (RF (l.length:Int) Z))))))))):=⟨rfl,fun _ _ _ _=>rfl,rfl,fun _ _ _ _=>rfl,rfl,fun _ _ _ _=>rfl,rfl,rfl,rfl,z⟩
theorem qq(p:Pg){Z:Prop}(z:Z):(RF p.W (RF p.win (RF p.fuel (RF p.r0 (RF p.r1 (RF p.r2 (RF p.r3 (RF p.ms.length (RR p.ms.length 3 (fun i j=>ao mmC p.ms i j) Z))))))))):=⟨rfl,rfl,rfl,rfl,rfl,rfl,rfl,rfl,fun _ _ _ _=>rfl,z⟩
theorem Lm(p:Pg)(l:List En)(i a:Int)(k:Nat)(hk:k<l.length)(hb:l.length<1000000)(hi: ¬i<(k:Int)):Vc (vC_ 46 0 (lzS p l i a k) [.bd true,.bd false] .nrm [] (lzS p l i a (k+1))):=aj (cj (dt ((k:Int)<l.length)) (cj (bi k l.length) (cj (df ((k:Int)>i)) (cj (i6 (k+1)) (qq p (uy p l i a (cj (rf ((k:Int)+1)) trivial)))))))
theorem Lo(p:Pg)(l:List En)(i a:Int)(k:Nat)(hk:k<l.length)(hb:l.length<1000000)(hi:i<(k:Int))(hf: ¬(l.getD k default).frm<i):Vc (vC_ 46 0 (lzS p l i a k) [.bd true,.bd true,.bd false] .nrm [] (lzS p l i a (k+1))):=aj (cj (dt ((k:Int)<l.length)) (cj (bi k l.length) (cj (dt ((k:Int)>i)) (cj (bK hf) (cj (i6 (k+1)) (qq p (uy p l i a (cj (rf ((k:Int)+1)) trivial))))))))
theorem H3(l:List En)(a:Int)(k:Nat){Z:Prop}(z:Z):(RF ((l.getD k default).dn) (RF ((l.getD k default).kn) (RF ((l.getD k default).ft) (RF (2:Int) (RF a Z))))):=⟨rfl,rfl,rfl,rfl,rfl,z⟩
theorem H2(p:Pg)(l:List En)(k:Nat){Z:Prop}(z:Z):(RF p.ls.length (RR p.ls.length 2 (fun i j=>ao lbC p.ls i j) (RF p.is.length (RR p.is.length 9 (fun i j=>ao inC p.is i j) (RF ((l.getD k default).pc) (RF ((l.getD k default).val) (RF ((l.getD k default).adr) (RF ((l.getD k default).frm) (RF ((l.getD k default).nxt) Z))))))))):=⟨rfl,fun _ _ _ _=>rfl,rfl,fun _ _ _ _=>rfl,rfl,rfl,rfl,rfl,rfl,z⟩
theorem Ln(p:Pg)(l:List En)(i a:Int)(k:Nat)(hk:k<l.length)(hb:l.length<1000000)(hi:i<(k:Int))(hf:(l.getD k default).frm<i)(h:pC_ 78 [.agg (pgA p),.agg (enA (l.getD k default)), aI 2, aI a] (.bool false) []):Vc (vC_ 46 0 (lzS p l i a k) [.bd true,.bd true,.bd true,.cl [.agg (pgA p),.agg (enA (l.getD k default)), aI 2, aI a] (.bool false) []] .nrm [] (lzS p l i a (k+1))):=aj (cj (dt ((k:Int)<l.length)) (cj (bi k l.length) (cj (dt ((k:Int)>i)) (cj (bB hf) (qq p (H2 p l k (H3 l a k (cj h (cj (i6 (k+1)) (qq p (uy p l i a (cj (rf ((k:Int)+1)) trivial))))))))))))
theorem Or(p:Pg)(l:List En)(i a:Int)(k:Nat)(hk:k<l.length)(hb:l.length<1000000)(hi:i<(k:Int))(hf:(l.getD k default).frm<i)(h:pC_ 78 [.agg (pgA p),.agg (enA (l.getD k default)), aI 2, aI a] (.bool true) []):Vc (vC_ 46 0 (lzS p l i a k) [.bd true,.bd true,.bd true,.cl [.agg (pgA p),.agg (enA (l.getD k default)), aI 2, aI a] (.bool true) []] .ret [] (vbS 8 9 ((k:Int),true))):=aj (cj (dt ((k:Int)<l.length)) (cj (bi k l.length) (cj (dt ((k:Int)>i)) (cj (bB hf) (qq p (H2 p l k (H3 l a k (cj h (cj (rf (k:Int)) (cj (rf true) trivial))))))))))
theorem Gg(p:Pg)(l:List En)(i a:Int):Vc (vC_ 46 0 (lzS p l i a l.length) [.bd false] (.ext 0) [] (lzS p l i a l.length)):=aj (cj (df ((l.length:Int)<l.length)) (qq p (uy p l i a (cj (rf (l.length:Int)) trivial))))
theorem ua(p:Pg)(l:List En)(i a:Int)(hb:l.length<1000000)(q:Nat): ∀j k,k+j=l.length->hzL p l i a k j=some q->OkL Tryz.prog (bY Tryz.prog 46) (lpC Tryz.prog 46 0) (lzS p l i a k).st .ret (vbS 8 9 ((q:Int),true)).st
 |0,k,_,h=>by cases h
 |j+1,k,hk,h=>by
  unfold hzL at h
  by_cases hz:BQ p l i a k
  ·rw[aq hz] at h
   obtain⟨hi,hk3,hn,ha,hf⟩:=hz
   have hg:ik p 2 a (l.getD k default)=true:=d8.2 ⟨hk3,hn,ha⟩
   rw[ai] at h
   subst h
   exact OkL.exit (Ok.vc (Or p l i a k (by omega) hb hi hf (yI p 2 a _ true hg))) (by simp)
  ·rw[an hz] at h
   refine OkL.step ?_ (ua p l i a hb q j (k+1) (by omega) h)
   by_cases hi:i<(k:Int)
   ·by_cases hf:(l.getD k default).frm<i
    ·cases hg:ik p 2 a (l.getD k default) with
     |false=>exact Ok.vc (Ln p l i a k (by omega) hb hi hf (yI p 2 a _ false hg))
     |true=>exact absurd ⟨hi,(d8.1 hg).1,(d8.1 hg).2.1,(d8.1 hg).2.2,hf⟩ hz
    ·exact Ok.vc (Lo p l i a k (by omega) hb hi hf)
   ·exact Ok.vc (Lm p l i a k (by omega) hb hi)
theorem t9(p:Pg)(l:List En)(i a:Int)(hb:l.length<1000000): ∀j k,k+j=l.length->hzL p l i a k j=none->OkL Tryz.prog (bY Tryz.prog 46) (lpC Tryz.prog 46 0) (lzS p l i a k).st (.ext 0) (lzS p l i a l.length).st
 |0,k,hk,_=>by
  obtain rfl:k=l.length:=by omega
  exact OkL.exit (Ok.vc (Gg p l i a)) (by simp)
 |j+1,k,hk,h=>by
  unfold hzL at h
  by_cases hz:BQ p l i a k
  ·rw[aq hz] at h
   obtain⟨hi,hk3,hn,ha,hf⟩:=hz
   have hg:ik p 2 a (l.getD k default)=true:=d8.2 ⟨hk3,hn,ha⟩
   cases h
  ·rw[an hz] at h
   refine OkL.step ?_ (t9 p l i a hb j (k+1) (by omega) h)
   by_cases hi:i<(k:Int)
   ·by_cases hf:(l.getD k default).frm<i
    ·cases hg:ik p 2 a (l.getD k default) with
     |false=>exact Ok.vc (Ln p l i a k (by omega) hb hi hf (yI p 2 a _ false hg))
     |true=>exact absurd ⟨hi,(d8.1 hg).1,(d8.1 hg).2.1,(d8.1 hg).2.2,hf⟩ hz
    ·exact Ok.vc (Lo p l i a k (by omega) hb hi hf)
   ·exact Ok.vc (Lm p l i a k (by omega) hb hi)
theorem uo(p:Pg)(l:List En)(i a:Int)(n:Nat): ∀j k,k+j=n->hzL p l i a k j=if k<hz0 i n then hzG p l i a (hz0 i n) (n-hz0 i n) else hzG p l i a k j
 |0,k,hk=>by
  by_cases h:k<hz0 i n
  ·rw[aq h,show n-hz0 i n=0 by omega];rfl
  ·rw[an h];rfl
 |j+1,k,hk=>by
  have ih:=uo p l i a n j (k+1) (by omega)
  unfold hzL
  by_cases h:k<hz0 i n
  ·rw[aq h]
   have hi: ¬i<(k:Int):=by unfold hz0 at h;omega
   rw[an fun e=>hi e.1,ih]
   by_cases h2:k+1<hz0 i n
   ·rw[aq h2]
   ·rw[an h2,show hz0 i n=k+1 by omega,show n-(k+1)=j by omega]
  ·rw[an h]
   have hi:i<(k:Int):=by unfold hz0 at h;omega
   rw[an (by omega)] at ih
   rw[ih,show hzG p l i a k (j+1)=if hzB p l i a k then some k else hzG p l i a (k+1) j from rfl]
   by_cases hz:hzB p l i a k
   ·rw[aq hz,aq ⟨hi,hz⟩]
   ·rw[an hz,an fun e=>hz e.2]
theorem GQ(p:Pg)(l:List En)(i a:Int):hzL p l i a 0 l.length=hzG p l i a (hz0 i l.length) (l.length-hz0 i l.length):=by
 rw[uo p l i a l.length l.length 0 (by omega)]
 by_cases h:0<hz0 i l.length
 ·rw[aq h]
 ·rw[an h,show hz0 i l.length=0 by omega];rfl
theorem Gp(p:Pg)(l:List En)(i a:Int)(q:Nat)(h:oL_ 46 0 (lzS p l i a 0).st .ret (vbS 8 9 ((q:Int),true)).st):Vc (vF_ 46 [.agg (pgA p),enR l, aI i, aI a] [.fv,.lp [] (lzS p l i a 0) .ret (vbS 8 9 ((q:Int),true))] [] (.tup [aI q,.bool true]) []):=aj (qq p (uy p l i a (cj (rf (0:Int)) (cj h (cj (rf (q:Int)) (cj (rf true) trivial))))))
theorem Gq(p:Pg)(l:List En)(i a:Int)(h:oL_ 46 0 (lzS p l i a 0).st (.ext 0) (lzS p l i a l.length).st):Vc (vF_ 46 [.agg (pgA p),enR l, aI i, aI a] [.fv,.lp [] (lzS p l i a 0) (.ext 0) (lzS p l i a l.length)] [] (.tup [aI 0,.bool false]) []):=aj (qq p (uy p l i a (cj (rf (0:Int)) (cj h (cj (rf (0:Int)) (cj (rf false) trivial))))))
theorem Oy(p:Pg)(l:List En)(i a:Int)(hb:l.length<1000000):pC_ 46 [.agg (pgA p),enR l,.int .i64 i,.int .i64 a] (.tup [.int .i64 (hzV p l i a).1,.bool (hzV p l i a).2]) []:=by
 unfold hzV
 rw[<-GQ]
 cases h:hzL p l i a 0 l.length with
 |some q=>exact PureC.vc (Gp p l i a q (ua p l i a hb q _ _ (by omega) h).ok)
 |none=>exact PureC.vc (Gq p l i a (t9 p l i a hb _ _ (by omega) h).ok)
end
end Go.Proofs.YtlfldlnohmobmaaGreat.Px
namespace Go.Proofs.YtlfldlnohmobmaaGreat
section
open Go.RowKit
abbrev Part:=Option Addr×Nat×List Int
def Part.v(p:Part):Value:= .slice p.1 p.2.2.length p.2.1
def oC:List Part->List Int
 | []=>[]
 |p::l=>p.2.2++oC l
set_option maxHeartbeats 2000000 in
theorem vD(A:Option Addr)(n c:Nat)(xs:List Int)(w:World)(hn:n=xs.length)(hr:Rd w w.heap.size A (xs.map (Value.int .i64)))(hs:n<=1000000):
  Calls Tryz.prog 68 #[.slice A n c] w (RetOwn w.heap.size 3 (xs.map (Value.int .i64)) w):=by
 subst hn
 obtain⟨i0,hi0,hz0,hs0,hb0⟩:=info_parts Mi
 cases A with
 |none=>
  have hx:xs=[]:=by have:=hr.none_nil;simpa using this
  subst hx
  have he: ∀w:World,(binOp .eql 22 (.slice none 0 c) (.slice none 0 0)).run Tryz.prog w= .ok (.bool true) w:=fun _=>rfl
  go_enter Tryz.func68,Tryz.ntmps68
  go_wp2_with fail
  go_ret
  exact⟨_,rfl,World.ownsRow_nil _ _ _ _,up0 _⟩
 |some ad=>
  have hlit:=xT w 3 _ rfl
  have he: ∀w:World,(binOp .eql 22 (.slice (some ad) xs.length c) (.slice none 0 0)).run Tryz.prog w= .ok (.bool false) w:=fun _=>rfl
  go_enter Tryz.func68,Tryz.ntmps68
  go_wp2_with (at_builtin;refine Ad _ rfl (.tmp 5) (.tmp 6) _ rfl w.heap.size 3 i0 _ 8 Tryz.underlying22 hi0 hz0 hs0 hb0 rfl _ 0 [] rfl hlit (w.alloc (.cells #[] 3)).heap.size (some ad) xs.length c (xs.map (Value.int .i64)) rfl (by simp) (hr.allocT _) (yC _ _) (by omega) (by omega) (by simp) ?_;intro v1 w1 hown1 hb1)
  go_ret
  refine⟨_,rfl, ?_,(upA (up0 w) _).trans hb1⟩
  have:=xS hown1
  rwa [dj]
end
end Go.Proofs.YtlfldlnohmobmaaGreat
namespace Go.Proofs.YtlfldlnohmobmaaGreat.Px
section
open Go.RowKit Go.Proofs.YtlfldlnohmobmaaGreat.Rx
theorem jR{a:AV}{l:List Int}(h:PartOk a l)(hl:l.length<=1000000):pC_ 68 [a] (.own 0 0 1 0 l.length) [fw l]:=
 PureC.ofOwn (k:= .i64) (l:=l) rfl (fun _ _=>rfl) fun w R vs hR hn ha=>by
  obtain⟨v,rfl,hv⟩:=tV rfl hn ha
  obtain⟨A,c,rfl,hr⟩:=h.rep hv hR
  exact vD A _ c l w rfl hr hl
theorem nQ(l:List Int)(hl:l.length<=1000000):pC_ 68 [lR l] (lR l) []:=(jR (.row l) hl).frozen
def ac(ms:List Mm)(s:Nat)(k:Nat):Sm:=⟨[(8,.int .i64 ms.length),(7,bU ms),(9,.int .i64 k),(3,.int .i64 s)],[],0⟩
theorem Ci(ms:List Mm)(s k:Nat)(hk:k<ms.length)(h64:ms.length<4611686018427387904)(hs:s+(ms.getD k default).n<=16):Vc (vC_ 77 0 (ac ms s k) [.b true] .nrm [] (ac ms (s+(ms.getD k default).n) (k+1))):=aj (cj (dt ((k:Int)<ms.length)) (cj (bi k ms.length) (cj (i6 (16-s)) (cj (i6 ((s:Int)+if(16:Int)-(s:Int)<if(↑((ms.getD k default).n):Int)<0 then(0:Int) else(↑((ms.getD k default).n):Int) then(16:Int)-(s:Int) else if(↑((ms.getD k default).n):Int)<0 then(0:Int) else(↑((ms.getD k default).n):Int))) (cj (i6 (k+1)) (cj (rf (ms.length:Int)) (cj (rf ms.length) (cj (rr ms.length 3 fun i j=>ao mmC ms i j) (cj (rf ((k:Int)+1)) (cj (pv (((s:Int)+if(16:Int)-(s:Int)<if(↑((ms.getD k default).n):Int)<0 then(0:Int) else(↑((ms.getD k default).n):Int) then(16:Int)-(s:Int) else if(↑((ms.getD k default).n):Int)<0 then(0:Int) else(↑((ms.getD k default).n):Int))=(↑(s+(ms.getD k default).n):Int))) trivial))))))))))
theorem Hp(ms:List Mm)(s:Nat):Vc (vC_ 77 0 (ac ms s ms.length) [.b false] (.ext 0) [] (ac ms s ms.length)):=aj (cj (df ((ms.length:Int)<ms.length)) (cj (rf (ms.length:Int)) (cj (rf ms.length) (cj (rr ms.length 3 fun i j=>ao mmC ms i j) (cj (rf (ms.length:Int)) (cj (rf (s:Int)) trivial))))))
theorem Cj(ms:List Mm)(h64:ms.length<4611686018427387904)(hs:aP ms<=16):oL_ 77 0 (ac ms 0 0).st (.ext 0) (ac ms (aP ms) ms.length).st:=by
 have:=Ok.loop (P:=Tryz.prog) (nt:=bY Tryz.prog 77) (c:=lpC Tryz.prog 77 0) (F:=fun k=>ac ms (aP (ms.take k)) k) (m:=ms.length) (x:= .ext 0) (J:=ac ms (aP ms) ms.length) (fun k hk=>by
  have h1:=kS hk
  have h2:=gD ms (k+1)
  show Ok _ _ _ _ _ (ac ms (aP (ms.take (k+1))) (k+1)).st
  rw[h1]
  exact Ok.vc (Ci ms _ k hk h64 (by omega))) (by
  show Ok _ _ _ (ac ms (aP (ms.take ms.length)) ms.length).st _ _
  rw[mo]
  exact Ok.vc (Hp ms _)) (by simp)
 simpa [aP] using this
theorem Ho(W r0 r1 r2 r3:Int)(ms:List Mm)(h64:ms.length<4611686018427387904)(hs:aP ms<=16):Vc (vF_ 77 [.agg (bn W r0 r1 r2 r3 (bU ms))] [.lp [] (ac ms 0 0) (.ext 0) (ac ms (aP ms) ms.length)] [] (aI (aP ms)) []):=aj (cj (rf (ms.length:Int)) (cj (rf ms.length) (cj (rr ms.length 3 fun i j=>ao mmC ms i j) (cj (rf (0:Int)) (cj (rf (0:Int)) (cj (Cj ms h64 hs) (cj (rf (↑(aP ms):Int)) trivial)))))))
theorem jg(W r0 r1 r2 r3:Int)(ms:List Mm)(h64:ms.length<4611686018427387904)(hs:aP ms<=16):pC_ 77 [.agg (bn W r0 r1 r2 r3 (bU ms))] (.int .i64 (aP ms)) []:=PureC.vc (Ho W r0 r1 r2 r3 ms h64 hs)
theorem L5{l:List Int}{n i:Nat}(h:i<n):AV.int .i64 (l.getD i 0)=AV.int .i64 ((l.take n).getD i 0):=by
 rw[au,au,aZ,aq h]
theorem pq(p:Pg)(e:En){Z:Prop}(z:Z):(RF p.ls.length (RR p.ls.length 2 (fun i j=>ao lbC p.ls i j) (RF p.is.length (RR p.is.length 9 (fun i j=>ao inC p.is i j) (RF e.pc Z))))):=⟨rfl,fun _ _ _ _=>rfl,rfl,fun _ _ _ _=>rfl,rfl,z⟩
theorem jy(p:Pg){Z:Prop}(z:Z):(RF p.W (RF p.win (RF p.fuel (RF p.r0 (RF p.r1 (RF p.r2 (RF p.r3 (RF p.ms.length (RR p.ms.length 3 (fun i j=>ao mmC p.ms i j) Z))))))))):=⟨rfl,rfl,rfl,rfl,rfl,rfl,rfl,rfl,fun _ _ _ _=>rfl,z⟩
theorem zJ(p:Pg){Z:Prop}(z:Z):(RF p.W (RF p.r0 (RF p.r1 (RF p.r2 (RF p.r3 (RF p.ms.length (RR p.ms.length 3 (fun i j=>ao mmC p.ms i j) Z))))))):=⟨rfl,rfl,rfl,rfl,rfl,rfl,fun _ _ _ _=>rfl,z⟩
abbrev AZ(p:Pg):Prop:=PureC Tryz.prog 77 [.agg (bn p.W p.r0 p.r1 p.r2 p.r3 (bU p.ms))] (.int .i64 (aP p.ms)) []
abbrev AX(st:List Int):Prop:=PureC Tryz.prog 68 [lR st] (.own 0 0 1 0 st.length) [fw st]
abbrev AY:Prop:=PureC Tryz.prog 68 [.nils] (lR []) []
abbrev Bf(p:Pg)(e:En)(op:Int)(d:Int)(tg:Int)(a:Vl)(b:Vl)(nm:ByteArray):Orc:= .cl [.agg (pgA p), aI e.pc] (.agg (inA (⟨8,op,d,a,b,nm,tg⟩:In))) []
abbrev Bd(p:Pg):Orc:= .cl [.agg (bn p.W p.r0 p.r1 p.r2 p.r3 (bU p.ms))] (aI (aP p.ms)) []
abbrev Be(st:List Int):Orc:= .cl [lR st] (.own 0 0 1 0 st.length) [fw st]
theorem zx(p:Pg)(e:En)(st:List Int)(op d tg:Int)(a b:Vl)(nm:ByteArray)(hA:pC_ 84 [.agg (pgA p), aI e.pc] (.agg (inA (⟨8,op,d,a,b,nm,tg⟩:In))) [])(hc:AZ p)(hn:AY)(hs:AX st)(hk:4<=st.length)(hk2:st.length<1000):Vc (vF_ 91 [.agg (pgA p),lR st,.agg (enA e)] [.fz,.fz,Bf p e op d tg a b nm,.bd true,.fz,.inl,.fz,.cl [.nils] (lR []) [],Be st,Bd p,.it 2,.inl,Bf p e op d tg a b nm,.fz,.bd true] [] (.tup [lR st,.bool false]) []):=aj (jy p (pq p e (cj hA (cj (e1 8 8) (cj hn (cj (rf st.length) (cj (rr st.length 1 fun i j=>aI (st.getD i 0)) (cj hs (zJ p (cj hc (jy p (pq p e (cj hA (cj (dt ((st.length:Int)>=4)) (cj (i6 (0+1)) (cj (rf st.length) (cj (rr st.length 1 fun i j=>aI (st.getD i 0)) (cj (e0 2 0) trivial))))))))))))))))))
theorem zw(p:Pg)(e:En)(st:List Int)(op d tg:Int)(a b:Vl)(nm:ByteArray)(hA:pC_ 84 [.agg (pgA p), aI e.pc] (.agg (inA (⟨8,op,d,a,b,nm,tg⟩:In))) [])(hc:AZ p)(hn:AY)(hs:AX st)(hk: ¬4<=st.length)(hp: -1<=e.pc∧e.pc<=1000000):Vc (vF_ 91 [.agg (pgA p),lR st,.agg (enA e)] [.fz,.fz,Bf p e op d tg a b nm,.bd true,.fz,.inl,.fz,.cl [.nils] (lR []) [],Be st,Bd p,.it 2,.inl,Bf p e op d tg a b nm,.fz,.bd false] [] (.tup [lR (st++[e.pc+1]),.bool true]) []):=aj (jy p (pq p e (cj hA (cj (e1 8 8) (cj hn (cj (rf st.length) (cj (rr st.length 1 fun i j=>aI (st.getD i 0)) (cj hs (zJ p (cj hc (jy p (pq p e (cj hA (cj (df ((st.length:Int)>=4)) (cj (i6 (e.pc+1)) (cj (ap st.length 1 8) (cj (i6 (0+1)) (cj (pv (st.length+1=(st++[e.pc+1]).length)) (cj (show ∀(i:Nat),i<st.length+1-> ∀(j:Nat),j<1->(bif Nat.blt (i+0) st.length then aI (st.getD (i+0) 0) else List.getD [aI (e.pc+1)] ((i+0-st.length+0)*1+j) AV.junk)=aI (List.getD (st++[e.pc+1]) i (0:Int)) from(fun i hi j hj=>by obtain rfl:j=0:=(by omega);exact kj (g:=fun a b=>[AV.int .i64 (e.pc+1)].getD (a*1+b) .junk) rfl i hi _ fun _=>rfl)) (cj (e1 0 0) trivial))))))))))))))))))))
abbrev Bc(p:Pg)(e:En)(op:Int)(d:Int)(tg:Int)(a:Vl)(b:Vl)(nm:ByteArray):Orc:= .cl [.agg (pgA p), aI e.pc] (.agg (inA (⟨9,op,d,a,b,nm,tg⟩:In))) []
theorem Cc(p:Pg)(e:En)(st:List Int)(op d tg:Int)(a b:Vl)(nm:ByteArray)(hA:pC_ 84 [.agg (pgA p), aI e.pc] (.agg (inA (⟨9,op,d,a,b,nm,tg⟩:In))) [])(hc:AZ p)(hn:AY)(hs:AX st)(hk:st.length=0):Vc (vF_ 91 [.agg (pgA p),lR st,.agg (enA e)] [.fz,.fz,Bc p e op d tg a b nm,.bd false,.bd true,.fz,.inl,.fz,.cl [.nils] (lR []) [],Be st,Bd p,.it 2,.inl,Bc p e op d tg a b nm,.inl,.bd true] [] (.tup [lR st,.bool false]) []):=aj (jy p (pq p e (cj hA (cj (e0 9 8) (cj (e1 9 9) (cj hn (cj (rf st.length) (cj (rr st.length 1 fun i j=>aI (st.getD i 0)) (cj hs (zJ p (cj hc (jy p (pq p e (cj hA (cj (i6 (st.length-1)) (cj (dt ((st.length:Int)-1<0)) (cj (i6 (0+1)) (cj (rf st.length) (cj (rr st.length 1 fun i j=>aI (st.getD i 0)) (cj (e0 2 0) trivial))))))))))))))))))))
theorem Cb(p:Pg)(e:En)(st:List Int)(op d tg:Int)(a b:Vl)(nm:ByteArray)(hA:pC_ 84 [.agg (pgA p), aI e.pc] (.agg (inA (⟨9,op,d,a,b,nm,tg⟩:In))) [])(hc:AZ p)(hn:AY)(hs:AX st)(hk: ¬st.length=0)(hk2:st.length<1000):Vc (vF_ 91 [.agg (pgA p),lR st,.agg (enA e)] [.fz,.fz,Bc p e op d tg a b nm,.bd false,.bd true,.fz,.inl,.fz,.cl [.nils] (lR []) [],Be st,Bd p,.it 2,.inl,Bc p e op d tg a b nm,.inl,.bd false] [] (.tup [lR (st.take (st.length-1)),.bool true]) []):=aj (jy p (pq p e (cj hA (cj (e0 9 8) (cj (e1 9 9) (cj hn (cj (rf st.length) (cj (rr st.length 1 fun i j=>aI (st.getD i 0)) (cj hs (zJ p (cj hc (jy p (pq p e (cj hA (cj (i6 (st.length-1)) (cj (df ((st.length:Int)-1<0)) (cj (bi (st.length-1) st.length) (cj (pv (Int.toNat ((st.length:Int)-1)+0<st.length)) (cj (pv ((0:Int)<=st.length-1∧(st.length:Int)-1<=st.length)) (cj (pv ((16:Nat)<=140737488355328∧(1:Nat)<=140737488355328)) (cj (i6 (0+1)) (cj (pv (Int.toNat ((st.length:Int)-1)=(List.take (st.length-1) st).length)) (cj (show ∀(i:Nat),i<Int.toNat ((st.length:Int)-1)-> ∀(j:Nat),j<1->aI (st.getD (i+0) 0)=aI (List.getD (List.take (st.length-1) st) i 0) from(fun i hi j hj=>L5 (show i<st.length-1 by omega))) (cj (e1 0 0) trivial))))))))))))))))))))))))
theorem PV(p:Pg)(e:En)(st:List Int)(x:In)(h8: ¬x.kind=8)(h9: ¬x.kind=9)(hA:pC_ 84 [.agg (pgA p), aI e.pc] (.agg (inA x)) []):Vc (vF_ 91 [.agg (pgA p),lR st,.agg (enA e)] [.fz,.fz,.cl [.agg (pgA p), aI e.pc] (.agg (inA x)) [],.bd false,.bd false] [] (.tup [lR st,.bool true]) []):=aj (jy p (pq p e (cj hA (cj (ae.2 h8) (cj (ae.2 h9) (cj (rf st.length) (cj (rr st.length 1 fun i j=>aI (st.getD i 0)) (cj (rf true) trivial))))))))
def lrS(p:Pg)(l:List En)(L:List Int)(k:Nat):Sm:=⟨[(4,pgP p),(8,.nils),(9,.bool false),(10,lR L),(19,enR l),(20,.int .i64 l.length),(21,.int .i64 k)],[],0⟩
def bhV(p:Pg)(e:En)(st:List Int):Option (List Int):=
 if(atI p e.pc).kind=8 then(if 4<=st.length then none else some (st++[e.pc+1]))
 else if(atI p e.pc).kind=9 then(if st.length=0 then none else some (st.take (st.length-1))) else some st
theorem DA(p:Pg)(e:En)(st:List Int)(hP:OkP p)(hst:st.length<900)(hp: -1<=e.pc∧e.pc<=1000000)(L:List Int)(h:bhV p e st=some L):pC_ 91 [.agg (pgA p),lR st,.agg (enA e)] (.tup [lR L,.bool true]) []:=by
 unfold bhV at h
 have hA:=atC p e.pc
 have hC:=jg p.W p.r0 p.r1 p.r2 p.r3 p.ms (by have:=hP.ms;omega) hP.sum
 have hN:pC_ 68 [.nils] (lR []) []:=(jR .nil (by show(0:Nat)<=1000000;decide)).frozen
 have hS:=jR (.row st) (by omega)
 generalize atI p e.pc=x at hA h
 obtain⟨k,op,d,a,b,nm,tg⟩:=x
 simp only at h
 by_cases h8:k=8
 ·subst h8
  rw[aq rfl] at h
  by_cases h4:4<=st.length
  ·rw[aq h4] at h;cases h
  ·rw[an h4] at h
   obtain rfl:=Option.some.inj h
   exact PureC.vc (zw p e st op d tg a b nm hA hC hN hS h4 hp)
 ·rw[an h8] at h
  by_cases h9:k=9
  ·subst h9
   rw[aq rfl] at h
   by_cases h0:st.length=0
   ·rw[aq h0] at h;cases h
   ·rw[an h0] at h
    obtain rfl:=Option.some.inj h
    exact PureC.vc (Cb p e st op d tg a b nm hA hC hN hS h0 (by omega))
  ·rw[an h9] at h
   obtain rfl:=Option.some.inj h
   exact PureC.vc (PV p e st _ h8 h9 hA)
theorem BE(p:Pg)(e:En)(st:List Int)(hP:OkP p)(hst:st.length<900)(hp: -1<=e.pc∧e.pc<=1000000)(h:bhV p e st=none):pC_ 91 [.agg (pgA p),lR st,.agg (enA e)] (.tup [lR st,.bool false]) []:=by
 unfold bhV at h
 have hA:=atC p e.pc
 have hC:=jg p.W p.r0 p.r1 p.r2 p.r3 p.ms (by have:=hP.ms;omega) hP.sum
 have hN:pC_ 68 [.nils] (lR []) []:=(jR .nil (by show(0:Nat)<=1000000;decide)).frozen
 have hS:=jR (.row st) (by omega)
 generalize atI p e.pc=x at hA h
 obtain⟨k,op,d,a,b,nm,tg⟩:=x
 simp only at h
 by_cases h8:k=8
 ·subst h8
  rw[aq rfl] at h
  by_cases h4:4<=st.length
  ·exact PureC.vc (zx p e st op d tg a b nm hA hC hN hS h4 (by omega))
  ·rw[an h4] at h;cases h
 ·rw[an h8] at h
  by_cases h9:k=9
  ·subst h9
   rw[aq rfl] at h
   by_cases h0:st.length=0
   ·exact PureC.vc (Cc p e st op d tg a b nm hA hC hN hS h0)
   ·rw[an h0] at h;cases h
  ·rw[an h9] at h;cases h
theorem Hw(l:List En)(k:Nat){Z:Prop}(z:Z):(RF ((l.getD k default).frm) (RF ((l.getD k default).nxt) (RF ((l.getD k default).dn) (RF ((l.getD k default).kn) (RF ((l.getD k default).ft) Z))))):=⟨rfl,rfl,rfl,rfl,rfl,z⟩
theorem Hv(p:Pg)(l:List En)(L:List Int)(k:Nat){Z:Prop}(z:Z):(RF p.ls.length (RR p.ls.length 2 (fun i j=>ao lbC p.ls i j) (RF p.is.length (RR p.is.length 9 (fun i j=>ao inC p.is i j) (RF L.length (RR L.length 1 (fun i j=>aI (L.getD i 0)) (RF ((l.getD k default).pc) (RF ((l.getD k default).val) (RF ((l.getD k default).adr) Z))))))))):=⟨rfl,fun _ _ _ _=>rfl,rfl,fun _ _ _ _=>rfl,rfl,fun _ _ _ _=>rfl,rfl,rfl,rfl,z⟩
theorem Lq(p:Pg)(l:List En)(L:List Int)(k:Nat)(hk:k<l.length)(hb:l.length<1000000)(M:List Int)(h:pC_ 91 [.agg (pgA p),lR L,.agg (enA (l.getD k default))] (.tup [lR M,.bool true]) []):Vc (vC_ 65 0 (lrS p l L k) [.bd true,.cl [.agg (pgA p),lR L,.agg (enA (l.getD k default))] (.tup [lR M,.bool true]) []] .nrm [] (lrS p l M (k+1))):=aj (cj (dt ((k:Int)<l.length)) (cj (bi k l.length) (jy p (Hv p l L k (Hw l k (cj h (cj (i6 (k+1)) (jy p (cj (rf p.ls.length) (cj (rr p.ls.length 2 fun i j=>ao lbC p.ls i j) (cj (rf p.is.length) (cj (rr p.is.length 9 fun i j=>ao inC p.is i j) (cj (rf false) (cj (rf M.length) (cj (rr M.length 1 fun i j=>aI (M.getD i 0)) (cj (rf l.length) (cj (rr l.length 8 fun i j=>ao enC l i j) (cj (rf (l.length:Int)) (cj (rf ((k:Int)+1)) trivial)))))))))))))))))))
theorem Ov(p:Pg)(l:List En)(L:List Int)(k:Nat)(hk:k<l.length)(hb:l.length<1000000)(h:pC_ 91 [.agg (pgA p),lR L,.agg (enA (l.getD k default))] (.tup [lR L,.bool false]) []):Vc (vC_ 65 0 (lrS p l L k) [.bd true,.cl [.agg (pgA p),lR L,.agg (enA (l.getD k default))] (.tup [lR L,.bool false]) []] .ret [] nS):=aj (cj (dt ((k:Int)<l.length)) (cj (bi k l.length) (jy p (Hv p l L k (Hw l k (cj h (cj (rf false) trivial)))))))
theorem Ow(p:Pg)(l:List En)(L:List Int)(k:Nat)(hk: ¬k<l.length):Vc (vC_ 65 0 (lrS p l L k) [.bd false] (.ext 0) [] (lrS p l L k)):=aj (cj (df ((k:Int)<l.length)) (jy p (cj (rf p.ls.length) (cj (rr p.ls.length 2 fun i j=>ao lbC p.ls i j) (cj (rf p.is.length) (cj (rr p.is.length 9 fun i j=>ao inC p.is i j) (cj (rf false) (cj (rf L.length) (cj (rr L.length 1 fun i j=>aI (L.getD i 0)) (cj (rf l.length) (cj (rr l.length 8 fun i j=>ao enC l i j) (cj (rf (l.length:Int)) (cj (rf (k:Int)) trivial)))))))))))))
theorem pK(p:Pg)(l:List En)(k j:Nat)(st:List Int):reG p l k (j+1) st=match bhV p (l.getD k default) st with |none=>none |some M=>reG p l (k+1) j M:=by
 show(if(atI p (l.getD k default).pc).kind=8 then(if 4<=st.length then none else reG p l (k+1) j (st++[(l.getD k default).pc+1])) else if(atI p (l.getD k default).pc).kind=9 then(if st.length=0 then none else reG p l (k+1) j (st.take (st.length-1))) else reG p l (k+1) j st)=_
 unfold bhV
 by_cases h8:(atI p (l.getD k default).pc).kind=8
 ·rw[aq h8,aq h8]
  by_cases h4:4<=st.length
  ·rw[aq h4,aq h4]
  ·rw[an h4,an h4]
 ·rw[an h8,an h8]
  by_cases h9:(atI p (l.getD k default).pc).kind=9
  ·rw[aq h9,aq h9]
   by_cases h0:st.length=0
   ·rw[aq h0,aq h0]
   ·rw[an h0,an h0]
  ·rw[an h9,an h9]
theorem Dl{l:List En}(h: ∀e∈l, -1<=e.pc∧e.pc<=1000000){k:Nat}(hk:k<l.length): -1<=(l.getD k default).pc∧(l.getD k default).pc<=1000000:=h _ (by simp[List.getD,hk])
theorem uv{p:Pg}{e:En}{st M:List Int}(h:bhV p e st=some M):M.length<=st.length+1∧(st.length<=4->M.length<=4):=by
 unfold bhV at h
 split at h
 ·split at h
  ·cases h
  ·obtain rfl:=Option.some.inj h
   rw[aL];show st.length+1<=_∧(_->st.length+1<=4);omega
 ·split at h
  ·split at h
   ·cases h
   ·obtain rfl:=Option.some.inj h
    rw[aM];omega
  ·obtain rfl:=Option.some.inj h
   omega
theorem ub(p:Pg)(l:List En)(M:List Int)(hP:OkP p)(hb:l.length<1000000)(hpc: ∀e∈l, -1<=e.pc∧e.pc<=1000000): ∀j k L,k+j=l.length->L.length+j<900->reG p l k j L=some M->OkL Tryz.prog (bY Tryz.prog 65) (lpC Tryz.prog 65 0) (lrS p l L k).st (.ext 0) (lrS p l M l.length).st
 |0,k,L,hk,hL,h=>by
  obtain rfl:L=M:=Option.some.inj h
  obtain rfl:k=l.length:=by omega
  exact OkL.exit (Ok.vc (Ow p l _ _ (by omega))) (by simp)
 |j+1,k,L,hk,hL,h=>by
  rw[pK] at h
  have hp:=Dl hpc (k:=k) (by omega)
  cases hB:bhV p (l.getD k default) L with
  |none=>rw[hB] at h;cases h
  |some N=>
   rw[hB] at h
   have:=(uv hB).1
   exact OkL.step (Ok.vc (Lq p l L k (by omega) hb N (DA p _ L hP (by omega) hp N hB))) (ub p l M hP hb hpc j (k+1) N (by omega) (by omega) h)
theorem uc(p:Pg)(l:List En)(hP:OkP p)(hb:l.length<1000000)(hpc: ∀e∈l, -1<=e.pc∧e.pc<=1000000): ∀j k L,k+j=l.length->L.length+j<900->reG p l k j L=none->OkL Tryz.prog (bY Tryz.prog 65) (lpC Tryz.prog 65 0) (lrS p l L k).st .ret (nS).st
 |0,k,L,hk,hL,h=>by cases h
 |j+1,k,L,hk,hL,h=>by
  rw[pK] at h
  have hp:=Dl hpc (k:=k) (by omega)
  cases hB:bhV p (l.getD k default) L with
  |none=>exact OkL.exit (Ok.vc (Ov p l L k (by omega) hb (BE p _ L hP (by omega) hp hB))) (by simp)
  |some N=>
   rw[hB] at h
   have:=(uv hB).1
   exact OkL.step (Ok.vc (Lq p l L k (by omega) hb N (DA p _ L hP (by omega) hp N hB))) (uc p l hP hb hpc j (k+1) N (by omega) (by omega) h)
theorem ne(p:Pg)(l:List En)(n:Nat): ∀j k st,k+j<=n->reG p (l.take n) k j st=reG p l k j st
 |0,_,_,_=>rfl
 |j+1,k,st,h=>by
  rw[pK,pK,cP (by omega)]
  cases bhV p (l.getD k default) st with
  |none=>rfl
  |some M=>exact ne p l n j (k+1) M (by omega)
theorem Hu(p:Pg)(st:List Int)(l2:List En){Z:Prop}(z:Z):(RF p.ls.length (RR p.ls.length 2 (fun i j=>ao lbC p.ls i j) (RF p.is.length (RR p.is.length 9 (fun i j=>ao inC p.is i j) (RF false (RF st.length (RR st.length 1 (fun i j=>aI (st.getD i 0)) (RF l2.length (RR l2.length 8 (fun i j=>ao enC l2 i j) Z))))))))):=⟨rfl,fun _ _ _ _=>rfl,rfl,fun _ _ _ _=>rfl,rfl,rfl,fun _ _ _ _=>rfl,rfl,fun _ _ _ _=>rfl,z⟩
theorem Ht(l:List En)(i:Int){Z:Prop}(z:Z):(RF l.length (RR l.length 8 (fun i j=>ao enC l i j) (RF i Z))):=⟨rfl,fun _ _ _ _=>rfl,rfl,z⟩
theorem Bu(p:Pg)(st:List Int)(l l2:List En)(i:Int)(L:List Int)(hl2:l2.length<1000000)(h1:pC_ 68 [lR st] (lR st) [])(h2:pC_ 69 [enR l, aI i] (enR l2) [])(h:oL_ 65 0 (lrS p l2 st 0).st (.ext 0) (lrS p l2 L l2.length).st):Vc (vF_ 65 [.agg (pgA p),lR st,enR l, aI i] [.fz,.cl [lR st] (lR st) [],.cl [enR l, aI i] (enR l2) [],.lp [] (lrS p l2 st 0) (.ext 0) (lrS p l2 L l2.length)] [] (.tup [lR L,.bool true]) []):=aj (cj (rf st.length) (cj (rr st.length 1 fun i j=>aI (st.getD i 0)) (cj h1 (Ht l i (cj h2 (jy p (Hu p st l2 (cj (rf (l2.length:Int)) (cj (rf (0:Int)) (cj h (cj (rf L.length) (cj (rr L.length 1 fun i j=>aI (L.getD i 0)) (cj (rf true) trivial)))))))))))))
theorem Bv(p:Pg)(st:List Int)(l l2:List En)(i:Int)(hl2:l2.length<1000000)(h1:pC_ 68 [lR st] (lR st) [])(h2:pC_ 69 [enR l, aI i] (enR l2) [])(h:oL_ 65 0 (lrS p l2 st 0).st .ret (nS).st):Vc (vF_ 65 [.agg (pgA p),lR st,enR l, aI i] [.fz,.cl [lR st] (lR st) [],.cl [enR l, aI i] (enR l2) [],.lp [] (lrS p l2 st 0) .ret nS] [] (.tup [.nils,.bool false]) []):=aj (cj (rf st.length) (cj (rr st.length 1 fun i j=>aI (st.getD i 0)) (cj h1 (Ht l i (cj h2 (jy p (Hu p st l2 (cj (rf (l2.length:Int)) (cj (rf (0:Int)) (cj h (cj (rf false) trivial)))))))))))
theorem Gl(p:Pg)(st:List Int)(l:List En)(i:Int)(L:List Int)(hP:OkP p)(hb:l.length<500)(hst:st.length<=300)(hpc: ∀e∈l, -1<=e.pc∧e.pc<=1000000)(h:reV p st l i=some L):pC_ 65 [.agg (pgA p),lR st,enR l,.int .i64 i] (.tup [lR L,.bool true]) []:=by
 have hle:=fu i l.length
 have ht:(l.take (cl0 i l.length)).length=cl0 i l.length:=by rw[aM];omega
 have hz:=ub p (l.take (cl0 i l.length)) L hP (by omega) (fun e he=>hpc e (cf he)) (cl0 i l.length) 0 st (by omega) (by omega) (by rw[ne p l _ _ _ _ (by omega)];exact h)
 exact PureC.vc (Bu p st l _ i L (by omega) (nQ st (by omega)) (s6 l i (cl0 i l.length) (by unfold cl0;omega) (by omega)) hz.ok)
theorem yo(p:Pg)(st:List Int)(l:List En)(i:Int)(hP:OkP p)(hb:l.length<500)(hst:st.length<=300)(hpc: ∀e∈l, -1<=e.pc∧e.pc<=1000000)(h:reV p st l i=none):pC_ 65 [.agg (pgA p),lR st,enR l,.int .i64 i] (.tup [.nils,.bool false]) []:=by
 have hle:=fu i l.length
 have ht:(l.take (cl0 i l.length)).length=cl0 i l.length:=by rw[aM];omega
 have hz:=uc p (l.take (cl0 i l.length)) hP (by omega) (fun e he=>hpc e (cf he)) (cl0 i l.length) 0 st (by omega) (by omega) (by rw[ne p l _ _ _ _ (by omega)];exact h)
 exact PureC.vc (Bv p st l _ i (by omega) (nQ st (by omega)) (s6 l i (cl0 i l.length) (by unfold cl0;omega) (by omega)) hz.ok)
theorem yN(c:Cf)(h:(c.e !=0)=true):Vc (vF_ 79 [.agg (cfA c)] [.fv,.bd true] [] (.bool true) []):=aj (cj h (cj (rf true) trivial))
theorem vy(c:Cf)(h:(c.e !=0)=false):Vc (vF_ 79 [.agg (cfA c)] [.fv,.bd false] [] (.bool false) []):=aj (cj h (cj (rf false) trivial))
theorem BF(s:S8)(h1:pC_ 68 [lR s.m] (lR s.m) [])(h2:pC_ 68 [lR s.st] (lR s.st) []):Vc (vF_ 66 [.agg (s8R s)] [.cl [lR s.m] (lR s.m) [],.cl [lR s.st] (lR s.st) []] [] (.agg (cfA ⟨s,[],[],0⟩)) []):=aj (cj (rf s.m.length) (cj (rr s.m.length 1 fun i j=>aI (s.m.getD i 0)) (cj h1 (cj (rf s.st.length) (cj (rr s.st.length 1 fun i j=>aI (s.st.getD i 0)) (cj h2 (cj (rf s.r0) (cj (rf s.r1) (cj (rf s.r2) (cj (rf s.r3) (cj (rf s.m.length) (cj (rr s.m.length 1 fun i j=>aI (s.m.getD i 0)) (cj (rf s.st.length) (cj (rr s.st.length 1 fun i j=>aI (s.st.getD i 0)) (cj (rf s.pc) (cj (rf (0:Nat)) (cj (rf (0:Nat)) (cj (rf (0:Int)) trivial))))))))))))))))))
theorem LK(s:S8)(hm:s.m.length<=1000000)(hs:s.st.length<=1000000):pC_ 66 [.agg (s8R s)] (.agg (cfA ⟨s,[],[],0⟩)) []:=PureC.vc (BF s (nQ _ hm) (nQ _ hs))
abbrev kX(w:Int):Prop:=PureC Tryz.prog 98 [.int .i64 w] (.bool true) []
abbrev lf(w:Int)(a:Int):Orc:= .cl [aI w, aI a] (aI (Wd.maskV w a)) []
abbrev lb(w:Int)(b:Int):Orc:= .cl [aI w, aI b] (aI (Wd.maskV w b)) []
abbrev lg(w:Int):Orc:= .cl [aI w] (.bool true) []
theorem LE(w a b:Int)(h:1<=w∧w<=16)(hO:kX w):Vc (vF_ 128 [aI w, aI 1, aI a, aI b] [lg w,lf w a,lb w b,.bd true,.cl [aI w, aI ((Wd.maskV w a)+(Wd.maskV w b))] (aI (Wd.maskV w ((Wd.maskV w a)+(Wd.maskV w b)))) []] [] (.tup [aI (Wd.doV w 1 a b),.bool (Wd.doB w 1)]) []):=aj (cj (rf w) (cj hO (cj (rf w) (cj (rf a) (cj (ca w a) (cj (rf w) (cj (rf b) (cj (ca w b) (cj (e1 1 1) (cj (show inK IntKind.i64 (Wd.maskV w a+Wd.maskV w b) from by have h1:=Wd.maskV_bd w a;have h2:=Wd.maskV_bd w b;exact fB (by omega) (by omega)) (cj (rf w) (cj (rf (Wd.maskV w a+Wd.maskV w b)) (cj (ca w ((Wd.maskV w a)+(Wd.maskV w b))) (cj (show Wd.maskV w (Wd.maskV w a+Wd.maskV w b)=Wd.doV w (1:Int) a b from Wd.ref1) (cj (show true=Wd.doB w (1:Int) from by simp[Wd.doB,bo h,Wd.opB]) trivial)))))))))))))))
theorem LD(w a b:Int)(h:1<=w∧w<=16)(hO:kX w):Vc (vF_ 128 [aI w, aI 2, aI a, aI b] [lg w,lf w a,lb w b,.bd false,.bd true,.cl [aI w, aI ((Wd.maskV w a)-(Wd.maskV w b))] (aI (Wd.maskV w ((Wd.maskV w a)-(Wd.maskV w b)))) []] [] (.tup [aI (Wd.doV w 2 a b),.bool (Wd.doB w 2)]) []):=aj (cj (rf w) (cj hO (cj (rf w) (cj (rf a) (cj (ca w a) (cj (rf w) (cj (rf b) (cj (ca w b) (cj (e0 2 1) (cj (e1 2 2) (cj (show inK IntKind.i64 (Wd.maskV w a-Wd.maskV w b) from by have h1:=Wd.maskV_bd w a;have h2:=Wd.maskV_bd w b;exact fB (by omega) (by omega)) (cj (rf w) (cj (rf (Wd.maskV w a-Wd.maskV w b)) (cj (ca w ((Wd.maskV w a)-(Wd.maskV w b))) (cj (show Wd.maskV w (Wd.maskV w a-Wd.maskV w b)=Wd.doV w (2:Int) a b from Wd.ref2) (cj (show true=Wd.doB w (2:Int) from by simp[Wd.doB,bo h,Wd.opB]) trivial))))))))))))))))
theorem Lx(w a b:Int)(h:1<=w∧w<=16)(hO:kX w):Vc (vF_ 128 [aI w, aI 8, aI a, aI b] [lg w,lf w a,lb w b,.bd false,.bd false,.bd true,.cl [aI w, aI ((Wd.maskV w a)*(Wd.maskV w b))] (aI (Wd.maskV w ((Wd.maskV w a)*(Wd.maskV w b)))) []] [] (.tup [aI (Wd.doV w 8 a b),.bool (Wd.doB w 8)]) []):=aj (cj (rf w) (cj hO (cj (rf w) (cj (rf a) (cj (ca w a) (cj (rf w) (cj (rf b) (cj (ca w b) (cj (e0 8 1) (cj (e0 8 2) (cj (e1 8 8) (cj (show inK IntKind.i64 (Wd.maskV w a*Wd.maskV w b) from by have h1:=Wd.maskV_bd w a;have h2:=Wd.maskV_bd w b;have h3:=Wd.mul_bd h1.1 h1.2 h2.1 h2.2;exact fB (by omega) (by omega)) (cj (rf w) (cj (rf (Wd.maskV w a*Wd.maskV w b)) (cj (ca w ((Wd.maskV w a)*(Wd.maskV w b))) (cj (rf (Wd.doV w (8:Int) a b)) (cj (show true=Wd.doB w (8:Int) from by simp[Wd.doB,bo h,Wd.opB]) trivial)))))))))))))))))
theorem LC(w a b:Int)(h:1<=w∧w<=16)(hO:kX w):Vc (vF_ 128 [aI w, aI 3, aI a, aI b] [lg w,lf w a,lb w b,.bd false,.bd false,.bd false,.bd true,.cl [aI w, aI (bits .and .i64 (Wd.maskV w a) (Wd.maskV w b))] (aI (Wd.maskV w (bits .and .i64 (Wd.maskV w a) (Wd.maskV w b)))) []] [] (.tup [aI (Wd.doV w 3 a b),.bool (Wd.doB w 3)]) []):=aj (cj (rf w) (cj hO (cj (rf w) (cj (rf a) (cj (ca w a) (cj (rf w) (cj (rf b) (cj (ca w b) (cj (e0 3 1) (cj (e0 3 2) (cj (e0 3 8) (cj (e1 3 3) (cj (rf w) (cj (rf (Go.bits Go.BinOp.and IntKind.i64 (Wd.maskV w a) (Wd.maskV w b))) (cj (ca w (bits .and .i64 (Wd.maskV w a) (Wd.maskV w b))) (cj (show Wd.maskV w (Go.bits Go.BinOp.and IntKind.i64 (Wd.maskV w a) (Wd.maskV w b))=Wd.doV w (3:Int) a b from by rw[Wd.ref3 (bo h)];exact Wd.maskV_idem w _) (cj (show true=Wd.doB w (3:Int) from by simp[Wd.doB,bo h,Wd.opB]) trivial)))))))))))))))))
theorem LB(w a b:Int)(h:1<=w∧w<=16)(hO:kX w):Vc (vF_ 128 [aI w, aI 4, aI a, aI b] [lg w,lf w a,lb w b,.bd false,.bd false,.bd false,.bd false,.bd true,.cl [aI w, aI (bits .or .i64 (Wd.maskV w a) (Wd.maskV w b))] (aI (Wd.maskV w (bits .or .i64 (Wd.maskV w a) (Wd.maskV w b)))) []] [] (.tup [aI (Wd.doV w 4 a b),.bool (Wd.doB w 4)]) []):=aj (cj (rf w) (cj hO (cj (rf w) (cj (rf a) (cj (ca w a) (cj (rf w) (cj (rf b) (cj (ca w b) (cj (e0 4 1) (cj (e0 4 2) (cj (e0 4 8) (cj (e0 4 3) (cj (e1 4 4) (cj (rf w) (cj (rf (Go.bits Go.BinOp.or IntKind.i64 (Wd.maskV w a) (Wd.maskV w b))) (cj (ca w (bits .or .i64 (Wd.maskV w a) (Wd.maskV w b))) (cj (show Wd.maskV w (Go.bits Go.BinOp.or IntKind.i64 (Wd.maskV w a) (Wd.maskV w b))=Wd.doV w (4:Int) a b from by rw[Wd.ref4 (bo h)];exact Wd.maskV_idem w _) (cj (show true=Wd.doB w (4:Int) from by simp[Wd.doB,bo h,Wd.opB]) trivial))))))))))))))))))
theorem LA(w a b:Int)(h:1<=w∧w<=16)(hO:kX w):Vc (vF_ 128 [aI w, aI 5, aI a, aI b] [lg w,lf w a,lb w b,.bd false,.bd false,.bd false,.bd false,.bd false,.bd true,.cl [aI w, aI (bits .xor .i64 (Wd.maskV w a) (Wd.maskV w b))] (aI (Wd.maskV w (bits .xor .i64 (Wd.maskV w a) (Wd.maskV w b)))) []] [] (.tup [aI (Wd.doV w 5 a b),.bool (Wd.doB w 5)]) []):=aj (cj (rf w) (cj hO (cj (rf w) (cj (rf a) (cj (ca w a) (cj (rf w) (cj (rf b) (cj (ca w b) (cj (e0 5 1) (cj (e0 5 2) (cj (e0 5 8) (cj (e0 5 3) (cj (e0 5 4) (cj (e1 5 5) (cj (rf w) (cj (rf (Go.bits Go.BinOp.xor IntKind.i64 (Wd.maskV w a) (Wd.maskV w b))) (cj (ca w (bits .xor .i64 (Wd.maskV w a) (Wd.maskV w b))) (cj (show Wd.maskV w (Go.bits Go.BinOp.xor IntKind.i64 (Wd.maskV w a) (Wd.maskV w b))=Wd.doV w (5:Int) a b from by rw[Wd.ref5 (bo h)];exact Wd.maskV_idem w _) (cj (show true=Wd.doB w (5:Int) from by simp[Wd.doB,bo h,Wd.opB]) trivial)))))))))))))))))))
theorem Lz(w a b:Int)(h:1<=w∧w<=16)(hO:kX w):Vc (vF_ 128 [aI w, aI 6, aI a, aI b] [lg w,lf w a,lb w b,.bd false,.bd false,.bd false,.bd false,.bd false,.bd false,.bd true,.cl [aI w, aI (IntKind.i64.wrap ((Wd.maskV w a)*2^min ((Wd.maskV w b)).toNat IntKind.i64.bits))] (aI (Wd.maskV w (IntKind.i64.wrap ((Wd.maskV w a)*2^min ((Wd.maskV w b)).toNat IntKind.i64.bits)))) []] [] (.tup [aI (Wd.doV w 6 a b),.bool (Wd.doB w 6)]) []):=aj (cj (rf w) (cj hO (cj (rf w) (cj (rf a) (cj (ca w a) (cj (rf w) (cj (rf b) (cj (ca w b) (cj (e0 6 1) (cj (e0 6 2) (cj (e0 6 8) (cj (e0 6 3) (cj (e0 6 4) (cj (e0 6 5) (cj (e1 6 6) (cj (show(0:Int)<=Wd.maskV w b from by have h1:=Wd.maskV_bd w a;have h2:=Wd.maskV_bd w b;omega) (cj (rf w) (cj (rf (IntKind.wrap IntKind.i64 (Wd.maskV w a*2^Min.min (Int.toNat (Wd.maskV w b)) (64:Nat)))) (cj (ca w (IntKind.i64.wrap ((Wd.maskV w a)*2^min ((Wd.maskV w b)).toNat IntKind.i64.bits))) (cj (show Wd.maskV w (IntKind.wrap IntKind.i64 (Wd.maskV w a*2^Min.min (Int.toNat (Wd.maskV w b)) (64:Nat)))=Wd.doV w (6:Int) a b from by have e:=Wd.ref6 (w:=w) (a:=a) (b:=b);rw[IntWalk.i64_left];exact e) (cj (show true=Wd.doB w (6:Int) from by simp[Wd.doB,bo h,Wd.opB]) trivial)))))))))))))))))))))
theorem Ly(w a b:Int)(h:1<=w∧w<=16)(hO:kX w):Vc (vF_ 128 [aI w, aI 7, aI a, aI b] [lg w,lf w a,lb w b,.bd false,.bd false,.bd false,.bd false,.bd false,.bd false,.bd false,.bd true,.cl [aI w, aI (Int.fdiv (Wd.maskV w a) (2^min ((Wd.maskV w b)).toNat IntKind.i64.bits))] (aI (Wd.maskV w (Int.fdiv (Wd.maskV w a) (2^min ((Wd.maskV w b)).toNat IntKind.i64.bits)))) []] [] (.tup [aI (Wd.doV w 7 a b),.bool (Wd.doB w 7)]) []):=aj (cj (rf w) (cj hO (cj (rf w) (cj (rf a) (cj (ca w a) (cj (rf w) (cj (rf b) (cj (ca w b) (cj (e0 7 1) (cj (e0 7 2) (cj (e0 7 8) (cj (e0 7 3) (cj (e0 7 4) (cj (e0 7 5) (cj (e0 7 6) (cj (e1 7 7) (cj (show(0:Int)<=Wd.maskV w b from by have h1:=Wd.maskV_bd w a;have h2:=Wd.maskV_bd w b;omega) (cj (rf w) (cj (rf (Int.fdiv (Wd.maskV w a) ((2:Int)^Min.min (Int.toNat (Wd.maskV w b)) (64:Nat)))) (cj (ca w (Int.fdiv (Wd.maskV w a) (2^min ((Wd.maskV w b)).toNat IntKind.i64.bits))) (cj (show Wd.maskV w (Int.fdiv (Wd.maskV w a) ((2:Int)^Min.min (Int.toNat (Wd.maskV w b)) (64:Nat)))=Wd.doV w (7:Int) a b from by rw[Int.fdiv_eq_ediv_of_nonneg _ (by have:=Wd.pow_pos (min (Wd.maskV w b).toNat 64);omega)];have e:=Wd.ref7' (w:=w) (a:=a) (b:=b) (bo h);exact(congrArg (Wd.maskV w) e).trans (Wd.maskV_idem w _)) (cj (show true=Wd.doB w (7:Int) from by simp[Wd.doB,bo h,Wd.opB]) trivial))))))))))))))))))))))
theorem Gv(w a b:Int)(h:1<=w∧w<=16)(hO:kX w)(hc:(Wd.maskV w a)<(Wd.maskV w b)):Vc (vF_ 128 [aI w, aI 9, aI a, aI b] [lg w,lf w a,lb w b,.bd false,.bd false,.bd false,.bd false,.bd false,.bd false,.bd false,.bd false,.bd true,.bd true,.inl,.cl [aI w, aI 1] (aI (Wd.maskV w 1)) []] [] (.tup [aI (Wd.doV w 9 a b),.bool (Wd.doB w 9)]) []):=aj (cj (rf w) (cj hO (cj (rf w) (cj (rf a) (cj (ca w a) (cj (rf w) (cj (rf b) (cj (ca w b) (cj (e0 9 1) (cj (e0 9 2) (cj (e0 9 8) (cj (e0 9 3) (cj (e0 9 4) (cj (e0 9 5) (cj (e0 9 6) (cj (e0 9 7) (cj (e1 9 9) (cj (dt (Wd.maskV w a<Wd.maskV w b)) (cj (rf w) (cj (rf (1:Int)) (cj (ca w 1) (cj (show Wd.maskV w (1:Int)=Wd.doV w (9:Int) a b from by rw[<-Wd.ref9 (bo h),bB hc];exact Wd.mask_one (bo h) true) (cj (show true=Wd.doB w (9:Int) from by simp[Wd.doB,bo h,Wd.opB]) trivial)))))))))))))))))))))))
abbrev FZ(w:Int):Orc:= .cl [aI w, aI 0] (aI (Wd.maskV w 0)) []
theorem Gw(w a b:Int)(h:1<=w∧w<=16)(hO:kX w)(hc: ¬(Wd.maskV w a)<(Wd.maskV w b)):Vc (vF_ 128 [aI w, aI 9, aI a, aI b] [lg w,lf w a,lb w b,.bd false,.bd false,.bd false,.bd false,.bd false,.bd false,.bd false,.bd false,.bd true,.bd false,.inl,FZ w] [] (.tup [aI (Wd.doV w 9 a b),.bool (Wd.doB w 9)]) []):=aj (cj (rf w) (cj hO (cj (rf w) (cj (rf a) (cj (ca w a) (cj (rf w) (cj (rf b) (cj (ca w b) (cj (e0 9 1) (cj (e0 9 2) (cj (e0 9 8) (cj (e0 9 3) (cj (e0 9 4) (cj (e0 9 5) (cj (e0 9 6) (cj (e0 9 7) (cj (e1 9 9) (cj (df (Wd.maskV w a<Wd.maskV w b)) (cj (rf w) (cj (rf (0:Int)) (cj (ca w 0) (cj (show Wd.maskV w (0:Int)=Wd.doV w (9:Int) a b from by rw[<-Wd.ref9 (bo h),bK hc];exact Wd.mask_one (bo h) false) (cj (show true=Wd.doB w (9:Int) from by simp[Wd.doB,bo h,Wd.opB]) trivial)))))))))))))))))))))))
theorem BB(w a b:Int)(h:1<=w∧w<=16)(hO:kX w)(hc:(Wd.maskV w a)=(Wd.maskV w b)):Vc (vF_ 128 [aI w, aI 10, aI a, aI b] [lg w,lf w a,lb w b,.bd false,.bd false,.bd false,.bd false,.bd false,.bd false,.bd false,.bd false,.bd false,.bd true,.bd true,.inl,.cl [aI w, aI 1] (aI (Wd.maskV w 1)) []] [] (.tup [aI (Wd.doV w 10 a b),.bool (Wd.doB w 10)]) []):=aj (cj (rf w) (cj hO (cj (rf w) (cj (rf a) (cj (ca w a) (cj (rf w) (cj (rf b) (cj (ca w b) (cj (e0 10 1) (cj (e0 10 2) (cj (e0 10 8) (cj (e0 10 3) (cj (e0 10 4) (cj (e0 10 5) (cj (e0 10 6) (cj (e0 10 7) (cj (e0 10 9) (cj (e1 10 10) (cj (ay.2 hc) (cj (rf w) (cj (rf (1:Int)) (cj (ca w 1) (cj (show Wd.maskV w (1:Int)=Wd.doV w (10:Int) a b from by rw[<-Wd.ref10 (bo h),ay.2 hc];exact Wd.mask_one (bo h) true) (cj (show true=Wd.doB w (10:Int) from by simp[Wd.doB,bo h,Wd.opB]) trivial))))))))))))))))))))))))
theorem BD(w a b:Int)(h:1<=w∧w<=16)(hO:kX w)(hc: ¬(Wd.maskV w a)=(Wd.maskV w b)):Vc (vF_ 128 [aI w, aI 10, aI a, aI b] [lg w,lf w a,lb w b,.bd false,.bd false,.bd false,.bd false,.bd false,.bd false,.bd false,.bd false,.bd false,.bd true,.bd false,.inl,FZ w] [] (.tup [aI (Wd.doV w 10 a b),.bool (Wd.doB w 10)]) []):=aj (cj (rf w) (cj hO (cj (rf w) (cj (rf a) (cj (ca w a) (cj (rf w) (cj (rf b) (cj (ca w b) (cj (e0 10 1) (cj (e0 10 2) (cj (e0 10 8) (cj (e0 10 3) (cj (e0 10 4) (cj (e0 10 5) (cj (e0 10 6) (cj (e0 10 7) (cj (e0 10 9) (cj (e1 10 10) (cj (ae.2 hc) (cj (rf w) (cj (rf (0:Int)) (cj (ca w 0) (cj (show Wd.maskV w (0:Int)=Wd.doV w (10:Int) a b from by rw[<-Wd.ref10 (bo h),ae.2 hc];exact Wd.mask_one (bo h) false) (cj (show true=Wd.doB w (10:Int) from by simp[Wd.doB,bo h,Wd.opB]) trivial))))))))))))))))))))))))
theorem LF(w o a b:Int)(h:1<=w∧w<=16)(ho:o<1∨10<o)(hO:kX w):Vc (vF_ 128 [aI w, aI o, aI a, aI b] [lg w,lf w a,lb w b,.bd false,.bd false,.bd false,.bd false,.bd false,.bd false,.bd false,.bd false,.bd false,.bd false,FZ w] [] (.tup [aI (Wd.doV w o a b),.bool (Wd.doB w o)]) []):=aj (cj (rf w) (cj hO (cj (rf w) (cj (rf a) (cj (ca w a) (cj (rf w) (cj (rf b) (cj (ca w b) (cj (show(o==(1:Int))=false from(ae.2 (by omega))) (cj (show(o==(2:Int))=false from(ae.2 (by omega))) (cj (show(o==(8:Int))=false from(ae.2 (by omega))) (cj (show(o==(3:Int))=false from(ae.2 (by omega))) (cj (show(o==(4:Int))=false from(ae.2 (by omega))) (cj (show(o==(5:Int))=false from(ae.2 (by omega))) (cj (show(o==(6:Int))=false from(ae.2 (by omega))) (cj (show(o==(7:Int))=false from(ae.2 (by omega))) (cj (show(o==(9:Int))=false from(ae.2 (by omega))) (cj (show(o==(10:Int))=false from(ae.2 (by omega))) (cj (rf w) (cj (rf (0:Int)) (cj (ca w 0) (cj (show Wd.maskV w (0:Int)=Wd.doV w o a b from by rw[<-Wd.ref0 ho];exact Wd.maskV_of_lt (bo h) (fV 0) (by have:=Wd.sizeV_pos (bo h);omega)) (cj (show false=Wd.doB w o from by simp[Wd.doB,Wd.opB_no ho]) trivial)))))))))))))))))))))))
theorem Lw(w o a b:Int)(h: ¬(1<=w∧w<=16))(hO:pC_ 98 [aI w] (.bool false) []):Vc (vF_ 128 [aI w, aI o, aI a, aI b] [.cl [aI w] (.bool false) []] [] (.tup [aI (Wd.doV w o a b),.bool (Wd.doB w o)]) []):=aj (cj (rf w) (cj hO (cj (show(0:Int)=Wd.doV w o a b from by simp[Wd.doV,Wd.maskV,oZ h]) (cj (show false=Wd.doB w o from by simp[Wd.doB,oZ h]) trivial))))
theorem NT(w o a b:Int):pC_ 128 [.int .i64 w,.int .i64 o,.int .i64 a,.int .i64 b] (.tup [.int .i64 (Wd.doV w o a b),.bool (Wd.doB w o)]) []:=by
 by_cases h:1<=w∧w<=16
 ·have hO:pC_ 98 [.int .i64 w] (.bool true) []:=by
   obtain⟨k,rfl⟩: ∃k:Nat,w=(k:Int):=⟨w.toNat,by omega⟩
   exact PureC.vc (wI k (by omega))
  rcases (by omega:o=1∨o=2∨o=3∨o=4∨o=5∨o=6∨o=7∨o=8∨o=9∨o=10∨(o<1∨10<o)) with rfl |rfl |rfl |rfl |rfl |rfl |rfl |rfl |rfl |rfl |ho
  ·exact PureC.vc (LE w a b h hO)
  ·exact PureC.vc (LD w a b h hO)
  ·exact PureC.vc (LC w a b h hO)
  ·exact PureC.vc (LB w a b h hO)
  ·exact PureC.vc (LA w a b h hO)
  ·exact PureC.vc (Lz w a b h hO)
  ·exact PureC.vc (Ly w a b h hO)
  ·exact PureC.vc (Lx w a b h hO)
  ·by_cases hc:(Wd.maskV w a)<(Wd.maskV w b)
   ·exact PureC.vc (Gv w a b h hO hc)
   ·exact PureC.vc (Gw w a b h hO hc)
  ·by_cases hc:(Wd.maskV w a)=(Wd.maskV w b)
   ·exact PureC.vc (BB w a b h hO hc)
   ·exact PureC.vc (BD w a b h hO hc)
  ·exact PureC.vc (LF w o a b h ho hO)
 ·refine PureC.vc (Lw w o a b h ?_)
  by_cases h1:w<1
  ·exact PureC.vc (wK w h1)
  ·exact PureC.vc (wL w (by omega))
theorem vJ(c:Cf){Z:Prop}(z:Z):(RF c.b.length (RR c.b.length 8 (fun i j=>ao enC c.b i j) (RF c.r.length (RR c.r.length 1 (fun i j=>aI (c.r.getD i 0)) (RF c.e Z))))):=⟨rfl,fun _ _ _ _=>rfl,rfl,fun _ _ _ _=>rfl,rfl,z⟩
theorem vI(c:Cf){Z:Prop}(z:Z):(RF c.s.r0 (RF c.s.r1 (RF c.s.r2 (RF c.s.r3 (RF c.s.m.length (RR c.s.m.length 1 (fun i j=>aI (List.getD c.s.m i 0)) (RF c.s.st.length (RR c.s.st.length 1 (fun i j=>aI (List.getD c.s.st i 0)) (RF c.s.pc Z))))))))):=⟨rfl,rfl,rfl,rfl,rfl,fun _ _ _ _=>rfl,rfl,fun _ _ _ _=>rfl,rfl,z⟩
theorem NE(p:Pg)(c:Cf)(i:Int)(hF:pC_ 79 [.agg (cfA c)] (.bool true) []):Vc (vF_ 50 [.agg (pgA p),.agg (cfA c), aI i] [.fv,.fv,.cl [.agg (cfA c)] (.bool true) []] [] (.bool false) []):=aj (vI c (vJ c (cj hF (cj (rf false) trivial))))
abbrev AW(c:Cf):Prop:=PureC Tryz.prog 79 [.agg (cfA c)] (.bool false) []
abbrev Bb(c:Cf):Orc:= .cl [.agg (cfA c)] (.bool false) []
theorem NB(p:Pg)(c:Cf)(i:Int)(hi: ¬0<=i)(hF:AW c):Vc (vF_ 50 [.agg (pgA p),.agg (cfA c), aI i] [.fv,.fv,Bb c,.bd false] [] (.bool false) []):=aj (vI c (vJ c (cj hF (cj (df ((0:Int)<=i)) (cj (rf false) trivial)))))
theorem NC(p:Pg)(c:Cf)(i:Int)(hi:0<=i)(hl: ¬i<(c.b.length:Int))(hb:c.b.length<1000000)(hF:AW c):Vc (vF_ 50 [.agg (pgA p),.agg (cfA c), aI i] [.fv,.fv,Bb c,.bd true,.bd false] [] (.bool false) []):=aj (vI c (vJ c (cj hF (cj (dt ((0:Int)<=i)) (cj (df (i<(↑c.b.length:Int))) (cj (rf false) trivial))))))
theorem Hr(p:Pg)(c:Cf)(k:Nat){Z:Prop}(z:Z):(RF p.ls.length (RR p.ls.length 2 (fun i j=>ao lbC p.ls i j) (RF p.is.length (RR p.is.length 9 (fun i j=>ao inC p.is i j) (RF c.b.length (RR c.b.length 8 (fun i j=>ao enC c.b i j) (RF (k:Int) Z))))))):=⟨rfl,fun _ _ _ _=>rfl,rfl,fun _ _ _ _=>rfl,rfl,fun _ _ _ _=>rfl,rfl,z⟩
theorem Hq(p:Pg){Z:Prop}(z:Z):(RF p.W (RF p.win (RF p.fuel (RF p.r0 (RF p.r1 (RF p.r2 (RF p.r3 (RF p.ms.length (RR p.ms.length 3 (fun i j=>ao mmC p.ms i j) Z))))))))):=⟨rfl,rfl,rfl,rfl,rfl,rfl,rfl,rfl,fun _ _ _ _=>rfl,z⟩
theorem NA(p:Pg)(c:Cf)(k:Nat)(hl:k<c.b.length)(hb:c.b.length<1000000)(hB:pC_ 80 [.agg (pgA p),enR c.b, aI k] (.bool true) [])(hF:AW c):Vc (vF_ 50 [.agg (pgA p),.agg (cfA c), aI k] [.fv,.fv,Bb c,.bd true,.bd true,.cl [.agg (pgA p),enR c.b, aI k] (.bool true) []] [] (.bool false) []):=aj (vI c (vJ c (cj hF (cj (dt ((0:Int)<=k)) (cj (dt ((k:Int)<c.b.length)) (Hq p (Hr p c k (cj hB (cj (rf false) trivial)))))))))
theorem ND(p:Pg)(c:Cf)(k:Nat)(hl:k<c.b.length)(hb:c.b.length<1000000)(hB:pC_ 80 [.agg (pgA p),enR c.b, aI k] (.bool false) [])(hF:AW c):Vc (vF_ 50 [.agg (pgA p),.agg (cfA c), aI k] [.fv,.fv,Bb c,.bd true,.bd true,.cl [.agg (pgA p),enR c.b, aI k] (.bool false) []] [] (.bool true) []):=aj (vI c (vJ c (cj hF (cj (dt ((0:Int)<=k)) (cj (dt ((k:Int)<c.b.length)) (Hq p (Hr p c k (cj hB (cj (rf true) trivial)))))))))
theorem Ja(p:Pg)(c:Cf)(i:Int)(hb:c.b.length<1000000):pC_ 50 [.agg (pgA p),.agg (cfA c),.int .i64 i] (.bool (opV p c i)) []:=by
 unfold opV
 by_cases h0:c.e=0
 ·have hF:=PureC.vc (vy c (ax.2 h0))
  by_cases hi:0<=i
  ·by_cases hl:i<(c.b.length:Int)
   ·obtain⟨k,rfl⟩: ∃k:Nat,i=(k:Int):=⟨i.toNat,by omega⟩
    rw[aq ⟨h0,hi,hl⟩]
    have hB:=LJ p c.b k hb
    cases hv:lC p c.b k with
    |true=>rw[hv] at hB;exact PureC.vc (NA p c k (by omega) hb hB hF)
    |false=>rw[hv] at hB;exact PureC.vc (ND p c k (by omega) hb hB hF)
   ·rw[an (fun h=>hl h.2.2)];exact PureC.vc (NC p c i hi hl hb hF)
  ·rw[an (fun h=>hi h.2.1)];exact PureC.vc (NB p c i hi hF)
 ·rw[an (fun h=>h0 h.1)];exact PureC.vc (NE p c i (PureC.vc (yN c (cN.2 h0))))
theorem fI(p:Pg){Z:Prop}(z:Z):(RF p.W (RF p.win (RF p.fuel (RF p.r0 (RF p.r1 (RF p.r2 (RF p.r3 (RF p.ms.length (RR p.ms.length 3 (fun i j=>ao mmC p.ms i j) Z))))))))):=⟨rfl,rfl,rfl,rfl,rfl,rfl,rfl,rfl,fun _ _ _ _=>rfl,z⟩
theorem Eo(p:Pg)(c:Cf)(k:Nat)(hk:k<c.b.length):Vc (vF_ 52 [.agg (pgA p),.agg (cfA c), aI k] [.fv,.fv,.cl [.agg (pgA p), aI (c.b.getD k default).pc] (.agg (inA (enX p c k))) []] [] (.agg (inA (enX p c k))) []):=aj (cj (bi k c.b.length) (fI p (cj (rf p.ls.length) (cj (rr p.ls.length 2 fun i j=>ao lbC p.ls i j) (cj (rf p.is.length) (cj (rr p.is.length 9 fun i j=>ao inC p.is i j) (cj (rf ((c.b.getD k default).pc)) (cj (atC p (c.b.getD k default).pc) (cj (rf ((enX p c k).kind)) (cj (rf ((enX p c k).op)) (cj (rf ((enX p c k).d)) (cj (rf ((enX p c k).a.reg)) (cj (rf ((enX p c k).a.n)) (cj (rf ((enX p c k).b.reg)) (cj (rf ((enX p c k).b.n)) (cj (rf ((enX p c k).nm)) (cj (rf ((enX p c k).tg)) trivial)))))))))))))))))
theorem oi(p:Pg)(c:Cf)(k:Nat)(hk:k<c.b.length):pC_ 52 [.agg (pgA p),.agg (cfA c),.int .i64 k] (.agg (inA (enX p c k))) []:=PureC.vc (Eo p c k hk)
def vlC(l:List Vl)(i j:Nat):AV:=(l.flatMap vlA).getD (i*2+j) .junk
theorem pr(c:Cf)(k:Nat)(v0:Vl){Z:Prop}(z:Z):(RR c.b.length 8 (fun i j=>ao enC c.b i j) (RF (k:Int) (RF v0.reg (RF v0.n Z)))):=⟨fun _ _ _ _=>rfl,rfl,rfl,rfl,z⟩
theorem ic(p:Pg)(c:Cf){Z:Prop}(z:Z):(RF p.ls.length (RR p.ls.length 2 (fun i j=>ao lbC p.ls i j) (RF p.is.length (RR p.is.length 9 (fun i j=>ao inC p.is i j) (RF c.s.r0 (RF c.s.r1 (RF c.s.r2 (RF c.s.r3 (RF c.b.length Z))))))))):=⟨rfl,fun _ _ _ _=>rfl,rfl,fun _ _ _ _=>rfl,rfl,rfl,rfl,rfl,rfl,z⟩
abbrev FB(p:Pg)(c:Cf)(k:Nat)(v0:Vl)(n0:Int):Prop:=PureC Tryz.prog 85 [.agg (pgA p),.agg (rgA c.s),enR c.b,.int .i64 k,.agg (vlA v0)] (.tup [.int .i64 n0,.bool false]) []
abbrev FS(p:Pg)(c:Cf)(k:Nat)(v0:Vl)(n0:Int):Orc:= .cl [.agg (pgA p),.agg (rgA c.s),enR c.b, aI k,.agg (vlA v0)] (.tup [aI n0,.bool false]) []
theorem Ee(p:Pg)(c:Cf)(k:Nat)(v0:Vl)(n0:Int)(h0:FB p c k v0 n0):Vc (vF_ 81 [.agg (pgA p),.agg (cfA c), aI k,.row 2 1 (vlC [v0])] [.fv,.fv,.it 2,FS p c k v0 n0] [] (.bool false) []):=aj (cj (pv ((0:Int)<=0∧(0:Int)<(1:Nat))) (fI p (ic p c (pr c k v0 (cj h0 (cj (rf false) trivial))))))
abbrev uZ(p:Pg)(c:Cf)(k:Nat)(v0:Vl)(n0:Int):Prop:=PureC Tryz.prog 85 [.agg (pgA p),.agg (rgA c.s),enR c.b,.int .i64 k,.agg (vlA v0)] (.tup [.int .i64 n0,.bool true]) []
abbrev ve(p:Pg)(c:Cf)(k:Nat)(v0:Vl)(n0:Int):Orc:= .cl [.agg (pgA p),.agg (rgA c.s),enR c.b, aI k,.agg (vlA v0)] (.tup [aI n0,.bool true]) []
theorem Ed(p:Pg)(c:Cf)(k:Nat)(v0:Vl)(n0:Int)(h0:uZ p c k v0 n0):Vc (vF_ 81 [.agg (pgA p),.agg (cfA c), aI k,.row 2 1 (vlC [v0])] [.fv,.fv,.it 2,ve p c k v0 n0] [] (.bool true) []):=aj (cj (pv ((0:Int)<=0∧(0:Int)<(1:Nat))) (fI p (ic p c (pr c k v0 (cj h0 (cj (i6 (0+1)) (cj (rf true) trivial)))))))
theorem Ec(p:Pg)(c:Cf)(k:Nat)(v0 v1:Vl)(n0:Int)(h0:FB p c k v0 n0):Vc (vF_ 81 [.agg (pgA p),.agg (cfA c), aI k,.row 2 2 (vlC [v0,v1])] [.fv,.fv,.it 3,FS p c k v0 n0] [] (.bool false) []):=aj (cj (pv ((0:Int)<=0∧(0:Int)<(2:Nat))) (fI p (ic p c (pr c k v0 (cj h0 (cj (rf false) trivial))))))
theorem vV(c:Cf)(k:Nat)(v1:Vl){Z:Prop}(z:Z):(RR c.b.length 8 (fun i j=>ao enC c.b i j) (RF (k:Int) (RF v1.reg (RF v1.n Z)))):=⟨fun _ _ _ _=>rfl,rfl,rfl,rfl,z⟩
abbrev KQ(p:Pg)(c:Cf)(k:Nat)(v1:Vl)(n1:Int):Prop:=PureC Tryz.prog 85 [.agg (pgA p),.agg (rgA c.s),enR c.b,.int .i64 k,.agg (vlA v1)] (.tup [.int .i64 n1,.bool false]) []
theorem Eb(p:Pg)(c:Cf)(k:Nat)(v0 v1:Vl)(n0 n1:Int)(h0:uZ p c k v0 n0)(h1:KQ p c k v1 n1):Vc (vF_ 81 [.agg (pgA p),.agg (cfA c), aI k,.row 2 2 (vlC [v0,v1])] [.fv,.fv,.it 3,ve p c k v0 n0,.cl [.agg (pgA p),.agg (rgA c.s),enR c.b, aI k,.agg (vlA v1)] (.tup [aI n1,.bool false]) []] [] (.bool false) []):=aj (cj (pv ((0:Int)<=0∧(0:Int)<(2:Nat))) (fI p (ic p c (pr c k v0 (cj h0 (cj (i6 (0+1)) (cj (pv ((0:Int)<=0+1∧(0:Int)+1<(2:Nat))) (fI p (ic p c (vV c k v1 (cj h1 (cj (rf false) trivial))))))))))))
abbrev FA(p:Pg)(c:Cf)(k:Nat)(v1:Vl)(n1:Int):Prop:=PureC Tryz.prog 85 [.agg (pgA p),.agg (rgA c.s),enR c.b,.int .i64 k,.agg (vlA v1)] (.tup [.int .i64 n1,.bool true]) []
abbrev FR(p:Pg)(c:Cf)(k:Nat)(v1:Vl)(n1:Int):Orc:= .cl [.agg (pgA p),.agg (rgA c.s),enR c.b, aI k,.agg (vlA v1)] (.tup [aI n1,.bool true]) []
theorem Ea(p:Pg)(c:Cf)(k:Nat)(v0 v1:Vl)(n0 n1:Int)(h0:uZ p c k v0 n0)(h1:FA p c k v1 n1):Vc (vF_ 81 [.agg (pgA p),.agg (cfA c), aI k,.row 2 2 (vlC [v0,v1])] [.fv,.fv,.it 3,ve p c k v0 n0,FR p c k v1 n1] [] (.bool true) []):=aj (cj (pv ((0:Int)<=0∧(0:Int)<(2:Nat))) (fI p (ic p c (pr c k v0 (cj h0 (cj (i6 (0+1)) (cj (pv ((0:Int)<=0+1∧(0:Int)+1<(2:Nat))) (fI p (ic p c (vV c k v1 (cj h1 (cj (i6 (0+1+1)) (cj (rf true) trivial)))))))))))))
theorem D9(p:Pg)(c:Cf)(k:Nat)(v0 v1 v2:Vl)(n0:Int)(h0:FB p c k v0 n0):Vc (vF_ 81 [.agg (pgA p),.agg (cfA c), aI k,.row 2 3 (vlC [v0,v1,v2])] [.fv,.fv,.it 4,FS p c k v0 n0] [] (.bool false) []):=aj (cj (pv ((0:Int)<=0∧(0:Int)<(3:Nat))) (fI p (ic p c (pr c k v0 (cj h0 (cj (rf false) trivial))))))
theorem D8(p:Pg)(c:Cf)(k:Nat)(v0 v1 v2:Vl)(n0 n1:Int)(h0:uZ p c k v0 n0)(h1:KQ p c k v1 n1):Vc (vF_ 81 [.agg (pgA p),.agg (cfA c), aI k,.row 2 3 (vlC [v0,v1,v2])] [.fv,.fv,.it 4,ve p c k v0 n0,.cl [.agg (pgA p),.agg (rgA c.s),enR c.b, aI k,.agg (vlA v1)] (.tup [aI n1,.bool false]) []] [] (.bool false) []):=aj (cj (pv ((0:Int)<=0∧(0:Int)<(3:Nat))) (fI p (ic p c (pr c k v0 (cj h0 (cj (i6 (0+1)) (cj (pv ((0:Int)<=0+1∧(0:Int)+1<(3:Nat))) (fI p (ic p c (vV c k v1 (cj h1 (cj (rf false) trivial))))))))))))
theorem HZ(c:Cf)(k:Nat)(v2:Vl){Z:Prop}(z:Z):(RR c.b.length 8 (fun i j=>ao enC c.b i j) (RF (k:Int) (RF v2.reg (RF v2.n Z)))):=⟨fun _ _ _ _=>rfl,rfl,rfl,rfl,z⟩
theorem D7(p:Pg)(c:Cf)(k:Nat)(v0 v1 v2:Vl)(n0 n1 n2:Int)(h0:uZ p c k v0 n0)(h1:FA p c k v1 n1)(h2:pC_ 85 [.agg (pgA p),.agg (rgA c.s),enR c.b, aI k,.agg (vlA v2)] (.tup [aI n2,.bool false]) []):Vc (vF_ 81 [.agg (pgA p),.agg (cfA c), aI k,.row 2 3 (vlC [v0,v1,v2])] [.fv,.fv,.it 4,ve p c k v0 n0,FR p c k v1 n1,.cl [.agg (pgA p),.agg (rgA c.s),enR c.b, aI k,.agg (vlA v2)] (.tup [aI n2,.bool false]) []] [] (.bool false) []):=aj (cj (pv ((0:Int)<=0∧(0:Int)<(3:Nat))) (fI p (ic p c (pr c k v0 (cj h0 (cj (i6 (0+1)) (cj (pv ((0:Int)<=0+1∧(0:Int)+1<(3:Nat))) (fI p (ic p c (vV c k v1 (cj h1 (cj (i6 (0+1+1)) (cj (pv ((0:Int)<=0+1+1∧(0:Int)+1+1<(3:Nat))) (fI p (ic p c (HZ c k v2 (cj h2 (cj (rf false) trivial))))))))))))))))))
theorem D6(p:Pg)(c:Cf)(k:Nat)(v0 v1 v2:Vl)(n0 n1 n2:Int)(h0:uZ p c k v0 n0)(h1:FA p c k v1 n1)(h2:pC_ 85 [.agg (pgA p),.agg (rgA c.s),enR c.b, aI k,.agg (vlA v2)] (.tup [aI n2,.bool true]) []):Vc (vF_ 81 [.agg (pgA p),.agg (cfA c), aI k,.row 2 3 (vlC [v0,v1,v2])] [.fv,.fv,.it 4,ve p c k v0 n0,FR p c k v1 n1,.cl [.agg (pgA p),.agg (rgA c.s),enR c.b, aI k,.agg (vlA v2)] (.tup [aI n2,.bool true]) []] [] (.bool true) []):=aj (cj (pv ((0:Int)<=0∧(0:Int)<(3:Nat))) (fI p (ic p c (pr c k v0 (cj h0 (cj (i6 (0+1)) (cj (pv ((0:Int)<=0+1∧(0:Int)+1<(3:Nat))) (fI p (ic p c (vV c k v1 (cj h1 (cj (i6 (0+1+1)) (cj (pv ((0:Int)<=0+1+1∧(0:Int)+1+1<(3:Nat))) (fI p (ic p c (HZ c k v2 (cj h2 (cj (i6 (0+1+1+1)) (cj (rf true) trivial)))))))))))))))))))
theorem I4(p:Pg)(c:Cf)(k:Nat)(hb:c.b.length<1000000)(v0:Vl):pC_ 81 [.agg (pgA p),.agg (cfA c),.int .i64 k,.row 2 1 (vlC [v0])] (.bool (cH p c.s c.b k v0).2) []:=by
 have h0:=rp p c.s c.b k v0 hb
 cases t0:(cH p c.s c.b k v0).2 with
 |false=>rw[t0] at h0;exact PureC.vc (Ee p c k _ _ h0)
 |true=>rw[t0] at h0;exact PureC.vc (Ed p c k _ _ h0)
theorem Ef(p:Pg)(c:Cf)(k:Nat)(hb:c.b.length<1000000)(v0 v1:Vl):pC_ 81 [.agg (pgA p),.agg (cfA c),.int .i64 k,.row 2 2 (vlC [v0,v1])] (.bool ((cH p c.s c.b k v0).2&&(cH p c.s c.b k v1).2)) []:=by
 have h0:=rp p c.s c.b k v0 hb
 have h1:=rp p c.s c.b k v1 hb
 cases t0:(cH p c.s c.b k v0).2 with
 |false=>rw[t0] at h0;exact PureC.vc (Ec p c k _ _ _ h0)
 |true=>
  rw[t0] at h0
  cases t1:(cH p c.s c.b k v1).2 with
  |false=>rw[t1] at h1;exact PureC.vc (Eb p c k _ _ _ _ h0 h1)
  |true=>rw[t1] at h1;exact PureC.vc (Ea p c k _ _ _ _ h0 h1)
theorem Nl(p:Pg)(c:Cf)(k:Nat)(hb:c.b.length<1000000)(v0 v1 v2:Vl):pC_ 81 [.agg (pgA p),.agg (cfA c),.int .i64 k,.row 2 3 (vlC [v0,v1,v2])] (.bool ((cH p c.s c.b k v0).2&&(cH p c.s c.b k v1).2&&(cH p c.s c.b k v2).2)) []:=by
 have h0:=rp p c.s c.b k v0 hb
 have h1:=rp p c.s c.b k v1 hb
 have h2:=rp p c.s c.b k v2 hb
 cases t0:(cH p c.s c.b k v0).2 with
 |false=>rw[t0] at h0;exact PureC.vc (D9 p c k _ _ _ _ h0)
 |true=>
  rw[t0] at h0
  cases t1:(cH p c.s c.b k v1).2 with
  |false=>rw[t1] at h1;exact PureC.vc (D8 p c k _ _ _ _ _ h0 h1)
  |true=>
   rw[t1] at h1
   cases t2:(cH p c.s c.b k v2).2 with
   |false=>rw[t2] at h2;exact PureC.vc (D7 p c k _ _ _ _ _ _ h0 h1 h2)
   |true=>rw[t2] at h2;exact PureC.vc (D6 p c k _ _ _ _ _ _ h0 h1 h2)
theorem Eh(r:Int):Vc (vF_ 82 [aI r] [] [] (.agg (vlA ⟨true,r⟩)) []):=aj (cj (rf true) (cj (rf r) trivial))
theorem I8(r:Int):pC_ 82 [.int .i64 r] (.agg (vlA ⟨true,r⟩)) []:=PureC.vc (Eh r)
theorem HY(p:Pg)(c:Cf)(k:Nat){Z:Prop}(z:Z):(RF (k:Int) (RF (2:Nat) (RR 2 2 (fun i j=>vlC [(enX p c k).a,(enX p c k).b] i j) Z))):=⟨rfl,rfl,fun _ _ _ _=>rfl,z⟩
theorem zR(c:Cf){Z:Prop}(z:Z):(RR c.s.m.length 1 (fun i j=>aI (List.getD c.s.m i 0)) (RF c.s.st.length (RR c.s.st.length 1 (fun i j=>aI (List.getD c.s.st i 0)) (RF c.s.pc (RF c.b.length (RR c.b.length 8 (fun i j=>ao enC c.b i j) (RF c.r.length (RR c.r.length 1 (fun i j=>aI (c.r.getD i 0)) (RF c.e Z))))))))):=⟨fun _ _ _ _=>rfl,rfl,fun _ _ _ _=>rfl,rfl,rfl,fun _ _ _ _=>rfl,rfl,fun _ _ _ _=>rfl,rfl,z⟩
theorem zQ(p:Pg)(c:Cf){Z:Prop}(z:Z):(RF p.ls.length (RR p.ls.length 2 (fun i j=>ao lbC p.ls i j) (RF p.is.length (RR p.is.length 9 (fun i j=>ao inC p.is i j) (RF c.s.r0 (RF c.s.r1 (RF c.s.r2 (RF c.s.r3 (RF c.s.m.length Z))))))))):=⟨rfl,fun _ _ _ _=>rfl,rfl,fun _ _ _ _=>rfl,rfl,rfl,rfl,rfl,rfl,z⟩
abbrev KP(p:Pg)(c:Cf)(k:Nat):Prop:=PureC Tryz.prog 52 [.agg (pgA p),.agg (cfA c),.int .i64 k] (.agg (inA (enX p c k))) []
theorem Jw(p:Pg)(c:Cf)(k:Nat)(h0:KP p c k)(h1:pC_ 81 [.agg (pgA p),.agg (cfA c), aI k,.row 2 2 (vlC [(enX p c k).a,(enX p c k).b])] (.bool false) []):Vc (vF_ 53 [.agg (pgA p),.agg (cfA c), aI k] [.fv,.fv,.cl [.agg (pgA p),.agg (cfA c), aI k] (.agg (inA (enX p c k))) [],.fz,.cl [.agg (pgA p),.agg (cfA c), aI k,.row 2 2 (vlC [(enX p c k).a,(enX p c k).b])] (.bool false) []] [] (.tup [aI 0,.bool false]) []):=aj (fI p (zQ p c (zR c (cj (rf (k:Int)) (cj h0 (fI p (zQ p c (zR c (HY p c k (cj h1 (cj (rf (0:Int)) (cj (rf false) trivial))))))))))))
theorem Jv(p:Pg)(c:Cf)(k:Nat)(va vb:Int)(ta tb:Bool)(hab: -1000000<=va+vb∧va+vb<=1000000)(h0:KP p c k)(h1:pC_ 81 [.agg (pgA p),.agg (cfA c), aI k,.row 2 2 (vlC [(enX p c k).a,(enX p c k).b])] (.bool true) [])(h2:pC_ 85 [.agg (pgA p),.agg (rgA c.s),enR c.b, aI k,.agg (vlA (enX p c k).a)] (.tup [aI va,.bool ta]) [])(h3:pC_ 85 [.agg (pgA p),.agg (rgA c.s),enR c.b, aI k,.agg (vlA (enX p c k).b)] (.tup [aI vb,.bool tb]) []):Vc (vF_ 53 [.agg (pgA p),.agg (cfA c), aI k] [.fv,.fv,.cl [.agg (pgA p),.agg (cfA c), aI k] (.agg (inA (enX p c k))) [],.fz,.cl [.agg (pgA p),.agg (cfA c), aI k,.row 2 2 (vlC [(enX p c k).a,(enX p c k).b])] (.bool true) [],.cl [.agg (pgA p),.agg (rgA c.s),enR c.b, aI k,.agg (vlA (enX p c k).a)] (.tup [aI va,.bool ta]) [],.cl [.agg (pgA p),.agg (rgA c.s),enR c.b, aI k,.agg (vlA (enX p c k).b)] (.tup [aI vb,.bool tb]) [],.cl [aI p.W, aI (va+vb)] (aI (Wd.maskV p.W (va+vb))) []] [] (.tup [aI (Wd.maskV p.W (va+vb)),.bool true]) []):=aj (fI p (zQ p c (zR c (cj (rf (k:Int)) (cj h0 (fI p (zQ p c (zR c (HY p c k (cj h1 (fI p (ic p c (cj (rr c.b.length 8 fun i j=>ao enC c.b i j) (cj (rf (k:Int)) (cj (rf ((enX p c k).a.reg)) (cj (rf ((enX p c k).a.n)) (cj h2 (fI p (ic p c (cj (rr c.b.length 8 fun i j=>ao enC c.b i j) (cj (rf (k:Int)) (cj (rf ((enX p c k).b.reg)) (cj (rf ((enX p c k).b.n)) (cj h3 (cj (i6 (va+vb)) (cj (rf p.W) (cj (rf (va+vb)) (cj (ca p.W (va+vb)) (cj (rf (Wd.maskV p.W (va+vb))) (cj (rf true) trivial))))))))))))))))))))))))))))))
theorem Ac(p:Pg)(c:Cf)(k:Nat)(hk:k<c.b.length)(hb:c.b.length<1000000)(hv:Sml p c):pC_ 53 [.agg (pgA p),.agg (cfA c),.int .i64 k] (.tup [.int .i64 (if tAB p c k (enX p c k)=true then adV p c k (enX p c k) else 0),.bool (tAB p c k (enX p c k))]) []:=by
 have h0:=oi p c k hk
 have h1:=Ef p c k hb (enX p c k).a (enX p c k).b
 have ha:=hv.add k (enX p c k)
 cases ht:tAB p c k (enX p c k) with
 |false=>
  rw[show((cH p c.s c.b k (enX p c k).a).2&&(cH p c.s c.b k (enX p c k).b).2)=false from ht] at h1
  exact PureC.vc (Jw p c k h0 h1)
 |true=>
  rw[show((cH p c.s c.b k (enX p c k).a).2&&(cH p c.s c.b k (enX p c k).b).2)=true from ht] at h1
  exact PureC.vc (Jv p c k _ _ _ _ ha h0 h1 (rp p c.s c.b k (enX p c k).a hb) (rp p c.s c.b k (enX p c k).b hb))
end
end Go.Proofs.YtlfldlnohmobmaaGreat.Px
