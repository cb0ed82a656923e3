import Derived.Test.YtdanmboalfmifaaMcB
import Derived.Orders
set_option linter.unusedVariables false
set_option linter.unusedSimpArgs false
set_option maxRecDepth 100000
namespace Go.Proofs.Ytdanmboalfmifaa.Rx
section
open Go.RowKit
def PureC(P:Program)(f:FuncId)(args:List AV)(res:AV)(H:List Blk):Prop:=
 ∀(w:World) (R:Nat->Prop) (vs:Array Value),(∀g,R g->g<w.heap.size)->args.length=vs.size->(∀(j:Nat) a v,args[j]? =some a->vs[j]? =some v->RepP w R a v)->
  Calls P f vs w fun e w'=> ∃z cx',e= .returned z∧w'=cx'.w∧cx'.H=(fun i=>H[i]?)∧CRep cx'∧cx'.B=(fun g=>g<w.heap.size)∧(∀g,R g->cx'.R g)∧(∀g,cx'.R g->R g∨w.heap.size<=g)∧Below w.heap.size w w'∧Rep cx' res z
def MutC(P:Program)(f:FuncId)(args:List AV)(H0:List Blk)(res:AV)(H1:List Blk):Prop:=
 ∀cx (vs:Array Value),cx.H=(fun i=>H0[i]?)->CRep cx->args.length=vs.size->(∀(j:Nat) a v,args[j]? =some a->vs[j]? =some v->Rep cx a v)->
  Calls P f vs cx.w fun e w'=> ∃z cx',e= .returned z∧w'=cx'.w∧cx'.H=(fun i=>H1[i]?)∧CRep cx'∧Ext cx cx'∧Rep cx' res z
def B6(t:TypeId)(cs:List AV)(N:List Blk)(i:Nat):Option Blk:=((⟨0,false,t,.box cs⟩:Blk)::N)[i]?
def wh(P:Program)(f:FuncId)(args:List AV)(t:TypeId)(cs0:List AV)(res:AV)(cs1:List AV)(N:List Blk):Prop:=
 ∀cx (vs:Array Value),cx.H=B6 t cs0 []->CRep cx->args.length=vs.size->(∀(j:Nat) a v,args[j]? =some a->vs[j]? =some v->Rep cx a v)->
  Calls P f vs cx.w fun e w'=> ∃z cx',e= .returned z∧w'=cx'.w∧cx'.H=B6 t cs1 N∧CRep cx'∧Ext cx cx'∧cx'.φ 0=cx.φ 0∧Rep cx' res z
def rA(i0:Nat):AV->AV
 | .bptr id off=>bif Nat.beq id i0 then .bptr id off else .junk
 | .own .. | .eptr .. | .bsl .. | .agg .. | .tup .. | .clo .. => .junk
 |a=>a
def qr(i0:Nat):AV->AV
 | .agg cs=> .agg (cs.map (rA i0))
 |a=>rA i0 a
def wH(N:Nat):AV->AV
 | .own id g m off len=>match id with
  |0=> .junk
  |id+1=> .own (id+N) g m off len
 | .bptr .. | .eptr .. | .bsl .. | .rptr .. | .agg .. | .tup .. => .junk
 | .clo _ (_::_)=> .junk
 |a=>a
def t6(N:Nat):AV->AV
 | .agg cs=> .agg (cs.map (wH N))
 |a=>wH N a
def shK(N:Nat):AV->AV
 | .tup vs=> .tup (vs.map (t6 N))
 |a=>t6 N a
def gW(h:Nat->Option Blk)(i0:Nat)(cs:List AV):Nat->Option Blk:=fun id=>bif Nat.beq id i0 then(h i0).map fun b=>⟨b.gen,b.frz,b.e,.box cs⟩ else h id
def yh(h:Nat->Option Blk)(i0:Nat)(t:TypeId):Bool:=match h i0 with
 |some ⟨_,false,t',.box cs⟩=>Nat.beq t' t&&cs.all es
 |_=>false
def ke(H:List Blk):List (Nat×Blk):=(List.range H.length).zip H
def i3(h:Nat->Option Blk)(ids:List Nat):Bool:=ids.all fun i=>match h i with
 |some ⟨_,false,_,.rows _ _ _⟩=>true
 |_=>false
def uW(ids:List Nat):AV->AV
 | .own id g m off len=>bif ids.any (Nat.beq id) then .own id g m off len else .junk
 | .bptr .. | .eptr .. | .bsl .. | .agg .. | .tup .. | .clo .. => .junk
 |a=>a
def msk(ids:List Nat):AV->AV
 | .agg cs=> .agg (cs.map (uW ids))
 |a=>uW ids a
def hR(h:Nat->Option Blk)(ids:List Nat):Nat->Option Blk:=fun id=>bif ids.any (Nat.beq id) then h id else none
def rE(b:Blk):Blk:=match b.c with
 | .rows m _ _=>⟨b.gen+1,false,b.e,.rows m 0 fun _ _=> .junk⟩
 |_=>b
def dI(h:Nat->Option Blk)(ids:List Nat):Nat->Option Blk:=fun id=>bif ids.any (Nat.beq id) then(h id).map rE else h id
def dA(H:List Blk):Bool:=H.all fun b=>match b.c with
 | .rows .. => !b.frz
 | .box _=>false
theorem nz: ∀(H:List Blk) (k n i:Nat),n=H.length->ba ((List.range' k n).zip H) i=if k<=i then H[i-k]? else none
 | [],k,n,i,h=>by subst h;simp[ba]
 |b::H,k,n,i,h=>by
  subst h
  rw[gq,List.range'_succ,List.zip_cons_cons,ba]
  cases hb:Nat.beq i k with
  |true=>
   have e:=aj hb
   subst e
   simp
  |false=>
   have hne: ¬i=k:=fun e=>by rw[e,cy] at hb;cases hb
   simp only[bb]
   rw[nz H (k+1) H.length i rfl]
   by_cases h1:k+1<=i
   ·rw[ai h1,ai (by omega),show i-k=(i-(k+1))+1 by omega,ch]
   ·rw[af h1,af (by omega)]
theorem i8(H:List Blk):ba (ke H)=fun i=>H[i]? :=by
 funext i
 unfold ke
 rw[List.range_eq_range',nz H 0 H.length i rfl]
 simp
section
variable(P:Program)
def ki(f:FuncId):Bool:=match P.funcs[f]? with
 |some fn=>fn.body.isSome&& !(fn.name== "runtime.NumGoroutine")
 |none=>false
def pkC(h:Nat->Option Blk):AV->AV
 | .bptr id off=>match h id with
  |some ⟨_,_,_,.box cs⟩=> .rptr cs.length (fun q=>eM h (cs.getD q .junk)) off
  |_=> .junk
 |a=>eM h a
def eL(h:Nat->Option Blk):AV->List Nat
 | .bptr id _=>id::(match h id with
  |some ⟨_,_,_,.box cs⟩=>cs.flatMap jc
  |_=>[])
 |a=>jc a
def pk(h:Nat->Option Blk):AV->AV
 | .agg cs=> .agg (cs.map (pkC h))
 |a=>pkC h a
def iT(h:Nat->Option Blk):AV->List Nat
 | .agg cs=>cs.flatMap (eL h)
 |a=>eL h a
def jH:AV->Bool
 | .int .. | .bool _ | .str _ | .nilp | .nils=>true
 |_=>false
def pA:AV->Bool
 | .agg cs=>cs.all jH
 |a=>jH a
def vv:AV->Bool
 | .tup vs=>vs.all pA
 |a=>pA a
def ol:AV->Bool
 | .own .. =>true
 |a=>jH a
def mg:AV->Bool
 | .agg cs=>cs.all ol
 |a=>ol a
def nA:AV->Bool
 | .tup vs=>vs.all mg
 |a=>mg a
def kW(Hs:List (TypeId×List Int)):List Blk:=Hs.map fun q=>⟨0,false,q.1,.rows 1 q.2.length fun i _=> .int .i64 (q.2.getD i 0)⟩
def nJ(H:List Blk):Prop:= ∀b∈H, ∀m n f,b.c= .rows m n f-> ∀i,i<n-> ∀j,j<m->jH (f i j)=true
def kL(f:FuncId)(avs:List AV)(h:Nat->Option Blk)(next:Nat)(args':List AV)(H0:List Blk)(r:List (Nat×Nat))(res:AV)(H1:List Blk)(orc:List Orc):Option Res:=
 bif ki P f&&(dA H0&&(dA H1&&(i3 h (r.map (·.2))&&Nat.beq avs.length args'.length))) then
  (leS r ⟨fun t=>msk (r.map (·.2)) (avs.getD t .junk),hR h (r.map (·.2)),0⟩ ⟨(List.range args'.length).zip args',ke H0,H0.length⟩).map fun p=>
   ⟨shift next res,aS (dI h (r.map (·.2))) next H1,next+H1.length,orc,p++[MutC P f args' H0 res H1]⟩ else none
def zi(f:FuncId)(avs:List AV)(h:Nat->Option Blk)(next:Nat)(args':List AV)(i0:Nat)(t:TypeId)(cs0:List AV)(res:AV)(cs1:List AV)(N:List Blk)(orc:List Orc):Option Res:=
 bif ki P f&&(dA N&&(cs1.all es&&(yh h i0 t&&Nat.beq avs.length args'.length))) then
  (leS [(0,i0)] ⟨fun t=>qr i0 (avs.getD t .junk),hR h [i0],0⟩ ⟨(List.range args'.length).zip args',[(0,⟨0,false,t,.box cs0⟩)],1⟩).map fun p=>
   ⟨shK next res,aS (gW h i0 cs1) next N,next+N.length,orc,p++[wh P f args' t cs0 res cs1 N]⟩ else none
def nH(inner:cI):cI:=fun f args h next orc=>match orc with
 | .cl args' res H::orc=>bif ki P f&&dA H then
   (leL (le1 (fun _=>none) (fun _=>none) []) (args.map (frz h)) args').map fun p=>
    ⟨shift next res,aS (ci h (args.flatMap cG)) next H,next+H.length,orc,p++[PureC P f args' res H]⟩ else none
 | .cp args' res::orc=>bif ki P f&&vv res then
   (leL (le1 (fun _=>none) (fun _=>none) []) (args.map (pk h)) args').map fun p=>⟨res,h,next,orc,p++[PureC P f args' res []]⟩ else none
 | .cq args' res Hs::orc=>bif ki P f&&nA res then
   (leL (le1 (fun _=>none) (fun _=>none) []) (args.map (pk h)) args').map fun p=>⟨shift next res,aS h next (kW Hs),next+(kW Hs).length,orc,p++[PureC P f args' res (kW Hs)]⟩ else none
 | .cr args' res H::orc=>bif ki P f&&(nA res&&dA H) then
   (leL (le1 (fun _=>none) (fun _=>none) []) (args.map (pk h)) args').map fun p=>⟨shift next res,aS h next H,next+H.length,orc,p++[nJ H,PureC P f args' res H]⟩ else none
 | .cm args' H0 r res H1::orc=>kL P f args h next args' H0 r res H1 orc
 | .ck args' i0 t cs0 res cs1 N::orc=>zi P f args h next args' i0 t cs0 res cs1 N orc
 | .inl::orc=>inner f args h next orc
 |orc=>inner f args h next orc
def eh(md:Bool)(st:St):List ResultVar->Option (List AV×List Prop)
 | []=>some ([],[])
 | .tmp t::l=>(eh md st l).map fun q=>(st.env t::q.1,q.2)
 | .cell a ty::l=>(iV P md ty (st.env a) st.heap).bind fun r=>(eh md st l).map fun q=>(r.1::q.1,r.2++q.2)
def xq:List AV->AV
 | [a]=>a
 |l=> .tup l
def mi(dr:iY)(md:Bool):Nat->Bool->cI
 |0,_,_,_,_,_,_=>none
 |n+1,lp,f,args,h,next,orc=>match P.funcs[f]? with
  |none=>none
  |some fn=>match fn.body with
   |none=>none
   |some c=>bif ki P f&&Nat.ble args.length fn.ntmps then
     (cw P dr lp md (nH P (mi dr md n false)) fn.ntmps c ⟨fun t=>args.getD t .junk,h,next⟩ orc).bind fun q=>match q.1 with
      | .ext _=>none
      |_=>(eh P md q.2.1 fn.results.toList).map fun r=>⟨xq r.1,q.2.1.heap,q.2.1.next,q.2.2.1,q.2.2.2++r.2⟩
    else none
end
theorem br: ∀(H:List Blk) (h:Nat->Option Blk) (N id:Nat),aS h N H id=if N<=id∧id<N+H.length then H[id-N]? else h id
 | [],h,N,id=>by rw[aS,af (by simp only[List.length_nil];omega)]
 |b::H,h,N,id=>by
  rw[aS,br H]
  simp only[gq]
  by_cases h1:N+1<=id∧id<N+1+H.length
  ·rw[ai h1,ai (by omega),show id-N=(id-(N+1))+1 by omega,ch]
  ·rw[af h1]
   by_cases h2:id=N
   ·subst h2
    rw[aY,ai (by omega)]
    simp
   ·rw[aQ _ _ _ _ h2,af (by omega)]
section
variable{P:Program}{cx:Cx}
theorem Rep.pure_of{a:AV}{v:Value}(h:Rep cx a v)(hH: ∀id,cx.H id=none):RepP cx.w cx.R a v:=by
 induction h with
 |pure h=>exact h
 |bptr hb=>rw[hH] at hb;cases hb
 |bsl hb=>rw[hH] at hb;cases hb
 |eptr hb=>rw[hH] at hb;cases hb
 |own hb=>rw[hH] at hb;cases hb
 |agg hl h1 h ih=>exact .agg hl h1 ih
 |tup hl h ih=>exact .tup hl ih
 |clo hl h ih=>exact .clo hl ih
theorem lZ{w:World}{R:Nat->Prop}(hR: ∀g,R g->g<w.heap.size){a b:AV}{ps:List Prop}(h:le1 (fun _=>none) (fun _=>none) [] a b=some ps)(hp: ∀p∈ps,p){v:Value}(hr:RepP w R a v):RepP w R b v:=by
 have hc:CRep (Cx.pureOf w R):=⟨fun id b h=>(by cases h),fun id id' g c c' h=>(by cases h),hR,fun _ h=>h.elim⟩
 have ho:RenOk (Cx.pureOf w R) [] (fun _=>none):=⟨fun id id' b b' h=>(by cases h),fun id' b' _ h=>(by cases h)⟩
 have:=(ka (cx:=Cx.pureOf w R) hc ho h hp (.pure hr)).pure_of (fun _=>rfl)
 refine this.mono (fun g hg=> ?_) (fun g hg=>rfl)
 rcases hg with hg |⟨id,b,c,h1,_⟩
 ·exact hg
 ·cases h1
theorem lG{cx cx2:Cx}{N:Nat}(hP: ∀a v,RepP cx.w cx.R a v->RepP cx2.w cx2.R a v)(hO: ∀id b,cx.H id=some b->cx2.H (id+N)=some b∧cx2.φ (id+N)=cx.φ id){a:AV}{v:Value}(h:Rep cx a v):Rep cx2 (jV N a) v:=by
 cases a with
 |own id g m off len=>
  have ho:=h.own_one
  obtain⟨b,hb,hle,hO'⟩:=h.own_inv
  obtain⟨h1,h2⟩:=hO id b hb
  refine .own h1 hle ho fun e=> ?_
  obtain⟨n,f,k1,k2,k3⟩:=hO' e
  exact⟨n,f,k1,k2,by rw[h2];exact k3⟩
 |clo f caps=>
  cases caps with
  |nil=>
   obtain⟨vs,rfl,hl,_⟩:=h.clo_inv
   have:vs= #[]:=d5.1 (by rw[<-hl];rfl)
   subst this
   exact .pure (.clo rfl fun j a v ha _=>by simp at ha)
  |cons c cs=>exact .pure (.junk _)
 |bptr |eptr |bsl |rptr |agg |tup=>exact .pure (.junk _)
 |int |bool |str |nilp |nils |row |val |junk=>cases h with |pure h=>exact .pure (hP _ _ h)
theorem lH{cx cx2:Cx}{N:Nat}(hP: ∀a v,RepP cx.w cx.R a v->RepP cx2.w cx2.R a v)(hO: ∀id b,cx.H id=some b->cx2.H (id+N)=some b∧cx2.φ (id+N)=cx.φ id){a:AV}{v:Value}(h:Rep cx a v):Rep cx2 (gT N a) v:=by
 by_cases hg: ∃cs,a= .agg cs
 ·obtain⟨cs,rfl⟩:=hg
  obtain⟨vs,rfl,h1,h2,h3⟩:=h.agg_inv
  refine .agg (by simpa using h1) h2 fun j x v hx hv=> ?_
  simp only[aH] at hx
  obtain⟨y,hy,rfl⟩:=ac.1 hx
  exact lG hP hO (h3 j y v hy hv)
 ·have e1:gT N a=jV N a:=by cases a<;>first |rfl |exact absurd ⟨_,rfl⟩ hg
  rw[e1]
  exact lG hP hO h
theorem ni{cx cx2:Cx}{N:Nat}(hP: ∀a v,RepP cx.w cx.R a v->RepP cx2.w cx2.R a v)(hO: ∀id b,cx.H id=some b->cx2.H (id+N)=some b∧cx2.φ (id+N)=cx.φ id){a:AV}{v:Value}(h:Rep cx a v):Rep cx2 (shift N a) v:=by
 by_cases hg: ∃cs,a= .tup cs
 ·obtain⟨cs,rfl⟩:=hg
  obtain⟨vs,rfl,h1,h3⟩:=h.tup_inv
  refine .tup (by simpa using h1) fun j x v hx hv=> ?_
  simp only[aH] at hx
  obtain⟨y,hy,rfl⟩:=ac.1 hx
  exact lH hP hO (h3 j y v hy hv)
 ·have e1:shift N a=gT N a:=by cases a<;>first |rfl |exact absurd ⟨_,rfl⟩ hg
  rw[e1]
  exact lH hP hO h
theorem ed{f:FuncId}(h:ki P f=true): ∃fn,P.funcs[f]? =some fn∧fn.body.isSome=true∧fn.name≠ "runtime.NumGoroutine" :=by
 unfold ki at h
 split at h
 ·rename_i fn hf
  rw[au] at h
  exact⟨fn,hf,h.1,by simpa using h.2⟩
 ·cases h
theorem pO{args:List AV}{next:Nat}{args':List AV}{res:AV}{H:List Blk}{f:FuncId}{p:List Prop}(hro':dA H=true)(hpp:leL (le1 (fun _=>none) (fun _=>none) []) (args.map (frz cx.H)) args'=some p)(hp: ∀x∈p,x)(hpc:PureC P f args' res H)(hc:CRep cx)
  (hfree: ∀i,next<=i->i<next+H.length->cx.H i=none)(vs:Array Value)(hl:args.length=vs.size)(hR: ∀(j:Nat) a v,args[j]? =some a->vs[j]? =some v->Rep cx a v):
  Calls P f vs cx.w fun e w'=> ∃z cx',e= .returned z∧w'=cx'.w∧cx'.H=aS (ci cx.H (args.flatMap cG)) next H∧CRep cx'∧Stab cx cx'∧Rep cx' (shift next res) z∧NewIds cx.H next (aS (ci cx.H (args.flatMap cG)) next H) (next+H.length):=by
 obtain⟨l1,l2⟩:=fq hpp hp
 obtain⟨cx1,z1,hc1,hs1,z2,z3,z4,z5⟩:=dl (args.flatMap cG) hc
 have hargs: ∀(j:Nat) a v,args'[j]? =some a->vs[j]? =some v->RepP cx.w cx1.R a v:=by
  intro j a v ha hv
  have hj':j<(args.map (frz cx.H)).length:=by rw[l1];exact(az.1 ha).1
  have hj:j<args.length:=by simpa using hj'
  obtain⟨qs,q1,q2⟩:=l2 j ((args.map (frz cx.H))[j]) a (aD hj') ha
  simp only[List.getElem_map] at q1
  have hr0:=hR j args[j] v (aD hj) hv
  have hpu:=iC hc1 (H0:=cx.H) (fun id b hb'=>by rw[z1];exact cH _ _ _ _ hb') (hr0.stab hc hs1) fun id hid b g c hb' hg=>by
   obtain⟨b0,hb0⟩:=aC.1 (z5 id (by rw[hb'];rfl))
   exact z4 id b0 g c (bt.2 ⟨args[j],eJ hj,hid⟩) hb0 (by rw[<-z3];exact hg)
  rw[z2] at hpu
  exact lZ (fun g hg=>by have:=hc1.rlt g hg;rw[z2] at this;exact this) q1 q2 hpu
 have hcall:=hpc cx.w cx1.R vs (fun g hg=>by have:=hc1.rlt g hg;rw[z2] at this;exact this) (by rw[<-hl, <-l1];simp) hargs
 refine hcall.mono ?_
 rintro e w' ⟨z,cx',rfl,rfl,k1,k2,k3,k4,k5,k6,k7⟩
 have hHn: ∀id, ¬(next<=id∧id<next+H.length)->aS (ci cx.H (args.flatMap cG)) next H id=cx1.H id:=fun id hid=>by rw[br,af hid,z1]
 have hHs: ∀id b,cx'.H id=some b->aS (ci cx.H (args.flatMap cG)) next H (id+next)=some b∧id<H.length:=fun id b hb'=>by
  rw[k1] at hb'
  have hlt':=(az.1 hb').1
  refine⟨?_,hlt'⟩
  rw[br,ai (by omega),bc]
  exact hb'
 have hlt1: ∀id b,cx1.H id=some b-> ¬(next<=id∧id<next+H.length):=fun id b hb' hn=>by
  have h1:=z5 id (by rw[hb'];rfl)
  rw[hfree id hn.1 hn.2] at h1
  cases h1
 have hst:Stab cx1 ⟨cx'.w,cx'.R,fun id=>if next<=id∧id<next+H.length then cx'.φ (id-next) else cx1.φ id,aS (ci cx.H (args.flatMap cG)) next H,cx.B⟩:=by
  refine⟨⟨hs1.ext.B.symm,k4,fun g hg=> ?_, ?_, ?_, ?_, ?_,fun g hg _=> ?_⟩,fun id b hb'=>⟨b, ?_,fun _=>⟨?_,sameShape.rfl' b⟩,fun _=>rfl⟩,fun id b b' hb' hb''=> ?_⟩
  ·rcases k5 g hg with h1 |h1
   ·exact .inl h1
   ·exact .inr fun hB=>by rw[hs1.ext.B] at hB;have:=hc.blt g hB;omega
  ·rw[z2];exact k6.os
  ·rw[z2];exact k6.tape
  ·rw[z2];exact k6.output
  ·rw[z2];exact k6.size
  ·rw[z2] at hg ⊢;exact k6.block g hg
  ·show aS _ _ _ id=_
   rw[hHn id (hlt1 id b hb')];exact hb'
  ·show(if _ then _ else cx1.φ id)=_
   rw[af (hlt1 id b hb')]
  ·have h2:aS (ci cx.H (args.flatMap cG)) next H id=some b':=hb''
   rw[hHn id (hlt1 id b hb'),hb'] at h2
   cases h2
   exact aG _
 have hnew: ∀id b,aS (ci cx.H (args.flatMap cG)) next H id=some b->(next<=id∧id<next+H.length)-> ∃j,id=j+next∧cx'.H j=some b:=fun id b hb' hn=>by
  rw[br,ai hn] at hb'
  exact⟨id-next,by omega,by rw[k1];exact hb'⟩
 refine⟨z,⟨cx'.w,cx'.R,fun id=>if next<=id∧id<next+H.length then cx'.φ (id-next) else cx1.φ id,aS (ci cx.H (args.flatMap cG)) next H,cx.B⟩,rfl,rfl,rfl,⟨fun id b hb'=> ?_,fun i j g c c' hi hj h1 h2=> ?_,k2.rlt, ?_⟩,hs1.trans hst, ?_,dO _ _,fun i hi=> ?_⟩
 ·by_cases hid:next<=id∧id<next+H.length
  ·obtain⟨j,rfl,hj⟩:=hnew id b hb' hid
   have hold:=k2.hb j b hj
   have hj':=hj
   rw[k1] at hj'
   have hro:=aL.1 hro' b (aV hj')
   unfold HB at hold ⊢
   cases hbc:b.c with
   |box cs=>rw[hbc] at hro;cases hro
   |rows m n f=>
    rw[hbc] at hold hro
    have hfz:b.frz=false:=by simpa using hro
    have hφ:(if next<=j+next∧j+next<next+H.length then cx'.φ (j+next-next) else cx1.φ (j+next))=cx'.φ j:=by rw[ai hid,bc]
    rcases hold with⟨p1,p2⟩|⟨g,cap,cur,p1,p2,p3,p4,p5,p6,p7,p8⟩
    ·exact .inl ⟨hφ.trans p1,p2⟩
    ·exact .inr ⟨g,cap,cur,hφ.trans p1,p2,p3,p4,p5,p6,fun hB=>p7 (by rw[k3];exact hc.blt _ hB),p8⟩
  ·have hb1:cx1.H id=some b:=by rw[<-hHn id hid];exact hb'
   have hold:=hc1.hb id b hb1
   refine hold.keep hc1 hst (by show(if _ then _ else _)=_;rw[af hid]) (fun g c hg=> ?_) (fun g c hg hg'=> ?_)
   ·have:=(hold.at_ hg).1
    rw[z2] at this ⊢
    exact k6.block g this
   ·rcases k5 g hg' with h1 |h1
    ·exact h1
    ·have:=(hold.at_ hg).1
     rw[z2] at this
     omega
 ·have hx: ∀i g c,(aS (ci cx.H (args.flatMap cG)) next H i).isSome=true->(if next<=i∧i<next+H.length then cx'.φ (i-next) else cx1.φ i)=some (g,c)->(¬(next<=i∧i<next+H.length)∧(cx1.H i).isSome=true∧cx1.φ i=some (g,c)∧g<cx.w.heap.size)∨((next<=i∧i<next+H.length)∧(cx'.H (i-next)).isSome=true∧cx'.φ (i-next)=some (g,c)∧cx.w.heap.size<=g):=by
   intro i g c hi h1
   obtain⟨b,hb'⟩:=aC.1 hi
   by_cases hid:next<=i∧i<next+H.length
   ·right
    rw[ai hid] at h1
    obtain⟨j,rfl,hj⟩:=hnew i b hb' hid
    rw[bc] at h1 ⊢
    exact⟨hid,by rw[hj];rfl,h1,by have:=((k2.hb j b hj).at_ h1).2;rw[k3] at this;exact bz.1 this⟩
   ·left
    rw[af hid] at h1
    have hb1:cx1.H i=some b:=by rw[<-hHn i hid];exact hb'
    refine⟨hid,by rw[hb1];rfl,h1, ?_⟩
    have:=((hc1.hb i b hb1).at_ h1).1
    rw[z2] at this
    exact this
  rcases hx i g c hi h1 with⟨a1,a2,a3,a4⟩|⟨a1,a2,a3,a4⟩<;>rcases hx j g c' hj h2 with⟨b1,b2,b3,b4⟩|⟨b1,b2,b3,b4⟩
  ·exact hc1.inj i j g c c' a2 b2 a3 b3
  ·omega
  ·omega
  ·have:=k2.inj _ _ g c c' a2 b2 a3 b3
   omega
 ·exact fun g hg=>a6 (hc.blt g hg) k6.size
 ·refine ni (cx:=cx') ?_ ?_ k7
  ·exact fun a v h=>h
  ·intro id b hb'
   refine⟨(hHs id b hb').1, ?_⟩
   have hlt':=(hHs id b hb').2
   show(if next<=id+next∧id+next<next+H.length then cx'.φ (id+next-next) else cx1.φ (id+next))=_
   rw[ai (by omega),bc]
 ·by_cases hid:next<=i∧i<next+H.length
  ·exact .inr hid
  ·rw[hHn i hid] at hi
   exact .inl (z5 i hi)
theorem kj{cx':Cx}{a:AV}{v:Value}(h:Rep cx a v)(hf:jH a=true):Rep cx' a v:=by
 cases a<;>first |cases hf |skip
 case int k n=>rw[h.int_inv];exact .pure (.int k n)
 case bool b=>rw[h.bool_inv];exact .pure (.bool b)
 case str s=>rw[h.str_inv];exact .pure (.str s)
 case nilp=>rw[h.nilp_inv];exact .pure .nilp
 case nils=>rw[h.nils_inv];exact .pure .nils
theorem nB{cx':Cx}{a:AV}{v:Value}(h:Rep cx a v)(hf:pA a=true):Rep cx' a v:=by
 by_cases hg: ∃cs,a= .agg cs
 ·obtain⟨cs,rfl⟩:=hg
  obtain⟨vs,rfl,h1,h2,h3⟩:=h.agg_inv
  exact .agg h1 h2 fun j x v hx hv=>kj (h3 j x v hx hv) (aL.1 hf _ (aV hx))
 ·have e1:pA a=jH a:=by cases a<;>first |rfl |exact absurd ⟨_,rfl⟩ hg
  exact kj h (by rw[<-e1];exact hf)
theorem vt{cx':Cx}{a:AV}{v:Value}(h:Rep cx a v)(hf:vv a=true):Rep cx' a v:=by
 by_cases hg: ∃cs,a= .tup cs
 ·obtain⟨cs,rfl⟩:=hg
  obtain⟨vs,rfl,h1,h3⟩:=h.tup_inv
  exact .tup h1 fun j x v hx hv=>nB (h3 j x v hx hv) (aL.1 hf _ (aV hx))
 ·have e1:vv a=pA a:=by cases a<;>first |rfl |exact absurd ⟨_,rfl⟩ hg
  exact nB h (by rw[<-e1];exact hf)
theorem rn{cx:Cx}(hc:CRep cx){H0:Nat->Option Blk}(hH: ∀id b,H0 id=some b-> ∃b',cx.H id=some b'∧b'.gen=b.gen∧b'.c=b.c){a:AV}{v:Value}(h:Rep cx a v)(hR: ∀id∈eL H0 a, ∀b g c,cx.H id=some b->cx.φ id=some (g,c)->cx.R g):RepP cx.w cx.R (pkC H0 a) v:=by
 by_cases hg: ∃id off,a= .bptr id off
 ·obtain⟨id,off,rfl⟩:=hg
  unfold pkC
  simp only
  split
  ·rename_i g' fz e cs heq
   obtain⟨b',hb',e1,e2⟩:=hH id _ heq
   simp only at e2
   obtain⟨g,cap,b,k1,k2,k3,rfl⟩:=h.bptr_inv
   obtain⟨g2,cur,r1,r2,r3,r4,r5⟩:=my hc hb' e2
   rw[k3] at r1
   cases r1
   have hRg:=hR id (by simp[eL]) _ _ _ hb' k3
   have hget: ∀q,q<cs.length-> ∃u,cur[q]? =some u∧u.oneCell'=true∧RepP cx.w cx.R (eM H0 (cs.getD q .junk)) u:=fun q hq'=>by
    have hlt:q<cur.size:=by rw[<-r3.len];exact hq'
    refine⟨cur[q],ao hlt,r3.one _ _ (ao hlt), ?_⟩
    rw[aq,aD hq']
    exact jG hc hH (r3.rep _ _ _ (aD hq') (ao hlt)) fun i hi=>hR i (by
     simp only[eL,heq,bL,bt]
     exact .inr ⟨_,eJ hq',hi⟩)
   have:=RepP.rptr (w:=cx.w) (R:=cx.R) (m:=cs.length) (j:=off) (g:=g) (o:=0) (cs:=fun q=>eM H0 (cs.getD q .junk)) hRg (fun q=>(cur[q]?).getD undef) (fun q hq'=>by
     obtain⟨u,hu,_,_⟩:=hget q hq'
     rw[cell_of_row _ _ _ _ _ _ r2,a7,hu]
     rfl) (fun q hq'=>by
     obtain⟨u,hu,ho,_⟩:=hget q hq'
     simp only[hu,bE]
     exact ho) (fun q hq'=>by
     obtain⟨u,hu,_,hr⟩:=hget q hq'
     simp only[hu,bE]
     exact hr)
   rwa [a7] at this
  ·exact .junk _
 ·have e1:pkC H0 a=eM H0 a:=by cases a<;>first |rfl |exact absurd ⟨_,_,rfl⟩ hg
  have e2:eL H0 a=jc a:=by cases a<;>first |rfl |exact absurd ⟨_,_,rfl⟩ hg
  rw[e1]
  exact jG hc hH h (by rw[<-e2];exact hR)
theorem uH{cx:Cx}(hc:CRep cx){H0:Nat->Option Blk}(hH: ∀id b,H0 id=some b-> ∃b',cx.H id=some b'∧b'.gen=b.gen∧b'.c=b.c){a:AV}{v:Value}(h:Rep cx a v)(hR: ∀id∈iT H0 a, ∀b g c,cx.H id=some b->cx.φ id=some (g,c)->cx.R g):RepP cx.w cx.R (pk H0 a) v:=by
 by_cases hg: ∃cs,a= .agg cs
 ·obtain⟨cs,rfl⟩:=hg
  obtain⟨vs,rfl,h1,h2,h3⟩:=h.agg_inv
  refine .agg (by simpa using h1) h2 fun j x v hx hv=> ?_
  simp only[aH] at hx
  obtain⟨y,hy,rfl⟩:=ac.1 hx
  exact rn hc hH (h3 j y v hy hv) fun id hid=>hR id (by
   simp only[iT,bt]
   exact⟨y,aV hy,hid⟩)
 ·have e1:pk H0 a=pkC H0 a:=by cases a<;>first |rfl |exact absurd ⟨_,rfl⟩ hg
  have e2:iT H0 a=eL H0 a:=by cases a<;>first |rfl |exact absurd ⟨_,rfl⟩ hg
  rw[e1]
  exact rn hc hH h (by rw[<-e2];exact hR)
theorem mA(hc:CRep cx){w':World}(hb:Below cx.w.heap.size cx.w w'):CRep ⟨w',cx.R,cx.φ,cx.H,cx.B⟩∧Stab cx ⟨w',cx.R,cx.φ,cx.H,cx.B⟩:=by
 have hs:Stab cx ⟨w',cx.R,cx.φ,cx.H,cx.B⟩:=⟨⟨rfl,fun _ h=>h,fun _ h=> .inl h,hb.os,hb.tape,hb.output,hb.size,fun g hg _=>hb.block g hg⟩,
  fun id b h=>⟨b,h,fun _=>⟨rfl,sameShape.rfl' b⟩,fun _=>rfl⟩,fun id b b' h h'=>by
   have h':cx.H id=some b':=h'
   rw[h] at h';cases h';exact aG _⟩
 refine⟨⟨fun id b h=> ?_,hc.inj,fun g hg=>a6 (hc.rlt g hg) hb.size,fun g hg=>a6 (hc.blt g hg) hb.size⟩,hs⟩
 have hold:=hc.hb id b h
 exact hold.keep hc hs rfl (fun g c hg=>hb.block g (hold.at_ hg).1) (fun g c hg hg'=>hg')
theorem pJ{args:List AV}{args':List AV}{res:AV}{f:FuncId}{p:List Prop}(hfl:vv res=true)(hpp:leL (le1 (fun _=>none) (fun _=>none) []) (args.map (pk cx.H)) args'=some p)(hp: ∀x∈p,x)(hpc:PureC P f args' res [])(hc:CRep cx)
  (vs:Array Value)(hl:args.length=vs.size)(hR: ∀(j:Nat) a v,args[j]? =some a->vs[j]? =some v->Rep cx a v):
  Calls P f vs cx.w fun e w'=> ∃z cx',e= .returned z∧w'=cx'.w∧cx'.H=cx.H∧CRep cx'∧Stab cx cx'∧Rep cx' res z:=by
 obtain⟨l1,l2⟩:=fq hpp hp
 obtain⟨cx1,z1,hc1,hs1,z2,z3,z4,z5⟩:=dl (args.flatMap (iT cx.H)) hc
 have hargs: ∀(j:Nat) a v,args'[j]? =some a->vs[j]? =some v->RepP cx.w cx1.R a v:=by
  intro j a v ha hv
  have hj':j<(args.map (pk cx.H)).length:=by rw[l1];exact(az.1 ha).1
  have hj:j<args.length:=by simpa using hj'
  obtain⟨qs,q1,q2⟩:=l2 j ((args.map (pk cx.H))[j]) a (aD hj') ha
  simp only[List.getElem_map] at q1
  have hr0:=hR j args[j] v (aD hj) hv
  have hpu:=uH hc1 (H0:=cx.H) (fun id b hb'=>by rw[z1];exact cH _ _ _ _ hb') (hr0.stab hc hs1) fun id hid b g c hb' hg=>by
   obtain⟨b0,hb0⟩:=aC.1 (z5 id (by rw[hb'];rfl))
   exact z4 id b0 g c (bt.2 ⟨args[j],eJ hj,hid⟩) hb0 (by rw[<-z3];exact hg)
  rw[z2] at hpu
  exact lZ (fun g hg=>by have:=hc1.rlt g hg;rw[z2] at this;exact this) q1 q2 hpu
 have hcall:=hpc cx.w cx1.R vs (fun g hg=>by have:=hc1.rlt g hg;rw[z2] at this;exact this) (by rw[<-hl, <-l1];simp) hargs
 refine hcall.mono ?_
 rintro e w' ⟨z,cx',rfl,rfl,k1,k2,k3,k4,k5,k6,k7⟩
 obtain⟨h1,h2⟩:=mA hc k6
 exact⟨z,⟨cx'.w,cx.R,cx.φ,cx.H,cx.B⟩,rfl,rfl,rfl,h1,h2,vt k7 hfl⟩
theorem kA{cx cx2:Cx}{N:Nat}(hO: ∀id b,cx.H id=some b->cx2.H (id+N)=some b∧cx2.φ (id+N)=cx.φ id){a:AV}{v:Value}(h:Rep cx a v)(hf:ol a=true):Rep cx2 (jV N a) v:=by
 cases a with
 |own id g m off len=>
  have ho:=h.own_one
  obtain⟨b,hb,hle,hO'⟩:=h.own_inv
  obtain⟨h1,h2⟩:=hO id b hb
  refine .own h1 hle ho fun e=> ?_
  obtain⟨n,f,k1,k2,k3⟩:=hO' e
  exact⟨n,f,k1,k2,by rw[h2];exact k3⟩
 |int |bool |str |nilp |nils=>exact kj h hf
 |_=>cases hf
theorem kz{cx cx2:Cx}{N:Nat}(hO: ∀id b,cx.H id=some b->cx2.H (id+N)=some b∧cx2.φ (id+N)=cx.φ id){a:AV}{v:Value}(h:Rep cx a v)(hf:mg a=true):Rep cx2 (gT N a) v:=by
 by_cases hg: ∃cs,a= .agg cs
 ·obtain⟨cs,rfl⟩:=hg
  obtain⟨vs,rfl,h1,h2,h3⟩:=h.agg_inv
  refine .agg (by simpa using h1) h2 fun j x v hx hv=> ?_
  simp only[aH] at hx
  obtain⟨y,hy,rfl⟩:=ac.1 hx
  exact kA hO (h3 j y v hy hv) (aL.1 hf _ (aV hy))
 ·have e1:gT N a=jV N a:=by cases a<;>first |rfl |exact absurd ⟨_,rfl⟩ hg
  have e2:mg a=ol a:=by cases a<;>first |rfl |exact absurd ⟨_,rfl⟩ hg
  rw[e1]
  exact kA hO h (by rw[<-e2];exact hf)
theorem qh{cx cx2:Cx}{N:Nat}(hO: ∀id b,cx.H id=some b->cx2.H (id+N)=some b∧cx2.φ (id+N)=cx.φ id){a:AV}{v:Value}(h:Rep cx a v)(hf:nA a=true):Rep cx2 (shift N a) v:=by
 by_cases hg: ∃cs,a= .tup cs
 ·obtain⟨cs,rfl⟩:=hg
  obtain⟨vs,rfl,h1,h3⟩:=h.tup_inv
  refine .tup (by simpa using h1) fun j x v hx hv=> ?_
  simp only[aH] at hx
  obtain⟨y,hy,rfl⟩:=ac.1 hx
  exact kz hO (h3 j y v hy hv) (aL.1 hf _ (aV hy))
 ·have e1:shift N a=gT N a:=by cases a<;>first |rfl |exact absurd ⟨_,rfl⟩ hg
  have e2:nA a=mg a:=by cases a<;>first |rfl |exact absurd ⟨_,rfl⟩ hg
  rw[e1]
  exact kz hO h (by rw[<-e2];exact hf)
theorem qz{w w':World}{R R':Nat->Prop}{a:AV}{v:Value}(h:RepP w R a v)(hf:jH a=true):RepP w' R' a v:=by
 cases h with
 |int=>exact .int _ _
 |bool=>exact .bool _
 |str=>exact .str _
 |nilp=>exact .nilp
 |nils=>exact .nils
 |_=>first |cases hf |exact .val _ |exact .junk _
theorem pI{args:List AV}{next:Nat}{args':List AV}{res:AV}{Hs:List Blk}{f:FuncId}{p:List Prop}(hfl:nA res=true)(hro:dA Hs=true)(hfh:nJ Hs)(hpp:leL (le1 (fun _=>none) (fun _=>none) []) (args.map (pk cx.H)) args'=some p)(hp: ∀x∈p,x)(hpc:PureC P f args' res Hs)(hc:CRep cx)
  (hfree: ∀i,next<=i->i<next+Hs.length->cx.H i=none)(vs:Array Value)(hl:args.length=vs.size)(hR: ∀(j:Nat) a v,args[j]? =some a->vs[j]? =some v->Rep cx a v):
  Calls P f vs cx.w fun e w'=> ∃z cx',e= .returned z∧w'=cx'.w∧cx'.H=aS cx.H next Hs∧CRep cx'∧Stab cx cx'∧Rep cx' (shift next res) z∧NewIds cx.H next (aS cx.H next Hs) (next+Hs.length):=by
 obtain⟨l1,l2⟩:=fq hpp hp
 obtain⟨cx1,z1,hc1,hs1,z2,z3,z4,z5⟩:=dl (args.flatMap (iT cx.H)) hc
 have hargs: ∀(j:Nat) a v,args'[j]? =some a->vs[j]? =some v->RepP cx.w cx1.R a v:=by
  intro j a v ha hv
  have hj':j<(args.map (pk cx.H)).length:=by rw[l1];exact(az.1 ha).1
  have hj:j<args.length:=by simpa using hj'
  obtain⟨qs,q1,q2⟩:=l2 j ((args.map (pk cx.H))[j]) a (aD hj') ha
  simp only[List.getElem_map] at q1
  have hr0:=hR j args[j] v (aD hj) hv
  have hpu:=uH hc1 (H0:=cx.H) (fun id b hb'=>by rw[z1];exact cH _ _ _ _ hb') (hr0.stab hc hs1) fun id hid b g c hb' hg=>by
   obtain⟨b0,hb0⟩:=aC.1 (z5 id (by rw[hb'];rfl))
   exact z4 id b0 g c (bt.2 ⟨args[j],eJ hj,hid⟩) hb0 (by rw[<-z3];exact hg)
  rw[z2] at hpu
  exact lZ (fun g hg=>by have:=hc1.rlt g hg;rw[z2] at this;exact this) q1 q2 hpu
 have hcall:=hpc cx.w cx1.R vs (fun g hg=>by have:=hc1.rlt g hg;rw[z2] at this;exact this) (by rw[<-hl, <-l1];simp) hargs
 refine hcall.mono ?_
 rintro e w' ⟨z,cx',rfl,rfl,k1,k2,k3,k4,k5,k6,k7⟩
 obtain⟨ha,hsa⟩:=mA hc k6
 have hHn: ∀id, ¬(next<=id∧id<next+Hs.length)->aS cx.H next Hs id=cx.H id:=fun id hid=>by rw[br,af hid]
 have hHs: ∀id b,cx'.H id=some b->aS cx.H next Hs (id+next)=some b∧id<Hs.length:=fun id b hb'=>by
  rw[k1] at hb'
  have hlt':=(az.1 hb').1
  refine⟨?_,hlt'⟩
  rw[br,ai (by omega),bc]
  exact hb'
 have hlt1: ∀id b,cx.H id=some b-> ¬(next<=id∧id<next+Hs.length):=fun id b hb' hn=>by
  rw[hfree id hn.1 hn.2] at hb'
  cases hb'
 have hst:Stab ⟨cx'.w,cx.R,cx.φ,cx.H,cx.B⟩ ⟨cx'.w,cx.R,fun id=>if next<=id∧id<next+Hs.length then cx'.φ (id-next) else cx.φ id,aS cx.H next Hs,cx.B⟩:=by
  refine⟨⟨rfl,fun _ h=>h,fun _ h=> .inl h,rfl,rfl,rfl,aG _,fun g hg _=>rfl⟩,fun id b hb'=>⟨b, ?_,fun _=>⟨?_,sameShape.rfl' b⟩,fun _=>rfl⟩,fun id b b' hb' hb''=> ?_⟩
  ·show aS _ _ _ id=_
   rw[hHn id (hlt1 id b hb')];exact hb'
  ·show(if _ then _ else cx.φ id)=_
   rw[af (hlt1 id b hb')]
  ·have h2:aS cx.H next Hs id=some b':=hb''
   have h3:cx.H id=some b:=hb'
   rw[hHn id (hlt1 id b h3),h3] at h2
   cases h2
   exact aG _
 have hnew: ∀id b,aS cx.H next Hs id=some b->(next<=id∧id<next+Hs.length)-> ∃j,id=j+next∧cx'.H j=some b:=fun id b hb' hn=>by
  rw[br,ai hn] at hb'
  exact⟨id-next,by omega,by rw[k1];exact hb'⟩
 refine⟨z,⟨cx'.w,cx.R,fun id=>if next<=id∧id<next+Hs.length then cx'.φ (id-next) else cx.φ id,aS cx.H next Hs,cx.B⟩,rfl,rfl,rfl,⟨fun id b hb'=> ?_,fun i j g c c' hi hj h1 h2=> ?_,ha.rlt,ha.blt⟩,hsa.trans hst, ?_,dO _ _,fun i hi=> ?_⟩
 ·by_cases hid:next<=id∧id<next+Hs.length
  ·obtain⟨j,rfl,hj⟩:=hnew id b hb' hid
   have hold:=k2.hb j b hj
   have hj':=hj
   rw[k1] at hj'
   have hbm:=aV hj'
   have hro1:=aL.1 hro b hbm
   have hfb:=hfh b hbm
   unfold HB at hold ⊢
   cases hbc:b.c with
   |box cs=>rw[hbc] at hro1;cases hro1
   |rows mm nn ff=>
   rw[hbc] at hold hro1
   have hfz:b.frz=false:=by simpa using hro1
   have hφ:(if next<=j+next∧j+next<next+Hs.length then cx'.φ (j+next-next) else cx.φ (j+next))=cx'.φ j:=by rw[ai hid,bc]
   rcases hold with⟨p1,p2⟩|⟨g,cap,cur,p1,p2,p3,p4,p5,p6,p7,p8⟩
   ·exact .inl ⟨hφ.trans p1,p2⟩
   ·refine .inr ⟨g,cap,cur,hφ.trans p1,p2,p3,p4,p5,fun i hi j' hj'=> ?_,fun hB=>p7 (by rw[k3];exact hc.blt _ hB), ?_⟩
    ·obtain⟨u,u1,u2,u3⟩:=p6 i hi j' hj'
     refine⟨u,u1,u2, ?_⟩
     exact qz u3 (hfb _ _ _ hbc i hi j' hj')
    ·rw[hfz,af (by simp)]
     intro hg
     exact p7 (by rw[k3];exact hc.rlt g hg)
  ·have hb1:cx.H id=some b:=by rw[<-hHn id hid];exact hb'
   have hold:=ha.hb id b hb1
   exact hold.keep ha hst (by show(if _ then _ else _)=_;rw[af hid]) (fun g c hg=>rfl) (fun g c hg hg'=>hg')
 ·have hx: ∀i g c,(aS cx.H next Hs i).isSome=true->(if next<=i∧i<next+Hs.length then cx'.φ (i-next) else cx.φ i)=some (g,c)->(¬(next<=i∧i<next+Hs.length)∧(cx.H i).isSome=true∧cx.φ i=some (g,c)∧g<cx.w.heap.size)∨((next<=i∧i<next+Hs.length)∧(cx'.H (i-next)).isSome=true∧cx'.φ (i-next)=some (g,c)∧cx.w.heap.size<=g):=by
   intro i g c hi h1
   obtain⟨b,hb'⟩:=aC.1 hi
   by_cases hid:next<=i∧i<next+Hs.length
   ·right
    rw[ai hid] at h1
    obtain⟨j,rfl,hj⟩:=hnew i b hb' hid
    rw[bc] at h1 ⊢
    exact⟨hid,by rw[hj];rfl,h1,by have:=((k2.hb j b hj).at_ h1).2;rw[k3] at this;exact bz.1 this⟩
   ·left
    rw[af hid] at h1
    have hb1:cx.H i=some b:=by rw[<-hHn i hid];exact hb'
    exact⟨hid,by rw[hb1];rfl,h1,((hc.hb i b hb1).at_ h1).1⟩
  rcases hx i g c hi h1 with⟨a1,a2,a3,a4⟩|⟨a1,a2,a3,a4⟩<;>rcases hx j g c' hj h2 with⟨b1,b2,b3,b4⟩|⟨b1,b2,b3,b4⟩
  ·exact hc.inj i j g c c' a2 b2 a3 b3
  ·omega
  ·omega
  ·have:=k2.inj _ _ g c c' a2 b2 a3 b3
   omega
 ·refine qh (cx:=cx') ?_ k7 hfl
  intro id b hb'
  refine⟨(hHs id b hb').1, ?_⟩
  have hlt':=(hHs id b hb').2
  show(if next<=id+next∧id+next<next+Hs.length then cx'.φ (id+next-next) else cx.φ (id+next))=_
  rw[ai (by omega),bc]
 ·by_cases hid:next<=i∧i<next+Hs.length
  ·exact .inr hid
  ·rw[hHn i hid] at hi
   exact .inl hi
theorem vZ{args:List AV}{next:Nat}{args':List AV}{res:AV}{Hs:List (TypeId×List Int)}{f:FuncId}{p:List Prop}(hfl:nA res=true)(hpp:leL (le1 (fun _=>none) (fun _=>none) []) (args.map (pk cx.H)) args'=some p)(hp: ∀x∈p,x)(hpc:PureC P f args' res (kW Hs))(hc:CRep cx)
  (hfree: ∀i,next<=i->i<next+(kW Hs).length->cx.H i=none)(vs:Array Value)(hl:args.length=vs.size)(hR: ∀(j:Nat) a v,args[j]? =some a->vs[j]? =some v->Rep cx a v):
  Calls P f vs cx.w fun e w'=> ∃z cx',e= .returned z∧w'=cx'.w∧cx'.H=aS cx.H next (kW Hs)∧CRep cx'∧Stab cx cx'∧Rep cx' (shift next res) z∧NewIds cx.H next (aS cx.H next (kW Hs)) (next+(kW Hs).length):=
 pI (Hs:=kW Hs) hfl (aL.2 fun b hb=>by obtain⟨q,_,rfl⟩:=cX.1 hb;rfl) (fun b hb m n f h i hi j hj=>by obtain⟨q,_,rfl⟩:=cX.1 hb;cases h;rfl) hpp hp hpc hc hfree vs hl hR
theorem gm{ids:List Nat}{id:Nat}:(ids.any (Nat.beq id))=true↔id∈ids:=by
 rw[List.any_eq_true]
 exact⟨fun⟨x,hx,h⟩=>by rw[aj h];exact hx,fun h=>⟨id,h,cy id⟩⟩
theorem wd{ids:List Nat}{id:Nat}(h:id ∉ ids):(ids.any (Nat.beq id))=false:=by
 cases hb:ids.any (Nat.beq id) with
 |false=>rfl
 |true=>exact absurd (gm.1 hb) h
theorem jF{h:Nat->Option Blk}{ids:List Nat}{id:Nat}{b:Blk}(e:hR h ids id=some b):id∈ids∧h id=some b:=by
 unfold hR at e
 cases hb:ids.any (Nat.beq id) with
 |true=>rw[hb] at e;exact⟨gm.1 hb,e⟩
 |false=>rw[hb] at e;cases e
theorem gZ{h:Nat->Option Blk}{ids:List Nat}(hr:i3 h ids=true){id:Nat}(hi:id∈ids): ∃g e m n f,h id=some ⟨g,false,e,.rows m n f⟩:=by
 have:=aL.1 hr id hi
 split at this
 ·rename_i g e m n f heq
  exact⟨g,e,m,n,f,heq⟩
 ·cases this
theorem fM{h:Nat->Option Blk}{ids:List Nat}{id:Nat}(hi:id∈ids):dI h ids id=(h id).map rE:=by
 unfold dI;rw[gm.2 hi];rfl
theorem eE{h:Nat->Option Blk}{ids:List Nat}{id:Nat}(hi:id ∉ ids):dI h ids id=h id:=by
 unfold dI;rw[wd hi];rfl
theorem ph{cx cx2:Cx}{ids:List Nat}(hP: ∀a v,RepP cx.w cx.R a v->RepP cx2.w cx2.R a v)(hφ:cx2.φ=cx.φ)(hH: ∀id,id∈ids->cx2.H id=cx.H id){a:AV}{v:Value}(h:Rep cx a v):Rep cx2 (uW ids a) v:=by
 cases a with
 |own id g m off len=>
  rw[show uW ids (.own id g m off len)=bif ids.any (Nat.beq id) then .own id g m off len else .junk from rfl]
  cases hb:ids.any (Nat.beq id) with
  |false=>exact .pure (.junk _)
  |true=>
   show Rep cx2 (.own id g m off len) v
   have ho:=h.own_one
   obtain⟨b,hb',hle,hO⟩:=h.own_inv
   refine .own (by rw[hH id (gm.1 hb)];exact hb') hle ho fun e=> ?_
   obtain⟨n,f,k1,k2,k3⟩:=hO e
   exact⟨n,f,k1,k2,by rw[hφ];exact k3⟩
 |bptr |eptr |bsl |agg |tup |clo=>exact .pure (.junk _)
 |int |bool |str |nilp |nils |row |val |junk |rptr=>cases h with |pure h=>exact .pure (hP _ _ h)
theorem xu{cx cx2:Cx}{ids:List Nat}(hP: ∀a v,RepP cx.w cx.R a v->RepP cx2.w cx2.R a v)(hφ:cx2.φ=cx.φ)(hH: ∀id,id∈ids->cx2.H id=cx.H id){a:AV}{v:Value}(h:Rep cx a v):Rep cx2 (msk ids a) v:=by
 by_cases hg: ∃cs,a= .agg cs
 ·obtain⟨cs,rfl⟩:=hg
  obtain⟨vs,rfl,h1,h2,h3⟩:=h.agg_inv
  refine .agg (by simpa using h1) h2 fun j x v hx hv=> ?_
  simp only[aH] at hx
  obtain⟨y,hy,rfl⟩:=ac.1 hx
  exact ph hP hφ hH (h3 j y v hy hv)
 ·have e1:msk ids a=uW ids a:=by cases a<;>first |rfl |exact absurd ⟨_,rfl⟩ hg
  rw[e1]
  exact ph hP hφ hH h
theorem pn{l:List AV}{j:Nat}{a:AV}(h:l[j]? =some a):ic .junk ((List.range l.length).zip l) j=a:=by
 have key: ∀(H:List AV) (k n i:Nat) (x:AV),n=H.length->H[i]? =some x->ic .junk ((List.range' k n).zip H) (k+i)=x:=by
  intro H
  induction H with
  |nil=>intro k n i x _ hx;simp at hx
  |cons b H ih=>
   intro k n i x hn hx
   subst hn
   rw[gq,List.range'_succ,List.zip_cons_cons,ic]
   cases i with
   |zero=>rw[cz,cy];simpa using hx
   |succ i=>
    have:Nat.beq (k+(i+1)) k=false:=by
     cases hb:Nat.beq (k+(i+1)) k with
     |false=>rfl
     |true=>have:=aj hb;omega
    rw[this]
    have:=ih (k+1) H.length i x rfl (by simpa using hx)
    rw[show k+(i+1)=k+1+i by omega]
    exact this
 have:=key l 0 l.length j a rfl h
 rw[List.range_eq_range']
 rwa [a7] at this
theorem pM{args:List AV}{next:Nat}{args':List AV}{H0 H1:List Blk}{r:List (Nat×Nat)}{res:AV}{f:FuncId}{p:List Prop}(h0:dA H0=true)(h1:dA H1=true)(hra:i3 cx.H (r.map (·.2))=true)(hal:args.length=args'.length)
  (hpp:leS r ⟨fun t=>msk (r.map (·.2)) (args.getD t .junk),hR cx.H (r.map (·.2)),0⟩ ⟨(List.range args'.length).zip args',ke H0,H0.length⟩=some p)(hp: ∀x∈p,x)(hpc:MutC P f args' H0 res H1)(hc:CRep cx)
  (hfree: ∀i,next<=i->i<next+H1.length->cx.H i=none)(vs:Array Value)(hl:args.length=vs.size)(hRp: ∀(j:Nat) a v,args[j]? =some a->vs[j]? =some v->Rep cx a v):
  Calls P f vs cx.w fun e w'=> ∃z cx',e= .returned z∧w'=cx'.w∧cx'.H=aS (dI cx.H (r.map (·.2))) next H1∧CRep cx'∧Stab cx cx'∧Rep cx' (shift next res) z∧NewIds cx.H next (aS (dI cx.H (r.map (·.2))) next H1) (next+H1.length):=by
 generalize hids:r.map (·.2)=ids at*
 have hoth: ∀g,(∃id b c,cx.H id=some b∧cx.φ id=some (g,c)∧id ∉ ids)->g<cx.w.heap.size∧ ¬cx.B g:=by
  rintro g ⟨id,b,c,q1,q2,q3⟩
  exact(hc.hb id b q1).at_ q2
 have hcr:CRep ⟨cx.w,cx.R,cx.φ,hR cx.H ids,fun g=>cx.B g∨ ∃id b c,cx.H id=some b∧cx.φ id=some (g,c)∧id ∉ ids⟩:=by
  refine⟨fun id b hb=> ?_,fun id id' g c c' hi hi' q1 q2=> ?_,hc.rlt,fun g hg=> ?_⟩
  ·obtain⟨hm,hb0⟩:=jF hb
   have hold:=hc.hb id b hb0
   obtain⟨g0,e0,m0,n0,f0,e1⟩:=gZ hra hm
   rw[hb0] at e1
   cases e1
   unfold HB at hold ⊢
   rcases hold with hold |⟨g,cap,cur,p1,p2,p3,p4,p5,p6,p7,p8⟩
   ·exact .inl hold
   ·refine .inr ⟨g,cap,cur,p1,p2,p3,p4,p5,p6, ?_,p8⟩
    rintro(hB |⟨id2,b2,c2,q1,q2,q3⟩)
    ·exact p7 hB
    ·have:=hc.inj id2 id g c2 cap (by rw[q1];rfl) (by rw[hb0];rfl) q2 p1
     subst this
     exact q3 hm
  ·obtain⟨b,hb⟩:=aC.1 hi
   obtain⟨b',hb'⟩:=aC.1 hi'
   exact hc.inj id id' g c c' (by rw[(jF hb).2];rfl) (by rw[(jF hb').2];rfl) q1 q2
  ·rcases hg with hg |hg
   ·exact hc.blt g hg
   ·exact(hoth g hg).1
 obtain⟨m1,m2,m3⟩:=fL hcr (st:=⟨fun t=>msk ids (args.getD t .junk),hR cx.H ids,0⟩) rfl hpp hp (tmp:=fun t=>vs.getD t undef) (fun t=>by
  by_cases ht:t<args.length
  ·have e1:args.getD t .junk=args[t]:=by simp[List.getD,ht]
   have e2:vs.getD t undef=vs[t]'(hl▸ht):=by simp[Array.getD,hl▸ht]
   show Rep _ (msk ids (args.getD t .junk)) _
   rw[e1,e2]
   exact xu (cx:=cx) (cx2:=⟨cx.w,cx.R,cx.φ,hR cx.H ids,fun g=>cx.B g∨ ∃id b c,cx.H id=some b∧cx.φ id=some (g,c)∧id ∉ ids⟩) (fun a v h=>h) rfl (fun id hid=>by show hR cx.H ids id=_;unfold hR;rw[gm.2 hid];rfl) (hRp t _ _ (aD ht) (ao (hl▸ht)))
  ·have e1:args.getD t .junk= .junk:=by simp[List.getD,ht]
   show Rep _ (msk ids (args.getD t .junk)) _
   rw[e1]
   exact .pure (.junk _))
 have hcall:=hpc _ vs (i8 H0) m1 (by rw[<-hal];exact hl) (fun j a v ha hv=>by
  have h2:=m2 j
  have e2:vs.getD j undef=v:=by
   rw[aU,hv];rfl
  have h3:Rep _ (ic .junk ((List.range args'.length).zip args') j) (vs.getD j undef):=h2
  rw[pn ha,e2] at h3
  exact h3)
 refine hcall.mono ?_
 rintro e w' ⟨z,cx',rfl,rfl,k1,k2,k3,k4⟩
 have hRn: ∀g,cx'.R g->cx.R g∨ ¬(cx.B g∨ ∃id b c,cx.H id=some b∧cx.φ id=some (g,c)∧id ∉ ids):=fun g hg=>by
  rcases k3.Rn g hg with(h |⟨id,b,c,q1,q2,q3⟩)|h
  ·exact .inl h
  ·exfalso
   have hm:=(jF q1).1
   rw[<-hids] at hm
   obtain⟨⟨k,i⟩,hk,hki⟩:=cX.1 hm
   simp only at hki
   subst hki
   exact q3 k hk
  ·exact .inr h
 have hblock: ∀g,g<cx.w.heap.size->(cx.B g∨ ∃id b c,cx.H id=some b∧cx.φ id=some (g,c)∧id ∉ ids)∨cx.R g->cx'.w.heap[g]? =cx.w.heap[g]? :=fun g hg ho=>k3.block g hg (ho.imp_right .inl)
 have hHn: ∀id, ¬(next<=id∧id<next+H1.length)->aS (dI cx.H ids) next H1 id=dI cx.H ids id:=fun id hid=>by rw[br,af hid]
 have hHs: ∀id b,cx'.H id=some b->aS (dI cx.H ids) next H1 (id+next)=some b∧id<H1.length:=fun id b hb'=>by
  rw[k1] at hb'
  have hlt':=(az.1 hb').1
  refine⟨?_,hlt'⟩
  rw[br,ai (by omega),bc]
  exact hb'
 have hlt1: ∀id b,cx.H id=some b-> ¬(next<=id∧id<next+H1.length):=fun id b hb' hn=>by
  rw[hfree id hn.1 hn.2] at hb'
  cases hb'
 have hkill: ∀id b,id∈ids->cx.H id=some b-> ∃m,rE b=⟨b.gen+1,false,b.e,.rows m 0 fun _ _=> .junk⟩∧b.c.isBox=false:=fun id b hm hb=>by
  obtain⟨g0,e0,m0,n0,f0,e1⟩:=gZ hra hm
  rw[hb] at e1
  cases e1
  exact⟨m0,rfl,rfl⟩
 have hst:Stab cx ⟨cx'.w,cx'.R,fun id=>if next<=id∧id<next+H1.length then cx'.φ (id-next) else if id∈ids then none else cx.φ id,aS (dI cx.H ids) next H1,cx.B⟩:=by
  refine⟨⟨rfl,fun g h=>k3.R g (.inl h),fun g hg=>(hRn g hg).imp_right fun hn hB=>hn (.inl hB),k3.os,k3.tape,k3.output,k3.size,fun g hg ho=>hblock g hg (ho.elim (fun h=> .inl (.inl h)) .inr)⟩,fun id b hb'=> ?_,fun id b b' hb' hb''=> ?_⟩
  ·by_cases hm:id∈ids
   ·obtain⟨m,e1,e2⟩:=hkill id b hm hb'
    refine⟨rE b, ?_,fun e=> ?_,fun e=> ?_⟩
    ·show aS _ _ _ id=_
     rw[hHn id (hlt1 id b hb'),fM hm,hb'];rfl
    ·rw[e1] at e;simp at e
    ·rw[e2] at e;cases e
   ·refine⟨b, ?_,fun _=>⟨?_,sameShape.rfl' b⟩,fun _=>rfl⟩
    ·show aS _ _ _ id=_
     rw[hHn id (hlt1 id b hb'),eE hm];exact hb'
    ·show(if _ then _ else if _ then _ else cx.φ id)=_
     rw[af (hlt1 id b hb'),af hm]
  ·have h2:aS (dI cx.H ids) next H1 id=some b':=hb''
   rw[hHn id (hlt1 id b hb')] at h2
   by_cases hm:id∈ids
   ·obtain⟨m,e1,e2⟩:=hkill id b hm hb'
    rw[fM hm,hb',aM,ah] at h2
    rw[<-h2,e1]
    exact gI _
   ·rw[eE hm,hb'] at h2
    cases h2
    exact aG _
 have hnew: ∀id b,aS (dI cx.H ids) next H1 id=some b->(next<=id∧id<next+H1.length)-> ∃j,id=j+next∧cx'.H j=some b:=fun id b hb' hn=>by
  rw[br,ai hn] at hb'
  exact⟨id-next,by omega,by rw[k1];exact hb'⟩
 refine⟨z,⟨cx'.w,cx'.R,fun id=>if next<=id∧id<next+H1.length then cx'.φ (id-next) else if id∈ids then none else cx.φ id,aS (dI cx.H ids) next H1,cx.B⟩,rfl,rfl,rfl,⟨fun id b hb'=> ?_,fun i j g c c' hi hj h1 h2=> ?_,k2.rlt,fun g hg=>a6 (hc.blt g hg) k3.size⟩,hst, ?_,dO _ _,fun i hi=> ?_⟩
 ·by_cases hid:next<=id∧id<next+H1.length
  ·obtain⟨j,rfl,hj⟩:=hnew id b hb' hid
   have hold:=k2.hb j b hj
   have hj':=hj
   rw[k1] at hj'
   have hro:=aL.1 h1 b (aV hj')
   unfold HB at hold ⊢
   cases hbc:b.c with
   |box cs=>rw[hbc] at hro;cases hro
   |rows m n f=>
    rw[hbc] at hold hro
    have hφ:(if next<=j+next∧j+next<next+H1.length then cx'.φ (j+next-next) else if j+next∈ids then none else cx.φ (j+next))=cx'.φ j:=by rw[ai hid,bc]
    rcases hold with⟨p1,p2⟩|⟨g,cap,cur,p1,p2,p3,p4,p5,p6,p7,p8⟩
    ·exact .inl ⟨hφ.trans p1,p2⟩
    ·exact .inr ⟨g,cap,cur,hφ.trans p1,p2,p3,p4,p5,p6,fun hB=>p7 (by rw[k3.B];exact .inl hB),p8⟩
  ·have hb1:dI cx.H ids id=some b:=by rw[<-hHn id hid];exact hb'
   by_cases hm:id∈ids
   ·rw[fM hm] at hb1
    obtain⟨b0,hb0,rfl⟩:=ac.1 hb1
    obtain⟨m,e1,e2⟩:=hkill id b0 hm hb0
    rw[e1]
    unfold HB
    refine .inl ⟨?_,rfl⟩
    show(if _ then _ else if _ then _ else cx.φ id)=_
    rw[af hid,ai hm]
   ·rw[eE hm] at hb1
    have hold:=hc.hb id b hb1
    refine hold.keep hc hst (by show(if _ then _ else if _ then _ else _)=_;rw[af hid,af hm]) (fun g c hg=>hblock g (hold.at_ hg).1 (.inl (.inr ⟨id,b,c,hb1,hg,hm⟩))) (fun g c hg hg'=>(hRn g hg').resolve_right fun hn=>hn (.inr ⟨id,b,c,hb1,hg,hm⟩))
 ·have hx: ∀i g c,(aS (dI cx.H ids) next H1 i).isSome=true->(if next<=i∧i<next+H1.length then cx'.φ (i-next) else if i∈ids then none else cx.φ i)=some (g,c)->(¬(next<=i∧i<next+H1.length)∧(cx.H i).isSome=true∧cx.φ i=some (g,c)∧cx'.B g)∨((next<=i∧i<next+H1.length)∧(cx'.H (i-next)).isSome=true∧cx'.φ (i-next)=some (g,c)∧ ¬cx'.B g):=by
   intro i g c hi h1
   obtain⟨b,hb'⟩:=aC.1 hi
   by_cases hid:next<=i∧i<next+H1.length
   ·right
    rw[ai hid] at h1
    obtain⟨j,rfl,hj⟩:=hnew i b hb' hid
    rw[bc] at h1 ⊢
    exact⟨hid,by rw[hj];rfl,h1,((k2.hb j b hj).at_ h1).2⟩
   ·left
    rw[af hid] at h1
    by_cases hm:i∈ids
    ·rw[ai hm] at h1;cases h1
    ·rw[af hm] at h1
     have hb1:cx.H i=some b:=by
      have h9:=hHn i hid
      rw[eE hm] at h9
      rw[<-h9];exact hb'
     exact⟨hid,by rw[hb1];rfl,h1,by rw[k3.B];exact .inr ⟨i,b,c,hb1,h1,hm⟩⟩
  rcases hx i g c hi h1 with⟨a1,a2,a3,a4⟩|⟨a1,a2,a3,a4⟩<;>rcases hx j g c' hj h2 with⟨b1,b2,b3,b4⟩|⟨b1,b2,b3,b4⟩
  ·exact hc.inj i j g c c' a2 b2 a3 b3
  ·exact absurd a4 b4
  ·exact absurd b4 a4
  ·have:=k2.inj _ _ g c c' a2 b2 a3 b3
   omega
 ·refine ni (cx:=cx') ?_ ?_ k4
  ·exact fun a v h=>h
  intro id b hb'
  refine⟨(hHs id b hb').1, ?_⟩
  have hlt':=(hHs id b hb').2
  show(if next<=id+next∧id+next<next+H1.length then cx'.φ (id+next-next) else _)=_
  rw[ai (by omega),bc]
 ·by_cases hid:next<=i∧i<next+H1.length
  ·exact .inr hid
  ·rw[hHn i hid] at hi
   left
   by_cases hm:i∈ids
   ·rw[fM hm,Option.isSome_map] at hi;exact hi
   ·rw[eE hm] at hi;exact hi
theorem ny{cx cx2:Cx}{i0:Nat}(hP: ∀a v,RepP cx.w cx.R a v->RepP cx2.w cx2.R a v)(hφ:cx2.φ=cx.φ)(hH:cx2.H i0=cx.H i0){a:AV}{v:Value}(h:Rep cx a v):Rep cx2 (rA i0 a) v:=by
 cases a with
 |bptr id off=>
  show Rep cx2 (bif Nat.beq id i0 then .bptr id off else .junk) v
  cases hb:Nat.beq id i0 with
  |false=>exact .pure (.junk _)
  |true=>
   have e:=aj hb
   subst e
   cases h with
   |pure h=>cases h
   |bptr h1 h2 h3=>exact .bptr (hH.trans h1) h2 (by rw[hφ];exact h3)
 |own |eptr |bsl |agg |tup |clo=>exact .pure (.junk _)
 |int |bool |str |nilp |nils |row |val |junk |rptr=>cases h with |pure h=>exact .pure (hP _ _ h)
theorem uV{cx cx2:Cx}{i0:Nat}(hP: ∀a v,RepP cx.w cx.R a v->RepP cx2.w cx2.R a v)(hφ:cx2.φ=cx.φ)(hH:cx2.H i0=cx.H i0){a:AV}{v:Value}(h:Rep cx a v):Rep cx2 (qr i0 a) v:=by
 by_cases hg: ∃cs,a= .agg cs
 ·obtain⟨cs,rfl⟩:=hg
  obtain⟨vs,rfl,h1,h2,h3⟩:=h.agg_inv
  refine .agg (by simpa using h1) h2 fun j x v hx hv=> ?_
  simp only[aH] at hx
  obtain⟨y,hy,rfl⟩:=ac.1 hx
  exact ny hP hφ hH (h3 j y v hy hv)
 ·have e1:qr i0 a=rA i0 a:=by cases a<;>first |rfl |exact absurd ⟨_,rfl⟩ hg
  rw[e1]
  exact ny hP hφ hH h
theorem oR{cx cx2:Cx}{N:Nat}(hP: ∀a v,RepP cx.w cx.R a v->RepP cx2.w cx2.R a v)(hO: ∀id b,cx.H (id+1)=some b->cx2.H (id+N)=some b∧cx2.φ (id+N)=cx.φ (id+1)){a:AV}{v:Value}(h:Rep cx a v):Rep cx2 (wH N a) v:=by
 cases a with
 |own id g m off len=>
  cases id with
  |zero=>exact .pure (.junk _)
  |succ id=>
   have ho:=h.own_one
   obtain⟨b,hb,hle,hO'⟩:=h.own_inv
   obtain⟨h1,h2⟩:=hO id b hb
   refine .own h1 hle ho fun e=> ?_
   obtain⟨n,f,k1,k2,k3⟩:=hO' e
   exact⟨n,f,k1,k2,by rw[h2];exact k3⟩
 |clo f caps=>
  cases caps with
  |nil=>
   obtain⟨vs,rfl,hl,_⟩:=h.clo_inv
   have:vs= #[]:=d5.1 (by rw[<-hl];rfl)
   subst this
   exact .pure (.clo rfl fun j a v ha _=>by simp at ha)
  |cons c cs=>exact .pure (.junk _)
 |bptr |eptr |bsl |rptr |agg |tup=>exact .pure (.junk _)
 |int |bool |str |nilp |nils |row |val |junk=>cases h with |pure h=>exact .pure (hP _ _ h)
theorem oS{cx cx2:Cx}{N:Nat}(hP: ∀a v,RepP cx.w cx.R a v->RepP cx2.w cx2.R a v)(hO: ∀id b,cx.H (id+1)=some b->cx2.H (id+N)=some b∧cx2.φ (id+N)=cx.φ (id+1)){a:AV}{v:Value}(h:Rep cx a v):Rep cx2 (t6 N a) v:=by
 by_cases hg: ∃cs,a= .agg cs
 ·obtain⟨cs,rfl⟩:=hg
  obtain⟨vs,rfl,h1,h2,h3⟩:=h.agg_inv
  refine .agg (by simpa using h1) h2 fun j x v hx hv=> ?_
  simp only[aH] at hx
  obtain⟨y,hy,rfl⟩:=ac.1 hx
  exact oR hP hO (h3 j y v hy hv)
 ·have e1:t6 N a=wH N a:=by cases a<;>first |rfl |exact absurd ⟨_,rfl⟩ hg
  rw[e1]
  exact oR hP hO h
theorem wG{cx cx2:Cx}{N:Nat}(hP: ∀a v,RepP cx.w cx.R a v->RepP cx2.w cx2.R a v)(hO: ∀id b,cx.H (id+1)=some b->cx2.H (id+N)=some b∧cx2.φ (id+N)=cx.φ (id+1)){a:AV}{v:Value}(h:Rep cx a v):Rep cx2 (shK N a) v:=by
 by_cases hg: ∃cs,a= .tup cs
 ·obtain⟨cs,rfl⟩:=hg
  obtain⟨vs,rfl,h1,h3⟩:=h.tup_inv
  refine .tup (by simpa using h1) fun j x v hx hv=> ?_
  simp only[aH] at hx
  obtain⟨y,hy,rfl⟩:=ac.1 hx
  exact oS hP hO (h3 j y v hy hv)
 ·have e1:shK N a=t6 N a:=by cases a<;>first |rfl |exact absurd ⟨_,rfl⟩ hg
  rw[e1]
  exact oS hP hO h
theorem s9{h:Nat->Option Blk}{i0:Nat}{t:TypeId}(e:yh h i0 t=true): ∃g cs,h i0=some ⟨g,false,t,.box cs⟩∧cs.all es=true:=by
 unfold yh at e
 split at e
 ·rename_i g t' cs heq
  rw[au] at e
  have e1:=aj e.1
  subst e1
  exact⟨g,cs,heq,e.2⟩
 ·cases e
theorem wJ{h:Nat->Option Blk}{i0:Nat}{cs:List AV}:gW h i0 cs i0=(h i0).map fun b=>⟨b.gen,b.frz,b.e,.box cs⟩:=by unfold gW;rw[cy];rfl
theorem gV{h:Nat->Option Blk}{i0 id:Nat}{cs:List AV}(hi:id≠i0):gW h i0 cs id=h id:=by
 unfold gW
 cases hb:Nat.beq id i0 with
 |true=>exact absurd (aj hb) hi
 |false=>rfl
theorem sT(t:TypeId)(cs:List AV):ba [(0,(⟨0,false,t,.box cs⟩:Blk))]=B6 t cs []:=by
 funext i
 cases i with
 |zero=>rfl
 |succ i=>rfl
theorem oi{h:Nat->Option Blk}{i0 id:Nat}{b:Blk}(e:hR h [i0] id=some b):id=i0∧h i0=some b:=by
 obtain⟨h1,h2⟩:=jF e
 obtain rfl:=aB.1 h1
 exact⟨rfl,h2⟩
theorem v4{args:List AV}{next:Nat}{args':List AV}{i0:Nat}{t:TypeId}{cs0 cs1:List AV}{N:List Blk}{res:AV}{f:FuncId}{p:List Prop}(hN:dA N=true)(h1:cs1.all es=true)(hbx:yh cx.H i0 t=true)(hal:args.length=args'.length)
  (hpp:leS [(0,i0)] ⟨fun t=>qr i0 (args.getD t .junk),hR cx.H [i0],0⟩ ⟨(List.range args'.length).zip args',[(0,⟨0,false,t,.box cs0⟩)],1⟩=some p)(hp: ∀x∈p,x)(hpc:wh P f args' t cs0 res cs1 N)(hc:CRep cx)
  (hfree: ∀i,next<=i->i<next+N.length->cx.H i=none)(vs:Array Value)(hl:args.length=vs.size)(hRp: ∀(j:Nat) a v,args[j]? =some a->vs[j]? =some v->Rep cx a v):
  Calls P f vs cx.w fun e w'=> ∃z cx',e= .returned z∧w'=cx'.w∧cx'.H=aS (gW cx.H i0 cs1) next N∧CRep cx'∧Stab cx cx'∧Rep cx' (shK next res) z∧NewIds cx.H next (aS (gW cx.H i0 cs1) next N) (next+N.length):=by
 obtain⟨g0,csR,hb0,hcs⟩:=s9 hbx
 have hoth: ∀g,(∃id b c,cx.H id=some b∧cx.φ id=some (g,c)∧id≠i0)->g<cx.w.heap.size∧ ¬cx.B g:=by
  rintro g ⟨id,b,c,q1,q2,q3⟩
  exact(hc.hb id b q1).at_ q2
 have hcr:CRep ⟨cx.w,cx.R,cx.φ,hR cx.H [i0],fun g=>cx.B g∨ ∃id b c,cx.H id=some b∧cx.φ id=some (g,c)∧id≠i0⟩:=by
  refine⟨fun id b hb=> ?_,fun id id' g c c' hi hi' q1 q2=> ?_,hc.rlt,fun g hg=> ?_⟩
  ·obtain⟨rfl,hb'⟩:=oi hb
   rw[hb0] at hb'
   cases hb'
   have hold:=hc.hb id _ hb0
   unfold HB at hold ⊢
   obtain⟨g,cur,p1,p2,p3,p4,p5,p6⟩:=hold
   refine⟨g,cur,p1,p2,p3,fun j a ha=> ?_, ?_,p6⟩
   ·obtain⟨u,u1,u2,u3⟩:=p4 j a ha
    exact⟨u,u1,u2,.pure (u3.base (aL.1 hcs a (aV ha)))⟩
   ·rintro(hB |⟨id2,b2,c2,q1,q2,q3⟩)
    ·exact p5 hB
    ·exact q3 (hc.inj id2 id g c2 1 (by rw[q1];rfl) (by rw[hb0];rfl) q2 p1)
  ·obtain⟨b,hb⟩:=aC.1 hi
   obtain⟨b',hb'⟩:=aC.1 hi'
   exact(oi hb).1.trans (oi hb').1.symm
  ·rcases hg with hg |hg
   ·exact hc.blt g hg
   ·exact(hoth g hg).1
 obtain⟨m1,m2,m3⟩:=fL hcr (st:=⟨fun t=>qr i0 (args.getD t .junk),hR cx.H [i0],0⟩) rfl hpp hp (tmp:=fun t=>vs.getD t undef) (fun t=>by
  by_cases ht:t<args.length
  ·have e1:args.getD t .junk=args[t]:=by simp[List.getD,ht]
   have e2:vs.getD t undef=vs[t]'(hl▸ht):=by simp[Array.getD,hl▸ht]
   show Rep _ (qr i0 (args.getD t .junk)) _
   rw[e1,e2]
   exact uV (cx:=cx) (cx2:=⟨cx.w,cx.R,cx.φ,hR cx.H [i0],fun g=>cx.B g∨ ∃id b c,cx.H id=some b∧cx.φ id=some (g,c)∧id≠i0⟩) (fun a v h=>h) rfl (by show hR cx.H [i0] i0=_;unfold hR;rw[gm.2 (aB.2 rfl)];rfl) (hRp t _ _ (aD ht) (ao (hl▸ht)))
  ·have e1:args.getD t .junk= .junk:=by simp[List.getD,ht]
   show Rep _ (qr i0 (args.getD t .junk)) _
   rw[e1]
   exact .pure (.junk _))
 have hcall:=hpc _ vs (sT t cs0) m1 (by rw[<-hal];exact hl) (fun j a v ha hv=>by
  have h2:=m2 j
  have e2:vs.getD j undef=v:=by
   rw[aU,hv];rfl
  have h3:Rep _ (ic .junk ((List.range args'.length).zip args') j) (vs.getD j undef):=h2
  rw[pn ha,e2] at h3
  exact h3)
 refine hcall.mono ?_
 rintro e w' ⟨z,cx',rfl,rfl,k1,k2,k3,kφ,k4⟩
 have kφ:cx'.φ 0=cx.φ i0:=kφ
 have hRn: ∀g,cx'.R g->cx.R g∨ ¬(cx.B g∨ ∃id b c,cx.H id=some b∧cx.φ id=some (g,c)∧id≠i0):=fun g hg=>by
  rcases k3.Rn g hg with(h |⟨id,b,c,q1,q2,q3⟩)|h
  ·exact .inl h
  ·exfalso
   obtain⟨rfl,_⟩:=oi q1
   exact q3 0 (aB.2 rfl)
  ·exact .inr h
 have hblock: ∀g,g<cx.w.heap.size->(cx.B g∨ ∃id b c,cx.H id=some b∧cx.φ id=some (g,c)∧id≠i0)∨cx.R g->cx'.w.heap[g]? =cx.w.heap[g]? :=fun g hg ho=>k3.block g hg (ho.imp_right .inl)
 have hHn: ∀id, ¬(next<=id∧id<next+N.length)->aS (gW cx.H i0 cs1) next N id=gW cx.H i0 cs1 id:=fun id hid=>by rw[br,af hid]
 have hHs: ∀id b,cx'.H (id+1)=some b->aS (gW cx.H i0 cs1) next N (id+next)=some b∧id<N.length:=fun id b hb'=>by
  rw[k1] at hb'
  have hb2:N[id]? =some b:=hb'
  have hlt':=(az.1 hb2).1
  refine⟨?_,hlt'⟩
  rw[br,ai (by omega),bc]
  exact hb2
 have hlt1: ∀id b,cx.H id=some b-> ¬(next<=id∧id<next+N.length):=fun id b hb' hn=>by
  rw[hfree id hn.1 hn.2] at hb'
  cases hb'
 have hi0:=hlt1 i0 _ hb0
 have hset:gW cx.H i0 cs1 i0=some ⟨g0,false,t,.box cs1⟩:=by rw[wJ,hb0];rfl
 have hst:Stab cx ⟨cx'.w,cx'.R,fun id=>if next<=id∧id<next+N.length then cx'.φ (id-next+1) else cx.φ id,aS (gW cx.H i0 cs1) next N,cx.B⟩:=by
  refine⟨⟨rfl,fun g h=>k3.R g (.inl h),fun g hg=>(hRn g hg).imp_right fun hn hB=>hn (.inl hB),k3.os,k3.tape,k3.output,k3.size,fun g hg ho=>hblock g hg (ho.elim (fun h=> .inl (.inl h)) .inr)⟩,fun id b hb'=> ?_,fun id b b' hb' hb''=> ?_⟩
  ·by_cases hm:id=i0
   ·subst hm
    rw[hb0] at hb'
    cases hb'
    refine⟨⟨g0,false,t,.box cs1⟩, ?_,fun _=>⟨?_,⟨_,rfl⟩⟩,fun _=>rfl⟩
    ·show aS _ _ _ id=_
     rw[hHn id hi0,hset]
    ·show(if _ then _ else cx.φ id)=_
     rw[af hi0]
   ·refine⟨b, ?_,fun _=>⟨?_,sameShape.rfl' b⟩,fun _=>rfl⟩
    ·show aS _ _ _ id=_
     rw[hHn id (hlt1 id b hb'),gV hm];exact hb'
    ·show(if _ then _ else cx.φ id)=_
     rw[af (hlt1 id b hb')]
  ·have h2:aS (gW cx.H i0 cs1) next N id=some b':=hb''
   rw[hHn id (hlt1 id b hb')] at h2
   by_cases hm:id=i0
   ·subst hm
    rw[hb0] at hb'
    cases hb'
    rw[hset] at h2
    cases h2
    exact aG _
   ·rw[gV hm,hb'] at h2
    cases h2
    exact aG _
 have hnew: ∀id b,aS (gW cx.H i0 cs1) next N id=some b->(next<=id∧id<next+N.length)-> ∃j,id=j+next∧cx'.H (j+1)=some b:=fun id b hb' hn=>by
  rw[br,ai hn] at hb'
  exact⟨id-next,by omega,by rw[k1];exact hb'⟩
 have hbox:cx'.H 0=some ⟨0,false,t,.box cs1⟩:=by rw[k1];rfl
 refine⟨z,⟨cx'.w,cx'.R,fun id=>if next<=id∧id<next+N.length then cx'.φ (id-next+1) else cx.φ id,aS (gW cx.H i0 cs1) next N,cx.B⟩,rfl,rfl,rfl,⟨fun id b hb'=> ?_,fun i j g c c' hi hj h1 h2=> ?_,k2.rlt,fun g hg=>a6 (hc.blt g hg) k3.size⟩,hst, ?_,dO _ _,fun i hi=> ?_⟩
 ·by_cases hid:next<=id∧id<next+N.length
  ·obtain⟨j,rfl,hj⟩:=hnew id b hb' hid
   have hold:=k2.hb (j+1) b hj
   have hj':=hj
   rw[k1] at hj'
   have hro:=aL.1 hN b (aV (show N[j]? =some b from hj'))
   unfold HB at hold ⊢
   cases hbc:b.c with
   |box cs=>rw[hbc] at hro;cases hro
   |rows m n f=>
    rw[hbc] at hold hro
    have hφ:(if next<=j+next∧j+next<next+N.length then cx'.φ (j+next-next+1) else cx.φ (j+next))=cx'.φ (j+1):=by rw[ai hid,bc]
    rcases hold with⟨p1,p2⟩|⟨g,cap,cur,p1,p2,p3,p4,p5,p6,p7,p8⟩
    ·exact .inl ⟨hφ.trans p1,p2⟩
    ·exact .inr ⟨g,cap,cur,hφ.trans p1,p2,p3,p4,p5,p6,fun hB=>p7 (by rw[k3.B];exact .inl hB),p8⟩
  ·have hb1:gW cx.H i0 cs1 id=some b:=by rw[<-hHn id hid];exact hb'
   by_cases hm:id=i0
   ·subst hm
    rw[hset] at hb1
    cases hb1
    have hold:=k2.hb 0 _ hbox
    unfold HB at hold ⊢
    obtain⟨g,cur,p1,p2,p3,p4,p5,p6⟩:=hold
    refine⟨g,cur, ?_,p2,p3,fun j a ha=> ?_,fun hB=>p5 (by rw[k3.B];exact .inl hB),p6⟩
    ·show(if _ then _ else cx.φ id)=_
     rw[af hid, <-kφ];exact p1
    ·obtain⟨u,u1,u2,u3⟩:=p4 j a ha
     exact⟨u,u1,u2,.pure (u3.base (aL.1 h1 a (aV ha)))⟩
   ·rw[gV hm] at hb1
    have hold:=hc.hb id b hb1
    refine hold.keep hc hst (by show(if _ then _ else _)=_;rw[af hid]) (fun g c hg=>hblock g (hold.at_ hg).1 (.inl (.inr ⟨id,b,c,hb1,hg,hm⟩))) (fun g c hg hg'=>(hRn g hg').resolve_right fun hn=>hn (.inr ⟨id,b,c,hb1,hg,hm⟩))
 ·have hx: ∀i g c,(aS (gW cx.H i0 cs1) next N i).isSome=true->(if next<=i∧i<next+N.length then cx'.φ (i-next+1) else cx.φ i)=some (g,c)->
    (¬(next<=i∧i<next+N.length)∧i≠i0∧(cx.H i).isSome=true∧cx.φ i=some (g,c)∧cx'.B g)∨(∃k,(cx'.H k).isSome=true∧cx'.φ k=some (g,c)∧ ¬cx'.B g∧((next<=i∧k=i-next+1)∨(k=0∧i=i0))):=by
   intro i g c hi h1
   obtain⟨b,hb'⟩:=aC.1 hi
   by_cases hid:next<=i∧i<next+N.length
   ·right
    rw[ai hid] at h1
    obtain⟨j,rfl,hj⟩:=hnew i b hb' hid
    rw[bc] at h1
    exact⟨j+1,by rw[hj];rfl,h1,((k2.hb (j+1) b hj).at_ h1).2,.inl ⟨hid.1,by omega⟩⟩
   ·rw[af hid] at h1
    by_cases hm:i=i0
    ·right
     have e:cx'.φ 0=some (g,c):=kφ.trans (by rw[<-hm];exact h1)
     exact⟨0,by rw[hbox];rfl,e,((k2.hb 0 _ hbox).at_ e).2,.inr ⟨rfl,hm⟩⟩
    ·left
     have hb1:cx.H i=some b:=by
      have h9:=hHn i hid
      rw[gV hm] at h9
      rw[<-h9];exact hb'
     exact⟨hid,hm,by rw[hb1];rfl,h1,by rw[k3.B];exact .inr ⟨i,b,c,hb1,h1,hm⟩⟩
  rcases hx i g c hi h1 with⟨a1,a0,a2,a3,a4⟩|⟨k,a2,a3,a4,a5⟩<;>rcases hx j g c' hj h2 with⟨b1,b0,b2,b3,b4⟩|⟨k',b2,b3,b4,b5⟩
  ·exact hc.inj i j g c c' a2 b2 a3 b3
  ·exact absurd a4 b4
  ·exact absurd b4 a4
  ·have:=k2.inj _ _ g c c' a2 b2 a3 b3
   omega
 ·refine wG (cx:=cx') ?_ ?_ k4
  ·exact fun a v h=>h
  intro id b hb'
  refine⟨(hHs id b hb').1, ?_⟩
  have hlt':=(hHs id b hb').2
  show(if next<=id+next∧id+next<next+N.length then cx'.φ (id+next-next+1) else _)=_
  rw[ai (by omega),bc]
 ·by_cases hid:next<=i∧i<next+N.length
  ·exact .inr hid
  ·rw[hHn i hid] at hi
   left
   by_cases hm:i=i0
   ·subst hm;rw[hb0];rfl
   ·rw[gV hm] at hi;exact hi
theorem pP{inner:cI}(hin:eR P inner):eR P (nH P inner):=by
 intro f args h next orc r hr hp cx hH hc hlt vs hl hR
 unfold nH at hr
 split at hr
 ·rename_i args' res H orc'
  obtain⟨hb,hr1⟩:=aE hr
  clear hr
  rw[au] at hb
  refine⟨ed hb.1, ?_⟩
  obtain⟨p,hpp,rfl⟩:=ac.1 hr1
  subst hH
  refine(pO (next:=next) hb.2 hpp (fun x hx=>hp x (by simp[hx])) (hp (PureC P f args' res H) (by simp)) hc (fun i h1 h2=>by
   cases hq:cx.H i with
   |none=>rfl
   |some b=>have:=hlt i (by rw[hq];rfl);omega) vs hl hR).mono ?_
  rintro e w' ⟨z,cx',m1,m2,m3,m4,m5,m6,m7⟩
  exact⟨z,cx',m1,m2,m3,m4,m5,m6,m7.lt hlt⟩
 ·rename_i args' res orc'
  obtain⟨hb,hr1⟩:=aE hr
  clear hr
  rw[au] at hb
  refine⟨ed hb.1, ?_⟩
  obtain⟨p,hpp,rfl⟩:=ac.1 hr1
  subst hH
  refine(pJ hb.2 hpp (fun x hx=>hp x (by simp[hx])) (hp (PureC P f args' res []) (by simp)) hc vs hl hR).mono ?_
  rintro e w' ⟨z,cx',m1,m2,m3,m4,m5,m6⟩
  exact⟨z,cx',m1,m2,m3,m4,m5,m6,hlt⟩
 ·rename_i args' res Hs orc'
  obtain⟨hb,hr1⟩:=aE hr
  clear hr
  rw[au] at hb
  refine⟨ed hb.1, ?_⟩
  obtain⟨p,hpp,rfl⟩:=ac.1 hr1
  subst hH
  refine(vZ (next:=next) hb.2 hpp (fun x hx=>hp x (by simp[hx])) (hp (PureC P f args' res (kW Hs)) (by simp)) hc (fun i h1 h2=>by
   cases hq:cx.H i with
   |none=>rfl
   |some b=>have:=hlt i (by rw[hq];rfl);omega) vs hl hR).mono ?_
  rintro e w' ⟨z,cx',m1,m2,m3,m4,m5,m6,m7⟩
  exact⟨z,cx',m1,m2,m3,m4,m5,m6,m7.lt hlt⟩
 ·rename_i args' res H orc'
  obtain⟨hb,hr1⟩:=aE hr
  clear hr
  simp only[au] at hb
  refine⟨ed hb.1, ?_⟩
  obtain⟨p,hpp,rfl⟩:=ac.1 hr1
  subst hH
  refine(pI (next:=next) hb.2.1 hb.2.2 (hp (nJ H) (by simp)) hpp (fun x hx=>hp x (by simp[hx])) (hp (PureC P f args' res H) (by simp)) hc (fun i h1 h2=>by
   cases hq:cx.H i with
   |none=>rfl
   |some b=>have:=hlt i (by rw[hq];rfl);omega) vs hl hR).mono ?_
  rintro e w' ⟨z,cx',m1,m2,m3,m4,m5,m6,m7⟩
  exact⟨z,cx',m1,m2,m3,m4,m5,m6,m7.lt hlt⟩
 ·rename_i args' H0 rr res H1 orc'
  unfold kL at hr
  obtain⟨hb,hr1⟩:=aE hr
  clear hr
  simp only[au] at hb
  refine⟨ed hb.1, ?_⟩
  obtain⟨p,hpp,rfl⟩:=ac.1 hr1
  subst hH
  refine(pM (next:=next) hb.2.1 hb.2.2.1 hb.2.2.2.1 (aj hb.2.2.2.2) hpp (fun x hx=>hp x (by simp[hx])) (hp (MutC P f args' H0 res H1) (by simp)) hc (fun i h1 h2=>by
   cases hq:cx.H i with
   |none=>rfl
   |some b=>have:=hlt i (by rw[hq];rfl);omega) vs hl hR).mono ?_
  rintro e w' ⟨z,cx',m1,m2,m3,m4,m5,m6,m7⟩
  exact⟨z,cx',m1,m2,m3,m4,m5,m6,m7.lt hlt⟩
 ·rename_i args' i0 t cs0 res cs1 N orc'
  unfold zi at hr
  obtain⟨hb,hr1⟩:=aE hr
  clear hr
  simp only[au] at hb
  refine⟨ed hb.1, ?_⟩
  obtain⟨p,hpp,rfl⟩:=ac.1 hr1
  subst hH
  refine(v4 (next:=next) hb.2.1 hb.2.2.1 hb.2.2.2.1 (aj hb.2.2.2.2) hpp (fun x hx=>hp x (by simp[hx])) (hp (wh P f args' t cs0 res cs1 N) (by simp)) hc (fun i h1 h2=>by
   cases hq:cx.H i with
   |none=>rfl
   |some b=>have:=hlt i (by rw[hq];rfl);omega) vs hl hR).mono ?_
  rintro e w' ⟨z,cx',m1,m2,m3,m4,m5,m6,m7⟩
  exact⟨z,cx',m1,m2,m3,m4,m5,m6,m7.lt hlt⟩
 ·exact hin f args h next _ r hr hp cx hH hc hlt vs hl hR
 ·exact hin f args h next orc r hr hp cx hH hc hlt vs hl hR
def xa(tmps:Array Value):ResultVar->Sem Value
 | .tmp t=>pure (tmps.getD t undef)
 | .cell a t=>do loadVar t (<-asAddr (tmps.getD a undef))
theorem fd[Dfs]{md:Bool}{st:St}{a:Act}{nt:Nat}(hs:SRep cx st a nt): ∀(l:List ResultVar) {q:List AV×List Prop},eh P md st l=some q->(∀p∈q.2,p)->
  ∃zs:List Value,(l.mapM (xa a.tmps)).run P cx.w= .ok zs cx.w∧q.1.length=zs.length∧ ∀(j:Nat) x z,q.1[j]? =some x->zs[j]? =some z->Rep cx x z
 | [],q,h,hp=>by
  simp only[eh,ah] at h;subst h
  exact⟨[],by simp,rfl,fun j x z hx _=>by simp at hx⟩
 | .tmp t::l,q,h,hp=>by
  unfold eh at h
  obtain⟨q1,hq1,rfl⟩:=ac.1 h
  obtain⟨zs,h1,h2,h3⟩:=fd hs l hq1 hp
  have hx:(xa a.tmps (.tmp t)).run P cx.w= .ok (a.tmps.getD t undef) cx.w:=rfl
  refine⟨a.tmps.getD t undef::zs,by simp only[List.mapM_cons,Sem.run_bind,Sem.run_pure,Result.andThen_ok,hx,h1],by simp[h2],fun j x z hx hz=> ?_⟩
  cases j with
  |zero=>
   simp only[bu,ah] at hx hz
   subst hx;subst hz
   exact hs.env t
  |succ j=>exact h3 j x z (by simpa using hx) (by simpa using hz)
 | .cell ad ty::l,q,h,hp=>by
  unfold eh at h
  obtain⟨r,hr,h'⟩:=ae.1 h
  obtain⟨q1,hq1,rfl⟩:=ac.1 h'
  obtain⟨zs,h1,h2,h3⟩:=fd hs l hq1 (fun x hx=>hp x (by simp[hx]))
  rw[<-hs.H] at hr
  obtain⟨z,k1,k2⟩:=jW hr (fun x hx=>hp x (by simp[hx])) hs.c (hs.env ad)
  have hx:(xa a.tmps (.cell ad ty)).run P cx.w= .ok z cx.w:=by
   show(asAddr (a.tmps.getD ad undef)>>=fun q=>loadVar ty q).run P cx.w=_
   unfold Instr.loadAt at k1
   generalize a.tmps.getD ad undef=v at k1 ⊢
   cases v with
   |pointer o=>
    cases o with
    |none=>simp[Instr.sureAddr] at k1
    |some adr=>simpa [Instr.sureAddr,asAddr] using k1
   |_=>simp[Instr.sureAddr] at k1
  refine⟨z::zs,by simp only[List.mapM_cons,Sem.run_bind,Sem.run_pure,Result.andThen_ok,hx,h1],by simp[h2],fun j x z' hx hz=> ?_⟩
  cases j with
  |zero=>
   simp only[bu,ah] at hx hz
   subst hx;subst hz
   exact k2
  |succ j=>exact h3 j x z' (by simpa using hx) (by simpa using hz)
theorem mO[Dfs]{md:Bool}{st:St}{a:Act}{nt:Nat}(hs:SRep cx st a nt){fn:Func}{q:List AV×List Prop}(h:eh P md st fn.results.toList=some q)(hp: ∀p∈q.2,p): ∃z,(results fn a.tmps).run P cx.w= .ok z cx.w∧Rep cx (xq q.1) z:=by
 obtain⟨zs,h1,h2,h3⟩:=fd hs _ h hp
 have hrun:(results fn a.tmps).run P cx.w= .ok (if h:zs.toArray.size=1 then zs.toArray[0] else .tuple zs.toArray) cx.w:=by
  have e:results fn a.tmps=(do
   let vs <-fn.results.mapM (xa a.tmps)
   pure (if h:vs.size=1 then vs[0] else .tuple vs)):=rfl
  rw[e,Array.mapM_eq_mapM_toList]
  simp only[Sem.run_bind,Sem.run_pure,bind_map_left,h1,Result.andThen_ok]
 refine⟨_,hrun, ?_⟩
 match q.1,zs,h2,h3 with
 | [x],[z],_,h3=>exact h3 0 x z rfl rfl
 | [],[],_,_=>exact .tup rfl fun j a v ha _=>by simp at ha
 |x::y::l,z::z'::l',h2,h3=>
  rw[dif_neg (by simp)]
  exact .tup (by simpa using h2) fun j a v ha hv=>h3 j a v ha (by simpa using hv)
theorem sY{vs:Array Value}{n t:Nat}:(vs++Array.replicate n undef).getD t undef=vs.getD t undef:=by
 simp only[aU,Array.getElem?_append,Array.getElem?_replicate]
 split
 ·rfl
 ·rename_i h
  rw[mH (by omega)]
  split<;>rfl
theorem vM{args:List AV}{vs:Array Value}(hl:args.length=vs.size)(hR: ∀(j:Nat) a v,args[j]? =some a->vs[j]? =some v->Rep cx a v)(t:Nat):Rep cx (args.getD t .junk) (vs.getD t undef):=by
 rw[aq,aU]
 rcases mF t args.length with h |h
 ·have h':t<vs.size:=by rw[<-hl];exact h
  rw[aD h,ao h']
  exact hR t _ _ (aD h) (ao h')
 ·rw[di h]
  exact .pure (.junk _)
def Aft(lp:Bool)(cx cx':Cx):Prop:=Ext cx cx'∧(lp=false->Stab cx cx')
def Cx.poke(cx:Cx)(D:Nat)(o:Obj):Cx:=⟨cx.w.putObj D o,cx.R,cx.φ,cx.H,cx.B⟩
theorem jY{cx:Cx}{D:Nat}(o':Obj)(hR: ¬cx.R D)(hB: ¬cx.B D):Stab cx (cx.poke D o'):=
 ⟨⟨rfl,fun _ h=>h,fun _ h=> .inl h,rfl,rfl,rfl,by show cx.w.heap.size<=(cx.w.putObj D o').heap.size;simp,fun g _ h=>World.putObj_heap_other fun e=>by subst e;exact h.elim hB hR⟩,
  fun id b h=>⟨b,h,fun _=>⟨rfl,by unfold sameShape;cases b.c<;>exact⟨_,rfl⟩⟩,fun _=>rfl⟩,fun id b b' h h'=>by rw[show(cx.poke D o').H id=cx.H id from rfl,h] at h';cases h';exact aG _⟩
theorem sG{cx:Cx}(hc:CRep cx){D:Nat}{o:Obj}(o':Obj)(hD:cx.w.heap[D]? =some o)(ho:o.isCells=false)(hR: ¬cx.R D)(hB: ¬cx.B D):CRep (cx.poke D o'):=by
 refine⟨fun id b hb=> ?_,hc.inj,fun g hg=>by show g<(cx.w.putObj D o').heap.size;simpa using hc.rlt g hg,fun g hg=>by show g<(cx.w.putObj D o').heap.size;simpa using hc.blt g hg⟩
 have h:=hc.hb id b hb
 refine h.keep hc (jY o' hR hB) rfl (fun g c hg=>World.putObj_heap_other fun e=> ?_) fun _ _ _ h=>h
 subst e
 unfold HB at h
 split at h
 ·obtain⟨g',cur,h1,h2,_⟩:=h
  rw[hg] at h1;cases h1
  rw[hD] at h2;cases h2;cases ho
 ·rcases h with⟨h,_⟩|⟨g',cap,cur,h1,h2,_⟩
  ·rw[hg] at h;cases h
  ·rw[hg] at h1;cases h1
   rw[hD] at h2;cases h2;cases ho
theorem SRep.poke[Dfs]{cx:Cx}{st:St}{a:Act}{nt:Nat}(hs:SRep cx st a nt){D:Nat}{o:Obj}(o':Obj)(hD:cx.w.heap[D]? =some o)(ho:o.isCells=false)(hR: ¬cx.R D)(hB: ¬cx.B D):SRep (cx.poke D o') st a nt:=
 ⟨hs.H,sG hs.c o' hD ho hR hB,fun t=>(hs.env t).stab hs.c (jY o' hR hB),hs.lt,hs.sz,hs.df⟩
theorem jE{d:Dfs}{st:St}{a:Act}{nt:Nat}{fn:Func}{R:Ending->World->Prop}: ∀(ms:List Nat) (cx:Cx), @SRep d cx st a nt->ms.Nodup->(∀D∈ms, ¬cx.R D∧ ¬cx.B D∧cx.w.heap[D]? =some (.deferred (some [])))->
  (∀cx', @SRep d cx' st a nt->Stab cx cx'->LeavesIn Fence.wide 0 P fn a.tmps R [] .returning cx'.w)->LeavesInM Fence.wide 0 P fn a.tmps R (ms.map zf) .returning cx.w
 | [],cx,hs,_,_,hK=>hK cx hs (Stab.refl cx)
 |D::ms,cx,hs,hn,hm,hK=>by
  obtain⟨k1,k2,k3⟩:=hm D (by simp)
  rw[List.nodup_cons] at hn
  refine⟨by simp,.inl ⟨D,_,rfl,run_takeDeferred k3, ?_⟩⟩
  refine jE ms (cx.poke D (.deferred none)) (hs.poke _ k3 rfl k1 k2) hn.2 (fun E hE=> ?_) fun cx' hs' hst=>hK cx' hs' ((jY _ k1 k2).trans hst)
  obtain⟨m1,m2,m3⟩:=hm E (by simp[hE])
  exact⟨m1,m2,(World.putObj_heap_other fun e=>hn.1 (by rw[<-e];exact hE)).trans m3⟩
theorem jK{dr:iY}(hdr:ku P dr){md:Bool}: ∀(n:Nat) (lp:Bool) {f:FuncId} {args:List AV} {h:Nat->Option Blk} {next:Nat} {orc:List Orc} {r:Res},mi P dr md n lp f args h next orc=some r->(∀p∈r.cs,p)-> ∀cx,cx.H=h->CRep cx->(∀i,(h i).isSome=true->i<next)->
  ∀vs:Array Value,args.length=vs.size->(∀(j:Nat) a v,args[j]? =some a->vs[j]? =some v->Rep cx a v)->
  (∃fn,P.funcs[f]? =some fn∧fn.body.isSome=true∧fn.name≠ "runtime.NumGoroutine")∧
  Calls P f vs cx.w fun e w'=> ∃z cx',e= .returned z∧w'=cx'.w∧cx'.H=r.heap∧CRep cx'∧Aft lp cx cx'∧Rep cx' r.v z∧(∀i,(r.heap i).isSome=true->i<r.next)
 |0,lp,f,args,h,next,orc,r,hr,hp,cx,hH,hc,hlt,vs,hl,hR=>by simp[mi] at hr
 |n+1,lp,f,args,h,next,orc,r,hr,hp,cx,hH,hc,hlt,vs,hl,hR=>by
  unfold mi at hr
  split at hr
  ·cases hr
  ·rename_i fn hf
   split at hr
   ·cases hr
   ·rename_i c hbody
    obtain⟨hb,hr1⟩:=aE hr
    clear hr
    rw[au,dZ] at hb
    refine⟨ed hb.1, ?_⟩
    have hin:eR P (nH P (mi P dr md n false)):=pP fun f args h next orc r h1 h2 cx h3 h4 h5 vs h6 h7=>by
     obtain⟨k1,k2⟩:=jK hdr n false h1 h2 cx h3 h4 h5 vs h6 h7
     refine⟨k1,k2.mono ?_⟩
     rintro e w' ⟨z,cx',m1,m2,m3,m4,m5,m6,m7⟩
     exact⟨z,cx',m1,m2,m3,m4,m5.2 rfl,m6,m7⟩
    obtain⟨q,hq,hr2⟩:=ae.1 hr1
    clear hr1
    have hfin: ∃rs,eh P md q.2.1 fn.results.toList=some rs∧r=⟨xq rs.1,q.2.1.heap,q.2.1.next,q.2.2.1,q.2.2.2++rs.2⟩∧(q.1= .nrm∨q.1= .ret):=by
     cases hx:q.1 with
     |nrm=>
      rw[hx] at hr2
      obtain⟨rs,h1,h2⟩:=ac.1 hr2
      exact⟨rs,h1,h2.symm,.inl rfl⟩
     |ext i=>rw[hx] at hr2;cases hr2
     |ret=>
      rw[hx] at hr2
      obtain⟨rs,h1,h2⟩:=ac.1 hr2
      exact⟨rs,h1,h2.symm,.inr rfl⟩
    obtain⟨rs,hrs,rfl,hx⟩:=hfin
    refine callsIn_wide.1 (callsIn_of_wp_marks (n:=0) hf hbody trivial (wpIn_wide.2 ?_))
    letI d0:Dfs:=⟨[]⟩
    have hs:SRep cx ⟨fun t=>args.getD t .junk,h,next⟩ {tmps:=vs++Array.replicate (fn.ntmps-vs.size) undef,defers:=[]} fn.ntmps:=by
     refine⟨hH,hc,fun t=> ?_,hlt, ?_,rfl⟩
     ·show Rep cx (args.getD t .junk) ((vs++Array.replicate _ undef).getD t undef)
      rw[sY]
      exact vM hl hR t
     ·simp only[Array.size_append,Array.size_replicate]
      omega
    refine bT hdr hin c hq (fun p hp'=>hp p (by simp[hp'])) hs _ fun d1 cx1 a1 hs1 ha1=> ?_
    obtain⟨ms,e1,n1,h1⟩:=ha1.mks
    have hB: ∀D∈ms, ¬cx1.B D:=fun D hD h=>by
     rw[ha1.ext.B] at h
     have:=hc.blt D h
     have:=(h1 D hD).1
     omega
    have hpost:LeavesInM Fence.wide 0 P fn a1.tmps (fun e w'=> ∃z cx',e= .returned z∧w'=cx'.w∧cx'.H=q.2.1.heap∧CRep cx'∧Aft lp cx cx'∧Rep cx' (xq rs.1) z∧(∀i,(q.2.1.heap i).isSome=true->i<q.2.1.next)) a1.defers .returning cx1.w:=by
     rw[hs1.df,e1,show ms++d0.l=ms from List.append_nil ms]
     refine jE ms cx1 hs1 n1 (fun D hD=>⟨(h1 D hD).2.1,hB D hD,(h1 D hD).2.2⟩) fun cx2 hs2 hst2=> ?_
     obtain⟨z,k1,k2⟩:=mO hs2 hrs (fun p hp'=>hp p (by simp[hp']))
     exact⟨z,k1,z,cx2,rfl,rfl,hs2.H,hs2.c,⟨ha1.ext.trans hst2.ext,fun e=>(ha1.st e).1.trans hst2⟩,k2,hs2.lt⟩
    rcases hx with hx |hx
    ·rw[hx];exact hpost
    ·rw[hx];exact hpost
theorem PureC.of{dr:iY}(hdr:ku P dr){md:Bool}{n:Nat}{f:FuncId}{args:List AV}{orc:List Orc}{r:Res}(h:mi P dr md n true f args (fun _=>none) 0 orc=some r)(hp: ∀p∈r.cs,p){ρ:List (Nat×Nat)}{res:AV}{H:List Blk}{ps:List Prop}
  (hl:leS ρ ⟨fun _=>r.v,r.heap,r.next⟩ ⟨[(0,res)],ke H,H.length⟩=some ps)(hps: ∀p∈ps,p):PureC P f args res H:=by
 intro w R vs hR hlen hargs
 have hc:CRep ⟨w,R,fun _=>none,fun _=>none,fun g=>g<w.heap.size⟩:=⟨fun id b h=>(by cases h),fun id id' g c c' h=>(by cases h),hR,fun _ h=>h⟩
 obtain⟨_,hcl⟩:=jK hdr n true h hp ⟨w,R,fun _=>none,fun _=>none,fun g=>g<w.heap.size⟩ rfl hc (fun i hi=>by cases hi) vs hlen (fun j a v ha hv=> .pure (hargs j a v ha hv))
 refine hcl.mono ?_
 rintro e w' ⟨z,cx1,rfl,rfl,k1,k2,k3,k4,k5⟩
 obtain⟨m1,m2,m3⟩:=fL k2 (st:=⟨fun _=>r.v,r.heap,r.next⟩) k1 hl hps (tmp:=fun _=>z) (fun _=>k4)
 have he:=iq k2 ρ (ba (ke H))
 have hex:=k3.1.trans he
 refine⟨z,cx1.ren ρ (ba (ke H)),rfl,rfl, ?_,m1,hex.B,hex.R,fun g hg=>(hex.Rn g hg).imp_right bz.1,⟨hex.os,hex.tape,hex.output,hex.size,fun g hg=>hex.block g hg (.inl hg)⟩, ?_⟩
 ·show ba (ke H)=_
  exact i8 H
 ·have:=m2 0
  exact this
theorem MutC.of{dr:iY}(hdr:ku P dr){md:Bool}{n:Nat}{f:FuncId}{args:List AV}{H0:List Blk}{orc:List Orc}{r:Res}(h:mi P dr md n true f args (fun i=>H0[i]?) H0.length orc=some r)(hp: ∀p∈r.cs,p){ρ:List (Nat×Nat)}{res:AV}{H:List Blk}{ps:List Prop}
  (hl:leS ρ ⟨fun _=>r.v,r.heap,r.next⟩ ⟨[(0,res)],ke H,H.length⟩=some ps)(hps: ∀p∈ps,p):MutC P f args H0 res H:=by
 intro cx vs hH hc hlen hargs
 obtain⟨_,hcl⟩:=jK hdr n true h hp cx hH hc (fun i hi=>by
  obtain⟨b,hb⟩:=aC.1 hi
  exact(az.1 hb).1) vs hlen hargs
 refine hcl.mono ?_
 rintro e w' ⟨z,cx1,rfl,rfl,k1,k2,k3,k4,k5⟩
 obtain⟨m1,m2,m3⟩:=fL k2 (st:=⟨fun _=>r.v,r.heap,r.next⟩) k1 hl hps (tmp:=fun _=>z) (fun _=>k4)
 refine⟨z,cx1.ren ρ (ba (ke H)),rfl,rfl,i8 H,m1,k3.1.trans (iq k2 ρ (ba (ke H))), ?_⟩
 have:=m2 0
 exact this
end
end
section
open Go.RowKit
def fl(h:Nat->Option Blk)(ids:List Nat):Bool:=ids.all fun id=>match h id with
 |some b=>b.frz
 |none=>true
theorem dc: ∀(l:List Nat) (h:Nat->Option Blk),fl h l=true->ci h l=h
 | [],h,_=>rfl
 |id::l,h,hf=>by
  unfold fl at hf
  rw[List.all_cons,au] at hf
  unfold ci
  cases hb:h id with
  |none=>exact dc l h hf.2
  |some b=>
   simp only
   have h1:=hf.1
   rw[hb] at h1
   simp only at h1
   have e:upd h id (some {b with frz:=true})=h:=by
    funext j
    by_cases hj:j=id
    ·subst hj
     rw[aY,hb]
     cases b
     simp only at h1
     subst h1
     rfl
    ·rw[aQ _ _ _ _ hj]
   rw[e]
   exact dc l h hf.2
section
variable{P:Program}
theorem gj{h h':Nat->Option Blk}{id g:Nat}(e:h id=h' id):kY h id g=kY h' id g:=by unfold kY;rw[e]
theorem mb{d:Int}{ρ ρ':Operand->AV}{x:Option Operand}(h: ∀q,x=some q->ρ q=ρ' q):ig d ρ x=ig d ρ' x:=by
 cases x with
 |none=>rfl
 |some q=>simp only[ig,h q rfl]
theorem qA{md:Bool}{call:cI}{op:Op}{ρ ρ':Operand->AV}{h:Nat->Option Blk}{next:Nat}{orc:List Orc}(he: ∀x∈op.operands.toList,ρ x=ρ' x):dN P md call op ρ h next orc=dN P md call op ρ' h next orc:=by
 cases op with
 |build t parts=>
  have e:(parts.toList.map fun p=>(p.1,ρ p.2))=(parts.toList.map fun p=>(p.1,ρ' p.2)):=bC fun p hp=>by rw[he p.2 (by simp only[Op.operands,cX];exact⟨p,hp,rfl⟩)]
  simp only[dN,cV,fy,e]
 |buildSlice t len parts=>
  have e0: ∀p∈parts.toList,ρ p.2=ρ' p.2:=fun p hp=>he p.2 (by simp only[Op.operands,cX];exact⟨p,hp,rfl⟩)
  have e:(parts.toList.map fun p=>(p.1,frz h (ρ p.2)))=(parts.toList.map fun p=>(p.1,frz h (ρ' p.2))):=bC fun p hp=>by rw[e0 p hp]
  have e2:(parts.toList.flatMap fun p=>cG (ρ p.2))=(parts.toList.flatMap fun p=>cG (ρ' p.2)):=by
   rw[List.flatMap_def,List.flatMap_def,bC fun p hp=>by rw[e0 p hp]]
  have e3:(dj (.buildSlice t len parts) ρ)=(dj (.buildSlice t len parts) ρ'):=e2
  have e4:(parts.toList.map fun p=>(p.1,ρ p.2))=(parts.toList.map fun p=>(p.1,ρ' p.2)):=bC fun p hp=>by rw[e0 p hp]
  simp only[dN,cV,cW,qB,mj,bZ,e,e2,e3,e4]
 |slice t x lo hi mx=>
  cases mx with
  |some q=>rfl
  |none=>
   have h1:ρ x=ρ' x:=he x (by simp[Op.operands])
   have h2: ∀d,ig d ρ lo=ig d ρ' lo:=fun d=>mb fun q hq=>he q (by simp[Op.operands,hq])
   have h3: ∀d,ig d ρ hi=ig d ρ' hi:=fun d=>mb fun q hq=>he q (by simp[Op.operands,hq])
   simp only[dN,cV,dg,iZ,h1,h2,h3]
   cases lo with
   |none=>rfl
   |some q=>
    have h4:=h2
    simp only[h4]
 |makeFunc fn first caps=>
  have e:caps.toList.map ρ=caps.toList.map ρ':=bC fun x hx=>he x (by simp[Op.operands];exact .inr (by simpa using hx))
  cases fn<;>simp only[dN,cV,fy,e]
 |call c=>
  obtain⟨callee,args,at_⟩:=c
  have e0: ∀x∈args.toList,ρ x=ρ' x:=fun x hx=>he x (by simp only[Op.operands,Call.operands,Array.toList_append,aP];exact .inr hx)
  have e:args.toList.map ρ=args.toList.map ρ':=bC e0
  cases callee with
  |value f=>
   have hf:ρ f=ρ' f:=he f (by simp[Op.operands,Call.operands])
   simp only[dN,cV,hf,e]
  |invoke r m=>rfl
  |builtin b=>
   cases b with
   |len=>
    simp only[dN,cV,dg]
    congr 1
    split
    ·rename_i x t hx ht
     rw[e0 x (by rw[hx];simp)]
    ·rfl
   |append=>
    have ez: ∀orc,apz P md args at_ ρ h next orc=apz P md args at_ ρ' h next orc:=fun orc=>by
     unfold apz
     split
     ·rename_i x y t t' hx ht
      rw[e0 x (by rw[hx];simp),e0 y (by rw[hx];simp)]
     ·rfl
    have ew:de P md (.call {callee:= .builtin .append,args:=args,argTypes:=at_}) ρ h next orc=de P md (.call {callee:= .builtin .append,args:=args,argTypes:=at_}) ρ' h next orc:=by
     simp only[de]
     split
     ·rename_i x y t t' hx ht
      rw[e0 x (by rw[hx];simp),e0 y (by rw[hx];simp)]
     ·rfl
    have em:cW P md (.call {callee:= .builtin .append,args:=args,argTypes:=at_}) ρ h next orc=cW P md (.call {callee:= .builtin .append,args:=args,argTypes:=at_}) ρ' h next orc:=by
     simp only[cW,qB,mj,bZ,dj,ez]
    simp only[dN]
    rw[ew,em]
    split<;>rfl
   |cap=>
    simp only[dN,cV,fy]
    congr 1
    split
    ·rename_i x t hx ht
     rw[e0 x (by rw[hx];simp)]
    ·rfl
   |min=>simp only[dN,cV,fy,e]
   |max=>simp only[dN,cV,fy,e]
   |_=>rfl
 |makeMap t r=>rfl
 |select cs b=>rfl
 |convert src dst x=>
  have e:ρ x=ρ' x:=he x (by simp[Op.operands])
  simp only[dN,fy,dg,e,cV,cW,qB,mj,bZ,dj,de]
 |_=>simp_all [Op.operands,dN,cV,fy,dg,cW,qB,mj,bZ,dj,de]
theorem ek{id:Nat}{l:List Nat}{h h':Nat->Option Blk}(e: ∀i∈id::l,h i=h' i):h id=h' id:=e id (by simp)
theorem pp{md:Bool}{t:TypeId}{x:AV}{h h':Nat->Option Blk}(e: ∀i∈gG x,h i=h' i):iV P md t x h=iV P md t x h':=by
 cases x with
 |bptr id off=>simp only[iV,ek e]
 |eptr id g m i j=>simp only[iV,ek e]
 |_=>rfl
theorem po{t:TypeId}{x a:AV}{h h':Nat->Option Blk}(e: ∀i∈gG x,h i=h' i):lW P t x h a=lW P t x h' a:=by
 cases x with
 |bptr id off=>simp only[lW,ek e]
 |eptr id g m i j=>simp only[lW,ek e]
 |_=>rfl
theorem qu{t:TypeId}{x:AV}{h h':Nat->Option Blk}(e: ∀i∈gG x,h i=h' i):sU P t x h=sU P t x h':=by
 cases x with
 |own id g m off len=>simp only[sU,gj (ek e)]
 |_=>rfl
theorem fr{md:Bool}{t:TypeId}{x q:AV}{h h':Nat->Option Blk}{orc:List Orc}(e: ∀i∈gG x,h i=h' i):dD P md t x q h orc=dD P md t x q h' orc:=by
 cases x with
 |own id g m off len=>simp only[dD,gj (ek e)]
 |_=>rfl
theorem kb{md:Bool}{t:TypeId}{x q:AV}{h h':Nat->Option Blk}{orc:List Orc}(e: ∀i∈gG x,h i=h' i):dW P md t x q h orc=dW P md t x q h' orc:=by
 unfold dW
 split
 ·split
  ·rw[fr e]
  ·rfl
 ·rw[fr e]
theorem km{t:TypeId}{x:AV}{k:Nat}{h h':Nat->Option Blk}(e: ∀i∈gG x,h i=h' i):dX P t x k h=dX P t x k h':=by
 cases x with
 |eptr id g m i j=>simp only[dX,gj (ek e)]
 |_=>rfl
theorem nP{md:Bool}{t:TypeId}{x:AV}{ρ:Operand->AV}{lo hi:Option Operand}{h h':Nat->Option Blk}{orc:List Orc}(e: ∀i∈gG x,h i=h' i):iZ P md t x ρ lo hi h orc=iZ P md t x ρ lo hi h' orc:=by
 cases x with
 |own id g m off len=>simp only[iZ,gj (ek e)]
 |_=>rfl
theorem fW{x:AV}{m:Nat}{h h':Nat->Option Blk}(e: ∀i∈gG x,h i=h' i):qe x m h=qe x m h':=by
 cases x with
 |own id g m off len=>simp only[qe,ek e]
 |_=>rfl
theorem oo{md:Bool}{op:Op}{ρ:Operand->AV}{h h':Nat->Option Blk}{orc:List Orc}(e: ∀id∈dj op ρ,h id=h' id):dg P md op ρ h orc=dg P md op ρ h' orc:=by
 cases op with
 |load t x=>
  simp only[dg]
  split
  ·rw[po (h:=h) (h':=h') e]
  ·rw[pp (h:=h) (h':=h') e]
 |indexAddr t x q=>simp only[dg,kb (h:=h) (h':=h') e]
 |fieldAddr t x k=>simp only[dg,km (h:=h) (h':=h') e]
 |slice t x lo hi mx=>
  cases mx with
  |none=>simp only[dg,nP (h:=h) (h':=h') e]
  |some q=>rfl
 |call c=>
  obtain⟨callee,args,at_⟩:=c
  cases callee with
  |value f=>rfl
  |invoke r m=>rfl
  |builtin b=>
   cases b with
   |len=>
    simp only[dg]
    split
    ·rename_i x t hx ht
     rw[qu (h:=h) (h':=h') fun i hi=>e i (by simp only[dj,hx];simpa using hi)]
    ·rfl
   |_=>rfl
 |convert src dst x=>simp only[dg,oA,fW (h:=h) (h':=h') e]
 |_=>rfl
structure Adds (h:Nat->Option Blk) (next:Nat) (h':Nat->Option Blk) (next':Nat):Prop where
 le:next<=next'
 old: ∀id, ¬(next<=id∧id<next')->h' id=h id
theorem cR{h:Nat->Option Blk}{next:Nat}{b:Option Blk}:Adds h next (upd h next b) (next+1):=⟨gI _,fun id hid=>aQ _ _ _ _ (by omega)⟩
theorem iD{h h':Nat->Option Blk}{a:AV}(e: ∀i∈cG a,h i=h' i):frz h a=frz h' a:=by
 have one: ∀a,(∀i∈jc a,h i=h' i)->eM h a=eM h' a:=fun a e=>by
  cases a with
  |own id g m off len=>simp only[eM,e id (by simp[jc])]
  |bptr id off=>simp only[eM,e id (by simp[jc])]
  |clo f caps=>cases caps<;>rfl
  |_=>rfl
 cases a with
 |agg cs=>
  simp only[frz]
  congr 1
  refine bC fun x hx=>one x fun i hi=>e i ?_
  simp only[cG,bt]
  exact⟨x,hx,hi⟩
 |own id g m off len=>exact one (.own id g m off len) e
 |bptr id off=>exact one (.bptr id off) e
 |clo f caps=>cases caps<;>rfl
 |_=>rfl
theorem gi{h h':Nat->Option Blk}: ∀{l:List Nat},(∀i∈l,h i=h' i)->fl h l=fl h' l
 | [],_=>rfl
 |i::l,e=>by
  unfold fl
  rw[List.all_cons,List.all_cons,e i (by simp)]
  have:=gi (h:=h) (h':=h') (l:=l) fun j hj=>e j (by simp[hj])
  unfold fl at this
  rw[this]
theorem rQ{md:Bool}{args:Array Operand}{at_:Array TypeId}{ρ:Operand->AV}{h:Nat->Option Blk}(h':Nat->Option Blk){next:Nat}{orc:List Orc}{r:Res}(hr:apz P md args at_ ρ h next orc=some r):
  ∃b,r.heap=upd h next b∧r.next=next+1∧apz P md args at_ ρ h' next orc=some ⟨r.v,upd h' next b,r.next,r.orc,r.cs⟩:=by
 unfold apz at hr ⊢
 split at hr
 ·split at hr
  ·split at hr
   ·obtain⟨i,hi,hr⟩:=ae.1 hr
    obtain⟨z,hz,hr⟩:=ae.1 hr
    obtain⟨hb,hr⟩:=aE hr
    obtain⟨p,hp',rfl⟩:=ac.1 hr
    simp only[hi,hz,bk,hb,aO,hp',aM]
    exact⟨_,rfl,trivial,rfl⟩
   ·cases hr
  ·cases hr
 ·cases hr
theorem yj{md:Bool}{args:Array Operand}{at_:Array TypeId}{ρ:Operand->AV}{h:Nat->Option Blk}{next:Nat}{orc:List Orc}{r:Res}(hr:apz P md args at_ ρ h next orc=some r):uz r.v=false:=by
 unfold apz at hr
 split at hr
 ·split at hr
  ·split at hr
   ·obtain⟨i,hi,hr⟩:=ae.1 hr
    obtain⟨z,hz,hr⟩:=ae.1 hr
    obtain⟨hb,hr⟩:=aE hr
    obtain⟨p,hp',rfl⟩:=ac.1 hr
    rfl
   ·cases hr
  ·cases hr
 ·cases hr
theorem mS{md:Bool}{op:Op}{ρ:Operand->AV}{h h':Nat->Option Blk}{next:Nat}{orc:List Orc}{r:Res}(e: ∀id∈dj op ρ,h id=h' id)(hf:fl h (dj op ρ)=true)(hr:bZ P md op ρ h next orc=some r):
  ∃r',bZ P md op ρ h' next orc=some r'∧r'.v=r.v∧r'.orc=r.orc∧r'.cs=r.cs∧r'.next=r.next∧Adds h next r.heap r.next∧Adds h' next r'.heap r.next∧ ∀id,next<=id->id<r.next->r'.heap id=r.heap id:=by
 have key: ∀b:Option Blk, ∀id,next<=id->id<next+1->upd h' next b id=upd h next b id:=fun b id h1 h2=>by
  obtain rfl:id=next:=by omega
  rw[aY,aY]
 cases op with
 |alloc t=>
  obtain⟨z,hz,rfl⟩:=ac.1 hr
  exact⟨⟨.bptr next 0,upd h' next (some ⟨0,false,t,.box z⟩),next+1,orc,[]⟩,by simp only[bZ,hz,aM],rfl,rfl,rfl,rfl,cR,cR,key _⟩
 |box t x=>
  obtain⟨z,hz,rfl⟩:=ac.1 hr
  refine⟨v6 (fzO orc&&z.all es) next t z h' orc,by simp only[bZ,hz,aM], ?_⟩
  cases hfz:fzO orc&&z.all es with
  |false=>exact⟨rfl,rfl,rfl,rfl,cR,cR,key _⟩
  |true=>exact⟨rfl,rfl,rfl,rfl,cR,cR,key _⟩
 |makeSlice t x y=>
  unfold bZ at hr ⊢
  simp only at hr ⊢
  split at hr
  ·rename_i e' hu
   split at hr
   ·rename_i kl n kc c hx hy
    obtain⟨i,hi,hr⟩:=ae.1 hr
    obtain⟨z,hz,hr⟩:=ae.1 hr
    obtain⟨hb,hr⟩:=aE hr
    obtain⟨p,hp,rfl⟩:=ac.1 hr
    refine⟨⟨.own next 0 i.size 0 n.toNat,upd h' next (some ⟨0,false,e',.rows i.size n.toNat fun _ j=>z.getD j .junk⟩),next+1,orc,p⟩,by simp only[hi,hz,bk,hb,aO,hp,aM],rfl,rfl,rfl,rfl,cR,cR,key _⟩
   ·cases hr
  ·cases hr
 |buildSlice t len parts=>
  have e': ∀p∈parts.toList, ∀i∈cG (ρ p.2),h i=h' i:=fun p hp i hi=>e i (by simp only[dj,bt];exact⟨p,hp,hi⟩)
  have e1:(parts.toList.map fun p=>(p.1,frz h (ρ p.2)))=(parts.toList.map fun p=>(p.1,frz h' (ρ p.2))):=bC fun p hp=>by rw[iD (e' p hp)]
  have hf':fl h' (dj (.buildSlice t len parts) ρ)=true:=by rw[<-gi e];exact hf
  have z1:=dc _ _ hf
  have z2:=dc _ _ hf'
  simp only[dj] at z1 z2
  unfold bZ at hr ⊢
  simp only[z1,z2, <-e1] at hr ⊢
  split at hr
  ·rename_i e' hu
   obtain⟨s,hs,hr⟩:=ae.1 hr
   obtain⟨hb,hr⟩:=aE hr
   obtain⟨z,hz,hr⟩:=ae.1 hr
   obtain⟨cs,hcs,rfl⟩:=ac.1 hr
   refine⟨⟨bif fzO orc then .row s len (fun i j=>cs.getD (i*s+j) .junk) else .own next 0 s 0 len,upd h' next (some ⟨0,fzO orc,e',.rows s len fun i j=>cs.getD (i*s+j) .junk⟩),next+1,bif fzO orc then orc.tail else orc,[]⟩,by simp only[hs,bk,hb,aO,hz,hcs,aM],rfl,rfl,rfl,rfl,cR,cR,key _⟩
  ·cases hr
 |call c=>
  obtain⟨callee,args,at_⟩:=c
  cases callee with
  |builtin b=>
   cases b with
   |append=>
    have hr:apz P md args at_ ρ h next orc=some r:=hr
    obtain⟨b,q1,q2,q3⟩:=rQ h' hr
    have q4:r.heap=upd h next b:=q1
    refine⟨_,q3,rfl,rfl,rfl,rfl, ?_, ?_, ?_⟩
    ·rw[q4,q2];exact cR
    ·rw[q2];exact cR
    ·rw[q4,q2];exact key _
   |_=>cases hr
  |_=>cases hr
 |_=>cases hr
def fvO:List Orc->Bool
 | .fv::_=>true
 |_=>false
theorem pE{md:Bool}{op:Op}{ρ:Operand->AV}{h:Nat->Option Blk}{next:Nat}{orc:List Orc}(hf:fvO orc=false)(hb:bxO op orc=false):cW P md op ρ h next orc=bZ P md op ρ h next orc:=by
 unfold cW
 split
 ·cases hf
 ·rw[hb];rfl
theorem nF{md:Bool}{op:Op}{ρ:Operand->AV}{h:Nat->Option Blk}{next:Nat}{orc:List Orc}(hb:bxO op orc=true):cW P md op ρ h next orc=mj P op ρ h next orc.tail:=by
 unfold cW
 split
 ·cases hb
 ·rw[hb];rfl
theorem pG{op:Op}{ρ:Operand->AV}{h:Nat->Option Blk}(h':Nat->Option Blk){next:Nat}{orc:List Orc}{r:Res}(hr:mj P op ρ h next orc=some r):
  ∃b,r.heap=upd h next b∧r.next=next+1∧mj P op ρ h' next orc=some ⟨r.v,upd h' next b,r.next,r.orc,r.cs⟩:=by
 unfold mj at hr ⊢
 split at hr
 ·split at hr
  ·obtain⟨s,hs,hr⟩:=ae.1 hr
   obtain⟨hb,hr⟩:=aE hr
   obtain⟨z,hz,hr⟩:=ae.1 hr
   obtain⟨cs,hcs,rfl⟩:=ac.1 hr
   simp only[hs,hz,bk,hb,aO,hcs,aM]
   exact⟨_,rfl,trivial,rfl⟩
  ·cases hr
 ·cases hr
theorem jJ{md:Bool}{op:Op}{ρ:Operand->AV}{h h':Nat->Option Blk}{next:Nat}{orc:List Orc}{r:Res}(hv:fvO orc=false)(e: ∀id∈dj op ρ,h id=h' id)(hf:fl h (dj op ρ)=true)(hr:cW P md op ρ h next orc=some r):
  ∃r',cW P md op ρ h' next orc=some r'∧r'.v=r.v∧r'.orc=r.orc∧r'.cs=r.cs∧r'.next=r.next∧Adds h next r.heap r.next∧Adds h' next r'.heap r.next∧ ∀id,next<=id->id<r.next->r'.heap id=r.heap id:=by
 cases hb:bxO op orc with
 |true=>
  rw[nF hb] at hr ⊢
  obtain⟨b,q1,q2,q3⟩:=pG h' hr
  have key: ∀id,next<=id->id<next+1->upd h' next b id=upd h next b id:=fun id h1 h2=>by
   obtain rfl:id=next:=by omega
   rw[aY,aY]
  refine⟨_,q3,rfl,rfl,rfl,rfl, ?_, ?_, ?_⟩
  ·rw[q1,q2];exact cR
  ·rw[q2];exact cR
  ·rw[q1,q2];exact key
 |false=>
  rw[pE hv hb] at hr ⊢
  exact mS e hf hr
theorem pF{md:Bool}{op:Op}{ρ:Operand->AV}{h h':Nat->Option Blk}{next next':Nat}{orc:List Orc}{r:Res}(hv:fvO orc=true)(hr:cW P md op ρ h next orc=some r):cW P md op ρ h' next' orc=some ⟨r.v,h',next',r.orc,r.cs⟩:=by
 unfold cW at hr ⊢
 split at hr
 ·rename_i tl
  unfold qB at hr ⊢
  obtain⟨hid,h1⟩:=aE hr
  obtain⟨r1,hr1,h2⟩:=ae.1 h1
  obtain⟨hrd,h3⟩:=aE h2
  simp only[ah] at h3;subst h3
  rw[hid]
  simp only[aO]
  have hl:dj op ρ=[]:=List.isEmpty_iff.1 hid
  have key: ∃r2,bZ P md op ρ h' next' (.fz::tl)=some r2∧r2.v=r1.v∧r2.orc=r1.orc∧r2.cs=r1.cs:=by
   cases op with
   |alloc t=>
    obtain⟨z,hz,rfl⟩:=ac.1 hr1
    cases hrd
   |box t x=>
    obtain⟨z,hz,rfl⟩:=ac.1 hr1
    cases hfz:fzO (.fz::tl)&&z.all es with
    |false=>rw[hfz] at hrd;cases hrd
    |true=>
     refine⟨v6 true next' t z h' (.fz::tl), ?_, ?_⟩
     ·simp only[bZ,hz,aM]
      rw[hfz]
     ·exact⟨rfl,rfl,rfl⟩
   |makeSlice t x y=>
    unfold bZ at hr1
    simp only at hr1
    split at hr1
    ·split at hr1
     ·obtain⟨i,hi,hr1⟩:=ae.1 hr1
      obtain⟨z,hz,hr1⟩:=ae.1 hr1
      obtain⟨hb,hr1⟩:=aE hr1
      obtain⟨p,hp,rfl⟩:=ac.1 hr1
      cases hrd
     ·cases hr1
    ·cases hr1
   |buildSlice t len parts=>
    have e: ∀p∈parts.toList,frz h (ρ p.2)=frz h' (ρ p.2):=fun p hp=>iD fun i hi=>by
     have:i∈dj (.buildSlice t len parts) ρ:=by simp only[dj,bt];exact⟨p,hp,hi⟩
     rw[hl] at this;cases this
    have e1:(parts.toList.map fun p=>(p.1,frz h (ρ p.2)))=(parts.toList.map fun p=>(p.1,frz h' (ρ p.2))):=bC fun p hp=>by rw[e p hp]
    unfold bZ at hr1 ⊢
    simp only[<-e1] at hr1 ⊢
    split at hr1
    ·obtain⟨s,hs,hr1⟩:=ae.1 hr1
     obtain⟨hb,hr1⟩:=aE hr1
     obtain⟨z,hz,hr1⟩:=ae.1 hr1
     obtain⟨cs,hcs,rfl⟩:=ac.1 hr1
     simp only[hs,bk,hb,aO,hz,hcs,aM]
     exact⟨_,rfl,rfl,rfl,rfl⟩
    ·cases hr1
   |call c=>
    obtain⟨callee,args,at_⟩:=c
    cases callee with
    |builtin b=>
     cases b with
     |append=>
      have hr1:apz P md args at_ ρ h next (.fz::tl)=some r1:=hr1
      rw[yj hr1] at hrd
      cases hrd
     |_=>cases hr1
    |_=>cases hr1
   |_=>cases hr1
  obtain⟨r2,q1,q2,q3,q4⟩:=key
  rw[q1]
  simp only[bk,q2,hrd,aO,q3,q4]
 ·rename_i hno
  exfalso
  cases orc with
  |nil=>cases hv
  |cons o l=>
   cases o with
   |fv=>exact hno _ rfl
   |_=>cases hv
def nG(f:FuncId)(avs:List AV)(h:Nat->Option Blk)(next:Nat)(orc:List Orc):Option Res:=
 match orc with
 | .cl args' res H::orc=>bif ki P f&&dA H then
   (leL (le1 (fun _=>none) (fun _=>none) []) (avs.map (frz h)) args').map fun p=>⟨shift next res,aS (ci h (avs.flatMap cG)) next H,next+H.length,orc,p++[PureC P f args' res H]⟩ else none
 |_=>none
def pK(f:FuncId)(avs:List AV)(h:Nat->Option Blk)(next:Nat)(orc:List Orc):Option Res:=
 match orc with
 | .cp args' res::orc=>bif ki P f&&vv res then
   (leL (le1 (fun _=>none) (fun _=>none) []) (avs.map (pk h)) args').map fun p=>⟨res,h,next,orc,p++[PureC P f args' res []]⟩ else none
 |_=>none
def v3(f:FuncId)(avs:List AV)(h:Nat->Option Blk)(next:Nat)(orc:List Orc):Option Res:=
 match orc with
 | .cm args' H0 r res H1::orc=>kL P f avs h next args' H0 r res H1 orc
 |_=>none
theorem kK{f:FuncId}{avs:List AV}{h h':Nat->Option Blk}{next:Nat}{args':List AV}{H0 H1:List Blk}{rr:List (Nat×Nat)}{res:AV}{tl:List Orc}{r:Res}(e: ∀id∈rr.map (·.2),h' id=h id)(hr:kL P f avs h next args' H0 rr res H1 tl=some r):
  (∃r',kL P f avs h' next args' H0 rr res H1 tl=some r'∧r'.v=r.v∧r'.orc=r.orc∧r'.cs=r.cs∧r'.next=r.next∧(∀id,(id∈rr.map (·.2)∨(next<=id∧id<r.next))->r'.heap id=r.heap id)∧ ∀id, ¬(id∈rr.map (·.2)∨(next<=id∧id<r.next))->r'.heap id=h' id)∧
  next<=r.next∧(∀id, ¬(id∈rr.map (·.2)∨(next<=id∧id<r.next))->r.heap id=h id)∧ ∀id∈rr.map (·.2),(h id).isSome=true:=by
 unfold kL at hr ⊢
 obtain⟨hb,hr⟩:=aE hr
 obtain⟨p,hp,rfl⟩:=ac.1 hr
 generalize hids:rr.map (·.2)=ids at*
 have e1:hR h' ids=hR h ids:=funext fun id=>by
  unfold hR
  cases hm:ids.any (Nat.beq id) with
  |false=>rfl
  |true=>exact e id (gm.1 hm)
 have hb2:i3 h ids=true:=by simp only[au] at hb;exact hb.2.2.2.1
 have e2:i3 h' ids=i3 h ids:=by
  unfold i3
  have: ∀l:List Nat,(∀i∈l,h' i=h i)->(l.all fun i=>match h' i with |some ⟨_,false,_,.rows _ _ _⟩=>true |_=>false)=(l.all fun i=>match h i with |some ⟨_,false,_,.rows _ _ _⟩=>true |_=>false):=by
   intro l
   induction l with
   |nil=>intro _;rfl
   |cons a l ih=>intro hl;simp only[List.all_cons,ih fun i hi=>hl i (bG _ hi),hl a (by simp)]
  exact this ids e
 have hk: ∀id,id∈ids->dI h' ids id=dI h ids id:=fun id hm=>by rw[fM hm,fM hm,e id hm]
 refine⟨?_,dO _ _,fun id hid=> ?_,fun id hm=> ?_⟩
 ·rw[e2,hb]
  simp only[aO,e1,hp,aM]
  refine⟨_,rfl,rfl,rfl,rfl,rfl,fun id hid=> ?_,fun id hid=> ?_⟩
  ·show aS (dI h' ids) next H1 id=aS (dI h ids) next H1 id
   rw[br,br]
   by_cases hn:next<=id∧id<next+H1.length
   ·rw[ai hn,ai hn]
   ·rw[af hn,af hn]
    exact hk id (hid.resolve_right hn)
  ·show aS (dI h' ids) next H1 id=_
   rw[br,af fun hn=>hid (.inr hn),eE fun hm=>hid (.inl hm)]
 ·show aS (dI h ids) next H1 id=_
  rw[br,af fun hn=>hid (.inr hn),eE fun hm=>hid (.inl hm)]
 ·obtain⟨g0,e0,m0,n0,f0,e3⟩:=gZ hb2 hm
  rw[e3];rfl
theorem mf{a:AV}{h h':Nat->Option Blk}(e: ∀i∈jc a,h i=h' i):eM h a=eM h' a:=by
 cases a with
 |own id g m off len=>simp only[eM,ek e]
 |bptr id off=>simp only[eM,ek e]
 |clo f caps=>cases caps<;>rfl
 |_=>rfl
theorem np{a:AV}{h h':Nat->Option Blk}(e: ∀i∈eL h a,h i=h' i):pkC h a=pkC h' a:=by
 by_cases hg: ∃id off,a= .bptr id off
 ·obtain⟨id,off,rfl⟩:=hg
  have e0:h id=h' id:=e id (by simp[eL])
  unfold pkC
  simp only[<-e0]
  split
  ·rename_i gn fz ty cs heq
   congr 1
   funext q
   refine mf fun i hi=>e i ?_
   simp only[eL,heq,bL,bt]
   refine .inr ⟨cs.getD q .junk, ?_,hi⟩
   rw[aq] at hi ⊢
   cases hq:cs[q]? with
   |none=>rw[hq] at hi;simp[jc] at hi
   |some x=>exact aV hq
  ·rfl
 ·have e1:pkC h a=eM h a:=by cases a<;>first |rfl |exact absurd ⟨_,_,rfl⟩ hg
  have e2:pkC h' a=eM h' a:=by cases a<;>first |rfl |exact absurd ⟨_,_,rfl⟩ hg
  have e3:eL h a=jc a:=by cases a<;>first |rfl |exact absurd ⟨_,_,rfl⟩ hg
  rw[e1,e2]
  exact mf (by rw[<-e3];exact e)
theorem uI{a:AV}{h h':Nat->Option Blk}(e: ∀i∈iT h a,h i=h' i):pk h a=pk h' a:=by
 by_cases hg: ∃cs,a= .agg cs
 ·obtain⟨cs,rfl⟩:=hg
  simp only[pk]
  congr 1
  refine bC fun x hx=>np fun i hi=>e i ?_
  simp only[iT,bt]
  exact⟨x,hx,hi⟩
 ·have e1:pk h a=pkC h a:=by cases a<;>first |rfl |exact absurd ⟨_,rfl⟩ hg
  have e2:pk h' a=pkC h' a:=by cases a<;>first |rfl |exact absurd ⟨_,rfl⟩ hg
  have e3:iT h a=eL h a:=by cases a<;>first |rfl |exact absurd ⟨_,rfl⟩ hg
  rw[e1,e2]
  exact np (by rw[<-e3];exact e)
theorem kM{f:FuncId}{avs:List AV}{h h':Nat->Option Blk}{next:Nat}{orc:List Orc}{r:Res}(e: ∀id∈avs.flatMap cG,h id=h' id)(hf:fl h (avs.flatMap cG)=true)(hr:nG (P:=P) f avs h next orc=some r):
  ∃r',nG (P:=P) f avs h' next orc=some r'∧r'.v=r.v∧r'.orc=r.orc∧r'.cs=r.cs∧r'.next=r.next∧Adds h next r.heap r.next∧Adds h' next r'.heap r.next∧ ∀id,next<=id->id<r.next->r'.heap id=r.heap id:=by
 have e1:avs.map (frz h)=avs.map (frz h'):=bC fun a ha=>iD fun i hi=>e i (bt.2 ⟨a,ha,hi⟩)
 have hf':fl h' (avs.flatMap cG)=true:=by rw[<-gi e];exact hf
 have z1:=dc _ _ hf
 have z2:=dc _ _ hf'
 unfold nG at hr ⊢
 split at hr
 ·rename_i args' res H orc'
  obtain⟨hb,hr⟩:=aE hr
  obtain⟨p,hp,rfl⟩:=ac.1 hr
  simp only[hb,aO, <-e1,hp,aM]
  rw[z1,z2]
  refine⟨_,rfl,rfl,rfl,rfl,rfl,⟨dO _ _,fun id hid=> ?_⟩,⟨dO _ _,fun id hid=> ?_⟩,fun id h1 h2=> ?_⟩
  ·show aS h next H id=_
   rw[br,af hid]
  ·show aS h' next H id=_
   rw[br,af hid]
  ·show aS h' next H id=aS h next H id
   rw[br,br,ai ⟨h1,h2⟩,ai ⟨h1,h2⟩]
 ·cases hr
end
end
section
open Go.RowKit
def orE(ms:List Nat):List Edge->Nat
 | []=>0
 |e::l=>(bif Region.binds .any e then 2^e.on|||ms.getD e.on 0 else 0)|||orE ms l
def iU:List Oper->List Nat->List Nat
 | [],acc=>acc
 |o::os,acc=>iU os (acc++[orE acc o.after.toList])
def jN(ops:Array Oper):List Nat:=iU ops.toList []
def gR(o:Oper)(ops:Array Oper):List Tmp:=
 (o.op.operands.toList.filterMap fun | .tmp t=>some t |_=>none)++(match o.guard with
  |some (j,_)=>((ops[j]?).bind (·.dst)).toList
  |none=>[])
def fc(ops:Array Oper)(bs:List Nat):Bool:=
 (List.range ops.size).all fun i=>match ops[i]? with
  |none=>false
  |some o=>(o.after.toList.all fun e=> !(Region.binds .any e)||Nat.blt e.on i)&&
   ((List.range ops.size).all fun k=>match ops[k]? with
    |none=>false
    |some p=>match p.dst with
     |none=>true
     |some d=>(Nat.beq k i|| !(o.dst==some d))&&
      ((gR o ops).all fun t=> !(Nat.beq t d)||Nat.beq k i||(bif Nat.blt k i then(bs.getD i 0).testBit k else(bs.getD k 0).testBit i)))
structure Tch where
 all:Bool
 nw:Bool
 rd:List Nat
 wr:List Nat
def Tch.any(t:Tch):Bool:=t.all||t.nw|| !(t.rd.isEmpty)|| !(t.wr.isEmpty)
def pi(l l':List Nat):Bool:=l.any fun x=>l'.any (Nat.beq x)
def cfl(a b:Tch):Bool:=(a.all&&b.any)||(b.all&&a.any)||pi a.wr b.wr||pi a.wr b.rd||pi a.rd b.wr
structure DS where
 st:St
 orc:List Orc
 tr:List (Nat×Tch)
def jb(op:Op)(ρ:Operand->AV)(orc:List Orc):Bool:=match orc with
 | .cl .. ::_=>match op with
  | .call {callee:= .value f, ..}=>match ρ f with
   | .clo _ _=>true
   |_=>false
  |_=>false
 |_=>false
def i9(op:Op)(ρ:Operand->AV)(orc:List Orc):Bool:=match orc with
 | .cp .. ::_=>match op with
  | .call {callee:= .value f, ..}=>match ρ f with
   | .clo _ _=>true
   |_=>false
  |_=>false
 |_=>false
def ja(op:Op)(ρ:Operand->AV)(orc:List Orc):Bool:=match orc with
 | .cm .. ::_=>match op with
  | .call {callee:= .value f, ..}=>match ρ f with
   | .clo _ _=>true
   |_=>false
  |_=>false
 |_=>false
def zh(orc:List Orc):List Nat:=match orc with
 | .cm _ _ r _ _::_=>r.map (·.2)
 |_=>[]
def oz:AV->List AV
 | .clo _ caps=>caps
 |_=>[]
def sN(a b:Nat):List Nat:=(List.range (b-a)).map (a+ ·)
section
variable(P:Program)
def evD(md:Bool)(call:cI)(op:Op)(ρ:Operand->AV)(h:Nat->Option Blk)(next:Nat)(orc:List Orc):Option Res:=
 dN P md (bif jb op ρ orc then nG (P:=P) else bif i9 op ρ orc then pK (P:=P) else bif ja op ρ orc then v3 (P:=P) else call) op ρ h next orc
def rdD(op:Op)(ρ:Operand->AV):List Nat:=match op with
 | .call {callee:= .value f,args, ..}=>(args.toList.map ρ++oz (ρ f)).flatMap cG
 |op=>dj op ρ
def vR(h:Nat->Option Blk)(op:Op)(ρ:Operand->AV):List Nat:=match op with
 | .call {callee:= .value f,args, ..}=>(args.toList.map ρ++oz (ρ f)).flatMap (iT h)
 |_=>[]
def lB(op:Op)(ρ:Operand->AV):Bool:=match op with
 | .fieldAddr _ x _=>match ρ x with
  | .bptr .. =>true
  |_=>false
 | .indexAddr _ x _=>match ρ x with
  | .bptr .. =>true
  |_=>false
 |_=>false
def mN:Tch:=⟨false,false,[],[]⟩
def fR:Tch:=⟨true,true,[],[]⟩
def d7(op:Op)(ρ:Operand->AV)(h:Nat->Option Blk)(next:Nat)(orc:List Orc)(r:Res):Tch:=match cV P op with
 | .pur=>mN
 | .read=>bif lB op ρ then mN else⟨false,false,dj op ρ,[]⟩
 | .make=>bif fvO orc then mN else bif fl h (dj op ρ) then⟨false,true,dj op ρ,sN next r.next⟩ else fR
 | .write=>match op with
  | .store _ x y=>match ρ x with
   | .bptr id _=>⟨false,false,[],[id]⟩
   | .eptr id _ _ _ _=>bif fl h (cG (ρ y)) then⟨false,false,cG (ρ y),[id]⟩ else fR
   |_=>fR
  | .call {callee:= .builtin .append,args, ..}=>match args.toList.map ρ with
   | [.nils,y]=>⟨false,true,gG y,[next]⟩
   | [.own id _ _ _ _,y]=>⟨false,false,gG y,[id]⟩
   |_=>fR
  |_=>fR
 | .call=>bif jb op ρ orc then(bif fl h (rdD op ρ) then⟨false,true,rdD op ρ,sN next r.next⟩ else fR)
  else bif i9 op ρ orc then⟨false,false,vR h op ρ,[]⟩ else bif ja op ρ orc then⟨false,true,[],zh orc++sN next r.next⟩ else fR
def qX(md:Bool)(call:cI)(nt:Nat)(ops:Array Oper)(bs:List Nat)(i:Nat)(s:DS):Option (DS×List Prop):=
 match ops[i]? with
 |none=>none
 |some o=>bif mo nt o.dst then(gh ops o s.st.env s.orc).bind fun g=>match g.1 with
  |false=>some (⟨⟨gC s.st.env o.dst tX,s.st.heap,s.st.next⟩,g.2.1,(i,mN)::s.tr⟩,g.2.2)
  |true=>(evD P md call o.op (bY s.st.env) s.st.heap s.st.next g.2.1).bind fun r=>
   bif s.tr.all fun q=> !(cfl (d7 P o.op (bY s.st.env) s.st.heap s.st.next g.2.1 r) q.2)||(bs.getD i 0).testBit q.1 then
    some (⟨⟨gC s.st.env o.dst r.v,r.heap,r.next⟩,r.orc,(i,d7 P o.op (bY s.st.env) s.st.heap s.st.next g.2.1 r)::s.tr⟩,g.2.2++r.cs) else none else none
def uh(step:Nat->DS->Option (DS×List Prop)):Nat->Nat->DS->Option (DS×List Prop)
 |0,_,s=>some (s,[])
 |k+1,i,s=>(step i s).bind fun q=>(uh step k (i+1) q.1).map fun r=>(r.1,q.2++r.2)
def GK:List Orc->List Orc
 | .ll _::orc=>orc
 |orc=>orc
def kJ(md:Bool):iY:=fun call nt ops st orc=>
 bif P.follows .mixedOrders&&fc ops (jN ops) then
  (uh (qX P md call nt ops (jN ops)) ops.size 0 ⟨st,GK orc,[]⟩).map fun q=>(q.1.st,q.1.orc,q.2)
 else none
end
theorem o4{step:Nat->DS->Option (DS×List Prop)}: ∀(k i:Nat) {s s':DS} {ps:List Prop},uh step k i s=some (s',ps)->(∀p∈ps,p)-> ∃D:Nat->DS,D i=s∧D (i+k)=s'∧ ∀j,i<=j->j<i+k-> ∃q,step j (D j)=some (D (j+1),q)∧ ∀p∈q,p
 |0,i,s,s',ps,h,hp=>by
  simp only[uh,ah,Prod.mk.injEq] at h
  obtain⟨rfl,rfl⟩:=h
  exact⟨fun _=>s,rfl,rfl,fun j h1 h2=>by omega⟩
 |k+1,i,s,s',ps,h,hp=>by
  unfold uh at h
  obtain⟨q,hq,h1⟩:=ae.1 h
  obtain⟨r,hr,e⟩:=ac.1 h1
  cases e
  obtain⟨D,d1,d2,d3⟩:=o4 k (i+1) hr (fun p hp'=>hp p (by simp[hp']))
  refine⟨fun j=>if j=i then s else D j,by simp, ?_,fun j h1 h2=> ?_⟩
  ·simp only[show ¬i+(k+1)=i by omega,if_false]
   rw[<-d2];congr 1;omega
  ·by_cases hj:j=i
   ·subst hj
    simp only[if_true,show ¬j+1=j by omega,if_false,d1]
    exact⟨q.2,hq,fun p hp'=>hp p (by simp[hp'])⟩
   ·simp only[hj,if_false,show ¬j+1=i by omega]
    exact d3 j (by omega) (by omega)
theorem ro{ms:List Nat}{k:Nat}: ∀{l:List Edge},(orE ms l).testBit k=true-> ∃e∈l,Region.binds .any e=true∧(e.on=k∨(ms.getD e.on 0).testBit k=true)
 | [],h=>by simp[orE] at h
 |e::l,h=>by
  unfold orE at h
  rw[Nat.testBit_or,fa] at h
  rcases h with h |h
  ·cases hb:Region.binds .any e with
   |false=>rw[hb] at h;simp at h
   |true=>
    rw[hb] at h
    simp only[aO,Nat.testBit_or,fa,Nat.testBit_two_pow,decide_eq_true_eq] at h
    exact⟨e,by simp,hb,h⟩
  ·obtain⟨e',h1,h2⟩:=ro h
   exact⟨e',by simp[h1],h2⟩
theorem lT: ∀(l:List Oper) (acc:List Nat) (k:Nat),(∀i,i<acc.length->(iU l acc).getD i 0=acc.getD i 0)∧(∀j o,l[j]? =some o-> ∃ms,(iU l acc).getD (acc.length+j) 0=orE ms o.after.toList∧ ∀q,q<acc.length+j->ms.getD q 0=(iU l acc).getD q 0)
 | [],acc,k=>⟨fun i _=>rfl,fun j o h=>by simp at h⟩
 |o::l,acc,k=>by
  obtain⟨h1,h2⟩:=lT l (acc++[orE acc o.after.toList]) k
  have hl:(acc++[orE acc o.after.toList]).length=acc.length+1:=by simp
  have h0: ∀i,i<acc.length->(iU (o::l) acc).getD i 0=acc.getD i 0:=fun i hi=>by
   unfold iU
   rw[h1 i (by omega)]
   simp only[aq]
   rw[bh hi]
  refine⟨h0,fun j o' hj=> ?_⟩
  cases j with
  |zero=>
   simp only[bu,ah] at hj
   subst hj
   refine⟨acc, ?_,fun q hq=>(h0 q (by omega)).symm⟩
   unfold iU
   rw[h1 _ (by omega)]
   simp[aq]
  |succ j=>
   obtain⟨ms,k1,k2⟩:=h2 j o' (by simpa using hj)
   refine⟨ms, ?_,fun q hq=> ?_⟩
   ·unfold iU
    rw[<-k1];congr 1;omega
   ·unfold iU
    exact k2 q (by omega)
theorem v9{ops:Array Oper}{i k:Nat}{o:Oper}(ho:ops[i]? =some o)(haf: ∀e∈o.after.toList,Region.binds .any e=true->e.on<i)(h:((jN ops).getD i 0).testBit k=true): ∃e∈o.after.toList,Region.binds .any e=true∧(e.on=k∨((jN ops).getD e.on 0).testBit k=true):=by
 obtain⟨ms,h1,h2⟩:=(lT ops.toList [] 0).2 i o (by rw[bj];exact ho)
 simp only[List.length_nil,a7] at h1 h2
 unfold jN at h ⊢
 rw[h1] at h
 obtain⟨e,k1,k2,k3⟩:=ro h
 refine⟨e,k1,k2,k3.imp (fun x=>x) fun k3=> ?_⟩
 rw[<-h2 e.on (haf e k1 k2)]
 exact k3
end
section
open Go.RowKit
section
variable{P:Program}
theorem jU{md:Bool}{call:cI}{nt:Nat}{ops:Array Oper}{bs:List Nat}{i:Nat}{s s':DS}{q:List Prop}(h:qX P md call nt ops bs i s=some (s',q)):
  ∃o g,ops[i]? =some o∧mo nt o.dst=true∧gh ops o s.st.env s.orc=some g∧
   ((g.1=false∧s'.st.env=gC s.st.env o.dst tX∧s'.st.heap=s.st.heap∧s'.st.next=s.st.next∧s'.tr=(i,mN)::s.tr∧q=g.2.2)∨
    (g.1=true∧ ∃r,evD P md call o.op (bY s.st.env) s.st.heap s.st.next g.2.1=some r∧q=g.2.2++r.cs∧s'.st.env=gC s.st.env o.dst r.v∧s'.st.heap=r.heap∧s'.st.next=r.next∧
    s'.tr=(i,d7 P o.op (bY s.st.env) s.st.heap s.st.next g.2.1 r)::s.tr∧ ∀k u,(k,u)∈s.tr->cfl (d7 P o.op (bY s.st.env) s.st.heap s.st.next g.2.1 r) u=true->(bs.getD i 0).testBit k=true)):=by
 unfold qX at h
 split at h
 ·cases h
 ·rename_i o ho
  obtain⟨hd,h1⟩:=aE h
  clear h
  obtain⟨g,hg,h2⟩:=ae.1 h1
  clear h1
  refine⟨o,g,ho,hd,hg, ?_⟩
  split at h2
  ·rename_i hgf
   simp only[ah,Prod.mk.injEq] at h2
   obtain⟨rfl,rfl⟩:=h2
   exact .inl ⟨hgf,rfl,rfl,rfl,rfl,rfl⟩
  ·rename_i hgt
   obtain⟨r,hr,h3⟩:=ae.1 h2
   clear h2
   obtain⟨hall,h4⟩:=aE h3
   simp only[ah,Prod.mk.injEq] at h4
   obtain⟨rfl,rfl⟩:=h4
   refine .inr ⟨hgt,r,hr,rfl,rfl,rfl,rfl,rfl,fun k u hku hc=> ?_⟩
   have:=aL.1 hall (k,u) hku
   rw[hc] at this
   simpa using this
theorem ma{op:Op}{ρ:Operand->AV}{orc:List Orc}(h:jb op ρ orc=true): ∃fo args at_ f caps a' r' H' tl,op= .call {callee:= .value fo,args:=args,argTypes:=at_}∧ρ fo= .clo f caps∧orc= .cl a' r' H'::tl:=by
 unfold jb at h
 split at h
 ·split at h
  ·rename_i fo args at_
   split at h
   ·rename_i f caps hf
    exact⟨fo,args,at_,f,caps,_,_,_,_,rfl,hf,rfl⟩
   ·cases h
  ·cases h
 ·cases h
theorem fg{op:Op}{ρ ρ':Operand->AV}{orc:List Orc}(he: ∀x∈op.operands.toList,ρ x=ρ' x):jb op ρ orc=jb op ρ' orc:=by
 unfold jb
 split
 ·split
  ·rename_i fo args at_
   rw[he fo (by simp[Op.operands,Call.operands])]
  ·rfl
 ·rfl
theorem l8{op:Op}{ρ:Operand->AV}{orc:List Orc}(h:i9 op ρ orc=true): ∃fo args at_ f caps a' r' tl,op= .call {callee:= .value fo,args:=args,argTypes:=at_}∧ρ fo= .clo f caps∧orc= .cp a' r'::tl:=by
 unfold i9 at h
 split at h
 ·split at h
  ·rename_i fo args at_
   split at h
   ·rename_i f caps hf
    exact⟨fo,args,at_,f,caps,_,_,_,rfl,hf,rfl⟩
   ·cases h
  ·cases h
 ·cases h
theorem gd{op:Op}{ρ ρ':Operand->AV}{orc:List Orc}(he: ∀x∈op.operands.toList,ρ x=ρ' x):i9 op ρ orc=i9 op ρ' orc:=by
 unfold i9
 split
 ·split
  ·rename_i fo args at_
   rw[he fo (by simp[Op.operands,Call.operands])]
  ·rfl
 ·rfl
theorem l9{op:Op}{ρ:Operand->AV}{orc:List Orc}(h:ja op ρ orc=true): ∃fo args at_ f caps a' H0 rr r' H1 tl,op= .call {callee:= .value fo,args:=args,argTypes:=at_}∧ρ fo= .clo f caps∧orc= .cm a' H0 rr r' H1::tl:=by
 unfold ja at h
 split at h
 ·split at h
  ·rename_i fo args at_
   split at h
   ·rename_i f caps hf
    exact⟨fo,args,at_,f,caps,_,_,_,_,_,_,rfl,hf,rfl⟩
   ·cases h
  ·cases h
 ·cases h
theorem ge{op:Op}{ρ ρ':Operand->AV}{orc:List Orc}(he: ∀x∈op.operands.toList,ρ x=ρ' x):ja op ρ orc=ja op ρ' orc:=by
 unfold ja
 split
 ·split
  ·rename_i fo args at_
   rw[he fo (by simp[Op.operands,Call.operands])]
  ·rfl
 ·rfl
theorem rF{op:Op}{ρ:Operand->AV}{orc:List Orc}(h:ja op ρ orc=true):jb op ρ orc=false∧i9 op ρ orc=false:=by
 obtain⟨fo,args,at_,f,caps,a',H0,rr,r',H1,tl,rfl,hf,rfl⟩:=l9 h
 exact⟨rfl,rfl⟩
theorem pu{op:Op}{ρ:Operand->AV}{orc:List Orc}(h:ja op ρ orc=true):cV P op= .call:=by
 obtain⟨fo,args,at_,f,caps,a',H0,rr,r',H1,tl,rfl,hf,rfl⟩:=l9 h
 rfl
theorem xG{op:Op}{ρ:Operand->AV}{orc:List Orc}(h:i9 op ρ orc=true):jb op ρ orc=false:=by
 obtain⟨fo,args,at_,f,caps,a',r',tl,rfl,hf,rfl⟩:=l8 h
 rfl
theorem vk{op:Op}{ρ:Operand->AV}{orc:List Orc}(h:i9 op ρ orc=true):cV P op= .call:=by
 obtain⟨fo,args,at_,f,caps,a',r',tl,rfl,hf,rfl⟩:=l8 h
 rfl
theorem vm{op:Op}{ρ:Operand->AV}{orc:List Orc}(h:jb op ρ orc=true):cV P op= .call:=by
 obtain⟨fo,args,at_,f,caps,a',r',H',tl,rfl,hf,rfl⟩:=ma h
 rfl
theorem kr{md:Bool}{call:cI}{op:Op}{ρ ρ':Operand->AV}{h:Nat->Option Blk}{next:Nat}{orc:List Orc}(he: ∀x∈op.operands.toList,ρ x=ρ' x):evD P md call op ρ h next orc=evD P md call op ρ' h next orc:=by
 unfold evD
 rw[fg he,gd he,ge he]
 exact qA he
structure Loc (P:Program) (md:Bool) (call:cI) (op:Op) (ρ:Operand->AV) (orc:List Orc) (h:Nat->Option Blk) (next:Nat) (r:Res) (t:Tch):Prop where
 le:next<=r.next
 nonew:t.nw=false->r.next=next
 old: ∀id,id ∉ t.wr->r.heap id=h id
 wrs: ∀id∈t.wr,(h id).isSome=true∨(next<=id∧id<r.next)
 new: ∀id,next<=id->id<r.next->id∈t.wr
 loc: ∀h' next',(t.nw=true->next'=next)->(∀id∈t.rd,h' id=h id)->(∀id∈t.wr,h' id=h id)->
  ∃r',evD P md call op ρ h' next' orc=some r'∧r'.v=r.v∧r'.orc=r.orc∧r'.cs=r.cs∧(t.nw=true->r'.next=r.next)∧(t.nw=false->r'.next=next')∧(∀id∈t.wr,r'.heap id=r.heap id)∧ ∀id,id ∉ t.wr->r'.heap id=h' id
theorem lS{a b id:Nat}:id∈sN a b↔a<=id∧id<b:=by
 unfold sN
 rw[cX]
 constructor
 ·rintro⟨k,hk,rfl⟩
  rw[cM] at hk
  omega
 ·rintro⟨h1,h2⟩
  exact⟨id-a,cM.2 (by omega),by omega⟩
theorem lD{md:Bool}{t:TypeId}{x y:AV}{h:Nat->Option Blk}{q:(Nat->Option Blk)×List Prop}{id:Nat}(hid:(∃off,x= .bptr id off)∨(∃g m i j,x= .eptr id g m i j)∧fl h (cG y)=true)(hs:fb P md t x y h=some q):
  (h id).isSome=true∧ ∃b',q.1=upd h id b'∧ ∀h',h' id=h id->((∃g m i j,x= .eptr id g m i j)-> ∀k∈cG y,h' k=h k)->fb P md t x y h'=some (upd h' id b',q.2):=by
 unfold fb at hs
 obtain⟨s,h1,h2⟩:=ae.1 hs
 rcases hid with⟨off,rfl⟩|⟨⟨g,m,i,j,rfl⟩,hf⟩
 ·simp only at h2
  split at h2
  ·rename_i gn e cs heq
   obtain⟨vs,h3,h4⟩:=ae.1 h2
   obtain⟨hb,h5⟩:=aE h4
   simp only[ah] at h5;subst h5
   refine⟨by rw[heq];rfl,_,rfl,fun h' e1 _=> ?_⟩
   unfold fb
   simp only[h1,bk,e1,heq,h3,hb,aO]
  ·cases h2
 ·simp only at h2
  split at h2
  ·rename_i gn e m' n f heq
   obtain⟨vs,h3,h4⟩:=ae.1 h2
   obtain⟨hb,h5⟩:=aE h4
   obtain⟨p,h6,rfl⟩:=ac.1 h5
   rw[dc _ _ hf]
   refine⟨by rw[heq];rfl,_,rfl,fun h' e1 e2=> ?_⟩
   have e3:=e2 ⟨g,m,i,j,rfl⟩
   have e4:frz h' y=frz h y:=iD e3
   have e5:fl h' (cG y)=true:=by rw[gi e3];exact hf
   unfold fb
   simp only[h1,bk,e1,heq,e4,h3,hb,aO,h6,aM,dc _ _ e5]
  ·cases h2
theorem qc{t:TypeId}{y:AV}{h:Nat->Option Blk}{cs':List AV}{q:(Nat->Option Blk)×List Prop}{id off:Nat}(hs:fT P t (.bptr id off) y h cs'=some q):
  (h id).isSome=true∧ ∃b',q.1=upd h id b'∧ ∀h',h' id=h id->fT P t (.bptr id off) y h' cs'=some (upd h' id b',q.2):=by
 unfold fT at hs
 obtain⟨s,h1,h2⟩:=ae.1 hs
 simp only at h2
 split at h2
 ·rename_i gn e cs heq
  obtain⟨vs,h3,h4⟩:=ae.1 h2
  obtain⟨hb,h5⟩:=aE h4
  simp only[ah] at h5;subst h5
  refine⟨by rw[heq];rfl,_,rfl,fun h' e1=> ?_⟩
  unfold fT
  simp only[h1,bk,e1,heq,h3,hb,aO]
 ·cases h2
theorem oN{t:TypeId}{x y:AV}{h:Nat->Option Blk}{cs':List AV}{q:(Nat->Option Blk)×List Prop}(hs:fT P t x y h cs'=some q): ∃id off,x= .bptr id off:=by
 unfold fT at hs
 obtain⟨s,h1,h2⟩:=ae.1 hs
 split at h2
 ·exact⟨_,_,rfl⟩
 ·cases h2
theorem lk{md:Bool}{call:cI}{op:Op}{ρ:Operand->AV}{orc:List Orc}{h:Nat->Option Blk}{next:Nat}{r:Res}{id:Nat}{b':Option Blk}{rd:List Nat}(hh:r.heap=upd h id b')(hn:r.next=next)(hs:(h id).isSome=true)
  (hl: ∀h' next',(∀k∈rd,h' k=h k)->h' id=h id-> ∃r',evD P md call op ρ h' next' orc=some r'∧r'.v=r.v∧r'.orc=r.orc∧r'.cs=r.cs∧r'.next=next'∧r'.heap=upd h' id b'):Loc P md call op ρ orc h next r ⟨false,false,rd,[id]⟩:=by
 refine⟨by omega,fun _=>hn,fun k hk=> ?_,fun k hk=> ?_,fun k h1 h2=>by omega,fun h' next' _ h1 h2=> ?_⟩
 ·rw[hh];exact aQ _ _ _ _ fun e=>hk (by rw[e];simp)
 ·rw[aB.1 hk];exact .inl hs
 ·obtain⟨r',k1,k2,k3,k4,k5,k6⟩:=hl h' next' h1 (h2 id (by simp))
  refine⟨r',k1,k2,k3,k4,(fun e=>by cases e),fun _=>k5,fun k hk=> ?_,fun k hk=> ?_⟩
  ·rw[aB.1 hk,k6,hh,aY,aY]
  ·rw[k6];exact aQ _ _ _ _ fun e=>hk (by rw[e];simp)
theorem ox{md:Bool}{call:cI}{op:Op}{ρ:Operand->AV}{h:Nat->Option Blk}{next:Nat}{orc:List Orc}{r:Res}(hr:evD P md call op ρ h next orc=some r)(hl:(d7 P op ρ h next orc r).all=false):Loc P md call op ρ orc h next r (d7 P op ρ h next orc r):=by
 have quiet: ∀rd:List Nat,r.heap=h->r.next=next->(∀h' next',(∀k∈rd,h' k=h k)-> ∃r',evD P md call op ρ h' next' orc=some r'∧r'.v=r.v∧r'.orc=r.orc∧r'.cs=r.cs∧r'.next=next'∧r'.heap=h')->Loc P md call op ρ orc h next r ⟨false,false,rd,[]⟩:=by
  intro rd h1 h2 h3
  refine⟨by omega,fun _=>h2,fun k _=>by rw[h1],(fun k hk=>by cases hk),fun k k1 k2=>by omega,fun h' next' _ k1 _=> ?_⟩
  obtain⟨r',q1,q2,q3,q4,q5,q6⟩:=h3 h' next' k1
  exact⟨r',q1,q2,q3,q4,(fun e=>by cases e),fun _=>q5,(fun k hk=>by cases hk),fun k _=>by rw[q6]⟩
 have fresh: ∀(rd:List Nat) (h1:next<=r.next),(∀id, ¬(next<=id∧id<r.next)->r.heap id=h id)->(∀h',(∀k∈rd,h' k=h k)-> ∃r',evD P md call op ρ h' next orc=some r'∧r'.v=r.v∧r'.orc=r.orc∧r'.cs=r.cs∧r'.next=r.next∧(∀id,next<=id->id<r.next->r'.heap id=r.heap id)∧ ∀id, ¬(next<=id∧id<r.next)->r'.heap id=h' id)-> ∀wr,(∀id,id∈wr↔next<=id∧id<r.next)->Loc P md call op ρ orc h next r ⟨false,true,rd,wr⟩:=by
  intro rd h1 h2 h3 wr hw
  refine⟨h1,(fun e=>by cases e),fun k hk=>h2 k fun hn=>hk ((hw k).2 hn),fun k hk=> .inr ((hw k).1 hk),fun k k1 k2=>(hw k).2 ⟨k1,k2⟩,fun h' next' hn k1 _=> ?_⟩
  obtain rfl:=hn rfl
  obtain⟨r',q1,q2,q3,q4,q5,q6,q7⟩:=h3 h' k1
  exact⟨r',q1,q2,q3,q4,fun _=>q5,(fun e=>by cases e),fun k hk=>q6 k ((hw k).1 hk).1 ((hw k).1 hk).2,fun k hk=>q7 k fun hn=>hk ((hw k).2 hn)⟩
 unfold d7 at hl ⊢
 cases hc:cV P op with
 |pur=>
  simp only
  have hr0:=hr
  unfold evD dN at hr0
  rw[hc] at hr0
  obtain⟨q,hq,rfl⟩:=ac.1 hr0
  refine quiet [] rfl rfl fun h' next' _=>⟨⟨q.v,h',next',q.orc,q.cs⟩, ?_,rfl,rfl,rfl,rfl,rfl⟩
  unfold evD dN
  rw[hc]
  simp only
  rw[hq]
  rfl
 |read=>
  simp only
  have hr0:=hr
  unfold evD dN at hr0
  rw[hc] at hr0
  obtain⟨q,hq,rfl⟩:=ac.1 hr0
  have go: ∀rd:List Nat,(∀h',(∀k∈rd,h' k=h k)->dg P md op ρ h' orc=dg P md op ρ h orc)->Loc P md call op ρ orc h next ⟨q.v,h,next,q.orc,q.cs⟩ ⟨false,false,rd,[]⟩:=fun rd hrd=>
   quiet rd rfl rfl fun h' next' hk=>⟨⟨q.v,h',next',q.orc,q.cs⟩,by
    unfold evD dN
    rw[hc]
    simp only
    rw[hrd h' hk,hq]
    rfl,rfl,rfl,rfl,rfl,rfl⟩
  cases ha:lB op ρ with
  |true=>
   simp only[aO]
   refine go [] fun h' _=> ?_
   unfold lB at ha
   split at ha
   ·split at ha
    ·rename_i hx
     simp only[dg]
     unfold dX
     rw[hx]
    ·cases ha
   ·split at ha
    ·rename_i hx
     simp only[dg]
     unfold dW
     rw[hx]
     rfl
    ·cases ha
   ·cases ha
  |false=>
   simp only[bb]
   exact go _ fun h' hk=>oo hk
 |make=>
  rw[hc] at hl
  simp only at hl ⊢
  have hr0:=hr
  unfold evD dN at hr0
  rw[hc] at hr0
  simp only at hr0
  have back: ∀h' next',evD P md call op ρ h' next' orc=cW P md op ρ h' next' orc:=fun h' next'=>by
   unfold evD dN
   rw[hc]
  cases hv:fvO orc with
  |true=>
   simp only[aO]
   have h0:=pF (h':=h) (next':=next) hv hr0
   rw[hr0] at h0
   simp only[ah] at h0
   refine quiet [] (by rw[h0]) (by rw[h0]) fun h' next' _=>⟨⟨r.v,h',next',r.orc,r.cs⟩,by rw[back];exact pF hv hr0,rfl,rfl,rfl,rfl,rfl⟩
  |false=>
   rw[hv] at hl
   simp only[bb] at hl ⊢
   cases hf:fl h (dj op ρ) with
   |false=>rw[hf] at hl;cases hl
   |true=>
    simp only[aO]
    obtain⟨r0,_,_,_,_,_,k6,_⟩:=jJ (h':=h) hv (fun _ _=>rfl) hf hr0
    refine fresh _ k6.le (fun id hid=>k6.old id hid) (fun h' hk=> ?_) _ fun id=>lS
    obtain⟨r',q1,q2,q3,q4,q5,q6,q7,q8⟩:=jJ (h':=h') hv (fun id hid=>(hk id hid).symm) hf hr0
    exact⟨r',by rw[back];exact q1,q2,q3,q4,q5,q8,fun id hid=>q7.old id hid⟩
 |write=>
  rw[hc] at hl
  simp only at hl ⊢
  have hr0:=hr
  unfold evD dN at hr0
  rw[hc] at hr0
  simp only at hr0
  have back: ∀h' next',evD P md call op ρ h' next' orc=de P md op ρ h' next' orc:=fun h' next'=>by
   unfold evD dN
   rw[hc]
  split at hl
  ·rename_i t x y
   simp only[de] at hr0
   have sv: ∀cs' orc',orc= .sv cs'::orc'->Loc P md call (.store t x y) ρ orc h next r (match ρ x with
     | .bptr id _=>⟨false,false,[],[id]⟩
     | .eptr id _ _ _ _=>bif fl h (cG (ρ y)) then⟨false,false,cG (ρ y),[id]⟩ else fR
     |_=>fR):=by
    rintro cs' orc' rfl
    simp only at hr0
    obtain⟨q,hq,rfl⟩:=ac.1 hr0
    obtain⟨id,off,hx⟩:=oN hq
    rw[hx] at hq
    obtain⟨h1,b',h2,h3⟩:=qc hq
    rw[hx]
    refine lk h2 rfl h1 fun h' next' _ e1=>⟨⟨.junk,upd h' id b',next',orc',q.2⟩, ?_,rfl,rfl,rfl,rfl,rfl⟩
    rw[back]
    simp only[de,hx,h3 h' e1,aM]
   split at hr0
   ·exact sv _ _ rfl
   ·rename_i hno
    have back2: ∀h' next',de P md (.store t x y) ρ h' next' orc=(fb P md t (ρ x) (ρ y) h').map fun r=>⟨.junk,r.1,next',orc,r.2⟩:=fun h' next'=>by
     simp only[de]
     all_goals first |rfl | (split;exact absurd rfl (hno _ _);rfl)
    obtain⟨q,hq,rfl⟩:=ac.1 hr0
    split at hl
    ·rename_i id off hx
     obtain⟨h1,b',h2,h3⟩:=lD (.inl ⟨off,hx⟩) hq
     refine lk h2 rfl h1 fun h' next' _ e1=>⟨⟨.junk,upd h' id b',next',orc,q.2⟩, ?_,rfl,rfl,rfl,rfl,rfl⟩
     rw[back,back2,h3 h' e1 (by rintro⟨g,m,i,j,e⟩;rw[hx] at e;cases e)]
     rfl
    ·rename_i id g m i j hx
     cases hf:fl h (cG (ρ y)) with
     |false=>rw[hf] at hl;cases hl
     |true=>
      simp only[aO]
      obtain⟨h1,b',h2,h3⟩:=lD (.inr ⟨⟨g,m,i,j,hx⟩,hf⟩) hq
      refine lk h2 rfl h1 fun h' next' hk e1=>⟨⟨.junk,upd h' id b',next',orc,q.2⟩, ?_,rfl,rfl,rfl,rfl,rfl⟩
      rw[back,back2,h3 h' e1 (fun _=>hk)]
      rfl
    ·cases hl
  ·rename_i args at_
   simp only[de] at hr0
   split at hr0
   ·rename_i x y t t' e1 e2
    obtain⟨hb,hr1⟩:=aE hr0
    have back2: ∀h' next',evD P md call (.call {callee:= .builtin .append,args:=args,argTypes:=at_}) ρ h' next' orc=jP P md t (ρ x) (ρ y) h' next' orc:=fun h' next'=>by
     rw[back]
     simp only[de,e1,e2,hb,aO]
    have hm:args.toList.map ρ=[ρ x,ρ y]:=by rw[e1];rfl
    rw[hm] at hl ⊢
    unfold jP at hr1 back2
    split at hr1
    ·rename_i e hu
     simp only[hu] at back2
     obtain⟨i,hi,hr2⟩:=ae.1 hr1
     obtain⟨z,hz,hr3⟩:=ae.1 hr2
     obtain⟨hb2,hr4⟩:=aE hr3
     obtain⟨q,hq,hr5⟩:=ae.1 hr4
     simp only[hi,hz,bk,hb2,aO] at back2
     split at hl
     ·rename_i l' yy heq
      simp only[e9,and_true] at heq
      obtain⟨hx,rfl⟩:=heq
      simp only[hx] at hr5 back2
      obtain⟨p,hp,rfl⟩:=ac.1 hr5
      refine fresh _ (gI _) (fun id hid=>aQ _ _ _ _ (by simp only at hid;omega)) (fun h' hk=> ?_) _ (fun id=>by rw[aB];simp only;omega)
      refine⟨⟨.own next 0 i.size 0 q.1,upd h' next (some ⟨0,false,e,.rows i.size q.1 q.2⟩),next+1,orc,p⟩, ?_,rfl,rfl,rfl,rfl,fun id h1 h2=> ?_,fun id hid=>aQ _ _ _ _ (by simp only at hid;omega)⟩
      ·rw[back2, <-fW (h:=h) (h':=h') fun k hk'=>(hk k hk').symm,hq]
       simp only[bk,hp,aM]
      ·have h2':id<next+1:=h2
       obtain rfl:id=next:=by omega
       simp only[aY]
     ·rename_i l' id g m off len yy heq
      simp only[e9,and_true] at heq
      obtain⟨hx,rfl⟩:=heq
      simp only[hx] at hr5 back2
      split at hr5
      ·rename_i g' e' m' n f hid
       obtain⟨hb3,hr6⟩:=aE hr5
       have key: ∀n1 o1,apO md e i.bytes q h next id g m f off len n1 o1=some r->(∀h' next',h' id=h id->(∀k∈gG (ρ y),h' k=h k)->evD P md call (.call {callee:= .builtin .append,args:=args,argTypes:=at_}) ρ h' next' orc=apO md e i.bytes q h' next' id g m f off len n1 o1)->Loc P md call (.call {callee:= .builtin .append,args:=args,argTypes:=at_}) ρ orc h next r ⟨false,false,gG (ρ y),[id]⟩:=fun n1 o1 hr7 hb7=>by
        obtain⟨p,hp,rfl⟩:=ac.1 hr7
        refine lk rfl rfl (by rw[hid];rfl) fun h' next' hk e4=>⟨⟨.own id (g+1) m 0 (n1+q.1),upd h' id _,next',o1,p⟩, ?_,rfl,rfl,rfl,rfl,rfl⟩
        rw[hb7 h' next' e4 hk]
        unfold apO
        simp only[hp,aM]
       cases hsh:shO orc with
       |true=>
        rw[hsh] at hr6
        refine key _ _ hr6 fun h' next' e4 hk=> ?_
        rw[back2, <-fW (h:=h) (h':=h') fun k hk'=>(hk k hk').symm,hq]
        simp only[bk,e4,hid,hb3,aO,hsh]
       |false=>
        rw[hsh] at hr6
        refine key _ _ hr6 fun h' next' e4 hk=> ?_
        rw[back2, <-fW (h:=h) (h':=h') fun k hk'=>(hk k hk').symm,hq]
        simp only[bk,e4,hid,hb3,aO,hsh,bb]
      ·cases hr5
     ·cases hl
    ·cases hr1
   ·cases hr0
  ·cases hl
 |call=>
  rw[hc] at hl
  simp only at hl ⊢
  cases hcl:jb op ρ orc with
  |true=>
   rw[hcl] at hl
   simp only[aO] at hl ⊢
   cases hf:fl h (rdD op ρ) with
   |false=>rw[hf] at hl;cases hl
   |true=>
    simp only[aO]
    obtain⟨fo,args,at_,f,caps,a',r',H',tl,rfl,hfo,rfl⟩:=ma hcl
    have back: ∀h' next',evD P md call (.call {callee:= .value fo,args:=args,argTypes:=at_}) ρ h' next' (.cl a' r' H'::tl)=nG (P:=P) f (args.toList.map ρ++caps) h' next' (.cl a' r' H'::tl):=fun h' next'=>by
     unfold evD
     rw[hcl]
     simp only[aO,dN,cV,hfo]
    rw[back] at hr
    have erd:rdD (.call {callee:= .value fo,args:=args,argTypes:=at_}) ρ=(args.toList.map ρ++caps).flatMap cG:=by unfold rdD;simp only[hfo,oz]
    rw[erd] at hf ⊢
    obtain⟨r0,_,_,_,_,_,k6,_⟩:=kM (h':=h) (fun _ _=>rfl) hf hr
    refine fresh _ k6.le (fun id hid=>k6.old id hid) (fun h' hk=> ?_) _ fun id=>lS
    obtain⟨r',q1,q2,q3,q4,q5,q6,q7,q8⟩:=kM (h':=h') (fun id hid=>(hk id hid).symm) hf hr
    exact⟨r',by rw[back];exact q1,q2,q3,q4,q5,q8,fun id hid=>q7.old id hid⟩
  |false=>
   rw[hcl] at hl
   simp only[bb] at hl ⊢
   cases hcp:i9 op ρ orc with
   |false=>
    rw[hcp] at hl
    simp only[bb] at hl ⊢
    cases hcm:ja op ρ orc with
    |false=>rw[hcm] at hl;cases hl
    |true=>
     simp only[aO]
     obtain⟨fo,args,at_,f,caps,a',H0,rr,r',H1,tl,rfl,hfo,rfl⟩:=l9 hcm
     have back: ∀h' next',evD P md call (.call {callee:= .value fo,args:=args,argTypes:=at_}) ρ h' next' (.cm a' H0 rr r' H1::tl)=kL P f (args.toList.map ρ++caps) h' next' a' H0 rr r' H1 tl:=fun h' next'=>by
      unfold evD
      rw[hcl,hcp,hcm]
      simp only[aO,bb,dN,cV,hfo,v3]
     rw[back] at hr
     obtain⟨_,z1,z2,z3⟩:=kK (h':=h) (fun _ _=>rfl) hr
     have hmem: ∀id,id∈zh (.cm a' H0 rr r' H1::tl)++sN next r.next↔(id∈rr.map (·.2)∨(next<=id∧id<r.next)):=fun id=>by
      rw[aP,lS]
      exact Iff.rfl
     refine⟨z1,(fun e=>by cases e),fun k hk=>z2 k fun hn=>hk ((hmem k).2 hn),fun k hk=> ?_,fun k q1 q2=>(hmem k).2 (.inr ⟨q1,q2⟩),fun h' next' hn _ k2=> ?_⟩
     ·rcases (hmem k).1 hk with h1 |h1
      ·exact .inl (z3 k h1)
      ·exact .inr h1
     ·obtain rfl:=hn rfl
      obtain⟨⟨r2,q1,q2,q3,q4,q5,q6,q7⟩,_⟩:=kK (h':=h') (fun id hid=>k2 id ((hmem id).2 (.inl hid))) hr
      exact⟨r2,by rw[back];exact q1,q2,q3,q4,fun _=>q5,(fun e=>by cases e),fun k hk=>q6 k ((hmem k).1 hk),fun k hk=>q7 k fun hn=>hk ((hmem k).2 hn)⟩
   |true=>
    simp only[aO]
    obtain⟨fo,args,at_,f,caps,a',r',tl,rfl,hfo,rfl⟩:=l8 hcp
    have back: ∀h' next',evD P md call (.call {callee:= .value fo,args:=args,argTypes:=at_}) ρ h' next' (.cp a' r'::tl)=pK (P:=P) f (args.toList.map ρ++caps) h' next' (.cp a' r'::tl):=fun h' next'=>by
     unfold evD
     rw[hcl,hcp]
     simp only[aO,bb,dN,cV,hfo]
    rw[back] at hr
    have erd:vR h (.call {callee:= .value fo,args:=args,argTypes:=at_}) ρ=(args.toList.map ρ++caps).flatMap (iT h):=by unfold vR;simp only[hfo,oz]
    rw[erd]
    have hr1:=hr
    unfold pK at hr1
    simp only at hr1
    obtain⟨hb,hr2⟩:=aE hr1
    obtain⟨p,hp,rfl⟩:=ac.1 hr2
    refine quiet _ rfl rfl fun h' next' hk=> ?_
    have e1:(args.toList.map ρ++caps).map (pk h)=(args.toList.map ρ++caps).map (pk h'):=bC fun a ha=>uI fun i hi=>(hk i (bt.2 ⟨a,ha,hi⟩)).symm
    refine⟨⟨r',h',next',tl,p++[PureC P f a' r' []]⟩, ?_,rfl,rfl,rfl,rfl,rfl⟩
    rw[back]
    unfold pK
    simp only[hb,aO, <-e1,hp,aM]
theorem sc{op:Op}{ρ:Operand->AV}{h:Nat->Option Blk}{next:Nat}{orc:List Orc}{r:Res}(hc:cV P op= .write):(d7 P op ρ h next orc r).nw=true->(d7 P op ρ h next orc r).all=false->next∈(d7 P op ρ h next orc r).wr:=by
 unfold d7
 rw[hc]
 simp only
 cases op with
 |store t x y=>
  simp only
  generalize ρ x=v
  cases v with
  |bptr id off=>intro h;cases h
  |eptr id g m i j=>
   simp only
   cases fl h (cG (ρ y)) with
   |true=>intro h;cases h
   |false=>intro _ h;cases h
  |_=>intro _ h;cases h
 |call c=>
  obtain⟨callee,args,at_⟩:=c
  cases callee with
  |builtin b=>
   cases b with
   |append=>
    simp only
    generalize args.toList.map ρ=l
    split
    ·intro _ _;exact aB.2 rfl
    ·intro h;cases h
    ·intro _ h;cases h
   |_=>intro _ h;cases h
  |_=>intro _ h;cases h
 |_=>intro _ h;cases h
theorem pN{cx:Cx}{md:Bool}{call:cI}{o:Oper}{env:Nat->AV}{a:Act}{orc:List Orc}{next:Nat}{r:Res}(hcl:jb o.op (bY env) orc=true)(h:evD P md call o.op (bY env) cx.H next orc=some r)(hp: ∀p∈r.cs,p)(hc:CRep cx)
  (henv: ∀t,Rep cx (env t) (a.tmps.getD t undef))(hfree: ∀i,next<=i->i<r.next->cx.H i=none)
  {K:Act->World->Prop}{Q:Exit->Act->World->Prop}(hK: ∀cx' z,cx'.H=r.heap->CRep cx'->Stab cx cx'->Rep cx' r.v z->NewIds cx.H next r.heap r.next->K (a.put o.dst z) cx'.w):o.wp P a cx.w K Q:=by
 unfold evD at h
 rw[hcl] at h
 simp only[aO] at h
 have hcls:cV P o.op= .call:=by
  obtain⟨fo,args,at_,f,caps,a',r',H',tl,e,_,_⟩:=ma hcl
  rw[e];rfl
 obtain⟨f,avs,vs,h1,_,h3,h4,h5⟩:=fu (cx:=cx) (a:=a) h hcls henv
 unfold nG at h1
 split at h1
 ·rename_i args' res H tl
  obtain⟨h6,h7⟩:=aE h1
  obtain⟨p,hp',rfl⟩:=ac.1 h7
  rw[au] at h6
  refine h5 K Q ?_ ((pO h6.2 hp' (fun x hx=>hp x (by simp[hx])) (hp (PureC P f args' res H) (by simp)) hc (fun i i1 i2=>hfree i i1 i2) vs h3 h4).mono ?_)
  ·have h8:=h6.1
   unfold ki at h8
   split at h8
   ·rename_i fn hfn
    simp only[au,fD,aa] at h8
    exact⟨fn,hfn,h8.1,h8.2⟩
   ·cases h8
  ·rintro e w' ⟨z,cx',rfl,rfl,m3,m4,m5,m6,m7⟩
   exact⟨z,rfl,hK cx' z m3 m4 m5 m6 m7⟩
 ·cases h1
theorem mv{cx:Cx}{md:Bool}{call:cI}{o:Oper}{env:Nat->AV}{a:Act}{orc:List Orc}{next:Nat}{r:Res}(hcp:i9 o.op (bY env) orc=true)(h:evD P md call o.op (bY env) cx.H next orc=some r)(hp: ∀p∈r.cs,p)(hc:CRep cx)
  (henv: ∀t,Rep cx (env t) (a.tmps.getD t undef))
  {K:Act->World->Prop}{Q:Exit->Act->World->Prop}(hK: ∀cx' z,cx'.H=r.heap->CRep cx'->Stab cx cx'->Rep cx' r.v z->r.heap=cx.H->r.next=next->K (a.put o.dst z) cx'.w):o.wp P a cx.w K Q:=by
 unfold evD at h
 rw[xG hcp,hcp] at h
 simp only[aO,bb] at h
 obtain⟨f,avs,vs,h1,_,h3,h4,h5⟩:=fu (cx:=cx) (a:=a) h (vk hcp) henv
 unfold pK at h1
 split at h1
 ·rename_i args' res tl
  obtain⟨h6,h7⟩:=aE h1
  obtain⟨p,hp',rfl⟩:=ac.1 h7
  rw[au] at h6
  refine h5 K Q ?_ ((pJ h6.2 hp' (fun x hx=>hp x (by simp[hx])) (hp (PureC P f args' res []) (by simp)) hc vs h3 h4).mono ?_)
  ·have h8:=h6.1
   unfold ki at h8
   split at h8
   ·rename_i fn hfn
    simp only[au,fD,aa] at h8
    exact⟨fn,hfn,h8.1,h8.2⟩
   ·cases h8
  ·rintro e w' ⟨z,cx',rfl,rfl,m3,m4,m5,m6⟩
   exact⟨z,rfl,hK cx' z m3 m4 m5 m6 rfl rfl⟩
 ·cases h1
theorem pL{cx:Cx}{md:Bool}{call:cI}{o:Oper}{env:Nat->AV}{a:Act}{orc:List Orc}{next:Nat}{r:Res}(hcm:ja o.op (bY env) orc=true)(h:evD P md call o.op (bY env) cx.H next orc=some r)(hp: ∀p∈r.cs,p)(hc:CRep cx)
  (henv: ∀t,Rep cx (env t) (a.tmps.getD t undef))(hfree: ∀i,next<=i->i<r.next->cx.H i=none)
  {K:Act->World->Prop}{Q:Exit->Act->World->Prop}(hK: ∀cx' z,cx'.H=r.heap->CRep cx'->Stab cx cx'->Rep cx' r.v z->NewIds cx.H next r.heap r.next->K (a.put o.dst z) cx'.w):o.wp P a cx.w K Q:=by
 unfold evD at h
 rw[(rF hcm).1,(rF hcm).2,hcm] at h
 simp only[aO,bb] at h
 obtain⟨f,avs,vs,h1,_,h3,h4,h5⟩:=fu (cx:=cx) (a:=a) h (pu hcm) henv
 unfold v3 at h1
 split at h1
 ·rename_i args' H0 rr res H1 tl
  unfold kL at h1
  obtain⟨h6,h7⟩:=aE h1
  obtain⟨p,hp',rfl⟩:=ac.1 h7
  simp only[au] at h6
  refine h5 K Q (ed h6.1) ((pM h6.2.1 h6.2.2.1 h6.2.2.2.1 (aj h6.2.2.2.2) hp' (fun x hx=>hp x (by simp[hx])) (hp (MutC P f args' H0 res H1) (by simp)) hc (fun i i1 i2=>hfree i i1 i2) vs h3 h4).mono ?_)
  rintro e w' ⟨z,cx',rfl,rfl,m3,m4,m5,m6,m7⟩
  exact⟨z,rfl,hK cx' z m3 m4 m5 m6 m7⟩
 ·cases h1
end
end
section
open Go.RowKit
section
variable{P:Program}
structure SeqD(P:Program)(T:Nat->Tch)(md:Bool)(call:cI)(nt:Nat)(ops:Array Oper)(st:St)(D:Nat->DS):Prop where
 st0:(D 0).st=st
 tr0:(D 0).tr=[]
 step: ∀j,j<ops.size-> ∃q,qX P md call nt ops (jN ops) j (D j)=some (D (j+1),q)∧ ∀p∈q,p
 tr: ∀j,j<ops.size->(D (j+1)).tr=(j,T j)::(D j).tr
 lt: ∀i,(st.heap i).isSome=true->i<st.next
variable{T:Nat->Tch}{md:Bool}{call:cI}{nt:Nat}{ops:Array Oper}{st:St}{D:Nat->DS}
theorem SeqD.env_step(h:SeqD P T md call nt ops st D){j:Nat}{o:Oper}(ho:ops[j]? =some o): ∃v,(D (j+1)).st.env=gC (D j).st.env o.dst v:=by
 have hj:j<ops.size:=(aN.1 ho).1
 obtain⟨q,hq,_⟩:=h.step j hj
 obtain⟨o',g,h0,_,_,h1⟩:=jU hq
 obtain rfl:o=o':=by rw[ho] at h0;exact Option.some.inj h0
 rcases h1 with⟨_,he,_⟩|⟨_,r,_,_,he,_⟩
 ·exact⟨_,he⟩
 ·exact⟨_,he⟩
theorem i5{env:Nat->AV}{dst:Option Tmp}{v:AV}{t:Tmp}(h:dst≠some t):gC env dst v t=env t:=by
 cases dst with
 |none=>rfl
 |some d=>exact aQ _ _ _ _ fun e=>h (by rw[e])
theorem iv{env:Nat->AV}{dst:Option Tmp}{v:AV}{t:Tmp}(h:dst=some t):gC env dst v t=v:=by
 subst h
 exact aY _ _ _
theorem SeqD.env_keep(h:SeqD P T md call nt ops st D){t:Tmp}{a:Nat}: ∀(b:Nat),a<=b->b<=ops.size->(∀j o,a<=j->j<b->ops[j]? =some o->o.dst≠some t)->(D b).st.env t=(D a).st.env t
 |0,h1,h2,h3=>by
  obtain rfl:a=0:=by omega
  rfl
 |b+1,h1,h2,h3=>by
  by_cases e:a=b+1
  ·subst e;rfl
  ·rw[<-h.env_keep b (by omega) (by omega) fun j o j1 j2 j3=>h3 j o j1 (by omega) j3]
   have hb:b<ops.size:=by omega
   obtain⟨v,hv⟩:=h.env_step (ao hb)
   rw[hv]
   exact i5 (h3 b _ (by omega) (by omega) (ao hb))
theorem SeqD.mem(h:SeqD P T md call nt ops st D){k:Nat}: ∀(j:Nat),j<=ops.size->k<j->(k,T k)∈(D j).tr
 |0,_,hk=>by omega
 |j+1,hj,hk=>by
  rw[h.tr j (by omega)]
  by_cases e:k=j
  ·subst e;exact d4 ..
  ·exact bG _ (h.mem j (by omega) (by omega))
def fQ(t:Tch)(id:Nat):Prop:=t.all=true∨id∈t.wr
def zK(t:Tch)(id:Nat):Prop:=t.all=true∨id∈t.wr∨id∈t.rd
theorem iw{l l':List Nat}{x:Nat}(h1:x∈l)(h2:x∈l'):pi l l'=true:=
 List.any_eq_true.2 ⟨x,h1,List.any_eq_true.2 ⟨x,h2,cy x⟩⟩
theorem wc{t:Tch}{id:Nat}(h:zK t id):t.any=true:=by
 unfold Tch.any
 rcases h with h |h |h
 ·rw[h];rfl
 ·cases hw:t.wr with
  |nil=>rw[hw] at h;cases h
  |cons a l=>simp
 ·cases hw:t.rd with
  |nil=>rw[hw] at h;cases h
  |cons a l=>simp
theorem qF{a b:Tch}{id:Nat}(h1:fQ a id)(h2:zK b id):cfl a b=true∧cfl b a=true:=by
 have ha:=wc (id:=id) (t:=a) (h1.imp_right .inl)
 have hb:=wc h2
 unfold cfl
 rcases h1 with h1 |h1
 ·rw[h1,hb]
  constructor<;>simp
 ·rcases h2 with h2 |h2 |h2
  ·rw[h2,ha]
   constructor<;>simp
  ·have e1:=iw h1 h2
   have e2:=iw h2 h1
   rw[e1,e2]
   constructor<;>simp
  ·have e1:=iw h1 h2
   have e2:=iw h2 h1
   rw[e1,e2]
   constructor<;>simp
theorem SeqD.at_(h:SeqD P T md call nt ops st D){i:Nat}(hi:i<ops.size): ∃o g,ops[i]? =some o∧mo nt o.dst=true∧gh ops o (D i).st.env (D i).orc=some g∧
  ((g.1=false∧(D (i+1)).st.env=gC (D i).st.env o.dst tX∧(D (i+1)).st.heap=(D i).st.heap∧(D (i+1)).st.next=(D i).st.next∧T i=mN∧ ∀p∈g.2.2,p)∨
   (g.1=true∧ ∃r,evD P md call o.op (bY (D i).st.env) (D i).st.heap (D i).st.next g.2.1=some r∧(∀p∈g.2.2,p)∧(∀p∈r.cs,p)∧(D (i+1)).st.env=gC (D i).st.env o.dst r.v∧(D (i+1)).st.heap=r.heap∧(D (i+1)).st.next=r.next∧
   T i=d7 P o.op (bY (D i).st.env) (D i).st.heap (D i).st.next g.2.1 r))∧ ∀k,k<i->cfl (T i) (T k)=true->((jN ops).getD i 0).testBit k=true:=by
 obtain⟨q,hq,hp⟩:=h.step i hi
 obtain⟨o,g,ho,hd,hg,h1⟩:=jU hq
 have ht:=h.tr i hi
 refine⟨o,g,ho,hd,hg, ?_⟩
 rcases h1 with⟨e1,e2,e3,e4,e5,rfl⟩|⟨e1,r,e2,rfl,e3,e4,e5,e6,e7⟩
 ·rw[ht] at e5
  simp only[e9,Prod.mk.injEq,true_and,and_true] at e5
  refine⟨.inl ⟨e1,e2,e3,e4,e5,hp⟩,fun k hk hc=> ?_⟩
  rw[e5] at hc
  unfold cfl mN Tch.any pi at hc
  simp at hc
 ·rw[ht] at e6
  simp only[e9,Prod.mk.injEq,true_and,and_true] at e6
  refine⟨.inr ⟨e1,r,e2,fun p hp'=>hp p (bW _ hp'),fun p hp'=>hp p (bN _ hp'),e3,e4,e5,e6⟩,fun k hk hc=>e7 k _ (h.mem i (by omega) hk) (by rw[<-e6];exact hc)⟩
theorem SeqD.stays(h:SeqD P T md call nt ops st D){i id:Nat}(hi:i<ops.size)(hn: ¬fQ (T i) id):(D (i+1)).st.heap id=(D i).st.heap id:=by
 obtain⟨o,g,ho,hd,hg,h1,_⟩:=h.at_ hi
 rcases h1 with⟨_,_,e3,_⟩|⟨_,r,e2,_,_,_,e4,_,e6⟩
 ·rw[e3]
 ·rw[e4]
  have ha:(T i).all=false:=by
   cases hx:(T i).all with
   |false=>rfl
   |true=>exact absurd (.inl hx) hn
  rw[e6] at ha
  exact(ox e2 ha).old id fun hm=>hn (.inr (by rw[e6];exact hm))
theorem SeqD.keepId(h:SeqD P T md call nt ops st D){a id:Nat}: ∀(b:Nat),a<=b->b<=ops.size->(∀j,a<=j->j<b-> ¬fQ (T j) id)->(D b).st.heap id=(D a).st.heap id
 |0,h1,h2,h3=>by
  obtain rfl:a=0:=by omega
  rfl
 |b+1,h1,h2,h3=>by
  by_cases e:a=b+1
  ·subst e;rfl
  ·rw[h.stays (by omega) (h3 b (by omega) (by omega))]
   exact h.keepId b (by omega) (by omega) fun j j1 j2=>h3 j j1 (by omega)
def Bnd(s:DS):Prop:= ∀id,(s.st.heap id).isSome=true->id<s.st.next
theorem SeqD.bnd_step(h:SeqD P T md call nt ops st D){i:Nat}(hi:i<ops.size)(ha:(T i).all=false)(hb:Bnd (D i)):Bnd (D (i+1)):=by
 obtain⟨o,g,ho,hd,hg,h1,_⟩:=h.at_ hi
 rcases h1 with⟨_,_,e3,e4,_⟩|⟨_,r,e2,_,_,_,e4,e5,e6⟩
 ·intro id hid
  rw[e4];rw[e3] at hid
  exact hb id hid
 ·rw[e6] at ha
  have L:=ox e2 ha
  intro id hid
  rw[e5];rw[e4] at hid
  by_cases hw:id∈(d7 P o.op (bY (D i).st.env) (D i).st.heap (D i).st.next g.2.1 r).wr
  ·rcases L.wrs id hw with h2 |h2
   ·exact a6 (hb id h2) L.le
   ·exact h2.2
  ·rw[L.old id hw] at hid
   exact a6 (hb id hid) L.le
theorem SeqD.bnd(h:SeqD P T md call nt ops st D){a:Nat}(hb:Bnd (D a)): ∀(b:Nat),a<=b->b<=ops.size->(∀j,a<=j->j<b->(T j).all=false)->Bnd (D b)
 |0,h1,h2,h3=>by
  obtain rfl:a=0:=by omega
  exact hb
 |b+1,h1,h2,h3=>by
  by_cases e:a=b+1
  ·subst e;exact hb
  ·exact h.bnd_step (by omega) (h3 b (by omega) (by omega)) (h.bnd hb b (by omega) (by omega) fun j j1 j2=>h3 j j1 (by omega))
theorem vi(Q:Nat->Prop)[DecidablePred Q]: ∀n,(∃k,k<n∧Q k∧ ∀j,j<n->Q j->j<=k)∨ ∀k,k<n-> ¬Q k
 |0=> .inr fun k hk=>by omega
 |n+1=>by
  by_cases h:Q n
  ·exact .inl ⟨n,by omega,h,fun j hj _=>by omega⟩
  ·rcases vi Q n with⟨k,k1,k2,k3⟩|h2
   ·refine .inl ⟨k,by omega,k2,fun j hj hq=> ?_⟩
    by_cases e:j=n
    ·rw[e] at hq;exact absurd hq h
    ·exact k3 j (by omega) hq
   ·refine .inr fun k hk hq=> ?_
    by_cases e:k=n
    ·rw[e] at hq;exact h hq
    ·exact h2 k (by omega) hq
theorem fV{bs:List Nat}(h:fc ops bs=true){i:Nat}{o:Oper}(ho:ops[i]? =some o): ∀e∈o.after.toList,Region.binds .any e=true->e.on<i:=by
 unfold fc at h
 have hi:i<ops.size:=(aN.1 ho).1
 have:=aL.1 h i (cM.2 hi)
 rw[ho] at this
 simp only[au] at this
 intro e he hb
 have h1:=aL.1 this.1 e he
 rw[hb] at h1
 simp only[Bool.not_true,cZ] at h1
 exact bA▸h1
theorem fU{bs:List Nat}(h:fc ops bs=true){i k d:Nat}{o p:Oper}(ho:ops[i]? =some o)(hp:ops[k]? =some p)(hd:p.dst=some d):
  (k=i∨o.dst≠some d)∧(d∈gR o ops->k=i∨(k<i∧(bs.getD i 0).testBit k=true)∨(¬k<i∧(bs.getD k 0).testBit i=true)):=by
 unfold fc at h
 have hi:i<ops.size:=(aN.1 ho).1
 have hk:k<ops.size:=(aN.1 hp).1
 have:=aL.1 h i (cM.2 hi)
 rw[ho] at this
 simp only[au] at this
 have h2:=aL.1 this.2 k (cM.2 hk)
 rw[hp] at h2
 simp only[hd,au] at h2
 refine⟨?_,fun hm=> ?_⟩
 ·have h3:=h2.1
  rw[fa,Nat.beq_eq] at h3
  exact h3.imp id fun h4=>by simpa using h4
 ·have h3:=aL.1 h2.2 d hm
  simp only[fa,Nat.beq_eq,fD] at h3
  rcases h3 with(h3 |h3)|h3
  ·exact absurd h3 (by simp)
  ·exact .inl h3
  ·by_cases hlt:k<i
   ·have:Nat.blt k i=true:=by rw[bA];exact hlt
    rw[this] at h3
    exact .inr (.inl ⟨hlt,h3⟩)
   ·have:Nat.blt k i=false:=by
     cases hb:Nat.blt k i with
     |false=>rfl
     |true=>rw[bA] at hb;exact absurd hb hlt
    rw[this] at h3
    exact .inr (.inr ⟨hlt,h3⟩)
def Up(listed:Array Bool)(k:Nat):Prop:=listed.getD k false=true
structure Closed (ops:Array Oper) (listed:Array Bool):Prop where
 sz:listed.size=ops.size
 cl: ∀(k:Nat) o,ops[k]? =some o->Up listed k-> ∀e∈o.after.toList,Region.binds .any e=true->Up listed e.on
theorem Dd{listed:Array Bool}{k:Nat}(h:Up listed k):k<listed.size:=by
 rcases mF k listed.size with h' |h'
 ·exact h'
 ·simp[Up,mH h'] at h
theorem dm{listed:Array Bool}{i k:Nat}(hi:i<listed.size):Up (listed.setIfInBounds i true) k↔k=i∨Up listed k:=by
 unfold Up
 by_cases e:i=k
 ·subst e
  simp[hi]
 ·rw[getD_set_ne false e]
  constructor
  ·exact .inr
  ·rintro(h |h)
   ·exact absurd h.symm e
   ·exact h
theorem Closed.bef{listed:Array Bool}(h:Closed ops listed)(hs:fc ops (jN ops)=true): ∀(k:Nat),Up listed k-> ∀i,((jN ops).getD k 0).testBit i=true->Up listed i:=by
 intro k
 induction k using Nat.strongRecOn with
 |_ k ih=>
  intro hk i hb
  have hlt:k<ops.size:=by rw[<-h.sz];exact Dd hk
  have ho:=ao hlt
  obtain⟨e,h1,h2,h3⟩:=v9 ho (fV hs ho) hb
  have hu:=h.cl k _ ho hk e h1 h2
  rcases h3 with rfl |h3
  ·exact hu
  ·exact ih e.on (fV hs ho e h1 h2) hu i h3
theorem Closed.ready{listed:Array Bool}(h:Closed ops listed){i:Nat}(hr:i∈Region.ready .any ops listed): ¬Up listed i∧i<ops.size∧Closed ops (listed.setIfInBounds i true):=by
 obtain⟨h0,o,ho,hall⟩:=mem_ready.1 hr
 have hi:i<ops.size:=(aN.1 ho).1
 have hi':i<listed.size:=by rw[h.sz];exact hi
 refine⟨fun hu=> ?_,hi,⟨by rw[Array.size_setIfInBounds];exact h.sz,fun k o' ho' hu e he hb=> ?_⟩⟩
 ·unfold Up at hu
  rw[aU,ao hi'] at hu h0
  simp only[bE] at hu h0
  rw[hu] at h0;cases h0
 ·rw[dm hi'] at hu ⊢
  rcases hu with rfl |hu
  ·rw[ho] at ho'
   cases ho'
   exact .inr (hall e (by simpa using he) hb)
  ·exact .inr (h.cl k o' ho' hu e he hb)
theorem Closed.done{listed:Array Bool}(h:Closed ops listed)(hs:fc ops (jN ops)=true)(hr:Region.ready .any ops listed=[]): ∀k,k<ops.size->Up listed k:=by
 intro k
 induction k using Nat.strongRecOn with
 |_ k ih=>
  intro hk
  by_cases hu:Up listed k
  ·exact hu
  ·exfalso
   have ho:=ao hk
   have hk':k<listed.size:=by rw[h.sz];exact hk
   have:k∈Region.ready .any ops listed:=by
    refine mem_ready.2 ⟨?_,_,ho,fun e he hb=> ?_⟩
    ·unfold Up at hu
     rw[aU,ao hk'] at hu ⊢
     simpa using hu
    ·have hlt:=fV hs ho e (by simpa using he) hb
     exact ih e.on hlt (by omega)
   rw[hr] at this
   cases this
theorem vS{l:List Nat}{p p':Nat->Bool}{i:Nat}(hi:i∈l)(h1:p i=true)(h2:p' i=false)(hm: ∀x,p' x=true->p x=true):l.countP p'<l.countP p:=by
 induction l with
 |nil=>cases hi
 |cons a l ih=>
  rw[List.countP_cons,List.countP_cons]
  have hle:l.countP p'<=l.countP p:=List.countP_mono_left fun x _ h=>hm x h
  rcases bL.1 hi with rfl |hi
  ·rw[h1,h2];simp;omega
  ·have:=ih hi
   have h3:(if p' a=true then 1 else 0)<=(if p a=true then 1 else 0):=by
    by_cases e:p' a=true
    ·rw[ai e,ai (hm a e)];omega
    ·rw[af e];omega
   omega
end
end
end Go.Proofs.Ytdanmboalfmifaa.Rx
