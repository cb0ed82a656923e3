import Derived.Test.YtdanmboalfmifaaMcA
import Derived.Lib.AppendZeros
import Derived.LoopN
import Derived.RangeFuncNested
set_option linter.unusedVariables false
set_option linter.unusedSimpArgs false
set_option maxRecDepth 100000
namespace Go.Proofs.Ytdanmboalfmifaa.Rx
section
open Go.RowKit
def yu(P:Program)(o:Oper)(a:Act)(cx:Cx)(next:Nat)(r:Res):Prop:=
 ∃n z cx',(execOp a.eval o).run P cx.w= .ok n cx'.w∧(n= .value z∨n= .skip∧z=undef)∧cx'.H=r.heap∧CRep cx'∧Stab cx cx'∧Rep cx' r.v z∧NewIds cx.H next r.heap r.next
def DoneM(P:Program)(o:Oper)(a:Act)(cx:Cx)(next:Nat)(r:Res):Prop:=
 ∃n z cx',(execOp a.eval o).run P cx.w= .ok n cx'.w∧(n= .value z∨n= .skip∧z=undef)∧cx'.H=r.heap∧CRep cx'∧Stab cx cx'∧Rep cx' r.v z∧NewIds cx.H next r.heap r.next∧ ∀g,g<cx.w.heap.size->cx'.w.heap[g]? =cx.w.heap[g]?
section
variable{P:Program}{cx:Cx}
theorem ee(w:World)(o:Obj){g:Nat}(hg:g<w.heap.size):(w.alloc o).heap[g]? =w.heap[g]? :=by
 show(w.heap.push o)[g]? =_
 rw[Array.getElem?_push,af (by omega)]
theorem RL.zeros{z:List AV}{zc:Array Value}(h:RL cx z zc)(n:Nat)(h0:0<zc.size):RL cx ((List.range n).map fun k=>z.getD (k%zc.size) .junk) ((Array.range n).map fun k=>zc[k%zc.size]!):=by
 have hx: ∀(j:Nat) v,((Array.range n).map fun k=>zc[k%zc.size]!)[j]? =some v->j<n∧zc[j%zc.size]? =some v:=by
  intro j v hv
  rw[d6] at hv
  obtain⟨k,hk,rfl⟩:=ac.1 hv
  obtain⟨hk1,hk2⟩:=aN.1 hk
  simp at hk1 hk2
  subst hk2
  have hlt:=Nat.mod_lt j h0
  exact⟨hk1,by simp[hlt]⟩
 refine⟨by simp,fun j v hv=>h.one _ v (hx j v hv).2,fun j x v hx' hv=> ?_⟩
 obtain⟨h1,h2⟩:=hx j v hv
 rw[aH] at hx'
 obtain⟨k,hk,rfl⟩:=ac.1 hx'
 obtain⟨hk1,hk2⟩:=az.1 hk
 simp at hk1 hk2
 subst hk2
 have hlt:j%zc.size<z.length:=by rw[h.len];exact Nat.mod_lt j h0
 rw[aq,aD hlt]
 exact h.rep _ _ v (by simp[hlt]) h2
structure RLP (w:World) (R:Nat->Prop) (xs:List AV) (vs:Array Value):Prop where
 len:xs.length=vs.size
 one: ∀(j:Nat) v,vs[j]? =some v->v.oneCell'=true
 rep: ∀(j:Nat) a v,xs[j]? =some a->vs[j]? =some v->RepP w R a v
theorem pS{w:World}{R:Nat->Prop}{zc:Array Value}{n:Nat}(h1: ∀(j:Nat) v,zc[j]? =some v->v.oneCell'=true)(h0:0<zc.size):RLP w R ((List.range n).map fun k=>(zc.toList.map AV.ofCell).getD (k%zc.size) .junk) ((Array.range n).map fun k=>zc[k%zc.size]!):=by
 have hx: ∀(j:Nat) v,((Array.range n).map fun k=>zc[k%zc.size]!)[j]? =some v->j<n∧zc[j%zc.size]? =some v:=by
  intro j v hv
  rw[d6] at hv
  obtain⟨k,hk,rfl⟩:=ac.1 hv
  obtain⟨hk1,hk2⟩:=aN.1 hk
  simp at hk1 hk2
  subst hk2
  have hlt:=Nat.mod_lt j h0
  exact⟨hk1,by simp[hlt]⟩
 refine⟨by simp,fun j v hv=>h1 _ v (hx j v hv).2,fun j x v hx' hv=> ?_⟩
 obtain⟨q1,q2⟩:=hx j v hv
 rw[aH] at hx'
 obtain⟨k,hk,rfl⟩:=ac.1 hx'
 obtain⟨hk1,hk2⟩:=az.1 hk
 simp at hk1 hk2
 subst hk2
 rw[aq,aH,bj,q2]
 exact d9 _ _ _
def Cx.pureOf(w:World)(R:Nat->Prop):Cx:=⟨w,R,fun _=>none,fun _=>none,fun _=>False⟩
theorem Rep.pure_inv{w:World}{R:Nat->Prop}{a:AV}{v:Value}(h:Rep (Cx.pureOf w R) a v):RepP w R a v:=by
 induction h with
 |pure h=>exact h
 |bptr hb=>cases hb
 |bsl hb=>cases hb
 |eptr hb=>cases hb
 |own hb=>cases hb
 |agg hl h1 h ih=>exact .agg hl h1 ih
 |tup hl h ih=>exact .tup hl ih
 |clo hl h ih=>exact .clo hl ih
theorem nD{place:Nat->Option (Nat×Nat)}: ∀(pa:List (Nat×AV)) {xs bs:List AV},ij place xs pa=some bs->bs.length=xs.length
 | [],xs,bs,h=>by simp only[ij,ah] at h;rw[h]
 | (i,a)::pa,xs,bs,h=>by
  unfold ij at h
  obtain⟨⟨off,size⟩,hpl,h⟩:=ae.1 h
  simp only at h
  obtain⟨l,hcl,h⟩:=ae.1 h
  obtain⟨u,hgd,h⟩:=ae.1 h
  rw[nD pa h,gU]
theorem vO(hc:CRep cx):CRep ⟨cx.w.drew,cx.R,cx.φ,cx.H,cx.B⟩∧Stab cx ⟨cx.w.drew,cx.R,cx.φ,cx.H,cx.B⟩:=by
 have hs:Stab cx ⟨cx.w.drew,cx.R,cx.φ,cx.H,cx.B⟩:=⟨⟨rfl,fun _ h=>h,fun _ h=> .inl h,rfl,rfl,rfl,aG _,fun _ _ _=>rfl⟩,
  fun id b h=>⟨b,h,fun _=>⟨rfl,sameShape.rfl' b⟩,fun _=>rfl⟩,fun id b b' h h'=>by
   have h':cx.H id=some b':=h'
   rw[h] at h';cases h';exact aG _⟩
 exact⟨⟨fun id b h=>(hc.hb id b h).keep hc hs rfl (fun _ _ _=>rfl) (fun _ _ _ h=>h),hc.inj,hc.rlt,hc.blt⟩,hs⟩
theorem mL{zc:Array Value}{n k j:Nat}(hk:k<n)(hj:j<zc.size):(Builtin.zeroCells zc n)[k*zc.size+j]? =zc[j]? :=by
 have hlt:k*zc.size+j<n*zc.size:=by
  have:(k+1)*zc.size<=n*zc.size:=bn _ hk
  rw[bV] at this
  omega
 rw[show zc[j]? =some zc[j] from ao hj]
 unfold Builtin.zeroCells
 rw[d6]
 simp only[hlt,Array.getElem?_range,if_true,aM,lX hj]
 simp[hj]
theorem tc{md:Bool}{o:Oper}{args:Array Operand}{at_:Array TypeId}{ρ:Operand->AV}{a:Act}{next:Nat}{orc:List Orc}{r:Res}(ho:o.op= .call {callee:= .builtin .append,args:=args,argTypes:=at_})(h:apz P md args at_ ρ cx.H next orc=some r)(hp: ∀p∈r.cs,p)(hc:CRep cx)(hnone:cx.H next=none)
  (hr: ∀x,Rep cx (ρ x) (a.eval x)):DoneM P o a cx next r:=by
 unfold apz at h
 split at h
 ·rename_i x y t t' e1 e2
  have e1':args= #[x,y]:=db.1 e1
  have e2':at_= #[t,t']:=db.1 e2
  subst e1';subst e2'
  split at h
  ·rename_i e k' hu hu'
   split at h
   ·rename_i kn n hx hy
    obtain⟨i,hi,h⟩:=ae.1 h
    obtain⟨z,hz,h⟩:=ae.1 h
    obtain⟨hb,h⟩:=aE h
    rw[bA] at hb
    obtain⟨p,hp',rfl⟩:=ac.1 h
    obtain⟨c0,c1,c2⟩:=bK hp' hp
    obtain⟨i',zv,hi',hzz,hsz,hL,hz'⟩:=dT (cx:=cx) hz
    rw[hi] at hi'
    cases hi'
    have ex:=hr x
    rw[hx] at ex
    have ex:=ex.nils_inv
    have ey:=hr y
    rw[hy] at ey
    have ey:=ey.int_inv
    obtain⟨m,rfl⟩: ∃m:Nat,n=(m:Int):=⟨n.toNat,by omega⟩
    rw[aK]
    rw[<-Int.natCast_mul] at c1
    have hrun:=Lib.run_append_nil_zeros (P:=P) cx.w t t' o.type e i zv kn k' hu hu' hi hzz m (by omega) hb (by omega) (by omega)
    have hge:=grownCap_ge cx.w m 0 e
    have hle:=grownCap_le_maxLen cx.w m 0 e (by simp only[maxLen];omega)
    obtain⟨d1,d2⟩:=vO hc
    obtain⟨k1,k2,k3⟩:=mE (cx:=⟨cx.w.drew,cx.R,cx.φ,cx.H,cx.B⟩) (cur:=Builtin.zeroCells zv.cells m++Builtin.zeroCells zv.cells (grownCap cx.w m 0 e-m)) (e:=e) (id:=next) (m:=i.size) (n:=m) (cap:=grownCap cx.w m 0 e) (f:=fun _ j=>z.getD j .junk) d1 hnone
     (by rw[Array.size_append,size_zeroCells,size_zeroCells,hsz, <-bV];congr 1;omega) hge hle (fun k hk j hj=>by
     have hj':j<zv.cells.size:=by omega
     have hlt:k*i.size+j<(Builtin.zeroCells zv.cells m).size:=by
      rw[size_zeroCells,hsz]
      have:(k+1)*i.size<=m*i.size:=bn _ hk
      rw[bV] at this
      omega
     refine⟨zv.cells[j], ?_,hL.one _ _ (ao hj'), ?_⟩
     ·rw[Array.getElem?_append_left hlt, <-hsz,mL hk hj']
      exact ao hj'
     ·rw[hz',aq,aH,bj,show zv.cells[j]? =some zv.cells[j] from ao hj']
      exact d9 _ _ _)
    refine⟨.value (.slice (some ⟨cx.w.heap.size,0,none⟩) m (grownCap cx.w m 0 e)),_,_, ?_,.inl rfl,rfl,k1,d2.trans k2,k3,fp,fun g hg=>ee _ _ hg⟩
    have hrun2:(Builtin.append_ #[t,t'] o.type #[a.eval x,a.eval y]).run P cx.w= .ok (.slice (some ⟨cx.w.heap.size,0,none⟩) m (grownCap cx.w m 0 e)) (cx.w.drew.alloc (.cells (Builtin.zeroCells zv.cells m++Builtin.zeroCells zv.cells (grownCap cx.w m 0 e-m)) e)):=by rw[ex,ey];exact hrun
    simp only[execOp,ho,resolve,invoke,builtin,Sem.run_bind,Sem.run_pure,Result.andThen_ok,List.map_toArray,List.map_cons,List.map_nil,hrun2]
    rfl
   ·cases h
  ·cases h
 ·cases h
theorem qC{o:Oper}{ρ:Operand->AV}{a:Act}{next:Nat}{orc:List Orc}{r:Res}(h:mj P o.op ρ cx.H next orc=some r)(hc:CRep cx)(hnone:cx.H next=none)
  (hr: ∀x,Rep cx (ρ x) (a.eval x)):DoneM P o a cx next r:=by
 unfold mj at h
 split at h
 ·rename_i t len parts ho
  split at h
  ·rename_i e hu
   obtain⟨s,hs,h⟩:=ae.1 h
   obtain⟨hb,h⟩:=aE h
   simp only[au,bA,dZ] at hb
   obtain⟨z,hz,h⟩:=ae.1 h
   obtain⟨cs,hcs,rfl⟩:=ac.1 h
   obtain⟨i,zv,hi,hzz,hsz,hL,hz'⟩:=dT (cx:=cx) hz
   have hsi:i.size=s:=by simpa [dU,hi] using hs
   subst hsi
   have hzR:RL cx ((List.range (len*i.size)).map fun k=>z.getD (k%i.size) .junk) ((Array.range (len*i.size)).map (zv.cells[·%zv.cells.size]!)):=by
    have:=hL.zeros (len*i.size) (by omega)
    rw[hsz] at this
    rw[hsz]
    exact this
   obtain⟨us,h1,h2⟩:=fI (cx:=cx) (parts.toList.map fun p=>(p.1,ρ p.2)) (parts.map fun(i,x)=>(i,a.eval x)).toList hcs hzR (by simp) (fun j p q hp' hq'=>by
    simp only[aH,kZ,bj] at hp' hq'
    cases hj:parts[j]? with
    |none=>rw[hj] at hp';cases hp'
    |some y=>
     rw[hj] at hp' hq'
     simp only[aM,ah] at hp' hq'
     subst hp';subst hq'
     exact⟨rfl,hr y.2⟩)
   obtain⟨k1,k2,k3⟩:=oC hc (e:=e) hnone h2
   have hpos: ¬len*i.size=0:=by have:=Nat.mul_pos hb.1.2 hb.1.1;omega
   refine⟨.value (.slice (some ⟨cx.w.heap.size,0,none⟩) len len),_,cx.add us next 1 ⟨0,false,e,.box cs⟩, ?_,.inl rfl,rfl,k1,k2, ?_,fp,fun g hg=>ee _ _ hg⟩
   ·simp[execOp,ho,run_buildSlice cx.w t e len _ us i zv hu hi hzz (by omega) hpos h1,Cx.add]
   ·exact .bsl (cap:=1) (aY _ _ _) rfl (aY _ _ _)
  ·cases h
 ·cases h
theorem iW{md:Bool}{o:Oper}{ρ:Operand->AV}{a:Act}{next:Nat}{orc:List Orc}{r:Res}(h:bZ P md o.op ρ cx.H next orc=some r)(hp: ∀p∈r.cs,p)(hc:CRep cx)(hnone:cx.H next=none)
  (hr: ∀x,Rep cx (ρ x) (a.eval x)):DoneM P o a cx next r:=by
 unfold bZ at h
 split at h
 ·rename_i e ho
  obtain⟨z,hz,rfl⟩:=ac.1 h
  obtain⟨i,zv,hi,hzz,hsz,hL,_⟩:=dT (cx:=cx) hz
  obtain⟨k1,k2,k3⟩:=oC hc (e:=e) hnone hL
  refine⟨_,_,_, ?_,.inl rfl,rfl,k1,k2,k3,fp,fun g hg=>ee _ _ hg⟩
  simp[execOp,ho,Instr.alloc,zeroValue,typeInfo,hi,hzz,newVar,newRow,Cx.add]
 ·rename_i e x ho
  obtain⟨cs,hcs,rfl⟩:=ac.1 h
  obtain⟨k1,k2,k3⟩:=oC hc (e:=e) hnone (RL.of hcs (hr x))
  have hexec:(execOp a.eval o).run P cx.w= .ok (.value (.pointer (some ⟨cx.w.heap.size,0,none⟩))) (cx.add (a.eval x).cells next 1 ⟨0,false,e,.box cs⟩).w:=by
   simp[execOp,ho,Instr.box,newVar,newRow,Cx.add]
  cases hfz:fzO orc&&cs.all es with
  |false=>
   unfold v6
   simp only[bb]
   exact⟨_,_,_,hexec,.inl rfl,rfl,k1,k2,k3,fp,fun g hg=>ee _ _ hg⟩
  |true=>
   rw[au] at hfz
   unfold v6
   simp only[aO]
   obtain⟨cx3,f1,hc3,hs3,f2,f3,f4,f5⟩:=dl [next] k1
   have hb3:(cx.add (a.eval x).cells next 1 ⟨0,false,e,.box cs⟩).H next=some ⟨0,false,e,.box cs⟩:=aY _ _ _
   have hptr:RepP cx3.w cx3.R (.rptr cs.length (fun q=>cs.getD q .junk) 0) (.pointer (some ⟨cx.w.heap.size,0,none⟩)):=by
    have:=iC hc3 (H0:=(cx.add (a.eval x).cells next 1 ⟨0,false,e,.box cs⟩).H) (fun id b hb'=>by rw[f1];exact cH _ _ _ _ hb') (k3.stab k1 hs3) (fun id hid b g c hb' hg=>by
     obtain⟨b0,hb0⟩:=aC.1 (f5 id (by rw[hb'];rfl))
     exact f4 id b0 g c hid hb0 (by rw[<-f3];exact hg))
    have hfr:frz (cx.add (a.eval x).cells next 1 ⟨0,false,e,.box cs⟩).H (.bptr next 0)= .rptr cs.length (fun q=>cs.getD q .junk) 0:=by
     have e0: ∀(H:Nat->Option Blk) (id off:Nat),frz H (.bptr id off)=eM H (.bptr id off):=fun _ _ _=>by unfold frz;rfl
     rw[e0]
     unfold eM
     simp only[hb3]
     rw[hfz.2]
     rfl
    rw[hfr] at this
    exact this
   refine⟨_,_,cx3,by rw[f2];exact hexec,.inl rfl, ?_,hc3,k2.trans hs3,.pure hptr, ?_,fun g hg=>by rw[f2];exact ee _ _ hg⟩
   ·rw[f1]
    simp only[ci,hb3]
    show upd (upd cx.H next _) next _=upd cx.H next _
    funext k
    by_cases hkn:k=next
    ·subst hkn;rw[aY,aY]
    ·rw[aQ _ _ _ _ hkn,aQ _ _ _ _ hkn,aQ _ _ _ _ hkn]
   ·exact fp
 ·rename_i t len parts ho
  split at h
  ·rename_i e hu
   obtain⟨s,hs,h⟩:=ae.1 h
   obtain⟨hb,h⟩:=aE h
   rw[au,bA,dZ] at hb
   obtain⟨z,hz,h⟩:=ae.1 h
   obtain⟨cs,hcs,rfl⟩:=ac.1 h
   obtain⟨i,zv,hi,hzz,hsz,hL,hz'⟩:=dT (cx:=cx) hz
   have hsi:i.size=s:=by simpa [dU,hi] using hs
   subst hsi
   obtain⟨cx1,e1,hc1,hs1,e2,e3,e4,e5⟩:=dl (parts.toList.flatMap fun p=>cG (ρ p.2)) hc
   have hpure: ∀(x:Operand) (p:Nat×Operand),p∈parts.toList->x=p.2->RepP cx1.w cx1.R (frz cx.H (ρ x)) (a.eval x):=by
    intro x p hpm hx
    refine iC hc1 (fun id b hb'=>by rw[e1];exact cH _ _ _ _ hb') ((hr x).stab hc hs1) fun id hid b g c hb' hg=> ?_
    obtain⟨b0,hb0⟩:=aC.1 (e5 id (by rw[hb'];rfl))
    exact e4 id b0 g c (bt.2 ⟨p,hpm,by rw[<-hx];exact hid⟩) hb0 (by rw[<-e3];exact hg)
   have hzR:RL (Cx.pureOf cx1.w cx1.R) ((List.range (len*i.size)).map fun k=>z.getD (k%i.size) .junk) ((Array.range (len*i.size)).map (zv.cells[·%zv.cells.size]!)):=by
    have:=pS (w:=cx1.w) (R:=cx1.R) (n:=len*i.size) hL.one (by rw[hsz];exact hb.1)
    rw[<-hz',hsz] at this
    rw[hsz]
    exact⟨this.len,this.one,fun j x v hx hv=> .pure (this.rep j x v hx hv)⟩
   obtain⟨us,h1,h2⟩:=fI (cx:=Cx.pureOf cx1.w cx1.R) (parts.toList.map fun p=>(p.1,frz cx.H (ρ p.2))) (parts.map fun(i,x)=>(i,a.eval x)).toList hcs hzR (by simp) (fun j p q hp' hq'=>by
    simp only[aH,kZ,bj] at hp' hq'
    cases hj:parts[j]? with
    |none=>rw[hj] at hp';cases hp'
    |some y=>
     rw[hj] at hp' hq'
     simp only[aM,ah] at hp' hq'
     subst hp';subst hq'
     exact⟨rfl,.pure (hpure y.2 y (by rw[Array.mem_toList_iff];exact mW hj) rfl)⟩)
   have hsize:us.size=len*i.size:=by
    rw[<-h2.len,nD _ hcs]
    simp
   have hmul:len<=len*i.size:=Nat.le_mul_of_pos_right _ hb.1
   have hnone1:cx1.H next=none:=by
    cases hq:cx1.H next with
    |none=>rfl
    |some b=>have:=e5 next (by rw[hq];rfl);rw[hnone] at this;cases this
   obtain⟨k1,k2,k3⟩:=mE (cur:=us) (e:=e) (id:=next) (m:=i.size) (n:=len) (cap:=len) (f:=fun i' j=>cs.getD (i'*i.size+j) .junk) hc1 hnone1 hsize (aG _) (by simp only[maxLen];omega) (fun i' hi' j hj=>by
     have hlt:i'*i.size+j<us.size:=by
      rw[hsize]
      have:(i'+1)*i.size<=len*i.size:=bn _ hi'
      rw[bV] at this
      omega
     have hlt':i'*i.size+j<cs.length:=by rw[h2.len];exact hlt
     refine⟨us[i'*i.size+j],ao hlt,h2.one _ _ (ao hlt), ?_⟩
     rw[aq,aD hlt']
     exact(h2.rep _ _ us[i'*i.size+j] (aD hlt') (ao hlt)).pure_inv)
   have hexec:(execOp a.eval o).run P cx.w= .ok (.value (.slice (some ⟨cx.w.heap.size,0,none⟩) len len)) (cx1.add us next len ⟨0,false,e,.rows i.size len fun i' j=>cs.getD (i'*i.size+j) .junk⟩).w:=by
    have hw:(cx1.add us next len ⟨0,false,e,.rows i.size len fun i' j=>cs.getD (i'*i.size+j) .junk⟩).w=cx.w.alloc (.cells us e):=by show cx1.w.alloc _=_;rw[e2]
    rw[hw]
    rcases Nat.eq_zero_or_pos len with hl0 |hl0
    ·subst hl0
     have hus:us= #[]:=d5.1 (by rw[hsize];simp)
     have h1':Instr.fill (fun i'=>some (i'*i.size,i.size)) #[] (parts.map fun(i,x)=>(i,a.eval x)).toList=some #[]:=by
      rw[hus] at h1
      simpa [Array.range_zero'] using h1
     rw[kZ] at h1'
     simp[execOp,ho,Instr.buildSlice,run_underlying hu,sizeOf,typeInfo,hi,newRow,hus,Array.range_zero',h1']
    ·have hpos: ¬len*i.size=0:=by have:=Nat.mul_pos hl0 hb.1;omega
     simp[execOp,ho,run_buildSlice cx.w t e len _ us i zv hu hi hzz (by omega) hpos h1]
   cases hfz:fzO orc with
   |false=>
    simp only[bb]
    refine⟨.value (.slice (some ⟨cx.w.heap.size,0,none⟩) len len),_,_,hexec,.inl rfl, ?_,k1,hs1.trans k2,by rw[<-e2];exact k3, ?_,fun g hg=>by rw[<-e2];exact ee _ _ (by rw[e2];exact hg)⟩
    ·show upd cx1.H next _=_
     rw[e1]
    ·refine⟨gI _,fun k hk=> ?_⟩
     by_cases hkn:k=next
     ·exact .inr (by simp only;omega)
     ·simp only at hk
      rw[aQ _ _ _ _ hkn, <-e1] at hk
      exact .inl (e5 k hk)
   |true=>
    simp only[aO]
    obtain⟨cx3,f1,hc3,hs3,f2,f3,f4,f5⟩:=dl [next] k1
    have hb3:(cx1.add us next len ⟨0,false,e,.rows i.size len fun i' j=>cs.getD (i'*i.size+j) .junk⟩).H next=some ⟨0,false,e,.rows i.size len fun i' j=>cs.getD (i'*i.size+j) .junk⟩:=aY _ _ _
    have hrow:RepP cx3.w cx3.R (.row i.size len fun i' j=>cs.getD (i'*i.size+j) .junk) (.slice (some ⟨cx.w.heap.size,0,none⟩) len len):=by
     have:=iC hc3 (H0:=(cx1.add us next len ⟨0,false,e,.rows i.size len fun i' j=>cs.getD (i'*i.size+j) .junk⟩).H) (fun id b hb'=>by rw[f1];exact cH _ _ _ _ hb') ((by rw[<-e2];exact k3:Rep _ (.own next 0 i.size 0 len) (.slice (some ⟨cx.w.heap.size,0,none⟩) len len)).stab k1 hs3) (fun id hid b g c hb' hg=>by
      obtain⟨b0,hb0⟩:=aC.1 (f5 id (by rw[hb'];rfl))
      exact f4 id b0 g c hid hb0 (by rw[<-f3];exact hg))
     have hfr:frz (cx1.add us next len ⟨0,false,e,.rows i.size len fun i' j=>cs.getD (i'*i.size+j) .junk⟩).H (.own next 0 i.size 0 len)= .row i.size len fun i' j=>cs.getD (i'*i.size+j) .junk:=by
      have e0: ∀(H:Nat->Option Blk) (id g m off l:Nat),frz H (.own id g m off l)=eM H (.own id g m off l):=fun _ _ _ _ _ _=>by unfold frz;rfl
      rw[e0]
      unfold eM
      simp only[hb3]
      rw[show Nat.beq i.size i.size=true from cy i.size]
      rfl
     rw[hfr] at this
     exact this
    refine⟨.value (.slice (some ⟨cx.w.heap.size,0,none⟩) len len),_,cx3,by rw[hexec, <-f2],.inl rfl, ?_,hc3,(hs1.trans k2).trans hs3,.pure hrow, ?_,fun g hg=>by rw[f2, <-e2];exact ee _ _ (by rw[e2];exact hg)⟩
    ·rw[f1]
     simp only[ci,hb3]
     show upd (upd cx1.H next _) next _=_
     rw[e1]
     funext k
     by_cases hkn:k=next
     ·subst hkn;rw[aY,aY]
     ·rw[aQ _ _ _ _ hkn,aQ _ _ _ _ hkn,aQ _ _ _ _ hkn]
    ·refine⟨gI _,fun k hk=> ?_⟩
     by_cases hkn:k=next
     ·exact .inr (by simp only;omega)
     ·simp only at hk
      rw[aQ _ _ _ _ hkn, <-e1] at hk
      exact .inl (e5 k hk)
  ·cases h
 ·rename_i t x y ho
  split at h
  ·rename_i e hu
   split at h
   ·rename_i kl n kc c hx hy
    obtain⟨i,hi,h⟩:=ae.1 h
    obtain⟨z,hz,h⟩:=ae.1 h
    obtain⟨hb,h⟩:=aE h
    rw[bA] at hb
    obtain⟨p,hp',rfl⟩:=ac.1 h
    obtain⟨c0,c1,c2,c3⟩:=bK hp' hp
    obtain⟨i',zv,hi',hzz,hsz,hL,hz'⟩:=dT (cx:=cx) hz
    rw[hi] at hi'
    cases hi'
    have ex:=hr x
    rw[hx] at ex
    have ex:=ex.int_inv
    have ey:=hr y
    rw[hy] at ey
    have ey:=ey.int_inv
    have hrun:=run_make cx.w t e i zv hu hi hzz kl kc n c c0 c1 (by rw[Int.mul_comm];omega) (by omega)
    have hmc: ∀k j,k<c.toNat->j<i.size->(madeCells zv.cells (c.toNat*i.size))[k*i.size+j]? =zv.cells[j]? :=by
     intro k j hk hj
     have hlt:k*i.size+j<c.toNat*i.size:=by
      have:(k+1)*i.size<=c.toNat*i.size:=bn _ hk
      rw[bV] at this
      omega
     have hj':j<zv.cells.size:=by omega
     rw[show zv.cells[j]? =some zv.cells[j] from ao hj']
     unfold madeCells
     rw[d6]
     simp only[hsz,hlt,Array.getElem?_range,if_true,aM,lX hj]
     simp[hj']
    obtain⟨k1,k2,k3⟩:=mE (cur:=madeCells zv.cells (c.toNat*i.size)) (e:=e) (id:=next) (m:=i.size) (n:=n.toNat) (cap:=c.toNat) (f:=fun _ j=>z.getD j .junk) hc hnone (size_madeCells _ _) (by omega) (by simp only[maxLen];omega) (fun k hk j hj=>by
     have hj':j<zv.cells.size:=by omega
     refine⟨zv.cells[j],(hmc k j (by omega) hj).trans (ao hj'),hL.one _ _ (ao hj'), ?_⟩
     rw[hz',aq,aH,bj,show zv.cells[j]? =some zv.cells[j] from ao hj']
     exact d9 _ _ _)
    refine⟨.value (.slice (some ⟨cx.w.heap.size,0,none⟩) n.toNat c.toNat),_,_, ?_,.inl rfl,rfl,k1,k2,k3,fp,fun g hg=>ee _ _ hg⟩
    simp[execOp,ho,ex,ey,hrun,Cx.add]
   ·cases h
  ·cases h
 ·rename_i args at_ ho
  exact tc ho h hp hc hnone hr
 ·cases h
theorem HB.frzR{id:Nat}{b:Blk}(h:HB cx id b){g c:Nat}(hg:cx.φ id=some (g,c)):if b.frz then cx.R g else ¬cx.R g:=by
 unfold HB at h
 split at h
 ·obtain⟨g',cur,h1,_,_,_,_,h6⟩:=h
  rw[hg] at h1;cases h1;exact h6
 ·rcases h with⟨h1,_⟩|⟨g',cap,cur,h1,_,_,_,_,_,_,h6⟩
  ·rw[hg] at h1;cases h1
  ·rw[hg] at h1;cases h1;exact h6
theorem o7{cx3:Cx}(hc:CRep cx)(h3:CRep cx3)(hs:Stab cx cx3)(hH: ∀id b,cx.H id=some b->cx3.H id=some b)(hw: ∀g,g<cx.w.heap.size->cx3.w.heap[g]? =cx.w.heap[g]?):
  CRep ⟨cx3.w,cx3.R,cx.φ,cx.H,cx.B⟩∧Stab cx ⟨cx3.w,cx3.R,cx.φ,cx.H,cx.B⟩:=by
 have hφ: ∀id b,cx.H id=some b->cx3.φ id=cx.φ id:=fun id b hb=>by
  obtain⟨b',h1,h2,_⟩:=hs.ids id b hb
  rw[hH id b hb] at h1
  cases h1
  exact(h2 rfl).1
 have hst:Stab cx ⟨cx3.w,cx3.R,cx.φ,cx.H,cx.B⟩:=⟨⟨rfl,hs.ext.R,hs.ext.Rn,hs.ext.os,hs.ext.tape,hs.ext.output,hs.ext.size,hs.ext.block⟩,
  fun id b h=>⟨b,h,fun _=>⟨rfl,sameShape.rfl' b⟩,fun _=>rfl⟩,fun id b b' h h'=>by
   have h':cx.H id=some b':=h'
   rw[h] at h';cases h';exact aG _⟩
 refine⟨⟨fun id b h=> ?_,hc.inj,h3.rlt,fun g hg=>a6 (hc.blt g hg) hs.ext.size⟩,hst⟩
 have hb:cx.H id=some b:=h
 have hold:=hc.hb id b hb
 refine hold.keep hc hst rfl (fun g c hg=>hw g (hold.at_ hg).1) (fun g c hg hg'=> ?_)
 have h5:=(h3.hb id b (hH id b hb)).frzR (by rw[hφ id b hb];exact hg)
 have h6:=hold.frzR hg
 have hg'':cx3.R g:=hg'
 cases hf:b.frz with
 |true=>rw[hf] at h6;exact h6
 |false=>rw[hf] at h5;exact absurd hg'' h5
theorem DoneM.done{o:Oper}{a:Act}{next:Nat}{r:Res}(h:DoneM P o a cx next r):yu P o a cx next r:=by
 obtain⟨n,z,cx',h1,h2,h3,h4,h5,h6,h7,_⟩:=h
 exact⟨n,z,cx',h1,h2,h3,h4,h5,h6,h7⟩
theorem sy{a:AV}{v:Value}(h:Rep cx a v)(hr:uz a=true):RepP cx.w cx.R a v:=by
 cases a with
 |row=>cases h with |pure h=>exact h
 |rptr=>cases h with |pure h=>exact h
 |_=>cases hr
theorem wb{md:Bool}{args:Array Operand}{at_:Array TypeId}{ρ:Operand->AV}{h:Nat->Option Blk}{next:Nat}{orc:List Orc}{r:Res}(hr:apz P md args at_ ρ h next orc=some r): ∃b,r.heap=upd h next b:=by
 unfold apz at hr
 split at hr
 ·split at hr
  ·split at hr
   ·obtain⟨i,hi,hr⟩:=ae.1 hr
    obtain⟨z,hz,hr⟩:=ae.1 hr
    obtain⟨hb,hr⟩:=aE hr
    obtain⟨p,hp',rfl⟩:=ac.1 hr
    exact⟨_,rfl⟩
   ·cases hr
  ·cases hr
 ·cases hr
theorem ow{md:Bool}{op:Op}{ρ:Operand->AV}{h:Nat->Option Blk}{next:Nat}{orc:List Orc}{r:Res}(hr:bZ P md op ρ h next (.fz::orc)=some r)(hid:(dj op ρ).isEmpty=true): ∀id,id≠next->r.heap id=h id:=by
 intro id hne
 cases op with
 |alloc t=>
  obtain⟨z,hz,rfl⟩:=ac.1 hr
  exact aQ _ _ _ _ hne
 |box t x=>
  obtain⟨z,hz,rfl⟩:=ac.1 hr
  cases hfz:fzO (.fz::orc)&&z.all es with
  |false=>exact aQ _ _ _ _ hne
  |true=>exact aQ _ _ _ _ hne
 |makeSlice t x y=>
  unfold bZ at hr
  simp only at hr
  split at hr
  ·split at hr
   ·obtain⟨i,hi,hr⟩:=ae.1 hr
    obtain⟨z,hz,hr⟩:=ae.1 hr
    obtain⟨hb,hr⟩:=aE hr
    obtain⟨p,hp,rfl⟩:=ac.1 hr
    exact aQ _ _ _ _ hne
   ·cases hr
  ·cases hr
 |buildSlice t len parts=>
  unfold bZ at hr
  simp only at hr
  split at hr
  ·obtain⟨s,hs,hr⟩:=ae.1 hr
   obtain⟨hb,hr⟩:=aE hr
   obtain⟨z,hz,hr⟩:=ae.1 hr
   obtain⟨cs,hcs,rfl⟩:=ac.1 hr
   show upd _ next _ id=_
   rw[aQ _ _ _ _ hne]
   have:(parts.toList.flatMap fun p=>cG (ρ p.2))=[]:=by
    have h2:(dj (.buildSlice t len parts) ρ)=[]:=List.isEmpty_iff.1 hid
    exact h2
   rw[this]
   rfl
  ·cases hr
 |call c=>
  obtain⟨callee,args,at_⟩:=c
  cases callee with
  |builtin b=>
   cases b with
   |append=>
    have hr:apz P md args at_ ρ h next (.fz::orc)=some r:=hr
    obtain⟨b,hb⟩:=wb hr
    rw[hb]
    exact aQ _ _ _ _ hne
   |_=>cases hr
  |_=>cases hr
 |_=>cases hr
theorem ot{md:Bool}{o:Oper}{ρ:Operand->AV}{a:Act}{next:Nat}{orc:List Orc}{r:Res}(h:cW P md o.op ρ cx.H next orc=some r)(hp: ∀p∈r.cs,p)(hc:CRep cx)(hnone:cx.H next=none)
  (hr: ∀x,Rep cx (ρ x) (a.eval x)):yu P o a cx next r:=by
 unfold cW at h
 split at h
 ·unfold qB at h
  obtain⟨hid,h1⟩:=aE h
  obtain⟨r1,hr1,h2⟩:=ae.1 h1
  obtain⟨hv,h3⟩:=aE h2
  simp only[ah] at h3;subst h3
  obtain⟨n,z,cx3,m1,m2,m3,m4,m5,m6,m7,m8⟩:=iW hr1 hp hc hnone hr
  have hH: ∀id b,cx.H id=some b->cx3.H id=some b:=fun id b hb=>by
   rw[m3,ow hr1 hid id (fun e=>by rw[e,hnone] at hb;cases hb)]
   exact hb
  obtain⟨k1,k2⟩:=o7 hc m4 m5 hH m8
  exact⟨n,z,⟨cx3.w,cx3.R,cx.φ,cx.H,cx.B⟩,m1,m2,rfl,k1,k2,(.pure (show RepP cx3.w cx3.R r1.v z from sy m6 hv)),.same fun _ h=>h⟩
 ·cases hb:bxO o.op orc with
  |true=>rw[hb] at h;exact(qC h hc hnone hr).done
  |false=>rw[hb] at h;exact(iW h hp hc hnone hr).done
end
end
end Go.Proofs.Ytdanmboalfmifaa.Rx
namespace Go.Proofs.Ytdanmboalfmifaa
section
open Go.RowKit
section
variable{P:Program}(w:World)
theorem o3(base:Nat)(t ty e:TypeId)(i:TypeInfo)(ht:P.underlying t=some (.slice e))(hi:P.info? e=some i)(v:Value)(n:Nat)(xs:List Value)(hown:w.ownsRow base e 1 v n xs)(c:Nat):
  (Builtin.append_ #[t,t] ty #[v,.slice none 0 c]).run P w= .ok v w:=by
 rcases hown.2 with⟨rfl,rfl⟩|⟨g,cap,cur,rfl,_,_,hnc,_⟩<;>simp[Builtin.append_,run_underlying ht,sizeOf,typeInfo,hi,Builtin.lenOf,Builtin.firstCells,storeCells, *]
theorem tS{ops:Array Oper}{rest:List Oper}{o:Oper}{a:Act}{Q:Exit->Act->World->Prop}(hgd:o.guard=none)(s x:Operand)(t:TypeId)
  (ho:o.op= .call {callee:= .builtin .append,args:= #[s,x],argTypes:= #[t,t]})
  (B:Nat)(e:TypeId)(i:TypeInfo)(z:Value)(bytes:Nat)(ht:P.underlying t=some (.slice e))(hi:P.info? e=some i)(hz:i.zero=some z)
  (hsize:i.size=1)(hby:i.bytes=bytes)(hzs:z.cells.size=1)
  (v:Value)(n:Nat)(xs:List Value)(hs:a.eval s=v)(hown:w.ownsRow B e 1 v n xs)
  (B':Nat)(A:Option Addr)(m c:Nat)(ys:List Value)(hx:a.eval x= .slice A m c)(hm:m=ys.length)(hr:Rd w B' A ys)(h1: ∀u∈ys,u.oneCell'=true)
  (hn:n+m<=maxLen)(hbytes:(n+m)*bytes<=140737488355328)(hbase:B<=w.heap.size)
  (h: ∀v' w',w'.ownsRow B e 1 v' (n+m) (xs++ys)->Below B w w'->wpList P ops Q rest (a.put o.dst v') w'):
  wpList P ops Q (o::rest) a w:=by
 cases A with
 |some ad=>
  refine wpList_append_own_at w hgd s x t ho B e i z 1 bytes ht hi hz hsize hby hzs (by omega) v n xs hs hown ad m c ys hx (by omega) hr.cells h1 hn hbytes hbase fun v' w' h2 h3 _ _=>h v' w' h2 (ta (Below.refl _ _) hown h3 hbase)
 |none=>
  have hy:=hr.none_nil
  subst hy
  obtain rfl:m=0:=hm
  refine wpList_plain hgd fun K hK=> ?_
  have hrun:=o3 w (P:=P) B t o.type e i ht hi v n xs hown c
  unfold Oper.wp
  simp[execOp,ho,resolve,invoke,builtin,hs,hx,hrun,Result.andThen]
  exact hK _ _ (h v w (by simpa using hown) (Below.refl _ _))
theorem ww{ops:Array Oper}{rest:List Oper}{o:Oper}{a:Act}{Q:Exit->Act->World->Prop}(hgd:o.guard=none)(s x:Operand)(t:TypeId)
  (ho:o.op= .call {callee:= .builtin .append,args:= #[s,x],argTypes:= #[t,t]})
  (B:Nat)(e:TypeId)(i:TypeInfo)(z:Value)(bytes:Nat)(ht:P.underlying t=some (.slice e))(hi:P.info? e=some i)(hz:i.zero=some z)
  (hsize:i.size=1)(hby:i.bytes=bytes)(hzs:z.cells.size=1)
  (v:Value)(n:Nat)(xs:List Value)(hs:a.eval s=v)(hown:w.ownsRow B e 1 v n xs)
  (B':Nat)(A:Option Addr)(m c:Nat)(ys:List Value)(hx:a.eval x= .slice A m c)(hm:m=ys.length)(hr:Rd w B' A ys)(h1: ∀u∈ys,u.oneCell'=true)
  (hn:n+m<=1099511627776)(hbytes:bytes<=64)(hbase:B<=w.heap.size)
  (h: ∀v' w',w'.ownsRow B e 1 v' (n+m) (xs++ys)->Below B w w'->wpList P ops Q rest (a.put o.dst v') w'):
  wpList P ops Q (o::rest) a w:=by
 refine tS w hgd s x t ho B e i z bytes ht hi hz hsize hby hzs v n xs hs hown B' A m c ys hx hm hr h1 (by simp only[maxLen];omega) ?_ hbase h
 have:(n+m)*bytes<=1099511627776*64:=Nat.mul_le_mul hn hbytes
 omega
end
theorem uM(w:World)(t:TypeId):(w.alloc (.cells #[] t)).ownsRow w.heap.size t 1 (.slice (some ⟨w.heap.size,0,none⟩) 0 0) 0 []:=by
 have:=World.ownsRow_lit (e:=t) (size:=1) (base:=w.heap.size) w #[] 0 (aG _) (by simp[maxLen]) rfl
 simpa using this
theorem uL(w:World)(t:TypeId)(g:Nat)(hg:g=w.heap.size):(w.alloc (.cells #[] t)).ownsRow w.heap.size t 1 (.slice (some ⟨g,0,none⟩) 0 0) 0 []:=by
 rw[hg];exact uM w t
theorem uK{w:World}{B:Nat}{t:TypeId}{v:Value}{n:Nat}{xs:List Value}(h:w.ownsRow B t 1 v (0+n) ([]++xs)):w.ownsRow B t 1 v n xs:=by simpa using h
theorem vn(k:IntKind)(zs:List Int): ∀u∈zs.map (Value.int k),u.oneCell'=true:=by
 intro u hu
 obtain⟨_,_,rfl⟩:=cX.1 hu
 rfl
end
end Go.Proofs.Ytdanmboalfmifaa
namespace Go.Proofs.Ytdanmboalfmifaa.Rx
section
open Go.RowKit
section
variable{P:Program}{cx:Cx}
def Cx.turn(cx:Cx)(w':World)(id:Nat)(p:Option (Nat×Nat))(b':Blk):Cx:=⟨w',cx.R,upd cx.φ id p,upd cx.H id (some b'),cx.B⟩
theorem lf(hc:CRep cx){w':World}{id:Nat}{p:Option (Nat×Nat)}{b':Blk}
  (hw: ∀k,k<cx.w.heap.size->(∀c,(cx.H id).isSome=true->cx.φ id≠some (k,c))->w'.heap[k]? =cx.w.heap[k]?)
  (hold: ∀b,cx.H id=some b->b.frz=false∧b.gen<=b'.gen∧(b'.gen=b.gen->p=cx.φ id∧sameShape b b')∧(b.c.isBox=true->b'.gen=b.gen))
  (hos:w'.os=cx.w.os)(htape:w'.tape=cx.w.tape)(hout:w'.output=cx.w.output)(hsz:cx.w.heap.size<=w'.heap.size)
  (hp: ∀g c,p=some (g,c)->(∃c',(cx.H id).isSome=true∧cx.φ id=some (g,c'))∨cx.w.heap.size<=g):
  Stab cx (cx.turn w' id p b')∧(HB (cx.turn w' id p b') id b'->CRep (cx.turn w' id p b')):=by
 have hHs:(cx.turn w' id p b').H id=some b':=by show upd cx.H id _ id=_;rw[aY]
 have hHo: ∀i,i≠id->(cx.turn w' id p b').H i=cx.H i:=fun i e=>by show upd cx.H id _ i=_;rw[aQ _ _ _ _ e]
 have hφs:(cx.turn w' id p b').φ id=p:=by show upd cx.φ id _ id=_;rw[aY]
 have hφo: ∀i,i≠id->(cx.turn w' id p b').φ i=cx.φ i:=fun i e=>by show upd cx.φ id _ i=_;rw[aQ _ _ _ _ e]
 have hfrz: ∀b g c,cx.H id=some b->cx.φ id=some (g,c)-> ¬cx.B g∧ ¬cx.R g:=by
  intro b g c hb hg
  have h1:=(hold b hb).1
  have h2:=hc.hb id b hb
  unfold HB at h2
  cases hbc:b.c with
  |box cs=>
   rw[hbc] at h2
   obtain⟨g',cur,k1,_,_,_,k5,k6⟩:=h2
   rw[hg] at k1
   cases k1
   rw[h1] at k6
   exact⟨k5,k6⟩
  |rows m n f=>
   rw[hbc] at h2
   rcases h2 with⟨k1,_⟩|⟨g',cap,cur,k1,_,_,_,_,_,k5,k6⟩
   ·rw[hg] at k1;cases k1
   ·rw[hg] at k1
    cases k1
    rw[h1] at k6
    exact⟨k5,k6⟩
 have hst:Stab cx (cx.turn w' id p b'):=by
  refine⟨⟨rfl,fun _ h=>h,fun _ h=> .inl h,hos,htape,hout,hsz,fun g hg ho=>hw g hg fun c hs he=> ?_⟩,fun i x hx=> ?_,fun i x y hx hy=> ?_⟩
  ·obtain⟨b,hb⟩:=aC.1 hs
   obtain⟨h1,h2⟩:=hfrz b g c hb he
   rcases ho with ho |ho
   ·exact h1 ho
   ·exact h2 ho
  ·by_cases e:i=id
   ·subst e
    obtain⟨h1,h2,h3,h4⟩:=hold x hx
    exact⟨b',hHs,fun eg=>⟨hφs.trans (h3 eg).1,(h3 eg).2⟩,h4⟩
   ·exact⟨x,(hHo i e).trans hx,fun _=>⟨hφo i e,sameShape.rfl' x⟩,fun _=>rfl⟩
  ·by_cases e:i=id
   ·subst e
    rw[hHs] at hy
    cases hy
    exact(hold x hx).2.1
   ·rw[hHo i e,hx] at hy
    cases hy
    exact aG _
 refine⟨hst,fun hb'=>⟨fun i x hx=> ?_,fun i j g c c' hi hj h1 h2=> ?_,fun g hg=>a6 (hc.rlt g hg) hsz,fun g hg=>a6 (hc.blt g hg) hsz⟩⟩
 ·by_cases e:i=id
  ·subst e
   rw[hHs] at hx
   cases hx
   exact hb'
  ·have hx':=(hHo i e)▸hx
   have hold':=hc.hb i x hx'
   refine hold'.keep hc hst (hφo i e) (fun g c hg=>hw g (hold'.at_ hg).1 fun c' hs he=>e (hc.inj i id g c c' (by rw[hx'];rfl) hs hg he)) (fun g c hg h=>h)
 ·have hcase: ∀k g c,(cx.turn w' id p b').φ k=some (g,c)->((cx.turn w' id p b').H k).isSome=true->(k=id∧((∃c',(cx.H id).isSome=true∧cx.φ id=some (g,c'))∨cx.w.heap.size<=g))∨(k≠id∧cx.φ k=some (g,c)∧(cx.H k).isSome=true∧g<cx.w.heap.size):=by
   intro k g c hk hks
   by_cases e:k=id
   ·subst e
    rw[hφs] at hk
    exact .inl ⟨rfl,hp g c hk⟩
   ·rw[hφo k e] at hk
    rw[hHo k e] at hks
    obtain⟨x,hx⟩:=aC.1 hks
    exact .inr ⟨e,hk,hks,((hc.hb k x hx).at_ hk).1⟩
  rcases hcase i g c h1 hi with⟨e1,e2⟩|⟨e1,e2,e3,e4⟩<;>rcases hcase j g c' h2 hj with⟨f1,f2⟩|⟨f1,f2,f3,f4⟩
  ·rw[e1,f1]
  ·rcases e2 with⟨c1,k1,k2⟩|e2
   ·exact absurd (hc.inj j id g c' c1 f3 k1 f2 k2) f1
   ·omega
  ·rcases f2 with⟨c1,k1,k2⟩|f2
   ·exact absurd (hc.inj i id g c c1 e3 k1 e2 k2) e1
   ·omega
  ·exact hc.inj i j g c c' e3 f3 e2 f2
theorem oU: ∀(vs cs:List AV) (off j:Nat),off+vs.length<=cs.length->(setR cs off vs)[j]? =if off<=j∧j<off+vs.length then vs[j-off]? else cs[j]?
 | [],cs,off,j,h=>by rw[setR,af (by simp only[List.length_nil];omega)]
 |v::vs,cs,off,j,h=>by
  rw[setR,oU vs (cs.set off v) (off+1) j (by simp at h ⊢;omega)]
  simp only[gq] at h ⊢
  by_cases h1:off+1<=j∧j<off+1+vs.length
  ·rw[ai h1,ai (by omega),show j-off=(j-(off+1))+1 by omega,ch]
  ·rw[af h1,cA]
   by_cases h2:off=j
   ·subst h2
    rw[ai rfl,ai (by omega),ai (by omega)]
    simp
   ·rw[af h2,af (by omega)]
theorem lF(cur:Array Value)(us:List Value)(off j:Nat)(h:off+us.length<=cur.size):((cur.toList.take off++us++cur.toList.drop (off+us.length)).toArray)[j]? =if off<=j∧j<off+us.length then us[j-off]? else cur[j]? :=by
 have hl:(cur.toList.take off).length=off:=by rw[aT,iG];omega
 rw[el,dz]
 by_cases h1:j<off
 ·rw[af (by omega),bh (by rw[hl];exact h1),bg,ai h1]
  simp
 ·rw[bX (by rw[hl];omega),hl]
  by_cases h2:j<off+us.length
  ·rw[ai (by omega),bh (by omega)]
  ·rw[af (by omega),bX (by omega),dh]
   rw[show off+us.length+(j-off-us.length)=j by omega]
   exact bj
theorem ky(cur:Array Value)(us:List Value)(off:Nat)(h:off+us.length<=cur.size):((cur.toList.take off++us++cur.toList.drop (off+us.length)).toArray).size=cur.size:=by
 simp
 omega
theorem kB{t e:TypeId}{s g off:Nat}{v:Value}{w:World}{cur:Array Value}(hs:dU P t=some s)(hv:v.cells.size=s)(hg:w.heap[g]? =some (.cells cur e (0,0)))(hfit:off+s<=cur.size)(h1: ∀(j:Nat) u,v.cells[j]? =some u->u.oneCell'=true):
  (Instr.storeAt t (.pointer (some ⟨g,off,none⟩)) v).run P w= .ok () (w.setRow g (cur.toList.take off++v.cells.toList++cur.toList.drop (off+v.cells.toList.length)).toArray):=by
 have hst:=run_storeCells_at P g off e v.cells.toList 0 cur w hg (by simpa [hv] using hfit) (fun u hu=>by
  obtain⟨j,hj⟩:=List.getElem?_of_mem hu
  exact h1 j u (by simpa using hj))
 simp only[cz] at hst
 simp[Instr.storeAt,Instr.sureAddr,storeVar,b9 hs,hv] at hst ⊢
 simpa [hv] using hst
theorem uv{i i' j j' m s:Nat}(hj':j'<m)(hjs:j+s<=m):(i*m+j<=i'*m+j'∧i'*m+j'<i*m+j+s)↔(i'=i∧j<=j'∧j'<j+s):=by
 rcases Nat.lt_trichotomy i' i with h |h |h
 ·have:(i'+1)*m<=i*m:=bn _ h
  rw[bV] at this
  constructor<;>intro k<;>omega
 ·subst h
  constructor<;>intro k<;>omega
 ·have:(i+1)*m<=i'*m:=bn _ h
  rw[bV] at this
  constructor<;>intro k<;>omega
theorem jq{md:Bool}{t:TypeId}{x y:AV}{r:(Nat->Option Blk)×List Prop}(h:fb P md t x y cx.H=some r)(hp: ∀p∈r.2,p)(hc:CRep cx){u v:Value}(hx:Rep cx x u)(hy:Rep cx y v):
  ∃cx',(Instr.storeAt t u v).run P cx.w= .ok () cx'.w∧cx'.H=r.1∧CRep cx'∧Stab cx cx'∧(∀i,(r.1 i).isSome=true->(cx.H i).isSome=true):=by
 unfold fb at h
 obtain⟨s,hs,h⟩:=ae.1 h
 split at h
 ·rename_i id off _
  obtain⟨g,cap,b,h1,h2,h3,rfl⟩:=hx.bptr_inv
  split at h
  ·rename_i gen e cs heq
   obtain⟨vs,hvs,h⟩:=ae.1 h
   obtain⟨hb,h⟩:=aE h
   rw[au,dZ] at hb
   have hlen:=aj hb.1
   simp only[ah] at h;subst h
   obtain⟨g',cur,k1,k2,k3,k4,k5⟩:=my hc heq rfl
   rw[h3] at k1
   cases k1
   have hL:=RL.of hvs hy
   have hsz:v.cells.size=s:=by rw[<-hL.len,hlen]
   have hcl:=k3.len
   have hrun:=kB (P:=P) (off:=off) hs hsz k2 (by omega) hL.one
   have hlu:v.cells.toList.length=s:=by simp[hsz]
   have hfit:off+v.cells.toList.length<=cur.size:=by omega
   obtain⟨hst,hcr⟩:=lf (w':=cx.w.setRow g (cur.toList.take off++v.cells.toList++cur.toList.drop (off+v.cells.toList.length)).toArray) (id:=id) (p:=some (g,1)) (b':=⟨gen,false,e,.box (setR cs off vs)⟩) hc
    (fun k hk hne=>setRow_other _ _ _ _ fun e=>hne 1 (by rw[heq];rfl) (by rw[e];exact h3))
    (fun b hb=>by
     rw[heq] at hb
     cases hb
     exact⟨rfl,aG _,fun _=>⟨h3.symm,by unfold sameShape;exact⟨_,rfl⟩⟩,fun _=>rfl⟩)
    rfl rfl rfl (by simp) (fun g2 c2 e2=>by cases e2;exact .inl ⟨1,by rw[heq];rfl,h3⟩)
   refine⟨_,hrun,rfl,hcr ?_,hst,fun i hi=> ?_⟩
   ·refine⟨g,_,by show upd cx.φ id _ id=_;rw[aY],setRow_heap _ _ _ _ _ _ k2, ?_,fun j a ha=> ?_,k4,k5⟩
    ·rw[ky _ _ _ hfit,gU,hcl]
    ·rw[oU vs cs off j (by omega)] at ha
     have hget:=lF cur v.cells.toList off j hfit
     rw[hget]
     split at ha
     ·rename_i hj
      rw[ai (by omega)]
      have hlt:j-off<v.cells.size:=by omega
      refine⟨v.cells[j-off],by simp[hlt],hL.one _ _ (ao hlt), ?_⟩
      exact(hL.rep _ a _ ha (ao hlt)).stab hc hst
     ·rename_i hj
      rw[af (by omega)]
      have hlt:j<cur.size:=by rw[<-hcl];exact(az.1 ha).1
      refine⟨cur[j],ao hlt,k3.one _ _ (ao hlt), ?_⟩
      exact(k3.rep _ a _ ha (ao hlt)).stab hc hst
   ·by_cases e2:i=id
    ·rw[e2,heq];rfl
    ·simp only at hi
     rwa [aQ _ _ _ _ e2] at hi
  ·cases h
 ·rename_i id gen0 m i j _
  obtain⟨b,hb,hle,hE⟩:=hx.eptr_inv
  split at h
  ·rename_i gen e m' n f heq
   rw[hb] at heq
   cases heq
   obtain⟨vs,hvs,h⟩:=ae.1 h
   obtain⟨hq,h'⟩:=aE h
   clear h
   simp only[au,dZ] at hq
   obtain⟨⟨⟨⟨q1,q2⟩,q3⟩,q4⟩,q5⟩:=hq
   have hlen:=aj q1
   have e3:=aj q3
   have e4:=aj q4
   subst e3;subst e4
   obtain⟨p,hp',rfl⟩:=ac.1 h'
   have hin:=bK hp' hp
   obtain⟨n',f',g,cap,k1,k2,k3,rfl⟩:=hE rfl
   cases k1
   obtain⟨cx1,z1,hc1,hs1,z2,z3,z4,z5⟩:=dl (cG y) hc
   have hidF:id ∉ cG y:=fun hmem=>by
    have:=aL.1 q5 id hmem
    simp at this
   have hb1:cx1.H id=some ⟨gen0,false,e,.rows m n f⟩:=by
    rw[z1]
    have: ∀(l:List Nat) (H:Nat->Option Blk),id ∉ l->ci H l id=H id:=by
     intro l
     induction l with
     |nil=>intro H _;rfl
     |cons a l ih=>
      intro H hn
      unfold ci
      cases hH:H a with
      |none=>exact ih H (fun h=>hn (by simp[h]))
      |some x=>
       simp only
       rw[ih _ (fun h=>hn (by simp[h])),aQ _ _ _ _ (fun e=>hn (by simp[e]))]
    rw[this _ _ hidF,hb]
   obtain⟨cur,r1,r2,r3,r4,r5,r6,r7⟩:=fZ hc1 hb1 rfl (by rw[z3];exact k3)
   have hpu:RepP cx1.w cx1.R (frz cx.H y) v:=iC hc1 (fun id b hb'=>by rw[z1];exact cH _ _ _ _ hb') (hy.stab hc hs1) fun id' hid b g c hb' hg=>by
    obtain⟨b0,hb0⟩:=aC.1 (z5 id' (by rw[hb'];rfl))
    exact z4 id' b0 g c hid hb0 (by rw[<-z3];exact hg)
   have hL:=RL.of (cx:=Cx.pureOf cx1.w cx1.R) hvs (.pure hpu)
   have hsz:v.cells.size=s:=by rw[<-hL.len,hlen]
   have hmul:(i+1)*m<=cap*m:=bn _ (by omega)
   rw[bV] at hmul
   have hrun:=kB (P:=P) (off:=i*m+j) hs hsz r1 (by omega) hL.one
   have hlu:v.cells.toList.length=s:=by simp[hsz]
   have hfit:i*m+j+v.cells.toList.length<=cur.size:=by omega
   have hφ1:cx1.φ id=some (g,cap):=by rw[z3];exact k3
   obtain⟨hst,hcr⟩:=lf (w':=cx1.w.setRow g (cur.toList.take (i*m+j)++v.cells.toList++cur.toList.drop (i*m+j+v.cells.toList.length)).toArray) (id:=id) (p:=some (g,cap))
    (b':=⟨gen0,false,e,.rows m n fun i' j'=>bif Nat.ble j j'&&Nat.blt j' (j+s)&&Nat.beq i' i then vs.getD (j'-j) .junk else f i' j'⟩) hc1
    (fun k hk hne=>setRow_other _ _ _ _ fun e=>hne cap (by rw[hb1];rfl) (by rw[e];exact hφ1))
    (fun b hb=>by
     rw[hb1] at hb
     cases hb
     exact⟨rfl,aG _,fun _=>⟨hφ1.symm,by unfold sameShape;exact⟨_,rfl⟩⟩,fun _=>rfl⟩)
    rfl rfl rfl (by simp) (fun g2 c2 e2=>by cases e2;exact .inl ⟨cap,by rw[hb1];rfl,hφ1⟩)
   refine⟨_, ?_, ?_,hcr ?_,hs1.trans hst,fun k hk=> ?_⟩
   ·rw[<-z2];exact hrun
   ·show upd cx1.H id _=_
    rw[z1]
   ·refine .inr ⟨g,cap,_,by show upd cx1.φ id _ id=_;rw[aY],setRow_heap _ _ _ _ _ _ r1, ?_,r3,r4,fun i' hi' j' hj'=> ?_,r6,r7⟩
    ·rw[ky _ _ _ hfit,r2]
    ·have hget:=lF cur v.cells.toList (i*m+j) (i'*m+j') hfit
     rw[hget]
     by_cases hin':i'=i∧j<=j'∧j'<j+s
     ·obtain⟨e5,e6,e7⟩:=hin'
      rw[ai (by have:=(uv hj' q2).2 ⟨e5,e6,e7⟩;omega)]
      subst e5
      have e8:i'*m+j'-(i'*m+j)=j'-j:=by omega
      have hlt:j'-j<v.cells.size:=by omega
      have hlt':j'-j<vs.length:=by omega
      refine⟨v.cells[j'-j],by rw[e8];simp[hlt],hL.one _ _ (ao hlt), ?_⟩
      have hcond:(Nat.ble j j'&&Nat.blt j' (j+s)&&Nat.beq i' i')=true:=by
       simp only[au,dZ,bA]
       exact⟨⟨e6,e7⟩,cy _⟩
      simp only[hcond,aO]
      rw[aq,aD hlt']
      exact((hL.rep _ _ v.cells[j'-j] (aD hlt') (ao hlt)).pure_inv).ext hc1 hst.ext
     ·rw[af (fun h=>hin' ((uv hj' q2).1 (by omega)))]
      obtain⟨u,hu,ho,hr⟩:=r5 i' hi' j' hj'
      refine⟨u,hu,ho, ?_⟩
      have hcond:(Nat.ble j j'&&Nat.blt j' (j+s)&&Nat.beq i' i)=false:=by
       cases hcd:(Nat.ble j j'&&Nat.blt j' (j+s)&&Nat.beq i' i) with
       |false=>rfl
       |true=>
        simp only[au,dZ,bA] at hcd
        exact absurd ⟨aj hcd.2,hcd.1.1,hcd.1.2⟩ hin'
      simp only[hcond,bb]
      exact hr.ext hc1 hst.ext
   ·by_cases e2:k=id
    ·rw[e2,hb];rfl
    ·simp only at hk
     rw[aQ _ _ _ _ e2, <-z1] at hk
     exact z5 k hk
  ·cases h
 ·cases h
end
end
section
open Go.RowKit
section
variable{P:Program}{cx:Cx}
theorem lL{t e:TypeId}{i:TypeInfo}{z:Value}{w:World}{R:Nat->Prop}{B:Nat}(ht:P.underlying t=some (.slice e))(hi:P.info? e=some i)(hz:i.zero=some z)(hzs:z.cells.size=i.size)(h0:0<i.size)
  {v:Value}{n:Nat}{xs:List Value}(hown:w.ownsRow B e i.size v n xs){y:Value}{k c:Nat}{f:Nat->Nat->AV}{A:Option Addr}{news:List Value}(hs:Src w R y k i.size f A c news)(h1:(n+k)*i.bytes<=140737488355328)(h2:n+k<=140737488355328)(hb:B<=w.heap.size)(ty:TypeId):
  ∃v' w',(Builtin.append_ #[t,t] ty #[v,y]).run P w= .ok v' w'∧w'.ownsRow B e i.size v' (n+k) (xs++news)∧w.grownBy w' v.ownBlock∧(v'.ownBlock=v.ownBlock∨v'.ownBlock=some w.heap.size):=by
 rw[hs.val]
 cases hA:A with
 |some ad=>
  obtain⟨v',w',k1,k2,k3,_,k4⟩:=run_append_own_at (P:=P) w B t ty e i z i.size i.bytes ht hi hz rfl rfl hzs h0 v n xs hown ad k c news hs.len (hs.cells ad hA) hs.one (by simp only[maxLen];omega) h1 hb
  exact⟨v',w',k1,k2,k3,k4⟩
 |none=>
  have hk:k=0:=by
   rcases Nat.eq_zero_or_pos k with h |h
   ·exact h
   ·obtain⟨g,o,e⟩:=hs.at_ h
    rw[hA] at e;cases e
  subst hk
  have hnil:news=[]:=bB (by rw[hs.len,Nat.zero_mul])
  subst hnil
  have hrun:(Builtin.append_ #[t,t] ty #[v,.slice none 0 c]).run P w= .ok v w:=by
   rcases hown.2 with⟨rfl,rfl⟩|⟨g,cap,cur,rfl,_,_,hnc,_⟩<;>simp[Builtin.append_,run_underlying ht,sizeOf,typeInfo,hi,Builtin.lenOf,Builtin.firstCells,storeCells, *]
  exact⟨v,w,hrun,by simpa using hown,⟨rfl,rfl,rfl,aG _,fun _ _ _=>rfl⟩,.inl rfl⟩
theorem ns{w:World}{B e m N:Nat}{v:Value}{ys:List Value}(h:w.ownsRow B e m v N ys):(v= .slice none 0 0∧N=0)∨ ∃g cap cur,v= .slice (some ⟨g,0,none⟩) N cap∧B<=g∧w.heap[g]? =some (.cells cur e (0,0))∧N<=cap∧cap<=maxLen∧cur.size=cap*m∧
  (∀(j:Nat) u,ys[j]? =some u->cur[j]? =some u):=by
 rcases h.2 with h2 |⟨g,cap,cur,h2,h3,h4,h5,h6,h7,h8⟩
 ·exact .inl h2
 ·refine .inr ⟨g,cap,cur,h2,h3,h4,h5,h6,h7,fun j u hu=> ?_⟩
  rw[<-h8,bg] at hu
  split at hu
  ·simpa using hu
  ·cases hu
theorem mU{md:Bool}{t:TypeId}{x y:AV}{next:Nat}{orc:List Orc}{r:Res}(h:jP P md t x y cx.H next orc=some r)(hp: ∀p∈r.cs,p)(hc:CRep cx)(hnone:cx.H next=none)
  {u v:Value}(hx:Rep cx x u)(hy:Rep cx y v)(ty:TypeId):
  ∃z cx',(Builtin.append_ #[t,t] ty #[u,v]).run P cx.w= .ok z cx'.w∧cx'.H=r.heap∧CRep cx'∧Stab cx cx'∧Rep cx' r.v z∧NewIds cx.H next r.heap r.next:=by
 unfold jP at h
 split at h
 ·rename_i e hu
  obtain⟨i,hi,hA⟩:=ae.1 h
  clear h
  obtain⟨z0,hz0,hB⟩:=ae.1 hA
  clear hA
  obtain⟨hb,hC⟩:=aE hB
  clear hB
  rw[bA] at hb
  obtain⟨i',zv,hi',hzz,hsz,_,_⟩:=dT (cx:=cx) hz0
  rw[hi] at hi'
  cases hi'
  obtain⟨q,hq,h⟩:=ae.1 hC
  clear hC
  obtain⟨A,c,news,hsrc⟩:=oO hq hb hc hy
  split at h
  ·have ex:=hx.nils_inv
   subst ex
   obtain⟨p,hp',rfl⟩:=ac.1 h
   obtain⟨c1,c2⟩:=bK hp' hp
   obtain⟨v',w',k1,k2,k3,k4⟩:=lL (P:=P) hu hi hzz hsz hb (World.ownsRow_nil cx.w 0 e i.size) hsrc (by rw[a7];exact c1) (by omega) (bM _) ty
   simp only[a7,List.nil_append] at k2
   have hgen: ∀p:Option (Nat×Nat),(∀g c,p=some (g,c)->cx.w.heap.size<=g)->Stab cx (cx.turn w' next p ⟨0,false,e,.rows i.size q.1 q.2⟩)∧(HB (cx.turn w' next p ⟨0,false,e,.rows i.size q.1 q.2⟩) next ⟨0,false,e,.rows i.size q.1 q.2⟩->CRep (cx.turn w' next p ⟨0,false,e,.rows i.size q.1 q.2⟩)):=fun p hpp=>
    lf hc (fun k hk _=>k3.block k hk (by simp[Value.ownBlock])) (fun b hb=>by rw[hnone] at hb;cases hb) k3.os k3.tape k3.output k3.size (fun g c e=> .inr (hpp g c e))
   rcases ns k2 with⟨rfl,hN⟩|⟨g,cap,cur,rfl,j1,j2,j3,j4,j5,j6⟩
   ·obtain⟨hst,hcr⟩:=hgen none (fun _ _ e=>by cases e)
    refine⟨_,_,k1,rfl,hcr (.inl ⟨by show upd cx.φ next none next=_;rw[aY],hN⟩),hst, ?_,fp⟩
    exact .own (b:=⟨0,false,e,.rows i.size q.1 q.2⟩) (by show upd cx.H next _ next=_;rw[aY]) (aG _) rfl fun _=>⟨q.1,q.2,rfl,by omega,.inl ⟨by show upd cx.φ next none next=_;rw[aY],rfl,hN,rfl⟩⟩
   ·have hg:g=cx.w.heap.size:=by
     rcases k4 with k4 |k4
     ·simp[Value.ownBlock] at k4
     ·simpa [Value.ownBlock] using k4
    obtain⟨hst,hcr⟩:=hgen (some (g,cap)) (fun g' c' e=>by cases e;omega)
    have hφ:(cx.turn w' next (some (g,cap)) ⟨0,false,e,.rows i.size q.1 q.2⟩).φ next=some (g,cap):=by show upd cx.φ next _ next=_;rw[aY]
    refine⟨_,_,k1,rfl,hcr (.inr ⟨g,cap,cur,hφ,j2,j5,j3,j4,fun a ha j hj=> ?_,fun hB=>cJ _ (hg▸hc.blt g hB),fun hR=> ?_⟩),hst, ?_,fp⟩
    ·obtain⟨u,hu',hr⟩:=hsrc.rep a ha j hj
     exact⟨u,j6 _ _ hu',hsrc.one u (aV hu'),hr.ext hc hst.ext⟩
    ·have:=hc.rlt g hR
     omega
    ·exact .own (b:=⟨0,false,e,.rows i.size q.1 q.2⟩) (by show upd cx.H next _ next=_;rw[aY]) (aG _) rfl fun _=>⟨q.1,q.2,rfl,by omega,.inr ⟨g,cap,hφ,by simp⟩⟩
  ·rename_i id gen m off len
   obtain⟨b,hb',hle,hO⟩:=hx.own_inv
   split at h
   ·rename_i gen' e' m' n f heq
    rw[hb'] at heq
    cases heq
    obtain⟨hqq,h'⟩:=aE h
    clear h
    simp only[au] at hqq
    obtain⟨⟨⟨q1,q2⟩,q3⟩,q4⟩:=hqq
    have e1:=aj q1
    have e2:=aj q2
    have e3:=aj q3
    have e4:=aj q4
    subst e2;subst e3;subst e4;subst e1
    obtain⟨n1,o1,h'⟩: ∃n1 o1,apO md e i.bytes q cx.H next id gen i.size f off len n1 o1=some r:=by
     cases hsh:shO orc with
     |true=>rw[hsh] at h';exact⟨_,_,h'⟩
     |false=>rw[hsh] at h';exact⟨_,_,h'⟩
    unfold apO at h'
    obtain⟨p,hp',rfl⟩:=ac.1 h'
    obtain⟨c0,c1,c2,c3⟩:=bK hp' hp
    subst c0;subst c1
    obtain⟨n',f',k1,k2,k3⟩:=hO rfl
    cases k1
    have hown: ∃xs,cx.w.ownsRow 0 e i.size u len xs∧(∀a,a<len-> ∀j,j<i.size-> ∃z,xs[a*i.size+j]? =some z∧z.oneCell'=true∧RepP cx.w cx.R (f a j) z)∧xs.length=len*i.size∧(∀g,u.ownBlock=some g-> ∃cap,cx.φ id=some (g,cap)):=by
     rcases k3 with⟨p1,_,rfl,rfl⟩|⟨g,cap,p1,rfl⟩
     ·exact⟨[],World.ownsRow_nil _ _ _ _,fun a ha=>by omega,by simp,fun g hg=>by simp[Value.ownBlock] at hg⟩
     ·obtain⟨cur,r1,r2,r3,r4,r5,r6,r7⟩:=fZ hc hb' rfl p1
      have hle2:len*i.size<=cap*i.size:=bn _ (by omega)
      refine⟨cur.toList.take (len*i.size),⟨by rw[aT,iG];omega,.inr ⟨g,cap,cur,by simp,bM _,r1,by omega,r4,r2,rfl⟩⟩,fun a ha j hj=> ?_,by rw[aT,iG];omega,fun g' hg'=>⟨cap,by simp[Value.ownBlock] at hg';rw[<-hg'];exact p1⟩⟩
      obtain⟨z,hz,ho,hr⟩:=r5 a (by omega) j hj
      have hlt:a*i.size+j<len*i.size:=by
       have:(a+1)*i.size<=len*i.size:=bn _ ha
       rw[bV] at this
       omega
      exact⟨z,by rw[bg,ai hlt];simpa using hz,ho,hr⟩
    obtain⟨xs,hox,hxr,hxl,hxb⟩:=hown
    obtain⟨v',w',j1,j2,j3,j4⟩:=lL (P:=P) hu hi hzz hsz hb hox hsrc c2 (by omega) (bM _) ty
    have hgen: ∀p:Option (Nat×Nat),(∀g c,p=some (g,c)->v'.ownBlock=some g)->Stab cx (cx.turn w' id p ⟨gen+1,false,e,.rows i.size (len+q.1) fun a j=>bif Nat.blt a len then f a j else q.2 (a-len) j⟩)∧(HB (cx.turn w' id p ⟨gen+1,false,e,.rows i.size (len+q.1) fun a j=>bif Nat.blt a len then f a j else q.2 (a-len) j⟩) id ⟨gen+1,false,e,.rows i.size (len+q.1) fun a j=>bif Nat.blt a len then f a j else q.2 (a-len) j⟩->CRep (cx.turn w' id p ⟨gen+1,false,e,.rows i.size (len+q.1) fun a j=>bif Nat.blt a len then f a j else q.2 (a-len) j⟩)):=fun p hpp=>
     lf hc (fun k hk hne=>j3.block k hk fun e=>by
       obtain⟨cap,hcap⟩:=hxb k e.symm
       exact hne cap (by rw[hb'];rfl) hcap)
      (fun b hb=>by
       rw[hb'] at hb
       cases hb
       exact⟨rfl,gI _,fun e=>absurd e (by simp),fun e=>by cases e⟩) j3.os j3.tape j3.output j3.size (fun g c e=>by
       have hv:=hpp g c e
       rcases j4 with j4 |j4
       ·obtain⟨cap,hcap⟩:=hxb g (by rw[<-j4];exact hv)
        exact .inl ⟨cap,by rw[hb'];rfl,hcap⟩
       ·rw[hv] at j4
        cases j4
        exact .inr (aG _))
    have hlt:NewIds cx.H next (upd cx.H id (some ⟨gen+1,false,e,.rows i.size (len+q.1) fun a j=>bif Nat.blt a len then f a j else q.2 (a-len) j⟩)) next:= .same fun i' hi'=>by
     by_cases e':i'=id
     ·rw[e',hb'];rfl
     ·rw[aQ _ _ _ _ e'] at hi';exact hi'
    rcases ns j2 with⟨rfl,hN⟩|⟨g,cap,cur,rfl,l1,l2,l3,l4,l5,l6⟩
    ·obtain⟨hst,hcr⟩:=hgen none (fun _ _ e=>by cases e)
     have hφ:(cx.turn w' id none ⟨gen+1,false,e,.rows i.size (len+q.1) fun a j=>bif Nat.blt a len then f a j else q.2 (a-len) j⟩).φ id=none:=by show upd cx.φ id none id=_;rw[aY]
     refine⟨_,_,j1,rfl,hcr (.inl ⟨hφ,hN⟩),hst, ?_,hlt⟩
     exact .own (b:=⟨gen+1,false,e,.rows i.size (len+q.1) fun a j=>bif Nat.blt a len then f a j else q.2 (a-len) j⟩) (by show upd cx.H id _ id=_;rw[aY]) (aG _) rfl fun _=>⟨_,_,rfl,by omega,.inl ⟨hφ,rfl,hN,rfl⟩⟩
    ·obtain⟨hst,hcr⟩:=hgen (some (g,cap)) (fun g' c' e=>by cases e;rfl)
     have hφ:(cx.turn w' id (some (g,cap)) ⟨gen+1,false,e,.rows i.size (len+q.1) fun a j=>bif Nat.blt a len then f a j else q.2 (a-len) j⟩).φ id=some (g,cap):=by show upd cx.φ id _ id=_;rw[aY]
     have hg: ¬cx.B g∧ ¬cx.R g:=by
      rcases j4 with j4 |j4
      ·obtain⟨cap',hcap⟩:=hxb g (by rw[<-j4];rfl)
       obtain⟨_,_,_,_,_,_,r6,r7⟩:=fZ hc hb' rfl hcap
       exact⟨r6,r7⟩
      ·simp[Value.ownBlock] at j4
       subst j4
       exact⟨fun hB=>cJ _ (hc.blt _ hB),fun hR=>by have:=hc.rlt _ hR;omega⟩
     refine⟨_,_,j1,rfl,hcr (.inr ⟨g,cap,cur,hφ,l2,l5,l3,l4,fun a ha j hj=> ?_,hg.1,hg.2⟩),hst, ?_,hlt⟩
     ·by_cases hal:a<len
      ·obtain⟨z,hz,ho,hr⟩:=hxr a hal j hj
       have hbt:Nat.blt a len=true:=by rw[bA];exact hal
       refine⟨z,l6 _ _ ?_,ho,by simp only[hbt,aO];exact hr.ext hc hst.ext⟩
       rw[bh (az.1 hz).1]
       exact hz
      ·obtain⟨z,hz,hr⟩:=hsrc.rep (a-len) (by omega) j hj
       have hbt:Nat.blt a len=false:=by
        cases hh:Nat.blt a len with
        |false=>rfl
        |true=>rw[bA] at hh;omega
       refine⟨z,l6 _ _ ?_,hsrc.one z (aV hz),by simp only[hbt,bb];exact hr.ext hc hst.ext⟩
       have hmul:len*i.size<=a*i.size:=bn _ (by omega)
       rw[bX (by rw[hxl];omega),hxl, <-hz]
       congr 1
       rw[Nat.sub_mul]
       omega
     ·exact .own (b:=⟨gen+1,false,e,.rows i.size (len+q.1) fun a j=>bif Nat.blt a len then f a j else q.2 (a-len) j⟩) (by show upd cx.H id _ id=_;rw[aY]) (aG _) rfl fun _=>⟨_,_,rfl,by omega,.inr ⟨g,cap,hφ,by simp⟩⟩
   ·cases h
  ·cases h
 ·cases h
theorem oM{t:TypeId}{x y:AV}{h:Nat->Option Blk}{cs':List AV}{r:(Nat->Option Blk)×List Prop}(hs:fT P t x y h cs'=some r)(hp: ∀p∈r.2,p):fb P false t x y h=some (r.1,[]):=by
 unfold fT at hs
 unfold fb
 obtain⟨s,h1,h2⟩:=ae.1 hs
 rw[h1]
 simp only[bk]
 split at h2
 ·split at h2
  ·rename_i heq
   obtain⟨vs,h3,h4⟩:=ae.1 h2
   obtain⟨hb,h5⟩:=aE h4
   simp only[ah] at h5;subst h5
   have e1:=hp _ (d4 ..)
   have e2:=hp _ (bG _ (aB.2 rfl))
   have e3:=Nat.ble_eq_true_of_le e1
   simp only[heq,h3,bk,hb,e3,Bool.and_self,aO,e2]
  ·cases h2
 ·cases h2
theorem mR{md:Bool}{o:Oper}{ρ:Operand->AV}{a:Act}{next:Nat}{orc:List Orc}{r:Res}(h:de P md o.op ρ cx.H next orc=some r)(hp: ∀p∈r.cs,p)(hc:CRep cx)(hnone:cx.H next=none)
  (hr: ∀x,Rep cx (ρ x) (a.eval x)):yu P o a cx next r:=by
 unfold de at h
 split at h
 ·rename_i t x y ho
  split at h
  ·obtain⟨q,hq,rfl⟩:=ac.1 h
   obtain⟨cx',k1,k2,k3,k4,k5⟩:=jq (oM hq hp) (fun p hp'=>by simp at hp') hc (hr x) (hr y)
   exact⟨.skip,undef,cx',by simp[execOp,ho,k1],.inr ⟨rfl,rfl⟩,k2,k3,k4,.pure (.junk _),.same k5⟩
  ·obtain⟨q,hq,rfl⟩:=ac.1 h
   obtain⟨cx',k1,k2,k3,k4,k5⟩:=jq hq hp hc (hr x) (hr y)
   exact⟨.skip,undef,cx',by simp[execOp,ho,k1],.inr ⟨rfl,rfl⟩,k2,k3,k4,.pure (.junk _),.same k5⟩
 ·rename_i args at_ ho
  split at h
  ·rename_i x y t t' e1 e2
   obtain⟨hb,h'⟩:=aE h
   clear h
   have e:=aj hb
   subst e
   obtain⟨z,cx',k1,k2,k3,k4,k5,k6⟩:=mU h' hp hc hnone (hr x) (hr y) o.type
   have e1':args= #[x,y]:=db.1 e1
   have e2':at_= #[t,t]:=db.1 e2
   subst e1';subst e2'
   exact⟨.value z,z,cx',by simp[execOp,ho,resolve,invoke,builtin,k1],.inl rfl,k2,k3,k4,k5,k6⟩
  ·cases h
 ·cases h
end
end
section
open Go.RowKit
theorem eb{α:Type}: ∀{l:List (Nat×α)} {k:Nat} {v:α},ba l k=some v->(k,v)∈l
 | [],k,v,h=>by simp[ba] at h
 | (j,x)::l,k,v,h=>by
  unfold ba at h
  cases hb:Nat.beq k j with
  |true=>
   rw[hb] at h
   simp only[aO,ah] at h
   rw[aj hb,h]
   simp
  |false=>
   rw[hb] at h
   exact bG _ (eb h)
theorem kH: ∀{l:List Nat},j9 l=true->l.Nodup
 | [],_=>List.nodup_nil
 |a::l,h=>by
  unfold j9 at h
  rw[au] at h
  refine List.nodup_cons.2 ⟨fun hm=> ?_,kH h.2⟩
  have:=aL.1 h.1 a hm
  simp at this
theorem rG: ∀{r:List (Nat×Nat)},(r.map (·.2)).Nodup-> ∀{a b c:Nat},(a,c)∈r->(b,c)∈r->a=b
 | [],_,a,b,c,h,_=>by simp at h
 | (x,y)::r,hn,a,b,c,h,h'=>by
  rw[List.map_cons,List.nodup_cons] at hn
  rcases bL.1 h with e |e<;>rcases bL.1 h' with e' |e'
  ·cases e;cases e';rfl
  ·cases e
   exact absurd (cX.2 ⟨_,e',rfl⟩) hn.1
  ·cases e'
   exact absurd (cX.2 ⟨_,e,rfl⟩) hn.1
  ·exact rG hn.2 e e'
section
variable{cx:Cx}
def Cx.ren(cx:Cx)(r:List (Nat×Nat))(hI:Nat->Option Blk):Cx:=
 ⟨cx.w,fun g=>cx.R g∨ ∃id b c,cx.H id=some b∧cx.φ id=some (g,c)∧(∀k,(k,id) ∉ r),fun id'=>(ba r id').bind cx.φ,hI,cx.B⟩
theorem iq(hc:CRep cx)(r:List (Nat×Nat))(hI:Nat->Option Blk):Ext cx (cx.ren r hI):=
 ⟨rfl,fun _ h=> .inl h,fun g h=>h.imp (fun x=>x) fun⟨id,b,c,h1,h2,_⟩=>((hc.hb id b h1).at_ h2).2,rfl,rfl,rfl,aG _,fun _ _ _=>rfl⟩
theorem Rep.own_one{id g m off len:Nat}{v:Value}(h:Rep cx (.own id g m off len) v):v.oneCell'=true:=by
 cases h with
 |pure h=>cases h
 |own _ _ ho=>exact ho
theorem uT{r:List (Nat×Nat)}{id:Nat}(h:(r.all fun q=> !(Nat.beq q.2 id))=true): ∀k,(k,id) ∉ r:=fun k hk=>by
 have:=aL.1 h _ hk
 simp at this
theorem lY(hc:CRep cx){r:List (Nat×Nat)}{hI:Nat->Option Blk}{a b:AV}{ps:List Prop}(h:xD cx.H hI r a b=some ps)(hp: ∀p∈ps,p)
  (hB: ∀id id' b b',ba r id'=some id->cx.H id=some b->hI id'=some b'->(∀m n f,b.c= .rows m n f-> ∃f',b'.c= .rows m n f')∧(b.c.isBox=true->b'.c.isBox=true))
  (hN: ∀id' b',ba r id'=none->hI id'=some b'-> ∃m n f,b'.c= .rows m n f∧n=0)
  {v:Value}(hr:Rep cx a v):Rep (cx.ren r hI) b v:=by
 have he:=iq hc r hI
 unfold xD at h
 split at h
 ·exact .pure (.junk _)
 ·split at h
  ·split at h
   ·rename_i hk
    subst hk
    simp only[ah] at h;subst h
    have e:=hp _ (aB.2 rfl)
    subst e
    rw[hr.int_inv]
    exact .pure (.int _ _)
   ·cases h
  ·cases h
 ·split at h
  ·simp only[ah] at h;subst h
   have e:=hp _ (aB.2 rfl)
   subst e
   rw[hr.bool_inv]
   exact .pure (.bool _)
  ·cases h
 ·split at h
  ·simp only[ah] at h;subst h
   have e:=hp _ (aB.2 rfl)
   subst e
   rw[hr.str_inv]
   exact .pure (.str _)
  ·cases h
 ·split at h
  ·rw[hr.nilp_inv];exact .pure .nilp
  ·cases h
 ·split at h
  ·rw[hr.nils_inv];exact .pure .nils
  ·cases h
 ·rename_i id' off'
  split at h
  ·rename_i id off
   obtain⟨i,hi,h⟩:=ae.1 h
   obtain⟨hb,_⟩:=aE h
   simp only[au] at hb
   have e1:=aj hb.1.1
   have e2:=aj hb.1.2
   subst e1;subst e2
   obtain⟨g,cap,b,h1,h2,h3,rfl⟩:=hr.bptr_inv
   obtain⟨b',hb'⟩:=aC.1 hb.2
   refine .bptr (b:=b') hb' ((hB _ _ _ _ hi h1 hb').2 h2) (g:=g) (cap:=cap) ?_
   show(ba r id').bind cx.φ=_
   rw[hi]
   exact h3
  ·cases h
 ·rename_i id' m' n'
  split at h
  ·rename_i id m n
   obtain⟨i,hi,h⟩:=ae.1 h
   obtain⟨hb,_⟩:=aE h
   simp only[au] at hb
   have e1:=aj hb.1.1
   have e2:=aj hb.1.2.1
   have e3:=aj hb.1.2.2
   subst e1;subst e2;subst e3
   obtain⟨g,cap,cap',b,h1,h2,h3,rfl⟩:=hr.bsl_inv
   obtain⟨b',hb'⟩:=aC.1 hb.2
   refine .bsl (b:=b') hb' ((hB _ _ _ _ hi h1 hb').2 h2) (g:=g) (cap:=cap) ?_
   show(ba r id').bind cx.φ=_
   rw[hi]
   exact h3
  ·cases h
 ·rename_i id' g' m' off' len'
  split at h
  ·split at h
   ·rename_i g'' fz e m'' n'' f'' heq
    obtain⟨hb,h'⟩:=aE h
    clear h
    simp only[ah] at h';subst h'
    simp only[au] at hb
    obtain⟨⟨q1,q2⟩,q3⟩:=hb
    have e1:=hp (off'=0) (by simp)
    have e2:=hp (len'=0) (by simp)
    have e3:=aj q2
    have e4:=aj q3
    subst e1;subst e2;subst e3;subst e4
    have hn:ba r id'=none:=by
     cases hq:ba r id' with
     |none=>rfl
     |some x=>rw[hq] at q1;simp at q1
    rw[hr.nils_inv]
    refine .own heq (aG _) rfl fun _=>⟨n'',f'',rfl,by omega,.inl ⟨?_,rfl,rfl,rfl⟩⟩
    show(ba r id').bind cx.φ=none
    rw[hn];rfl
   ·cases h
  ·rename_i id g m off len
   obtain⟨i,hi,h⟩:=ae.1 h
   obtain⟨hb,h⟩:=aE h
   simp only[ah] at h;subst h
   simp only[au] at hb
   obtain⟨⟨⟨q1,q2⟩,q3⟩,q4⟩:=hb
   have e1:=hp (off=off') (by simp)
   have e2:=hp (len=len') (by simp)
   have e3:=aj q1
   have e4:=aj q2
   subst e1;subst e2;subst e3;subst e4
   obtain⟨b,h1,h2,h3⟩:=hr.own_inv
   have g1:=fN q3 h1
   unfold kY at q4
   split at q4
   ·rename_i b' hb'
    have g2:=aj q4
    obtain⟨n,f,k1,k2,k3⟩:=h3 g1
    obtain⟨f',k4⟩:=(hB _ _ _ _ hi h1 hb').1 _ _ _ k1
    refine .own (b:=b') hb' (by omega) hr.own_one fun _=>⟨n,f',k4,k2, ?_⟩
    have hφ:(cx.ren r hI).φ id'=cx.φ i:=by show(ba r id').bind cx.φ=_;rw[hi];rfl
    rw[hφ]
    exact k3
   ·cases q4
  ·cases h
 ·rename_i m' n' f'
  split at h
  ·simp only[ah] at h;subst h
   have e:=hp _ (aB.2 rfl)
   subst e
   rw[hr.nils_inv]
   exact .pure (.row _ _ (fun _ _=>undef) (aG _) (bM _) (fun h=>by simp at h) (fun i hi=>by omega) (fun i hi=>by omega))
  ·rename_i m n f
   obtain⟨hb,h'⟩:=aE h
   clear h
   have e:=aj hb
   subst e
   simp only[ah] at h';subst h'
   have e1:=hp (n=n') (by simp)
   subst e1
   have e2:=hp (∀i,i<n-> ∀j,j<m->f i j=f' i j) (by simp)
   refine .pure ?_
   cases (hr.row_inv).ext hc he with
   |row A cap u hn hcap hA h1 hu=>exact .row A cap u hn hcap hA h1 fun i hi j hj=>by rw[<-e2 i hi j hj];exact hu i hi j hj
  ·rename_i id g m off len
   split at h
   ·rename_i g' fz e m'' n f heq
    obtain⟨hb,h⟩:=aE h
    simp only[ah] at h;subst h
    simp only[au] at hb
    obtain⟨⟨⟨q1,q2⟩,q3⟩,q4⟩:=hb
    have e1:=aj q1
    have e2:=aj q2
    have e3:=aj q3
    subst e1;subst e2;subst e3
    have e4:=hp (len=n') (by simp)
    subst e4
    have e5:=hp (∀i,i<len-> ∀j,j<m->f (i+off) j=f' i j) (by simp)
    obtain⟨b,h1,h2,h3⟩:=hr.own_inv
    rw[heq] at h1
    cases h1
    obtain⟨n2,f2,k1,k2,k3⟩:=h3 rfl
    cases k1
    rcases k3 with⟨p1,rfl,rfl,rfl⟩|⟨gg,cap,p1,rfl⟩
    ·exact .pure (.row _ _ (fun _ _=>undef) (aG _) (bM _) (fun h=>by simp at h) (fun i hi=>by omega) (fun i hi=>by omega))
    ·obtain⟨cur,r1,r2,r3,r4,r5,r6,r7⟩:=fZ hc heq rfl p1
     have hRg:(cx.ren r hI).R gg:=by
      cases fz with
      |true=>exact .inl r7
      |false=>
       simp only[cZ] at q4
       exact .inr ⟨id,_,cap,heq,p1,uT q4⟩
     refine .pure (.row _ _ (fun i j=>(cur[(i+off)*m+j]?).getD undef) (by omega) (by omega) (fun _=>⟨gg,off*m,rfl,hRg,fun i hi j hj=> ?_⟩) (fun i hi j hj=> ?_) (fun i hi j hj=> ?_))
     ·obtain⟨u,hu,ho,hr⟩:=r5 (i+off) (by omega) j hj
      show cx.w.cell? _=_
      rw[cell_of_row _ _ _ _ _ _ r1,show off*m+(i*m+j)=(i+off)*m+j by rw[bV];omega,hu]
      rfl
     ·obtain⟨u,hu,ho,hr⟩:=r5 (i+off) (by omega) j hj
      simp only[hu,bE]
      exact ho
     ·obtain⟨u,hu,ho,hr⟩:=r5 (i+off) (by omega) j hj
      simp only[hu,bE]
      rw[<-e5 i hi j hj]
      exact hr.ext hc he
   ·cases h
  ·cases h
 ·split at h
  ·rename_i m cs j
   obtain⟨hb,h'⟩:=aE h
   clear h
   simp only[ah] at h';subst h'
   rw[au] at hb
   have e1:=aj hb.1
   have e2:=aj hb.2
   subst e1;subst e2
   have e:=hp _ (aB.2 rfl)
   refine .pure ?_
   cases hr with
   |pure hr=>cases hr.ext hc he with
    |rptr hR u h1 h2 h3=>exact .rptr hR u h1 h2 fun q hq=>by rw[<-e q hq];exact h3 q hq
  ·cases h
 ·split at h
  ·obtain⟨hb,_⟩:=aE h
   have e:=aj hb
   subst e
   obtain⟨vs,rfl,hl,_⟩:=hr.clo_inv
   have:vs= #[]:=d5.1 (by rw[<-hl];rfl)
   subst this
   exact .pure (.clo rfl fun j a v ha _=>by simp at ha)
  ·cases h
 ·split at h
  ·simp only[ah] at h;subst h
   have e:=hp _ (aB.2 rfl)
   subst e
   cases hr with |pure hr=>cases hr;exact .pure (.val _)
  ·cases h
 ·cases h
theorem rB{le:AV->AV->Option (List Prop)}: ∀{l l':List AV} {p:List Prop},leL le l l'=some p->(∀x∈p,x)->l.length=l'.length∧ ∀(j:Nat) a b,l[j]? =some a->l'[j]? =some b-> ∃qs,le a b=some qs∧ ∀q∈qs,q
 | [],[],p,h,hp=>⟨rfl,fun j a b ha _=>by simp at ha⟩
 | [],_::_,p,h,hp=>by cases h
 |_::_,[],p,h,hp=>by cases h
 |a::l,b::l',p,h,hp=>by
  unfold leL at h
  cases h1:le a b with
  |none=>rw[h1] at h;cases h
  |some q=>
   cases h2:leL le l l' with
   |none=>rw[h1,h2] at h;cases h
   |some q'=>
    rw[h1,h2] at h
    simp only[ah] at h;subst h
    obtain⟨k1,k2⟩:=rB h2 fun x hx=>hp x (bN _ hx)
    refine⟨by simp[k1],fun j x y hx hy=> ?_⟩
    cases j with
    |zero=>
     simp only[bu,ah] at hx hy
     subst hx;subst hy
     exact⟨q,h1,fun x hx=>hp x (bW _ hx)⟩
    |succ j=>exact k2 j x y (by simpa using hx) (by simpa using hy)
theorem iA(hc:CRep cx){r:List (Nat×Nat)}{hI:Nat->Option Blk}{a b:AV}{ps:List Prop}(h:leC cx.H hI r a b=some ps)(hp: ∀p∈ps,p)
  (hB: ∀id id' b b',ba r id'=some id->cx.H id=some b->hI id'=some b'->(∀m n f,b.c= .rows m n f-> ∃f',b'.c= .rows m n f')∧(b.c.isBox=true->b'.c.isBox=true))
  (hN: ∀id' b',ba r id'=none->hI id'=some b'-> ∃m n f,b'.c= .rows m n f∧n=0)
  {v:Value}(hr:Rep cx a v):Rep (cx.ren r hI) b v:=by
 unfold leC at h
 split at h
 ·rename_i m' cs' j'
  split at h
  ·rename_i m cs j
   obtain⟨hb,hL⟩:=aE h
   clear h
   simp only[au] at hb
   obtain⟨⟨⟨q1,q2⟩,_⟩,q4⟩:=hb
   have e1:=aj q1
   have e2:=aj q2
   subst e1;subst e2
   have he:=iq hc r hI
   obtain⟨g,o,u,rfl,h1,h2,h3,h4⟩:=hr.rptr_inv
   obtain⟨_,k2⟩:=rB hL hp
   refine .pure (.rptr (he.R g h1) u (fun q hq=>(World.cell?_of_block (w:=cx.w) (a:=⟨g,_,none⟩) (he.heap hc h1)).trans (h2 q hq)) h3 fun q hq=> ?_)
   obtain⟨qs,z1,z2⟩:=k2 q (cs q) (cs' q) (by rw[aH,iF hq];rfl) (by rw[aH,iF hq];rfl)
   exact(lY hc z1 z2 hB hN (.pure (h4 q hq))).base (aL.1 q4 q (cM.2 hq))
  ·cases h
 ·exact lY hc h hp hB hN hr
theorem fq{le:AV->AV->Option (List Prop)}: ∀{l l':List AV} {ps:List Prop},leL le l l'=some ps->(∀p∈ps,p)->l.length=l'.length∧ ∀(j:Nat) a b,l[j]? =some a->l'[j]? =some b-> ∃qs,le a b=some qs∧ ∀p∈qs,p
 | [],[],ps,h,hp=>⟨rfl,fun j a b ha _=>by simp at ha⟩
 | [],_::_,ps,h,hp=>by simp[leL] at h
 |_::_,[],ps,h,hp=>by simp[leL] at h
 |a::l,b::l',ps,h,hp=>by
  unfold leL at h
  split at h
  ·rename_i p q hpp hqq
   simp only[ah] at h;subst h
   obtain⟨h1,h2⟩:=fq hqq (fun x hx=>hp x (by simp[hx]))
   refine⟨by simp[h1],fun j x y hx hy=> ?_⟩
   cases j with
   |zero=>
    simp at hx hy
    subst hx;subst hy
    exact⟨p,hpp,fun x hx=>hp x (by simp[hx])⟩
   |succ j=>exact h2 j x y (by simpa using hx) (by simpa using hy)
  ·cases h
structure RenOk (cx:Cx) (r:List (Nat×Nat)) (hI:Nat->Option Blk):Prop where
 B: ∀id id' b b',ba r id'=some id->cx.H id=some b->hI id'=some b'->(∀m n f,b.c= .rows m n f-> ∃f',b'.c= .rows m n f')∧(b.c.isBox=true->b'.c.isBox=true)
 N: ∀id' b',ba r id'=none->hI id'=some b'-> ∃m n f,b'.c= .rows m n f∧n=0
theorem ka(hc:CRep cx){r:List (Nat×Nat)}{hI:Nat->Option Blk}(ho:RenOk cx r hI){a b:AV}{ps:List Prop}(h:le1 cx.H hI r a b=some ps)(hp: ∀p∈ps,p){v:Value}(hr:Rep cx a v):Rep (cx.ren r hI) b v:=by
 unfold le1 at h
 split at h
 ·split at h
  ·rename_i cs' _ cs
   obtain⟨h1,h2⟩:=fq h hp
   obtain⟨vs,rfl,k1,k2,k3⟩:=hr.agg_inv
   refine .agg (by rw[<-h1];exact k1) k2 fun j x v hx hv=> ?_
   have hlt:j<cs.length:=by rw[h1];exact(az.1 hx).1
   obtain⟨qs,q1,q2⟩:=h2 j cs[j] x (by simp[hlt]) hx
   exact iA hc q1 q2 ho.B ho.N (k3 j _ v (by simp[hlt]) hv)
  ·cases h
 ·split at h
  ·rename_i f' c cs' _ f cs
   obtain⟨hb,h'⟩:=aE h
   clear h
   have e:=aj hb
   subst e
   obtain⟨h1,h2⟩:=fq h' hp
   obtain⟨vs,rfl,k1,k3⟩:=hr.clo_inv
   refine .clo (by rw[<-h1];exact k1) fun j x v hx hv=> ?_
   have hlt:j<cs.length:=by rw[h1];exact(az.1 hx).1
   obtain⟨qs,q1,q2⟩:=h2 j cs[j] x (by simp[hlt]) hx
   exact iA hc q1 q2 ho.B ho.N (k3 j _ v (by simp[hlt]) hv)
  ·cases h
 ·exact iA hc h hp ho.B ho.N hr
theorem sV(hc:CRep cx){r:List (Nat×Nat)}{hI:Nat->Option Blk}(ho:RenOk cx r hI){a b:AV}{ps:List Prop}(h:leV cx.H hI r a b=some ps)(hp: ∀p∈ps,p){v:Value}(hr:Rep cx a v):Rep (cx.ren r hI) b v:=by
 unfold leV at h
 split at h
 ·split at h
  ·rename_i cs' _ cs
   obtain⟨h1,h2⟩:=fq h hp
   obtain⟨vs,rfl,k1,k3⟩:=hr.tup_inv
   refine .tup (by rw[<-h1];exact k1) fun j x v hx hv=> ?_
   have hlt:j<cs.length:=by rw[h1];exact(az.1 hx).1
   obtain⟨qs,q1,q2⟩:=h2 j cs[j] x (by simp[hlt]) hx
   exact ka hc ho q1 q2 (k3 j _ v (by simp[hlt]) hv)
  ·cases h
 ·exact ka hc ho h hp hr
theorem oe{hs hI:Nat->Option Blk}{r:List (Nat×Nat)}: ∀{l:List (Nat×Blk)} {ps:List Prop},leH hs hI r l=some ps->(∀p∈ps,p)-> ∀id' b',(id',b')∈l->
  (∃id b qs,ba r id'=some id∧hs id=some b∧leB hs hI r (some b) b'=some qs∧ ∀p∈qs,p)∨(ba r id'=none∧ ∃qs,leB hs hI r none b'=some qs∧ ∀p∈qs,p)
 | [],ps,h,hp,id',b',hm=>by simp at hm
 | (k,x)::l,ps,h,hp,id',b',hm=>by
  unfold leH at h
  split at h
  ·rename_i id hid
   split at h
   ·rename_i b hb
    obtain⟨p,hpp,h⟩:=ae.1 h
    obtain⟨q,hqq,rfl⟩:=ac.1 h
    rcases bL.1 hm with e |e
    ·cases e
     exact .inl ⟨id,b,p,hid,hb,hpp,fun x hx=>hp x (by simp[hx])⟩
    ·exact oe hqq (fun x hx=>hp x (by simp[hx])) _ _ e
   ·cases h
  ·rename_i hid
   obtain⟨p,hpp,h⟩:=ae.1 h
   obtain⟨q,hqq,rfl⟩:=ac.1 h
   rcases bL.1 hm with e |e
   ·cases e
    exact .inr ⟨hid,p,hpp,fun x hx=>hp x (by simp[hx])⟩
   ·exact oe hqq (fun x hx=>hp x (by simp[hx])) _ _ e
theorem rC{hs hI:Nat->Option Blk}{r:List (Nat×Nat)}{env:Nat->AV}: ∀{l:List (Nat×AV)} {ps:List Prop},leE hs hI r env l=some ps->(∀p∈ps,p)-> ∀t,ic .junk l t= .junk∨ ∃qs,leV hs hI r (env t) (ic .junk l t)=some qs∧ ∀p∈qs,p
 | [],ps,h,hp,t=> .inl rfl
 | (k,x)::l,ps,h,hp,t=>by
  unfold leE at h
  obtain⟨p,hpp,h⟩:=ae.1 h
  obtain⟨q,hqq,rfl⟩:=ac.1 h
  unfold ic
  cases hb:Nat.beq t k with
  |true=>
   have e:=aj hb
   subst e
   exact .inr ⟨p,hpp,fun x hx=>hp x (by simp[hx])⟩
  |false=>exact rC hqq (fun x hx=>hp x (by simp[hx])) t
theorem pq{hs hI:Nat->Option Blk}{r:List (Nat×Nat)}{b b':Blk}{ps:List Prop}(h:leB hs hI r (some b) b'=some ps)(hp: ∀p∈ps,p):b.e=b'.e∧b.frz=b'.frz∧((∃cs cs' qs,b.c= .box cs∧b'.c= .box cs'∧leL (leC hs hI r) cs cs'=some qs∧ ∀p∈qs,p)∨
  ∃m n f f',b.c= .rows m n f∧b'.c= .rows m n f'∧ ∀i,i<n-> ∀j,j<m->f i j=f' i j):=by
 unfold leB at h
 simp only at h
 obtain⟨hb,h'⟩:=aE h
 clear h
 rw[au] at hb
 refine⟨aj hb.1,by simpa using hb.2, ?_⟩
 split at h'
 ·rename_i cs' hc'
  split at h'
  ·rename_i cs hc
   exact .inl ⟨cs,cs',ps,hc,hc',h',hp⟩
  ·cases h'
 ·rename_i m' n' f' hc'
  split at h'
  ·rename_i m n f hc
   obtain⟨hm,h2⟩:=aE h'
   simp only[ah] at h2;subst h2
   have e:=aj hm
   subst e
   have e1:=hp (n=n') (by simp)
   subst e1
   exact .inr ⟨m,n,f,f',hc,hc',hp _ (by simp)⟩
  ·cases h'
theorem pr{hs hI:Nat->Option Blk}{r:List (Nat×Nat)}{b':Blk}{ps:List Prop}(h:leB hs hI r none b'=some ps)(hp: ∀p∈ps,p): ∃m f,b'.c= .rows m 0 f∧b'.frz=false:=by
 unfold leB at h
 split at h
 ·split at h
  ·rename_i m n f hc
   cases hf:b'.frz with
   |true=>simp[hf] at h
   |false=>
    simp only[hf,bb,ah] at h;subst h
    have e:=hp _ (aB.2 rfl)
    subst e
    exact⟨m,f,hc,rfl⟩
  ·cases h
 ·rename_i heq;cases heq
theorem fL(hc:CRep cx){r:List (Nat×Nat)}{st:St}{I:Sm}{ps:List Prop}(hH:cx.H=st.heap)(h:leS r st I=some ps)(hp: ∀p∈ps,p){tmp:Nat->Value}(hr: ∀t,Rep cx (st.env t) (tmp t)):
  CRep (cx.ren r (ba I.heap))∧(∀t,Rep (cx.ren r (ba I.heap)) (I.st.env t) (tmp t))∧(∀i,(ba I.heap i).isSome=true->i<I.next):=by
 unfold leS at h
 obtain⟨hb,h'⟩:=aE h
 clear h
 simp only[au] at hb
 obtain⟨⟨⟨⟨b1,b2⟩,b3⟩,b4⟩,b5⟩:=hb
 obtain⟨p,hpp,h⟩:=ae.1 h'
 obtain⟨q,hqq,rfl⟩:=ac.1 h
 rw[<-hH] at hpp hqq
 have hHm:=oe hpp (fun x hx=>hp x (by simp[hx]))
 have hEm:=rC hqq (fun x hx=>hp x (by simp[hx]))
 have n1:=kH b1
 have ho:RenOk cx r (ba I.heap):=by
  refine⟨fun id id' b b' hid hb hb'=> ?_,fun id' b' hid hb'=> ?_⟩
  ·rcases hHm id' b' (eb hb') with⟨i2,x,qs,k1,k2,k3,k4⟩|⟨k1,_⟩
   ·rw[hid] at k1
    cases k1
    rw[hb] at k2
    cases k2
    obtain⟨_,_,h3⟩:=pq k3 k4
    rcases h3 with⟨cs,cs',_,c1,c2,_⟩|⟨m,n,f,f',c1,c2,_⟩
    ·exact⟨fun m n f e=>(by rw[c1] at e;cases e),fun _=>(by rw[c2];rfl)⟩
    ·exact⟨fun m n f e=>(by rw[c1] at e;cases e;exact⟨f',c2⟩),fun e=>(by rw[c1] at e;cases e)⟩
   ·rw[hid] at k1;cases k1
  ·rcases hHm id' b' (eb hb') with⟨i2,x,qs,k1,k2,k3,k4⟩|⟨k1,qs,k3,k4⟩
   ·rw[hid] at k1;cases k1
   ·obtain⟨m,f,c1,_⟩:=pr k3 k4
    exact⟨m,0,f,c1,rfl⟩
 have he:=iq hc r (ba I.heap)
 refine⟨⟨fun id' b' hb'=> ?_,fun i j g c c' hi hj h1 h2=> ?_,fun g hg=> ?_,hc.blt⟩,fun t=> ?_,fun i hi=> ?_⟩
 ·rcases hHm id' b' (eb hb') with⟨id,b,qs,k1,k2,k3,k4⟩|⟨k1,qs,k3,k4⟩
  ·obtain⟨e1,e2,h3⟩:=pq k3 k4
   have hφ:(cx.ren r (ba I.heap)).φ id'=cx.φ id:=by show(ba r id').bind cx.φ=_;rw[k1];rfl
   have hfr: ∀g c,cx.φ id=some (g,c)->(if b.frz then cx.R g else ¬cx.R g)->(if b'.frz then(cx.ren r (ba I.heap)).R g else ¬(cx.ren r (ba I.heap)).R g):=by
    intro g c hg hf
    rw[<-e2]
    cases hfz:b.frz with
    |true=>rw[hfz] at hf;exact .inl hf
    |false=>
     rw[hfz] at hf
     rintro(h |⟨i2,x,c2,x1,x2,x3⟩)
     ·exact hf h
     ·have:=hc.inj i2 id g c2 c (by rw[x1];rfl) (by rw[k2];rfl) x2 hg
      subst this
      exact x3 _ (eb k1)
   rcases h3 with⟨cs,cs',qs',c1,c2,c3,c4⟩|⟨m,n,f,f',c1,c2,c3⟩
   ·obtain⟨g,cur,r1,r2,r3,r4,r5⟩:=my hc k2 c1
    obtain⟨l1,l2⟩:=fq c3 c4
    unfold HB
    rw[c2]
    refine⟨g,cur,hφ.trans r1,by rw[<-e1];exact r2,by rw[<-l1];exact r3.len.symm,fun j a ha=> ?_,r4,hfr g 1 r1 r5⟩
    have hlt:j<cs.length:=by rw[l1];exact(az.1 ha).1
    have hlt':j<cur.size:=by rw[<-r3.len];exact hlt
    obtain⟨qs2,q1,q2⟩:=l2 j cs[j] a (by simp[hlt]) ha
    exact⟨cur[j],ao hlt',r3.one _ _ (ao hlt'),iA hc q1 q2 ho.B ho.N (r3.rep j _ _ (by simp[hlt]) (ao hlt'))⟩
   ·have hold:=hc.hb id b k2
    unfold HB at hold ⊢
    rw[c1] at hold
    rw[c2]
    rcases hold with⟨p1,p2⟩|⟨g,cap,cur,p1,p2,p3,p4,p5,p6,p7,p8⟩
    ·exact .inl ⟨hφ.trans p1,p2⟩
    ·refine .inr ⟨g,cap,cur,hφ.trans p1,by rw[<-e1];exact p2,p3,p4,p5,fun i hi j hj=> ?_,p7,hfr g cap p1 p8⟩
     obtain⟨u,hu,ho',hr'⟩:=p6 i hi j hj
     exact⟨u,hu,ho',by rw[<-c3 i hi j hj];exact hr'.ext hc he⟩
  ·obtain⟨m,f,c1,c2⟩:=pr k3 k4
   unfold HB
   rw[c1]
   refine .inl ⟨?_,rfl⟩
   show(ba r id').bind cx.φ=none
   rw[k1];rfl
 ·have hx: ∀i g c,((ba I.heap) i).isSome=true->(cx.ren r (ba I.heap)).φ i=some (g,c)-> ∃id,(i,id)∈r∧(cx.H id).isSome=true∧cx.φ id=some (g,c):=by
   intro i g c hi h1
   have h1':(ba r i).bind cx.φ=some (g,c):=h1
   obtain⟨id,hid,h2⟩:=ae.1 h1'
   obtain⟨b',hb'⟩:=aC.1 hi
   rcases hHm i b' (eb hb') with⟨i2,b,qs,k1,k2,k3,k4⟩|⟨k1,_⟩
   ·rw[hid] at k1
    cases k1
    exact⟨id,eb hid,by rw[k2];rfl,h2⟩
   ·rw[hid] at k1;cases k1
  obtain⟨i1,m1,s1,f1⟩:=hx i g c hi h1
  obtain⟨i2,m2,s2,f2⟩:=hx j g c' hj h2
  have:=hc.inj i1 i2 g c c' s1 s2 f1 f2
  subst this
  exact rG n1 m1 m2
 ·rcases hg with hg |⟨id,b,c,h1,h2,_⟩
  ·exact hc.rlt g hg
  ·exact((hc.hb id b h1).at_ h2).1
 ·rcases hEm t with e |⟨qs,q1,q2⟩
  ·show Rep _ (ic .junk I.env t) _
   rw[e]
   exact .pure (.junk _)
  ·exact sV hc ho q1 q2 (hr t)
 ·obtain⟨b',hb'⟩:=aC.1 hi
  have:=aL.1 b4 _ (eb hb')
  simpa [bA] using this
end
end
section
open Go.RowKit
def gC(env:Nat->AV)(dst:Option Tmp)(v:AV):Nat->AV:=match dst with
 |some d=>upd env d v
 |none=>env
abbrev cI:=FuncId->List AV->(Nat->Option Blk)->Nat->List Orc->Option Res
def tX:AV:= .val undef
def gh(ops:Array Oper)(o:Oper)(env:Nat->AV)(orc:List Orc):Option (Bool×List Orc×List Prop):=
 match o.guard with
 |none=>some (true,orc,[])
 |some (j,want)=>match (ops[j]?).bind (·.dst) with
  |none=>none
  |some d=>match env d with
   | .bool b=>match orc with
    | .b t::orc=>some (t==want,orc,[b=t])
    |orc=>match b with
     |true=>some (want,orc,[])
     |false=>some (!want,orc,[])
   | .val (.tuple _)=>some (false,orc,[])
   |_=>none
def mo(nt:Nat):Option Tmp->Bool
 |none=>true
 |some d=>Nat.blt d nt
section
variable(P:Program)
def nE(md:Bool)(call:cI)(nt:Nat)(ops:Array Oper):List Nat->St->List Orc->Option (St×List Orc×List Prop)
 | [],st,orc=>some (st,orc,[])
 |i::rest,st,orc=>match ops[i]? with
  |none=>none
  |some o=>bif mo nt o.dst then(gh ops o st.env orc).bind fun g=>match g.1 with
   |false=>(nE md call nt ops rest ⟨gC st.env o.dst tX,st.heap,st.next⟩ g.2.1).map fun q=>(q.1,q.2.1,g.2.2++q.2.2)
   |true=>(dN P md call o.op (bY st.env) st.heap st.next g.2.1).bind fun r=>
    (nE md call nt ops rest ⟨gC st.env o.dst r.v,r.heap,r.next⟩ r.orc).map fun q=>(q.1,q.2.1,g.2.2++r.cs++q.2.2) else none
class Dfs where
 l:List Nat
def zf(D:Nat):Deferred:={target:= .collected D,args:= #[]}
structure SRep [Dfs] (cx:Cx) (st:St) (a:Act) (nt:Nat):Prop where
 H:cx.H=st.heap
 c:CRep cx
 env: ∀t,Rep cx (st.env t) (a.tmps.getD t undef)
 lt: ∀i,(st.heap i).isSome=true->i<st.next
 sz:a.tmps.size=nt
 df:a.defers=(Dfs.l:List Nat).map zf
def eR(call:cI):Prop:=
 ∀f args h next orc r,call f args h next orc=some r->(∀p∈r.cs,p)-> ∀cx,cx.H=h->CRep cx->(∀i,(h i).isSome=true->i<next)-> ∀vs:Array Value,args.length=vs.size->(∀(j:Nat) a v,args[j]? =some a->vs[j]? =some v->Rep cx a v)->
  (∃fn,P.funcs[f]? =some fn∧fn.body.isSome=true∧fn.name≠ "runtime.NumGoroutine")∧
  Calls P f vs cx.w fun e w'=> ∃z cx',e= .returned z∧w'=cx'.w∧cx'.H=r.heap∧CRep cx'∧Stab cx cx'∧Rep cx' r.v z∧(∀i,(r.heap i).isSome=true->i<r.next)
end
section
variable{P:Program}{cx:Cx}
theorem xh{a:Act}{nt:Nat}(hs:a.tmps.size=nt){dst:Option Tmp}(hd:mo nt dst=true)(v:Value)(t:Nat):(a.put dst v).tmps.getD t undef=match dst with |some d=>if t=d then v else a.tmps.getD t undef |none=>a.tmps.getD t undef:=by
 cases dst with
 |none=>rfl
 |some d=>
  have hlt:d<a.tmps.size:=by rw[hs];exact bA▸hd
  show(a.tmps.setIfInBounds d v).getD t undef=_
  rw[aU,ip]
  by_cases e:t=d
  ·subst e
   simp[hlt]
  ·have e': ¬d=t:=fun h=>e h.symm
   simp only[e',if_false,e]
   rw[aU]
theorem SRep.put[Dfs]{cx cx':Cx}{st:St}{a:Act}{nt:Nat}(h:SRep cx st a nt)(hst:Stab cx cx')(hc:CRep cx'){heap:Nat->Option Blk}{next:Nat}(hH:cx'.H=heap)(hlt: ∀i,(heap i).isSome=true->i<next){dst:Option Tmp}(hd:mo nt dst=true){v:AV}{z:Value}(hr:Rep cx' v z):
  SRep cx' ⟨gC st.env dst v,heap,next⟩ (a.put dst z) nt:=by
 refine⟨hH,hc,fun t=> ?_,hlt, ?_, ?_⟩
 ·rw[xh h.sz hd]
  cases dst with
  |none=>exact(h.env t).stab h.c hst
  |some d=>
   show Rep cx' (upd st.env d v t) _
   by_cases e:t=d
   ·subst e
    rw[aY]
    simpa using hr
   ·rw[aQ _ _ _ _ e]
    simp only[e,if_false]
    exact(h.env t).stab h.c hst
 ·cases dst with
  |none=>exact h.sz
  |some d=>show(a.tmps.setIfInBounds d z).size=nt;rw[Array.size_setIfInBounds];exact h.sz
 ·cases dst<;>exact h.df
theorem ko{md:Bool}{call:cI}{o:Oper}{env:Nat->AV}{h0:Nat->Option Blk}{next:Nat}{a:Act}{orc:List Orc}{r:Res}(h:dN P md call o.op (bY env) h0 next orc=some r)(hcls:cV P o.op≠ .call)(hp: ∀p∈r.cs,p)(hH:cx.H=h0)(hc:CRep cx)
  (henv: ∀t,Rep cx (env t) (a.tmps.getD t undef))(hnone:cx.H next=none)
  {K:Act->World->Prop}{Q:Exit->Act->World->Prop}(hK: ∀cx' z,cx'.H=r.heap->CRep cx'->Stab cx cx'->Rep cx' r.v z->NewIds cx.H next r.heap r.next->K (a.put o.dst z) cx'.w):o.wp P a cx.w K Q:=by
 have hre:=fun x=>lM henv x
 have hdone: ∀D:yu P o a cx next r,o.wp P a cx.w K Q:=by
  rintro⟨n,z,cx',h1,h2,h3,h4,h5,h6,h7⟩
  have hk:=hK cx' z h3 h4 h5 h6 h7
  unfold Oper.wp
  rw[h1]
  rcases h2 with rfl |⟨rfl,rfl⟩
  ·exact hk
  ·exact hk
 subst hH
 unfold dN at h
 split at h
 ·obtain⟨q,hq,rfl⟩:=ac.1 h
  obtain⟨z,h1,h2⟩:=oq hq hp hre cx.w
  exact hdone ⟨_,z,cx,h1,.inl rfl,rfl,hc,Stab.refl cx,h2,.same fun _ h=>h⟩
 ·obtain⟨q,hq,rfl⟩:=ac.1 h
  obtain⟨z,h1,h2⟩:=om hq hp hc hre
  exact hdone ⟨_,z,cx,h1,.inl rfl,rfl,hc,Stab.refl cx,h2,.same fun _ h=>h⟩
 ·exact hdone (ot h hp hc hnone hre)
 ·exact hdone (mR h hp hc hnone hre)
 ·rename_i hcl
  exact absurd hcl hcls
theorem fu{md:Bool}{call:cI}{o:Oper}{env:Nat->AV}{h0:Nat->Option Blk}{next:Nat}{a:Act}{orc:List Orc}{r:Res}(h:dN P md call o.op (bY env) h0 next orc=some r)(hcls:cV P o.op= .call)(henv: ∀t,Rep cx (env t) (a.tmps.getD t undef)):
  ∃f avs vs,call f avs h0 next orc=some r∧(∃fo args at_,o.op= .call {callee:= .value fo,args:=args,argTypes:=at_}∧ ∃caps,bY env fo= .clo f caps∧avs=args.toList.map (bY env)++caps)∧avs.length=vs.size∧(∀(j:Nat) x v,avs[j]? =some x->vs[j]? =some v->Rep cx x v)∧
   ∀K Q,(∃fn,P.funcs[f]? =some fn∧fn.body.isSome=true∧fn.name≠ "runtime.NumGoroutine")->Calls P f vs cx.w (fun e w'=> ∃z,e= .returned z∧K (a.put o.dst z) w')->o.wp P a cx.w K Q:=by
 have hre:=fun x=>lM henv x
 unfold dN at h
 split at h
 ·rename_i hcl;rw[hcls] at hcl;cases hcl
 ·rename_i hcl;rw[hcls] at hcl;cases hcl
 ·rename_i hcl;rw[hcls] at hcl;cases hcl
 ·rename_i hcl;rw[hcls] at hcl;cases hcl
 ·split at h
  ·rename_i f args at_ ho
   split at h
   ·rename_i f' caps hf
    have hfr:=hre f
    rw[hf] at hfr
    obtain⟨vs,hv,hl,hR⟩:=hfr.clo_inv
    refine⟨f',args.toList.map (bY env)++caps,(args.map a.eval)++vs,h,⟨f,args,at_,ho,caps,hf,rfl⟩,by simp[hl], ?_, ?_⟩
    ·intro j x v hx hv
     by_cases hj:j<args.size
     ·rw[bh (by simpa using hj),aH,bj] at hx
      rw[Array.getElem?_append_left (by simpa using hj),d6] at hv
      obtain⟨y,hy,rfl⟩:=ac.1 hx
      rw[hy] at hv
      cases hv
      exact hre y
     ·rw[bX (by simpa using Nat.le_of_not_lt hj)] at hx
      rw[Array.getElem?_append_right (by simpa using Nat.le_of_not_lt hj)] at hv
      simp only[dv,iG] at hx
      simp only[Array.size_map] at hv
      exact hR _ x v hx hv
    ·rintro K Q ⟨fn,g1,g2,g3⟩ hcl
     have hex:(execOp a.eval o).run P cx.w= .ok (.enter f' ((args.map a.eval)++vs)) cx.w:=by
      obtain⟨bd,hbd⟩:=aC.1 g2
      simp[execOp,ho,resolve,hv,Deferred.ofValue,invoke,callFunc,g1,hbd,g3]
     unfold Oper.wp
     rw[hex,Oper.upon_enter]
     refine hcl.mono ?_
     rintro e w' ⟨z,rfl,hk⟩
     exact hk
   ·cases h
  ·cases h
theorem mh[Dfs]{md:Bool}{call:cI}(hcall:eR P call){o:Oper}{st:St}{a:Act}{nt:Nat}{orc:List Orc}{r:Res}(h:dN P md call o.op (bY st.env) st.heap st.next orc=some r)(hp: ∀p∈r.cs,p)(hs:SRep cx st a nt)(hd:mo nt o.dst=true)
  {K:Act->World->Prop}{Q:Exit->Act->World->Prop}(hK: ∀cx' a',SRep cx' ⟨gC st.env o.dst r.v,r.heap,r.next⟩ a' nt->Stab cx cx'->K a' cx'.w):o.wp P a cx.w K Q:=by
 by_cases hcls:cV P o.op= .call
 ·obtain⟨f,avs,vs,h1,_,h3,h4,h5⟩:=fu (cx:=cx) (a:=a) h hcls hs.env
  obtain⟨k1,k2⟩:=hcall f avs _ _ _ r h1 hp cx hs.H hs.c hs.lt vs h3 h4
  refine h5 K Q k1 (k2.mono ?_)
  rintro e w' ⟨z,cx',rfl,rfl,m3,m4,m5,m6,m7⟩
  exact⟨z,rfl,hK cx' _ (hs.put m5 m4 m3 m7 hd m6) m5⟩
 ·exact ko h hcls hp hs.H hs.c hs.env (by rw[hs.H];exact sM hs.lt) fun cx' z h3 h4 h5 h6 h7=>
   hK cx' _ (hs.put h5 h4 h3 (by rw[hs.H] at h7;exact h7.lt hs.lt) hd h6) h5
theorem eZ[Dfs]{ops:Array Oper}{o:Oper}{st:St}{a:Act}{nt:Nat}{orc:List Orc}{g:Bool×List Orc×List Prop}(h:gh ops o st.env orc=some g)(hp: ∀p∈g.2.2,p)(hs:SRep cx st a nt):Region.wanted o (yielded ops a.tmps)=g.1:=by
 unfold gh at h
 unfold Region.wanted
 split at h
 ·rename_i hg
  simp only[ah] at h;subst h
  rw[hg]
 ·rename_i j want hg
  rw[hg]
  split at h
  ·cases h
  ·rename_i d hd
   split at h
   ·rename_i b hb
    have hr:=hs.env d
    rw[hb] at hr
    have hv:=hr.bool_inv
    have hlt:d<a.tmps.size:=by
     rcases mF d a.tmps.size with h1 |h1
     ·exact h1
     ·rw[aU,mH h1] at hv
      cases hv
    have hy:yielded ops a.tmps j=some b:=by
     unfold yielded
     rw[hd]
     have:a.tmps[d]? =some (.bool b):=by
      rw[ao hlt]
      rw[aU,ao hlt] at hv
      simpa using hv
     simp[this]
    simp only[hy]
    split at h
    ·rename_i t orc'
     simp only[ah] at h;subst h
     have e:=hp (b=t) (by simp)
     subst e
     cases b<;>cases want<;>rfl
    ·split at h
     ·simp only[ah] at h;subst h
      cases want<;>rfl
     ·simp only[ah] at h;subst h
      cases want<;>rfl
   ·rename_i vs hb
    simp only[ah] at h;subst h
    have hr:=hs.env d
    rw[hb] at hr
    have hv:a.tmps.getD d undef= .tuple vs:=by
     generalize a.tmps.getD d undef=z at hr
     cases hr with
     |pure h=>cases h;rfl
    have hy:yielded ops a.tmps j=none:=by
     unfold yielded
     rw[hd]
     rw[aU] at hv
     cases hx:a.tmps[d]? with
     |none=>simp[hx]
     |some x=>
      rw[hx] at hv
      simp only[bE] at hv
      subst hv
      simp[hx]
    simp only[hy]
    rfl
   ·cases h
theorem im[Dfs]{md:Bool}{call:cI}(hcall:eR P call){nt:Nat}{ops:Array Oper}{Q:Exit->Act->World->Prop}: ∀(l:List Nat) {st:St} {orc:List Orc} {q:St×List Orc×List Prop} {cx:Cx} {a:Act},nE P md call nt ops l st orc=some q->(∀p∈q.2.2,p)->SRep cx st a nt->
  (∀cx' a',SRep cx' q.1 a' nt->Stab cx cx'->Q .normal a' cx'.w)->wpOps P ops Q l a cx.w
 | [],st,orc,q,cx,a,h,hp,hs,hQ=>by
  simp only[nE,ah] at h;subst h
  exact hQ cx a hs (Stab.refl cx)
 |i::rest,st,orc,q,cx,a,h,hp,hs,hQ=>by
  unfold nE at h
  unfold wpOps
  split at h
  ·cases h
  ·rename_i o ho
   rw[ho]
   obtain⟨hd,h1⟩:=aE h
   clear h
   obtain⟨g,hg,h2⟩:=ae.1 h1
   clear h1
   simp only
   split at h2
   ·rename_i hgf
    obtain⟨q',hq',rfl⟩:=ac.1 h2
    have hw:=eZ hg (fun p hp'=>hp p (by simp[hp'])) hs
    rw[hgf] at hw
    rw[hw]
    simp only[fj,if_false]
    have hs':SRep cx ⟨gC st.env o.dst tX,st.heap,st.next⟩ (a.put o.dst undef) nt:=hs.put (Stab.refl cx) hs.c hs.H hs.lt hd (.pure (.val _))
    exact im hcall rest hq' (fun p hp'=>hp p (by simp[hp'])) hs' hQ
   ·rename_i hgt
    obtain⟨r,hr,h3⟩:=ae.1 h2
    obtain⟨q',hq',rfl⟩:=ac.1 h3
    have hw:=eZ hg (fun p hp'=>hp p (by simp[hp'])) hs
    rw[hgt] at hw
    rw[hw]
    simp only[if_true]
    refine .inl (mh hcall hr (fun p hp'=>hp p (by simp[hp'])) hs hd fun cx1 a1 hs1 hst1=> ?_)
    exact im hcall rest hq' (fun p hp'=>hp p (by simp[hp'])) hs1 fun cx2 a2 hs2 hst2=>hQ cx2 a2 hs2 (hst1.trans hst2)
end
end
section
open Go.RowKit
def X.to:X->Exit
 | .nrm=> .normal
 | .ext id=> .exit id
 | .ret=> .ret
abbrev rS:=Option (X×St×List Orc×List Prop)
def kq(body:St->List Orc->rS):Nat->St->List Orc->rS
 |0,_,_=>none
 |k+1,st,orc=>(body st orc).bind fun q=>match q.1 with
  | .nrm=>(kq body k q.2.1 q.2.2.1).map fun r=>(r.1,r.2.1,r.2.2.1,q.2.2.2++r.2.2.2)
  |x=>some q
structure After (lp:Bool) (d:Dfs) (cx:Cx) (d':Dfs) (cx':Cx):Prop where
 ext:Ext cx cx'
 st:lp=false->Stab cx cx'∧d'=d
 mks: ∃ms:List Nat,d'.l=ms++d.l∧ms.Nodup∧ ∀D∈ms,cx.w.heap.size<=D∧ ¬cx'.R D∧cx'.w.heap[D]? =some (.deferred (some []))
theorem After.of{lp:Bool}{d:Dfs}{a b:Cx}(h:Stab a b):After lp d a d b:=⟨h.ext,fun _=>⟨h,rfl⟩,[],rfl,List.nodup_nil,fun _ h=>by cases h⟩
theorem After.refl(lp:Bool)(d:Dfs)(cx:Cx):After lp d cx d cx:= .of (Stab.refl cx)
theorem After.of_ext{d:Dfs}{a b:Cx}(h:Ext a b):After true d a d b:=⟨h,fun e=>(by cases e),[],rfl,List.nodup_nil,fun _ h=>by cases h⟩
theorem After.pre{d d':Dfs}{a b c:Cx}(h:Ext a b)(hw:b.w=a.w)(k:After true d b d' c):After true d a d' c:=by
 obtain⟨ms,h1,h2,h3⟩:=k.mks
 exact⟨h.trans k.ext,fun e=>(by cases e),ms,h1,h2,fun D hD=>⟨by rw[<-hw];exact(h3 D hD).1,(h3 D hD).2⟩⟩
def Ok(P:Program)(nt:Nat)(c:Code)(I:St)(x:X)(J:St):Prop:=
 ∀(d:Dfs) cx a,SRep cx I a nt-> ∀Q:Exit->Act->World->Prop,(∀(d':Dfs) cx' a', @SRep d' cx' J a' nt->After true d cx d' cx'->Q x.to a' cx'.w)->c.wp P Q a cx.w
theorem Rep.reB{w:World}{R:Nat->Prop}{φ:Nat->Option (Nat×Nat)}{H:Nat->Option Blk}{B B':Nat->Prop}{a:AV}{v:Value}(h:Rep ⟨w,R,φ,H,B⟩ a v):Rep ⟨w,R,φ,H,B'⟩ a v:=by
 induction h with
 |pure h=>exact .pure h
 |bptr hb hx hg=>exact .bptr hb hx hg
 |bsl hb hx hg=>exact .bsl hb hx hg
 |eptr hb hle ho h=>exact .eptr hb hle ho h
 |own hb hle ho h=>exact .own hb hle ho h
 |agg hl h1 h ih=>exact .agg hl h1 ih
 |tup hl h ih=>exact .tup hl ih
 |clo hl h ih=>exact .clo hl ih
theorem HB.reB{w:World}{R:Nat->Prop}{φ:Nat->Option (Nat×Nat)}{H:Nat->Option Blk}{B B':Nat->Prop}{id:Nat}{b:Blk}(h:HB ⟨w,R,φ,H,B⟩ id b)(hB: ∀g cur e s,w.heap[g]? =some (.cells cur e s)-> ¬B g-> ¬B' g):HB ⟨w,R,φ,H,B'⟩ id b:=by
 unfold HB at h ⊢
 split
 ·rename_i cs hc
  rw[hc] at h
  obtain⟨g,cur,h1,h2,h3,h4,h5,h6⟩:=h
  exact⟨g,cur,h1,h2,h3,fun j a ha=>by obtain⟨u,u1,u2,u3⟩:=h4 j a ha;exact⟨u,u1,u2,u3.reB⟩,hB g _ _ _ h2 h5,h6⟩
 ·rename_i m n f hc
  rw[hc] at h
  rcases h with h |⟨g,cap,cur,h1,h2,h3,h4,h5,h6,h7,h8⟩
  ·exact .inl h
  ·exact .inr ⟨g,cap,cur,h1,h2,h3,h4,h5,h6,hB g _ _ _ h2 h7,h8⟩
def Cx.plus(cx:Cx)(l:List Nat):Cx:=⟨cx.w,cx.R,cx.φ,cx.H,fun g=>cx.B g∨g∈l⟩
def Cx.back(cx2 cx:Cx):Cx:=⟨cx2.w,cx2.R,cx2.φ,cx2.H,cx.B⟩
theorem SRep.plus[Dfs]{cx:Cx}{st:St}{a:Act}{nt:Nat}(hs:SRep cx st a nt)(l:List Nat)(hl: ∀D∈l, ∃o,cx.w.heap[D]? =some o∧o.isCells=false):SRep (cx.plus l) st a nt:=by
 refine⟨hs.H,⟨fun id b hb=>(hs.c.hb id b hb).reB fun g cur e s hg hB h=> ?_,hs.c.inj,hs.c.rlt,fun g h=> ?_⟩,fun t=>(hs.env t).reB,hs.lt,hs.sz,hs.df⟩
 ·rcases h with h |h
  ·exact hB h
  ·obtain⟨o,h1,h2⟩:=hl g h
   have h1:cx.w.heap[g]? =some o:=h1
   have hg:cx.w.heap[g]? =some (.cells cur e s):=hg
   rw[hg] at h1;cases h1;cases h2
 ·rcases h with h |h
  ·exact hs.c.blt g h
  ·obtain⟨o,h1,h2⟩:=hl g h
   exact(aN.1 h1).1
theorem SRep.back[Dfs]{cx cx2:Cx}{st:St}{a:Act}{nt:Nat}(hs:SRep cx2 st a nt)(hB: ∀g,cx.B g->cx2.B g):SRep (cx2.back cx) st a nt:=
 ⟨hs.H,⟨fun id b hb=>(hs.c.hb id b hb).reB fun g _ _ _ _ h1 h2=>h1 (hB g h2),hs.c.inj,hs.c.rlt,fun g h=>hs.c.blt g (hB g h)⟩,fun t=>(hs.env t).reB,hs.lt,hs.sz,hs.df⟩
theorem Ext.back{cx cx2:Cx}{l:List Nat}(h:Ext (cx.plus l) cx2):Ext cx (cx2.back cx):=
 ⟨rfl,h.R,fun g hg=>(h.Rn g hg).imp_right fun h1 h2=>h1 (.inl h2),h.os,h.tape,h.output,h.size,fun g h1 h2=>h.block g h1 (h2.imp_left .inl)⟩
theorem Stab.back{cx cx2:Cx}{l:List Nat}(h:Stab (cx.plus l) cx2):Stab cx (cx2.back cx):=⟨h.ext.back,h.ids,h.gens⟩
theorem qp{cx cx2:Cx}{l:List Nat}(h:Ext (cx.plus l) cx2)(hl: ∀D∈l, ¬cx.R D∧ ∃o,cx.w.heap[D]? =some o∧o.isCells=false): ∀D∈l,cx2.w.heap[D]? =cx.w.heap[D]? ∧ ¬cx2.R D:=fun D hD=>by
 obtain⟨h1,o,h2,_⟩:=hl D hD
 refine⟨h.block D (aN.1 h2).1 (.inl (.inr hD)),fun hR=> ?_⟩
 rcases h.Rn D hR with h3 |h3
 ·exact h1 h3
 ·exact h3 (.inr hD)
theorem After.plus{lp:Bool}{d d1:Dfs}{cx cx1:Cx}{st:St}{a:Act}{nt:Nat}(ha:After lp d cx d1 cx1)(hs: @SRep d1 cx1 st a nt): ∃cx1p,cx1p.w=cx1.w∧ @SRep d1 cx1p st a nt∧
  ∀(d2:Dfs) cx2 st2 a2 nt2, @SRep d2 cx2 st2 a2 nt2->After lp d1 cx1p d2 cx2-> ∃cx3,cx3.w=cx2.w∧ @SRep d2 cx3 st2 a2 nt2∧After lp d cx d2 cx3:=by
 obtain⟨ms,e1,n1,h1⟩:=ha.mks
 have hl: ∀D∈ms, ¬cx1.R D∧ ∃o,cx1.w.heap[D]? =some o∧o.isCells=false:=fun D hD=>⟨(h1 D hD).2.1,_,(h1 D hD).2.2,rfl⟩
 refine⟨cx1.plus ms,rfl,hs.plus ms fun D hD=>(hl D hD).2,fun d2 cx2 st2 a2 nt2 hs2 ha2=>⟨cx2.back cx1,rfl,hs2.back fun g hg=> ?_, ?_⟩⟩
 ·rw[ha2.ext.B];exact .inl hg
 ·obtain⟨ms2,e2,n2,h2⟩:=ha2.mks
  refine⟨ha.ext.trans ha2.ext.back,fun e=>⟨(ha.st e).1.trans (ha2.st e).1.back,(ha2.st e).2.trans (ha.st e).2⟩,ms2++ms,by rw[e2,e1,dz], ?_,fun D hD=> ?_⟩
  ·refine List.nodup_append.2 ⟨n2,n1,fun x hx y hy e=> ?_⟩
   subst e
   have k1:=(h2 x hx).1
   have k2:=(aN.1 (h1 x hy).2.2).1
   have k1:cx1.w.heap.size<=x:=k1
   omega
  ·rcases aP.1 hD with h |h
   ·obtain⟨k1,k2,k3⟩:=h2 D h
    exact⟨dy ha.ext.size k1,k2,k3⟩
   ·obtain⟨k1,k2⟩:=qp ha2.ext hl D h
    exact⟨(h1 D h).1,k2,k1.trans (h1 D h).2.2⟩
section
variable(P:Program)
abbrev iY:=cI->Nat->Array Oper->St->List Orc->Option (St×List Orc×List Prop)
def pC(dr:iY)(md:Bool)(call:cI)(nt:Nat)(ops:Array Oper)(draw:Bool)(st:St)(orc:List Orc):Option (St×List Orc×List Prop):=
 bif draw then dr call nt ops st orc else nE P md call nt ops (List.range ops.size) st orc
def cw(dr:iY)(lp md:Bool)(call:cI)(nt:Nat):Code->St->List Orc->rS
 | .skip,st,orc=>some (.nrm,st,orc,[])
 | .region id ops draw,st,orc=>match orc with
  | .le r I::orc=>bif lp then(leS r st I).bind fun p=>(pC P dr md call nt ops draw I.st orc).map fun q=>(.nrm,q.1,q.2.1,p++q.2.2) else none
  | .sr r I x J::orc=>bif draw then(bif lp then(leS r st I).map fun p=>(x,J.st,orc,p++[Ok P nt (.region id ops draw) I.st x J.st]) else none)
   else(pC P dr md call nt ops draw st (.sr r I x J::orc)).map fun q=>(.nrm,q.1,q.2.1,q.2.2)
  |orc=>(pC P dr md call nt ops draw st orc).map fun q=>(.nrm,q.1,q.2.1,q.2.2)
 | .seq a b,st,orc=>(cw dr lp md call nt a st orc).bind fun q=>match q.1 with
  | .nrm=>(cw dr lp md call nt b q.2.1 q.2.2.1).map fun r=>(r.1,r.2.1,r.2.2.1,q.2.2.2++r.2.2.2)
  |x=>some q
 | .cond c a b,st,orc=>match orc with
  | .su r I x J::orc=>bif lp then(leS r st I).map fun p=>(x,J.st,orc,p++[Ok P nt (.cond c a b) I.st x J.st]) else none
  |orc=>match bY st.env c with
   | .bool t=>match orc with
    | .b t'::orc=>(bif t' then cw dr lp md call nt a st orc else cw dr lp md call nt b st orc).map fun q=>(q.1,q.2.1,q.2.2.1,(t=t')::q.2.2.2)
    |orc=>match t with
     |true=>cw dr lp md call nt a st orc
     |false=>cw dr lp md call nt b st orc
   |_=>none
 | .block id c,st,orc=>match orc with
  | .su r I x J::orc=>bif lp then(leS r st I).map fun p=>(x,J.st,orc,p++[Ok P nt (.block id c) I.st x J.st]) else none
  |orc=>(cw dr lp md call nt c st orc).map fun q=>match q.1 with
   | .ext i=>bif Nat.beq i id then(.nrm,q.2) else q
   |x=>q
 | .loop c,st,orc=>match orc with
  | .lp r I x J::orc=>bif lp then(leS r st I).map fun p=>(x,J.st,orc,p++[Ok P nt (.loop c) I.st x J.st]) else none
  | .it k::orc=>kq (cw dr lp md call nt c) k st orc
  |orc=>kq (cw dr lp md call nt c) 3000 st orc
 | .rangeFunc g ps a b,st,orc=>match orc with
  | .lp r I x J::orc=>bif lp then(leS r st I).map fun p=>(x,J.st,orc,p++[Ok P nt (.rangeFunc g ps a b) I.st x J.st]) else none
  |_=>none
 | .exit id,st,orc=>some (.ext id,st,orc,[])
 | .ret,st,orc=>some (.ret,st,orc,[])
 |_,_,_=>none
end
def ku(P:Program)(dr:iY):Prop:=
 ∀[Dfs], ∀call,eR P call-> ∀nt ops st orc q cx a id,dr call nt ops st orc=some q->(∀p∈q.2.2,p)->SRep cx st a nt-> ∀Q:Exit->Act->World->Prop,(∀cx' a',SRep cx' q.1 a' nt->Stab cx cx'->Q .normal a' cx'.w)->(Code.region id ops true).wp P Q a cx.w
section
variable{P:Program}
theorem SRep.le[Dfs]{cx:Cx}{st:St}{a:Act}{nt:Nat}(h:SRep cx st a nt){r:List (Nat×Nat)}{I:Sm}{ps:List Prop}(hl:leS r st I=some ps)(hp: ∀p∈ps,p): ∃cx',SRep cx' I.st a nt∧Ext cx cx'∧cx'.w=cx.w:=by
 obtain⟨h1,h2,h3⟩:=fL h.c h.H hl hp h.env
 exact⟨cx.ren r (ba I.heap),⟨rfl,h1,h2,h3,h.sz,h.df⟩,iq h.c r _,rfl⟩
theorem ik[Dfs]{dr:iY}(hdr:ku P dr){md:Bool}{call:cI}(hcall:eR P call){nt:Nat}{ops:Array Oper}{draw:Bool}{id:Nat}{st:St}{orc:List Orc}{q:St×List Orc×List Prop}{cx:Cx}{a:Act}(h:pC P dr md call nt ops draw st orc=some q)(hp: ∀p∈q.2.2,p)(hs:SRep cx st a nt)
  {Q:Exit->Act->World->Prop}(hQ: ∀cx' a',SRep cx' q.1 a' nt->Stab cx cx'->Q .normal a' cx'.w):(Code.region id ops draw).wp P Q a cx.w:=by
 unfold pC at h
 cases draw with
 |true=>exact hdr call hcall nt ops st orc q cx a id h hp hs Q hQ
 |false=>exact wp_region (im hcall _ h hp hs hQ)
theorem fA{c:Code}{lp:Bool}{nt:Nat}{body:St->List Orc->rS}
  (hb: ∀[d:Dfs] st orc q cx a,body st orc=some q->(∀p∈q.2.2.2,p)->SRep cx st a nt-> ∀Q:Exit->Act->World->Prop,(∀(d':Dfs) cx' a', @SRep d' cx' q.2.1 a' nt->After lp d cx d' cx'->Q q.1.to a' cx'.w)->c.wp P Q a cx.w):
  ∀(k:Nat) [d:Dfs] {st:St} {orc:List Orc} {q:X×St×List Orc×List Prop} {cx:Cx} {a:Act},kq body k st orc=some q->(∀p∈q.2.2.2,p)->SRep cx st a nt-> ∀Q:Exit->Act->World->Prop,(∀(d':Dfs) cx' a', @SRep d' cx' q.2.1 a' nt->After lp d cx d' cx'->Q q.1.to a' cx'.w)->
   Code.rounds P c Q k a cx.w
 |0,d,st,orc,q,cx,a,h,hp,hs,Q,hQ=>by simp[kq] at h
 |k+1,d,st,orc,q,cx,a,h,hp,hs,Q,hQ=>by
  unfold kq at h
  obtain⟨q1,hq1,h1⟩:=ae.1 h
  clear h
  rw[rounds_succ]
  split at h1
  ·rename_i hx
   obtain⟨q2,hq2,rfl⟩:=ac.1 h1
   refine hb st orc q1 cx a hq1 (fun p hp'=>hp p (by simp[hp'])) hs _ fun d1 cx1 a1 hs1 ha1=> ?_
   rw[hx]
   obtain⟨cx1p,hw,hs1p,hk⟩:=ha1.plus hs1
   rw[<-hw]
   exact fA hb k (d:=d1) hq2 (fun p hp'=>hp p (by simp[hp'])) hs1p Q fun d2 cx2 a2 hs2 ha2=>by
    obtain⟨cx3,e3,hs3,ha3⟩:=hk d2 cx2 _ a2 _ hs2 ha2
    rw[<-e3]
    exact hQ d2 cx3 a2 hs3 ha3
  ·rename_i x hx
   simp only[ah] at h1;subst h1
   refine hb st orc q1 cx a hq1 hp hs _ fun d1 cx1 a1 hs1 ha1=> ?_
   have:=hQ d1 cx1 a1 hs1 ha1
   cases hxx:q1.1 with
   |nrm=>exact absurd hxx hx
   |ext id=>rw[hxx] at this;exact this
   |ret=>rw[hxx] at this;exact this
theorem bT{dr:iY}(hdr:ku P dr){lp md:Bool}{call:cI}(hcall:eR P call){nt:Nat}: ∀(c:Code) [D0:Dfs] {st:St} {orc:List Orc} {q:X×St×List Orc×List Prop} {cx:Cx} {a:Act},cw P dr lp md call nt c st orc=some q->(∀p∈q.2.2.2,p)->SRep cx st a nt->
  ∀Q:Exit->Act->World->Prop,(∀(d':Dfs) cx' a', @SRep d' cx' q.2.1 a' nt->After lp D0 cx d' cx'->Q q.1.to a' cx'.w)->c.wp P Q a cx.w
 | .skip,D0,st,orc,q,cx,a,h,hp,hs,Q,hQ=>by
  simp only[cw,ah] at h;subst h
  exact wp_skip (hQ D0 cx a hs (After.refl lp D0 cx))
 | .region id ops draw,D0,st,orc,q,cx,a,h,hp,hs,Q,hQ=>by
  unfold cw at h
  split at h
  ·obtain⟨hlp,h1⟩:=aE h
   clear h
   obtain⟨p,hpp,h2⟩:=ae.1 h1
   obtain⟨q1,hq1,rfl⟩:=ac.1 h2
   obtain⟨cx1,hs1,he1,hw1⟩:=hs.le hpp (fun x hx=>hp x (by simp[hx]))
   rw[<-hw1]
   refine ik hdr hcall hq1 (fun x hx=>hp x (by simp[hx])) hs1 fun cx2 a2 hs2 hst2=>hQ D0 cx2 a2 hs2 ?_
   rw[hlp]
   exact .of_ext (he1.trans hst2.ext)
  ·cases hdw:draw with
   |true=>
    rw[hdw] at h
    simp only[aO] at h
    obtain⟨hlp,h1⟩:=aE h
    clear h
    obtain⟨p,hpp,rfl⟩:=ac.1 h1
    obtain⟨cx1,hs1,he1,hw1⟩:=hs.le hpp (fun x hx=>hp x (by simp[hx]))
    rw[<-hw1]
    refine hp (Ok P nt _ _ _ _) (by simp) D0 cx1 a hs1 Q fun d2 cx2 a2 hs2 ha2=>hQ d2 cx2 a2 hs2 ?_
    rw[hlp]
    exact ha2.pre he1 hw1
   |false=>
    rw[hdw] at h
    simp only[bb] at h
    obtain⟨q1,hq1,rfl⟩:=ac.1 h
    exact ik hdr hcall hq1 hp hs fun cx2 a2 hs2 hst2=>hQ D0 cx2 a2 hs2 (After.of hst2)
  ·obtain⟨q1,hq1,rfl⟩:=ac.1 h
   exact ik hdr hcall hq1 hp hs fun cx2 a2 hs2 hst2=>hQ D0 cx2 a2 hs2 (After.of hst2)
 | .seq c d,D0,st,orc,q,cx,a,h,hp,hs,Q,hQ=>by
  unfold cw at h
  obtain⟨q1,hq1,h1⟩:=ae.1 h
  clear h
  refine wp_seq ?_
  split at h1
  ·rename_i hx
   obtain⟨q2,hq2,rfl⟩:=ac.1 h1
   refine bT hdr hcall c hq1 (fun p hp'=>hp p (by simp[hp'])) hs _ fun d1 cx1 a1 hs1 ha1=> ?_
   rw[hx]
   obtain⟨cx1p,hw,hs1p,hk⟩:=ha1.plus hs1
   show Code.wp _ _ _ _ cx1.w
   rw[<-hw]
   exact bT hdr hcall d (D0:=d1) hq2 (fun p hp'=>hp p (by simp[hp'])) hs1p Q fun d2 cx2 a2 hs2 ha2=>by
    obtain⟨cx3,e3,hs3,ha3⟩:=hk d2 cx2 _ a2 _ hs2 ha2
    rw[<-e3]
    exact hQ d2 cx3 a2 hs3 ha3
  ·rename_i hx
   simp only[ah] at h1;subst h1
   refine bT hdr hcall c hq1 hp hs _ fun d1 cx1 a1 hs1 ha1=> ?_
   have:=hQ d1 cx1 a1 hs1 ha1
   cases hxx:q1.1 with
   |nrm=>exact absurd hxx hx
   |ext id=>rw[hxx] at this;exact this
   |ret=>rw[hxx] at this;exact this
 | .cond x c d,D0,st,orc,q,cx,a,h,hp,hs,Q,hQ=>by
  unfold cw at h
  split at h
  ·obtain⟨hlp,h1⟩:=aE h
   clear h
   obtain⟨p,hpp,rfl⟩:=ac.1 h1
   obtain⟨cx1,hs1,he1,hw1⟩:=hs.le hpp (fun x hx=>hp x (by simp[hx]))
   rw[<-hw1]
   refine hp (Ok P nt _ _ _ _) (by simp) D0 cx1 a hs1 Q fun d2 cx2 a2 hs2 ha2=>hQ d2 cx2 a2 hs2 ?_
   rw[hlp]
   exact ha2.pre he1 hw1
  split at h
  ·rename_i t ht
   have hr:=lM hs.env x
   rw[ht] at hr
   have hv:=hr.bool_inv
   split at h
   ·rename_i t' orc' _
    obtain⟨q1,hq1,rfl⟩:=ac.1 h
    have e:=hp (t=t') (by simp)
    subst e
    refine wp_cond hv ?_
    cases t with
    |true=>exact bT hdr hcall c hq1 (fun p hp'=>hp p (by simp[hp'])) hs Q hQ
    |false=>exact bT hdr hcall d hq1 (fun p hp'=>hp p (by simp[hp'])) hs Q hQ
   ·refine wp_cond hv ?_
    cases t with
    |true=>exact bT hdr hcall c h hp hs Q hQ
    |false=>exact bT hdr hcall d h hp hs Q hQ
  ·cases h
 | .block id c,D0,st,orc,q,cx,a,h,hp,hs,Q,hQ=>by
  unfold cw at h
  split at h
  ·obtain⟨hlp,h1⟩:=aE h
   clear h
   obtain⟨p,hpp,rfl⟩:=ac.1 h1
   obtain⟨cx1,hs1,he1,hw1⟩:=hs.le hpp (fun x hx=>hp x (by simp[hx]))
   rw[<-hw1]
   refine hp (Ok P nt _ _ _ _) (by simp) D0 cx1 a hs1 Q fun d2 cx2 a2 hs2 ha2=>hQ d2 cx2 a2 hs2 ?_
   rw[hlp]
   exact ha2.pre he1 hw1
  obtain⟨q1,hq1,h1⟩:=ac.1 h
  clear h
  refine wp_block ?_
  have hcs:q1.2.2.2=q.2.2.2∧q1.2.1=q.2.1:=by
   rw[<-h1]
   cases hx:q1.1 with
   |nrm=>exact⟨rfl,rfl⟩
   |ext i=>
    simp only
    cases Nat.beq i id<;>exact⟨rfl,rfl⟩
   |ret=>exact⟨rfl,rfl⟩
  refine bT hdr hcall c hq1 (by rw[hcs.1];exact hp) hs _ fun d1 cx1 a1 hs1 ha1=> ?_
  have:=hQ d1 cx1 a1 (by rw[<-hcs.2];exact hs1) ha1
  cases hx:q1.1 with
  |nrm=>
   rw[hx] at h1
   simp only at h1
   rw[<-h1,hx] at this
   exact this
  |ext i=>
   rw[hx] at h1
   simp only at h1
   cases hb:Nat.beq i id with
   |true=>
    rw[hb] at h1
    simp only[aO] at h1
    have e:=aj hb
    subst e
    rw[<-h1] at this
    simp only[X.to,Exit.inBlock,if_true]
    exact this
   |false=>
    rw[hb] at h1
    simp only[bb] at h1
    rw[<-h1,hx] at this
    have hne: ¬i=id:=fun e=>by rw[e,cy] at hb;cases hb
    simp only[X.to,Exit.inBlock,hne,if_false]
    exact this
  |ret=>
   rw[hx] at h1
   simp only at h1
   rw[<-h1,hx] at this
   exact this
 | .loop c,D0,st,orc,q,cx,a,h,hp,hs,Q,hQ=>by
  unfold cw at h
  split at h
  ·obtain⟨hlp,h1⟩:=aE h
   clear h
   obtain⟨p,hpp,rfl⟩:=ac.1 h1
   obtain⟨cx1,hs1,he1,hw1⟩:=hs.le hpp (fun x hx=>hp x (by simp[hx]))
   rw[<-hw1]
   refine hp (Ok P nt _ _ _ _) (by simp) D0 cx1 a hs1 Q fun d2 cx2 a2 hs2 ha2=>hQ d2 cx2 a2 hs2 ?_
   rw[hlp]
   exact ha2.pre he1 hw1
  ·exact wp_loop_rounds _ (fA (fun{D0} st orc q cx a h hp hs Q hQ=>bT hdr hcall c h hp hs Q hQ) _ h hp hs Q hQ)
  ·exact wp_loop_rounds _ (fA (fun{D0} st orc q cx a h hp hs Q hQ=>bT hdr hcall c h hp hs Q hQ) _ h hp hs Q hQ)
 | .exit id,D0,st,orc,q,cx,a,h,hp,hs,Q,hQ=>by
  simp only[cw,ah] at h;subst h
  exact wp_exit (hQ D0 cx a hs (After.refl lp D0 cx))
 | .ret,D0,st,orc,q,cx,a,h,hp,hs,Q,hQ=>by
  simp only[cw,ah] at h;subst h
  exact wp_ret (hQ D0 cx a hs (After.refl lp D0 cx))
 | .rangeFunc g ps c d,D0,st,orc,q,cx,a,h,hp,hs,Q,hQ=>by
  unfold cw at h
  split at h
  ·obtain⟨hlp,h1⟩:=aE h
   clear h
   obtain⟨p,hpp,rfl⟩:=ac.1 h1
   obtain⟨cx1,hs1,he1,hw1⟩:=hs.le hpp (fun x hx=>hp x (by simp[hx]))
   rw[<-hw1]
   refine hp (Ok P nt _ _ _ _) (by simp) D0 cx1 a hs1 Q fun d2 cx2 a2 hs2 ha2=>hQ d2 cx2 a2 hs2 ?_
   rw[hlp]
   exact ha2.pre he1 hw1
  ·cases h
 | .scope _,D0,st,orc,q,cx,a,h,hp,hs,Q,hQ=>by simp[cw] at h
 | .label _,D0,st,orc,q,cx,a,h,hp,hs,Q,hQ=>by simp[cw] at h
 | .goto _,D0,st,orc,q,cx,a,h,hp,hs,Q,hQ=>by simp[cw] at h
 | .refuse _,D0,st,orc,q,cx,a,h,hp,hs,Q,hQ=>by simp[cw] at h
end
end
end Go.Proofs.Ytdanmboalfmifaa.Rx
