import Derived.Test.YtdanmboalfmifaaMcE
import Derived.Test.YtdanmboalfmifaaMcD
set_option linter.unusedVariables false
set_option linter.unusedSimpArgs false
set_option maxRecDepth 100000
namespace Go.Proofs.Ytdanmboalfmifaa.Px
section
open Go.RowKit Go.Proofs.Ytdanmboalfmifaa.Rx
theorem n7{l:List En}{k:Nat}{g:En->En}(hg: ∀e,(g e).pc=e.pc)(h:Nat):((l.set k (g (l.getD k default))).getD h default).pc=(l.getD h default).pc:=by
 by_cases hq:k=h
 ·subst hq
  by_cases hk:k<l.length
  ·simp[List.getD,hk,hg]
  ·simp[List.getD,hk]
 ·simp[List.getD,cA,hq]
def qK(p:Pg)(c:Cf)(k:Nat):Cf×List Ob:=
 if(c.s.m.length:Int)<=adV p c k (enX p c k) then(upE c k fun e=>(e.ad (adV p c k (enX p c k))).flt,[])
 else match hzV p (upE c k fun e=>e.ad (adV p c k (enX p c k))).b k (adV p c k (enX p c k)) with
  | (h,true)=>(⟨c.s.go ((upE c k fun e=>e.ad (adV p c k (enX p c k))).b.getD h.toNat default).pc,(upE c k fun e=>e.ad (adV p c k (enX p c k))).b.take h.toNat,c.r,c.e⟩,[⟨2,adV p c k (enX p c k)⟩])
  | (_,false)=>(upE c k fun e=>e.ad (adV p c k (enX p c k)),[⟨2,adV p c k (enX p c k)⟩])
def adrO(p:Pg)(c:Cf)(i:Int):Option (Cf×List Ob):=if caV p c i=true then some (qK p c i.toNat) else none
theorem wj(c:Cf){Z:Prop}(z:Z):(RR c.s.m.length 1 (fun i j=>aI (List.getD c.s.m i 0)) (RF c.s.st.length (RR c.s.st.length 1 (fun i j=>aI (List.getD c.s.st i 0)) (RF c.s.pc (RF c.b.length (RR c.b.length 8 (fun i j=>an enC c.b i j) (RF c.r.length (RR c.r.length 1 (fun i j=>aI (c.r.getD i 0)) (RF c.e Z))))))))):=⟨fun _ _ _ _=>rfl,rfl,fun _ _ _ _=>rfl,rfl,rfl,fun _ _ _ _=>rfl,rfl,fun _ _ _ _=>rfl,rfl,z⟩
theorem pU(p:Pg)(c:Cf){Z:Prop}(z:Z):(RF p.ls.length (RR p.ls.length 2 (fun i j=>an lbC p.ls i j) (RF p.is.length (RR p.is.length 9 (fun i j=>an inC p.is i j) (RF c.s.r0 (RF c.s.r1 (RF c.s.r2 (RF c.s.r3 (RF c.s.m.length Z))))))))):=⟨rfl,fun _ _ _ _=>rfl,rfl,fun _ _ _ _=>rfl,rfl,rfl,rfl,rfl,rfl,z⟩
theorem kO(p:Pg){Z:Prop}(z:Z):(RF p.W (RF p.win (RF p.fuel (RF p.r0 (RF p.r1 (RF p.r2 (RF p.r3 (RF p.ms.length (RR p.ms.length 3 (fun i j=>an mmC p.ms i j) Z))))))))):=⟨rfl,rfl,rfl,rfl,rfl,rfl,rfl,rfl,fun _ _ _ _=>rfl,z⟩
theorem HP(p:Pg)(c:Cf)(i:Int)(hC:pC_ 44 [.agg (pgA p),.agg (cfA c), aI i] (.bool false) []):Vc (vF_ 47 [.agg (pgA p),.agg (cfA c), aI i] [.fv,.cl [.agg (pgA p),.agg (cfA c), aI i] (.bool false) []] [] (.tup [.agg (cfA Cf0),.nils,.bool false]) []):=al (kO p (pU p c (wj c (cj (rf i) (cj hC (cj (rf (0:Int)) (cj (rf (0:Int)) (cj (rf (0:Int)) (cj (rf (0:Int)) (cj (rf (0:Nat)) (cj (rf (0:Nat)) (cj (rf (0:Int)) (cj (rf (0:Nat)) (cj (rf (0:Nat)) (cj (rf (0:Int)) (cj (rf false) trivial))))))))))))))))
theorem z6(p:Pg)(c:Cf)(k:Nat)(a:Int)(b:Int):Option.some (bif Nat.ble (6:Nat) (2:Nat)&&Nat.blt (2:Nat) (7:Nat)&&Nat.beq (k+0) (k+0) then AV.bool true else bif Nat.ble (2:Nat) (2:Nat)&&Nat.blt (2:Nat) (3:Nat)&&Nat.beq (k+0) (k+0) then aI (Wd.maskV p.W (a+b)) else aI (c.b.getD (k+0-0) default).adr)=Option.some (aI (Wd.maskV p.W (a+b))):=by rw[cy];rfl
theorem Cs(c:Cf){Z:Prop}(z:Z):(RF c.s.r0 (RF c.s.r1 (RF c.s.r2 (RF c.s.r3 (RF c.s.m.length (RR c.s.m.length 1 (fun i j=>aI (List.getD c.s.m i 0)) (RF c.s.st.length (RR c.s.st.length 1 (fun i j=>aI (List.getD c.s.st i 0)) (RF c.s.pc Z))))))))):=⟨rfl,rfl,rfl,rfl,rfl,fun _ _ _ _=>rfl,rfl,fun _ _ _ _=>rfl,rfl,z⟩
theorem zw(p:Pg)(c:Cf)(k:Nat)(a:Int)(b:Int){Z:Prop}(z:Z):(RF ((enX p c k).a.n) (RF ((enX p c k).b.reg) (RF ((enX p c k).b.n) (RF ((enX p c k).nm) (RF ((enX p c k).tg) Z))))):=⟨rfl,rfl,rfl,rfl,rfl,z⟩
theorem zu(p:Pg)(c:Cf)(k:Nat)(a:Int)(b:Int)(d:Int){Z:Prop}(z:Z):(RR (0+c.b.length) 8 (fun i j=>an enC c.b i j) (RF c.r.length (RR c.r.length 1 (fun i j=>aI (c.r.getD i 0)) (RF c.e (RF (k:Int) (RF ((enX p c k).kind) (RF ((enX p c k).op) (RF ((enX p c k).d) (RF ((enX p c k).a.reg) Z))))))))):=⟨fun _ _ _ _=>rfl,rfl,fun _ _ _ _=>rfl,rfl,rfl,rfl,rfl,rfl,rfl,z⟩
theorem zt(c:Cf){Z:Prop}(z:Z):(RR c.s.m.length 1 (fun i j=>aI (List.getD c.s.m i 0)) (RF c.s.st.length (RR c.s.st.length 1 (fun i j=>aI (List.getD c.s.st i 0)) (RF c.s.pc Z)))):=⟨fun _ _ _ _=>rfl,rfl,fun _ _ _ _=>rfl,rfl,z⟩
theorem zr(p:Pg)(c:Cf)(k:Nat)(b:Int){Z:Prop}(z:Z):(RF p.ls.length (RR p.ls.length 2 (fun i j=>an lbC p.ls i j) (RF p.is.length (RR p.is.length 9 (fun i j=>an inC p.is i j) (RF ((c.b.getD k default).pc) Z))))):=⟨rfl,fun _ _ _ _=>rfl,rfl,fun _ _ _ _=>rfl,rfl,z⟩
abbrev AU(p:Pg)(c:Cf)(k:Nat)(a:Int)(b:Int)(d:Int)(ab:Bool)(so:Bool):Prop:=PureC Try.prog 60 [.agg (pgA p),.agg (cfA c),.int .i64 k,.agg (inA (enX p c k))] (.tup [.int .i64 a,.int .i64 b,.int .i64 d,.bool ab,.bool so]) []
abbrev AW(p:Pg)(c:Cf)(k:Nat):Prop:=PureC Try.prog 44 [.agg (pgA p),.agg (cfA c),.int .i64 k] (.bool true) []
abbrev Bb(p:Pg)(c:Cf)(k:Nat)(a:Int)(b:Int)(d:Int)(ab:Bool)(so:Bool):Orc:= .cp [.agg (pgA p),.agg (cfA c), aI k,.agg (inA (enX p c k))] (.tup [aI a, aI b, aI d,.bool ab,.bool so])
abbrev Bc(p:Pg)(c:Cf)(k:Nat):Orc:= .cl [.agg (pgA p), aI (c.b.getD k default).pc] (.agg (inA (enX p c k))) []
abbrev Ba(p:Pg)(a:Int)(b:Int):Orc:= .cl [aI p.W, aI (a+b)] (aI (Wd.maskV p.W (a+b))) []
abbrev Bd(p:Pg)(c:Cf)(k:Nat):Orc:= .cl [.agg (pgA p),.agg (cfA c), aI k] (.bool true) []
theorem HQ(p:Pg)(c:Cf)(k:Nat)(hk:k<c.b.length)(hb:c.b.length<900000)(a b d:Int)(ab so:Bool)(hC:AW p c k)(hT:AU p c k a b d ab so)(hab: -1000000<=a+b∧a+b<=1000000)(hm:c.s.m.length<1000000)(ho:(c.s.m.length:Int)<=(Wd.maskV p.W (a+b))):Vc (vF_ 47 [.agg (pgA p),.agg (cfA c), aI k] [.fv,Bd p c k,Bc p c k,Bb p c k a b d ab so,Ba p a b,.lv (aI (Wd.maskV p.W (a+b))),.bd true] [] (.tup [.agg (cfA (upE c k fun e=>(e.ad (Wd.maskV p.W (a+b))).flt)),.nils,.bool true]) []):=al (kO p (pU p c (wj c (cj (rf (k:Int)) (cj hC (cj (ap 0 c.b.length 48) (cj (bi k (↑((0:Nat)+c.b.length):Int)) (cj (lz k c.b.length) (kO p (zr p c k b (cj (bw p (c.b.getD k default).pc) (kO p (pU p c (zt c (cj (za c.b.length) (zu p c k a b d (zw p c k a b (cj hT (cj (i6 (a+b)) (cj (rf p.W) (cj (rf (a+b)) (cj (aZ p.W (a+b)) (cj (lz k c.b.length) (cj (lz k c.b.length) (cj (z6 p c k a b) (cj (lz k c.b.length) (cj (dt (Wd.maskV p.W (a+b)>=(↑(c.s.m.length):Int))) (cj (lz k c.b.length) (Cs c (cj (pv ((0:Nat)+c.b.length=(List.set c.b k (En.flt (En.ad (Wd.maskV p.W (a+b)) (c.b.getD k default)))).length)) (cj (show ∀(i:Nat),i<0+c.b.length-> ∀(j:Nat),j<8->(bif Nat.ble (7:Nat) j&&Nat.blt j (8:Nat)&&Nat.beq (i+0) (k+0) then List.getD [AV.bool true] (j-7) AV.junk else bif Nat.ble (6:Nat) j&&Nat.blt j (7:Nat)&&Nat.beq (i+0) (k+0) then List.getD [AV.bool true] (j-6) AV.junk else bif Nat.ble (2:Nat) j&&Nat.blt j (3:Nat)&&Nat.beq (i+0) (k+0) then List.getD [aI (Wd.maskV p.W (a+b))] (j-2) AV.junk else bif Nat.blt (i+0) (0:Nat) then AV.junk else an enC c.b (i+0-0) j)=an enC (List.set c.b k (En.flt (En.ad (Wd.maskV p.W (a+b)) (c.b.getD k default)))) i j from(fun i hi j hj=>by cases hq:Nat.beq (i+0) (k+0) with |true=>obtain rfl:=jM (i:=i) hq;rw[dp hk];exact(match j,hj with |0,_=>rfl |1,_=>rfl |2,_=>rfl |3,_=>rfl |4,_=>rfl |5,_=>rfl |6,_=>rfl |7,_=>rfl)|false=>rw[fm (i:=i) hq];exact(match j,hj with |0,_=>rfl |1,_=>rfl |2,_=>rfl |3,_=>rfl |4,_=>rfl |5,_=>rfl |6,_=>rfl |7,_=>rfl))) (cj (rf c.r.length) (cj (rr c.r.length 1 fun i j=>aI (c.r.getD i 0)) (cj (rf c.e) (cj (rf true) trivial)))))))))))))))))))))))))))))))))))
theorem zZ(p:Pg)(c:Cf)(k:Nat)(hk:k<c.b.length)(a:Int)(b:Int): ∀(i:Nat),i<0+c.b.length-> ∀(j:Nat),j<8->(bif Nat.ble (6:Nat) j&&Nat.blt j (7:Nat)&&Nat.beq (i+0) (k+0) then List.getD [AV.bool true] (j-6) AV.junk else bif Nat.ble (2:Nat) j&&Nat.blt j (3:Nat)&&Nat.beq (i+0) (k+0) then List.getD [aI (Wd.maskV p.W (a+b))] (j-2) AV.junk else bif Nat.blt (i+0) (0:Nat) then AV.junk else an enC c.b (i+0-0) j)=an enC (List.set c.b k (En.ad (Wd.maskV p.W (a+b)) (c.b.getD k default))) i j:=(fun i hi j hj=>by cases hq:Nat.beq (i+0) (k+0) with |true=>obtain rfl:=jM (i:=i) hq;rw[dp hk];exact(match j,hj with |0,_=>rfl |1,_=>rfl |2,_=>rfl |3,_=>rfl |4,_=>rfl |5,_=>rfl |6,_=>rfl |7,_=>rfl)|false=>rw[fm (i:=i) hq];exact(match j,hj with |0,_=>rfl |1,_=>rfl |2,_=>rfl |3,_=>rfl |4,_=>rfl |5,_=>rfl |6,_=>rfl |7,_=>rfl))
theorem Dv(p:Pg)(a:Int)(b:Int): ∀(i:Nat),i<1-> ∀(j:Nat),j<2->List.getD [aI 2,aI (Wd.maskV p.W (a+b))] ((i+0)*2+j) AV.junk=an obC [Ob.mk (2:Int) (Wd.maskV p.W (a+b))] i j:=(fun i hi j hj=>match i,hi,j,hj with |0,_,0,_=>rfl |0,_,1,_=>rfl)
theorem Cr(c:Cf){Z:Prop}(z:Z):(RF c.r.length (RR c.r.length 1 (fun i j=>aI (c.r.getD i 0)) (RF c.e (RF (1:Nat) Z)))):=⟨rfl,fun _ _ _ _=>rfl,rfl,rfl,z⟩
theorem Cq(p:Pg){Z:Prop}(z:Z):(RF p.ls.length (RR p.ls.length 2 (fun i j=>an lbC p.ls i j) (RF p.is.length (RR p.is.length 9 (fun i j=>an inC p.is i j) Z)))):=⟨rfl,fun _ _ _ _=>rfl,rfl,fun _ _ _ _=>rfl,z⟩
theorem HR(p:Pg)(c:Cf)(k:Nat)(hk:k<c.b.length)(hb:c.b.length<900000)(a b d:Int)(ab so:Bool)(hC:AW p c k)(hT:AU p c k a b d ab so)(hab: -1000000<=a+b∧a+b<=1000000)(hm:c.s.m.length<1000000)(ho: ¬(c.s.m.length:Int)<=(Wd.maskV p.W (a+b)))(q1:Int)(hH:pC_ 66 [.agg (pgA p),enR (c.b.set k ((c.b.getD k default).ad (Wd.maskV p.W (a+b)))), aI k, aI (Wd.maskV p.W (a+b))] (.tup [aI q1,.bool false]) []):Vc (vF_ 47 [.agg (pgA p),.agg (cfA c), aI k] [.fv,Bd p c k,Bc p c k,Bb p c k a b d ab so,Ba p a b,.lv (aI (Wd.maskV p.W (a+b))),.bd false,.cp [.agg (pgA p),enR (c.b.set k ((c.b.getD k default).ad (Wd.maskV p.W (a+b)))), aI k, aI (Wd.maskV p.W (a+b))] (.tup [aI q1,.bool false])] [] (.tup [.agg (cfA (upE c k fun e=>e.ad (Wd.maskV p.W (a+b)))),(obR [⟨2,(Wd.maskV p.W (a+b))⟩]),.bool true]) []):=al (kO p (pU p c (wj c (cj (rf (k:Int)) (cj hC (cj (ap 0 c.b.length 48) (cj (bi k (↑((0:Nat)+c.b.length):Int)) (cj (lz k c.b.length) (kO p (zr p c k b (cj (bw p (c.b.getD k default).pc) (kO p (pU p c (zt c (cj (za c.b.length) (zu p c k a b d (zw p c k a b (cj hT (cj (i6 (a+b)) (cj (rf p.W) (cj (rf (a+b)) (cj (aZ p.W (a+b)) (cj (lz k c.b.length) (cj (lz k c.b.length) (cj (z6 p c k a b) (cj (lz k c.b.length) (cj (df (Wd.maskV p.W (a+b)>=(↑(c.s.m.length):Int))) (kO p (Cq p (cj (pv ((0:Nat)+c.b.length=(List.set c.b k (En.ad (Wd.maskV p.W (a+b)) (c.b.getD k default))).length)) (cj (zZ p c k hk a b) (cj (rf (k:Int)) (cj (rf (Wd.maskV p.W (a+b))) (cj hH (Cs c (cj (pv ((0:Nat)+c.b.length=(List.set c.b k (En.ad (Wd.maskV p.W (a+b)) (c.b.getD k default))).length)) (cj (zZ p c k hk a b) (Cr c (cj (Dv p a b) (cj (rf true) trivial))))))))))))))))))))))))))))))))))))))))
theorem HO(p:Pg)(c:Cf)(k:Nat)(hk:k<c.b.length)(hb:c.b.length<900000)(a b d:Int)(ab so:Bool)(hC:AW p c k)(hT:AU p c k a b d ab so)(hab: -1000000<=a+b∧a+b<=1000000)(hm:c.s.m.length<1000000)(ho: ¬(c.s.m.length:Int)<=(Wd.maskV p.W (a+b)))(h:Nat)(hh:h<c.b.length)(hH:pC_ 66 [.agg (pgA p),enR (c.b.set k ((c.b.getD k default).ad (Wd.maskV p.W (a+b)))), aI k, aI (Wd.maskV p.W (a+b))] (.tup [aI h,.bool true]) []):Vc (vF_ 47 [.agg (pgA p),.agg (cfA c), aI k] [.fv,Bd p c k,Bc p c k,Bb p c k a b d ab so,Ba p a b,.lv (aI (Wd.maskV p.W (a+b))),.bd false,.cp [.agg (pgA p),enR (c.b.set k ((c.b.getD k default).ad (Wd.maskV p.W (a+b)))), aI k, aI (Wd.maskV p.W (a+b))] (.tup [aI h,.bool true]),.lv (.own 2 1 8 0 (0+c.b.length)),.lv (aI ((c.b.set k ((c.b.getD k default).ad (Wd.maskV p.W (a+b)))).getD h default).pc)] [] (.tup [.agg (cfA ⟨c.s.go ((c.b.set k ((c.b.getD k default).ad (Wd.maskV p.W (a+b)))).getD h default).pc,(c.b.set k ((c.b.getD k default).ad (Wd.maskV p.W (a+b)))).take h,c.r,c.e⟩),(obR [⟨2,(Wd.maskV p.W (a+b))⟩]),.bool true]) []):=al (kO p (pU p c (wj c (cj (rf (k:Int)) (cj hC (cj (ap 0 c.b.length 48) (cj (bi k (↑((0:Nat)+c.b.length):Int)) (cj (lz k c.b.length) (kO p (zr p c k b (cj (bw p (c.b.getD k default).pc) (kO p (pU p c (zt c (cj (za c.b.length) (zu p c k a b d (zw p c k a b (cj hT (cj (i6 (a+b)) (cj (rf p.W) (cj (rf (a+b)) (cj (aZ p.W (a+b)) (cj (lz k c.b.length) (cj (lz k c.b.length) (cj (z6 p c k a b) (cj (lz k c.b.length) (cj (df (Wd.maskV p.W (a+b)>=(↑(c.s.m.length):Int))) (kO p (Cq p (cj (pv ((0:Nat)+c.b.length=(List.set c.b k (En.ad (Wd.maskV p.W (a+b)) (c.b.getD k default))).length)) (cj (zZ p c k hk a b) (cj (rf (k:Int)) (cj (rf (Wd.maskV p.W (a+b))) (cj hH (cj (rf (Option.some (AV.own (2:Nat) (1:Nat) (8:Nat) (0:Nat) ((0:Nat)+c.b.length)))) (cj (bi h (↑((0:Nat)+c.b.length):Int)) (cj (show Option.some (aI (c.b.getD (h+0-0) default).pc)=Option.some (aI ((List.getD (List.set c.b k (En.ad (Wd.maskV p.W (a+b)) (c.b.getD k default))) h default).pc)) from by rw[cz,fC,n7 (g:=En.ad (Wd.maskV p.W (a+b))) (fun e=>rfl) h]) (cj (lz h c.b.length) (cj (pv ((0:Int)<=h∧(h:Int)<=(↑((0:Nat)+c.b.length):Int))) (cj (rf c.s.r0) (cj (rf c.s.r1) (cj (rf c.s.r2) (cj (rf c.s.r3) (cj (rf c.s.m.length) (cj (rr c.s.m.length 1 fun i j=>aI (List.getD c.s.m i 0)) (cj (rf c.s.st.length) (cj (rr c.s.st.length 1 fun i j=>aI (List.getD c.s.st i 0)) (cj (rf ((List.getD (List.set c.b k (En.ad (Wd.maskV p.W (a+b)) (c.b.getD k default))) h default).pc)) (cj (show h=(List.take h (List.set c.b k (En.ad (Wd.maskV p.W (a+b)) (c.b.getD k default)))).length from by rw[aT,av];omega) (cj (show ∀(i:Nat),i<h-> ∀(j:Nat),j<8->(bif Nat.ble (6:Nat) j&&Nat.blt j (7:Nat)&&Nat.beq (i+0) (k+0) then List.getD [AV.bool true] (j-6) AV.junk else bif Nat.ble (2:Nat) j&&Nat.blt j (3:Nat)&&Nat.beq (i+0) (k+0) then List.getD [aI (Wd.maskV p.W (a+b))] (j-2) AV.junk else bif Nat.blt (i+0) (0:Nat) then AV.junk else an enC c.b (i+0-0) j)=an enC (List.take h (List.set c.b k (En.ad (Wd.maskV p.W (a+b)) (c.b.getD k default)))) i j from(fun i hi j hj=>by rw[rc (show i<h from hi)];cases hq:Nat.beq (i+0) (k+0) with |true=>obtain rfl:=jM (i:=i) hq;rw[dp hk];exact(match j,hj with |0,_=>rfl |1,_=>rfl |2,_=>rfl |3,_=>rfl |4,_=>rfl |5,_=>rfl |6,_=>rfl |7,_=>rfl)|false=>rw[fm (i:=i) hq];exact(match j,hj with |0,_=>rfl |1,_=>rfl |2,_=>rfl |3,_=>rfl |4,_=>rfl |5,_=>rfl |6,_=>rfl |7,_=>rfl))) (Cr c (cj (Dv p a b) (cj (rf true) trivial)))))))))))))))))))))))))))))))))))))))))))))))))))))
theorem qx(p:Pg)(l:List En)(i a:Int): ∀j k q,hzG p l i a k j=some q->k<=q∧q<k+j
 |0,k,q,h=>by cases h
 |j+1,k,q,h=>by
  unfold hzG at h
  split at h
  ·cases h;omega
  ·have:=qx p l i a j (k+1) q h;omega
theorem qw{p:Pg}{l:List En}{i a h:Int}(e:hzV p l i a=(h,true)): ∃q:Nat,h=(q:Int)∧q<l.length:=by
 unfold hzV at e
 split at e
 ·rename_i q hq
  cases e
  have:=qx p l i a _ _ _ hq
  exact⟨q,rfl,by omega⟩
 ·cases e
theorem mw{p:Pg}{c:Cf}{i:Int}(h:caV p c i=true): ∃k:Nat,i=(k:Int)∧k<c.b.length∧(c.b.getD k default).kn=false∧(enX p c k).kind=3:=by
 unfold caV at h
 rw[au] at h
 obtain⟨k,rfl,hk⟩:=oc h.1
 rw[aK,au,au] at h
 exact⟨k,rfl,hk,by simpa using h.2.1,by simpa using h.2.2.1⟩
theorem Gv(p:Pg)(c:Cf)(i:Int)(hb:c.b.length<900000)(hm:c.s.m.length<1000000)(hv:Sml p c):pC_ 47 [.agg (pgA p),.agg (cfA c),.int .i64 i] (dmA (adrO p c i)) []:=by
 have hC:=D7 p c i (by omega)
 unfold adrO
 cases hc:caV p c i with
 |false=>
  rw[hc] at hC
  exact PureC.vc (HP p c i hC)
 |true=>
  rw[hc] at hC
  obtain⟨k,rfl,hk,hd,hK⟩:=mw hc
  rw[ai rfl,aK]
  have hT:=wW p c k (enX p c k) (by omega)
  have ha:=hv.add k (enX p c k)
  unfold qK
  by_cases ho:(c.s.m.length:Int)<=adV p c k (enX p c k)
  ·rw[ai ho];exact PureC.vc (HQ p c k hk hb _ _ _ _ _ hC hT ha hm ho)
  ·rw[af ho]
   have hH:=Gl p (upE c k fun e=>e.ad (adV p c k (enX p c k))).b k (adV p c k (enX p c k)) (by show(List.set _ _ _).length<_;rw[av];omega)
   cases hz:hzV p (upE c k fun e=>e.ad (adV p c k (enX p c k))).b k (adV p c k (enX p c k)) with
   |mk r y=>
    rw[hz] at hH
    cases y with
    |false=>exact PureC.vc (HR p c k hk hb _ _ _ _ _ hC hT ha hm ho r hH)
    |true=>
     obtain⟨h,rfl,hl⟩:=qw hz
     have hl':h<c.b.length:=by
      have:(upE c k fun e=>e.ad (adV p c k (enX p c k))).b.length=c.b.length:=av
      omega
     exact PureC.vc (HO p c k hk hb _ _ _ _ _ hC hT ha hm ho h hl' hH)
def En.pop(e:En):En:={e with frm:=if 0<=e.frm then e.frm-1 else e.frm}
def c8(l:List En):Nat->List En
 |0=>[]
 |k+1=>c8 l k++[(l.getD (k+1) default).pop]
def ax(l:List En):List En:=c8 l (l.length-1)
def ppS(l:List En)(k:Nat):Sm:=⟨[(0,enR l),(3,enO (c8 l k)),(4,.int .i64 ((k:Int)+1))],[(0,enB (c8 l k))],1⟩
def rtV(p:Pg)(c:Cf):Cf:=
 if(c.b.getD 0 default).ft=true∨(enX p c 0).kind=12 then⟨c.s.go (c.b.getD 0 default).pc,[],[],2⟩
 else if(enX p c 0).kind=11 then⟨c.s.go (c.b.getD 0 default).pc,[],[],1⟩
 else if cL (enX p c 0)=true then⟨c.s.set (enX p c 0).d (c.b.getD 0 default).val,ax c.b,c.r,c.e⟩
 else if(enX p c 0).kind=3 then⟨{c.s with m:=c.s.m.set (c.b.getD 0 default).adr.toNat (c.b.getD 0 default).val},ax c.b,c.r,c.e⟩
 else if(enX p c 0).kind=8 then⟨{c.s with st:=c.s.st++[(c.b.getD 0 default).pc+1]},ax c.b,c.r,c.e⟩
 else if(enX p c 0).kind=9 then⟨{c.s with st:=c.s.st.take (c.s.st.length-1)},ax c.b,c.r,c.e⟩
 else⟨c.s,ax c.b,c.r,c.e⟩
def rtO(p:Pg)(c:Cf):Option Cf:=if crV p c=true then some (rtV p c) else none
structure RtOk (p:Pg) (c:Cf):Prop where
 d:cL (enX p c 0)=true->0<=(enX p c 0).d∧(enX p c 0).d<4
 m:(enX p c 0).kind=3->(c.b.getD 0 default).ft=false->(c.b.getD 0 default).kn=true->0<=(c.b.getD 0 default).adr∧(c.b.getD 0 default).adr<c.s.m.length
 st:(enX p c 0).kind=9->(c.b.getD 0 default).ft=false->(c.b.getD 0 default).dn=true->c.s.st.length≠0
 sl:c.s.st.length<=1000
 ml:c.s.m.length<=1000000
 bl:c.b.length<900000
 pc:0<=(c.b.getD 0 default).pc∧(c.b.getD 0 default).pc<=1000000
theorem fK(l:List En): ∀k,(c8 l k).length=k
 |0=>rfl
 |k+1=>by rw[c8,aJ,fK l k];rfl
theorem dC(l:List En):(ax l).length=l.length-1:=fK _ _
theorem pf(l:List En): ∀k i,i<k->(c8 l k).getD i default=(l.getD (i+1) default).pop
 |k+1,i,h=>by
  unfold c8
  by_cases hi:i<k
  ·rw[<-pf l k i hi]
   simp[List.getD,bh (show i<(c8 l k).length by rw[fK];exact hi)]
  ·obtain rfl:i=k:=by omega
   simp[List.getD,bX,fK]
theorem cF(l:List En){i:Nat}(h:i+1<l.length):(ax l).getD i default=(l.getD (i+1) default).pop:=pf l _ i (by omega)
theorem uE{e:En}(h:0<=e.frm):e.pop={e with frm:=e.frm-1}:=by unfold En.pop;rw[ai h]
theorem uF{e:En}(h: ¬0<=e.frm):e.pop=e:=by unfold En.pop;rw[af h]
theorem wL(l:List En)(k:Nat):(c8 l k).length+1=(c8 l (k+1)).length:=by rw[c8,aJ];rfl
theorem Cp(l:List En){Z:Prop}(z:Z):(RF l.length (RR l.length 8 (fun i j=>an enC l i j) (RF (0:Nat) Z))):=⟨rfl,fun _ _ _ _=>rfl,rfl,z⟩
theorem Gy(l:List En)(k:Nat)(hk:k+1<l.length)(hb:l.length<1000000)(hf: -1000000<=(l.getD (k+1) default).frm∧(l.getD (k+1) default).frm<=1000000)(h:0<=(l.getD (k+1) default).frm):Vc (vC_ 16 0 (ppS l k) [.bd true,.bd true] .nrm [(0,0)] (ppS l (k+1))):=al (cj (dt ((k:Int)+1<l.length)) (cj (bi (k+1) l.length) (cj (dt ((l.getD (k+nat_lit 1) default).frm>=0)) (cj (show inK IntKind.i64 ((l.getD (k+nat_lit 1) default).frm-1) from(dM (show -9223372036854775808<=(l.getD (k+1) default).frm-1 by omega) (show(l.getD (k+1) default).frm-1<=9223372036854775807 by omega))) (cj (show(0:Nat)=0∧(c8 l k).length=(c8 l k).length∧((c8 l k).length+1)*48<=140737488355328∧(c8 l k).length+1<=140737488355328 from by rw[fK];omega) (cj (i6 (k+1+1)) (cj (wL l k) (cj (show ∀(i:Nat),i<(c8 l k).length+1-> ∀(j:Nat),j<8->(bif Nat.blt i (c8 l k).length then an enC (c8 l k) i j else List.getD [aI (l.getD (k+nat_lit 1) default).pc,aI (l.getD (k+nat_lit 1) default).val,aI (l.getD (k+nat_lit 1) default).adr,aI ((l.getD (k+nat_lit 1) default).frm-1),aI (l.getD (k+nat_lit 1) default).nxt,AV.bool (l.getD (k+nat_lit 1) default).dn,AV.bool (l.getD (k+nat_lit 1) default).kn,AV.bool (l.getD (k+nat_lit 1) default).ft] ((i-(c8 l k).length+0)*8+j) AV.junk)=an enC (c8 l (k+1)) i j from(fun i hi j hj=>dV (fun h=>(co h).symm) (fun h2=>by obtain rfl:i=_:=bI (bH.mp hi) (bz.mp h2);rw[c8,ct,bR,uE h];(match j,hj with |0,_=>rfl |1,_=>rfl |2,_=>rfl |3,_=>rfl |4,_=>rfl |5,_=>rfl |6,_=>rfl |7,_=>rfl)))) (Cp l (cj (wL l k) (cj (rf ((k:Int)+1+1)) trivial)))))))))))
theorem Gz(l:List En)(k:Nat)(hk:k+1<l.length)(hb:l.length<1000000)(hf: -1000000<=(l.getD (k+1) default).frm∧(l.getD (k+1) default).frm<=1000000)(h: ¬0<=(l.getD (k+1) default).frm):Vc (vC_ 16 0 (ppS l k) [.bd true,.bd false] .nrm [(0,0)] (ppS l (k+1))):=al (cj (dt ((k:Int)+1<l.length)) (cj (bi (k+1) l.length) (cj (df ((l.getD (k+nat_lit 1) default).frm>=0)) (cj (show(0:Nat)=0∧(c8 l k).length=(c8 l k).length∧((c8 l k).length+1)*48<=140737488355328∧(c8 l k).length+1<=140737488355328 from by rw[fK];omega) (cj (i6 (k+1+1)) (cj (wL l k) (cj (show ∀(i:Nat),i<(c8 l k).length+1-> ∀(j:Nat),j<8->(bif Nat.blt i (c8 l k).length then an enC (c8 l k) i j else List.getD [aI (l.getD (k+nat_lit 1) default).pc,aI (l.getD (k+nat_lit 1) default).val,aI (l.getD (k+nat_lit 1) default).adr,aI (l.getD (k+nat_lit 1) default).frm,aI (l.getD (k+nat_lit 1) default).nxt,AV.bool (l.getD (k+nat_lit 1) default).dn,AV.bool (l.getD (k+nat_lit 1) default).kn,AV.bool (l.getD (k+nat_lit 1) default).ft] ((i-(c8 l k).length+0)*8+j) AV.junk)=an enC (c8 l (k+1)) i j from(fun i hi j hj=>dV (fun h=>(co h).symm) (fun h2=>by obtain rfl:i=_:=bI (bH.mp hi) (bz.mp h2);rw[c8,ct,bR,uF h];(match j,hj with |0,_=>rfl |1,_=>rfl |2,_=>rfl |3,_=>rfl |4,_=>rfl |5,_=>rfl |6,_=>rfl |7,_=>rfl)))) (Cp l (cj (wL l k) (cj (rf ((k:Int)+1+1)) trivial))))))))))
theorem A4(l:List En)(k:Nat)(hk: ¬k+1<l.length):Vc (vC_ 16 0 (ppS l k) [.bd false] (.ext 0) [(0,0)] (ppS l k)):=al (cj (df ((k:Int)+1<l.length)) (cj (rf ((c8 l k).length)) (cj (rr ((c8 l k).length) 8 fun i j=>an enC (c8 l k) i j) (cj (rf l.length) (cj (rr l.length 8 fun i j=>an enC l i j) (cj (rf (0:Nat)) (cj (rf ((c8 l k).length)) (cj (rf ((k:Int)+1)) trivial))))))))
theorem xj(l:List En)(hb:l.length<1000000)(hf: ∀e∈l, -1000000<=e.frm∧e.frm<=1000000):oL_ 16 0 (ppS l 0).st (.ext 0) (ppS l (l.length-1)).st:=
 Ok.loop (P:=Try.prog) (nt:=dG Try.prog 16) (c:=lpC Try.prog 16 0) (F:=fun k=>ppS l k) (m:=l.length-1) (x:= .ext 0) (J:=ppS l (l.length-1)) (fun k hk=>by
  have hfk:=hf (l.getD (k+1) default) (by simp[List.getD,show k+1<l.length by omega])
  by_cases h:0<=(l.getD (k+1) default).frm
  ·exact Ok.vc (Gy l k (by omega) hb hfk h)
  ·exact Ok.vc (Gz l k (by omega) hb hfk h)) (Ok.vc (A4 l _ (by omega))) (by simp)
theorem A5(l:List En)(n:Nat)(h:oL_ 16 0 (ppS l 0).st (.ext 0) (ppS l n).st):Vc (vF_ 16 [enR l] [.lp [] (ppS l 0) (.ext 0) (ppS l n)] [] (enR (c8 l n)) []):=al (cj (rf (0:Nat)) (cj (rf l.length) (cj (rr l.length 8 fun i j=>an enC l i j) (cj (rf (0:Nat)) (cj (rf (0:Nat)) (cj (rf (1:Int)) (cj h (cj (rf ((c8 l n).length)) (cj (rr ((c8 l n).length) 8 fun i j=>an enC (c8 l n) i j) trivial)))))))))
theorem DQ(l:List En)(hb:l.length<1000000)(hf: ∀e∈l, -1000000<=e.frm∧e.frm<=1000000):pC_ 16 [enR l] (enR (ax l)) []:=PureC.vc (A5 l _ (xj l hb hf))
theorem oT{m:List Int}{n:Nat}{v:Int}: ∀i,i<0+m.length-> ∀j,j<1->(bif Nat.ble 0 j&&Nat.blt j 1&&Nat.beq (i+0) (n+0) then[AV.int .i64 v].getD (j-0) .junk else AV.int .i64 (m.getD (i+0-0) 0))= .int .i64 ((m.set n v).getD i 0):=fun i hi j hj=>
 fX (m:=m) (n:=n) (v:=v) i (by omega) j hj
theorem nh{l:List Int}{x:Int}: ∀i,i<0+l.length+1-> ∀j,j<1->(bif Nat.blt (i+0) (0+l.length) then AV.int .i64 (l.getD (i+0-0) 0) else[AV.int .i64 x].getD ((i+0-(0+l.length)+0)*1+j) .junk)= .int .i64 ((l++[x]).getD i 0):=fun i hi j hj=>by
 obtain rfl:j=0:=by omega
 simp only[a7,cz,fC] at hi ⊢
 exact jv (l:=l) (x:=x) (g:=fun a b=>[AV.int .i64 x].getD (a*1+b) .junk) rfl i hi _ fun _=>rfl
theorem ne{l:List Int}: ∀i,i<Int.toNat (((0+l.length:Nat):Int)-1)-> ∀j,j<1->AV.int .i64 (l.getD (i+0-0) 0)= .int .i64 ((l.take (l.length-1)).getD i 0):=fun i hi j hj=>by
 rw[kg l (l.length-1) i (by omega)]
 rfl
theorem fF(c:Cf){Z:Prop}(z:Z):(RR c.s.m.length 1 (fun i j=>aI (List.getD c.s.m i 0)) (RF c.s.st.length (RR c.s.st.length 1 (fun i j=>aI (List.getD c.s.st i 0)) (RF c.s.pc (RF c.b.length (RR c.b.length 8 (fun i j=>an enC c.b i j) (RF c.r.length (RR c.r.length 1 (fun i j=>aI (c.r.getD i 0)) (RF c.e Z))))))))):=⟨fun _ _ _ _=>rfl,rfl,fun _ _ _ _=>rfl,rfl,rfl,fun _ _ _ _=>rfl,rfl,fun _ _ _ _=>rfl,rfl,z⟩
theorem fE(p:Pg)(c:Cf){Z:Prop}(z:Z):(RF p.ls.length (RR p.ls.length 2 (fun i j=>an lbC p.ls i j) (RF p.is.length (RR p.is.length 9 (fun i j=>an inC p.is i j) (RF c.s.r0 (RF c.s.r1 (RF c.s.r2 (RF c.s.r3 (RF c.s.m.length Z))))))))):=⟨rfl,fun _ _ _ _=>rfl,rfl,fun _ _ _ _=>rfl,rfl,rfl,rfl,rfl,rfl,z⟩
theorem dd(p:Pg){Z:Prop}(z:Z):(RF p.W (RF p.win (RF p.fuel (RF p.r0 (RF p.r1 (RF p.r2 (RF p.r3 (RF p.ms.length (RR p.ms.length 3 (fun i j=>an mmC p.ms i j) Z))))))))):=⟨rfl,rfl,rfl,rfl,rfl,rfl,rfl,rfl,fun _ _ _ _=>rfl,z⟩
theorem Ge(p:Pg)(c:Cf)(hC:pC_ 40 [.agg (pgA p),.agg (cfA c)] (.bool false) []):Vc (vF_ 18 [.agg (pgA p),.agg (cfA c)] [.fv,.cl [.agg (pgA p),.agg (cfA c)] (.bool false) []] [] (.tup (ocA none)) []):=al (dd p (fE p c (fF c (cj hC (cj (rf (0:Int)) (cj (rf (0:Int)) (cj (rf (0:Int)) (cj (rf (0:Int)) (cj (rf (0:Nat)) (cj (rf (0:Nat)) (cj (rf (0:Int)) (cj (rf (0:Nat)) (cj (rf (0:Nat)) (cj (rf (0:Int)) (cj (rf false) trivial)))))))))))))))
theorem Co(c:Cf){Z:Prop}(z:Z):(RR (0+c.s.st.length) 1 (fun i j=>aI (List.getD c.s.st i 0)) (RF ((c.b.getD 0 default).pc) (RF (0:Nat) (RF (0:Nat) (RF (2:Int) (RF true Z)))))):=⟨fun _ _ _ _=>rfl,rfl,rfl,rfl,rfl,rfl,z⟩
theorem pT(c:Cf){Z:Prop}(z:Z):(RF c.s.r0 (RF c.s.r1 (RF c.s.r2 (RF c.s.r3 Z)))):=⟨rfl,rfl,rfl,rfl,z⟩
theorem fP(p:Pg)(c:Cf){Z:Prop}(z:Z):(RF p.ls.length (RR p.ls.length 2 (fun i j=>an lbC p.ls i j) (RF p.is.length (RR p.is.length 9 (fun i j=>an inC p.is i j) (RF ((c.b.getD 0 default).pc) Z))))):=⟨rfl,fun _ _ _ _=>rfl,rfl,fun _ _ _ _=>rfl,rfl,z⟩
abbrev f8(p:Pg)(c:Cf):Prop:=PureC Try.prog 40 [.agg (pgA p),.agg (cfA c)] (.bool true) []
abbrev f6(c:Cf):Prop:=PureC Try.prog 16 [enR c.b] (enR (ax c.b)) []
abbrev ga(p:Pg)(c:Cf):Orc:= .cl [.agg (pgA p), aI (c.b.getD 0 default).pc] (.agg (inA (enX p c 0))) []
abbrev gb(p:Pg)(c:Cf):Orc:= .cl [.agg (pgA p),.agg (cfA c)] (.bool true) []
abbrev f9(c:Cf):Orc:= .cl [enR c.b] (enR (ax c.b)) []
theorem Gg(p:Pg)(c:Cf)(hC:f8 p c)(hP:f6 c)(h0:c.e=0)(hl:0<c.b.length)(hb:c.b.length<900000)(hs:c.s.st.length<=1000)(hm:c.s.m.length<=1000000)(hf:(c.b.getD 0 default).ft=true):Vc (vF_ 18 [.agg (pgA p),.agg (cfA c)] [.fv,gb p c,ga p c,f9 c,.b true,.b true,.b true,.b true,.bd true] [] (.tup [.agg (cfA ⟨c.s.go (c.b.getD 0 default).pc,[],[],2⟩),.bool true]) []):=al (dd p (fE p c (fF c (cj hC (cj (pv ((0:Int)<=0∧(0:Int)<c.b.length)) (dd p (fP p c (cj (bw p (c.b.getD 0 default).pc) (cj (rf c.b.length) (cj (rr c.b.length 8 fun i j=>an enC c.b i j) (cj hP (cj (ap 0 c.s.m.length 8) (cj (ap 0 c.s.st.length 8) (cj hf (cj hf (cj hf (cj hf (cj (n1 (2:Int) 0) (pT c (cj (za c.s.m.length) (cj (rr (0+c.s.m.length) 1 fun i j=>aI (List.getD c.s.m i 0)) (cj (za c.s.st.length) (Co c trivial)))))))))))))))))))))))
theorem DN(p:Pg)(c:Cf)(hC:f8 p c)(hP:f6 c)(h0:c.e=0)(hl:0<c.b.length)(hb:c.b.length<900000)(hs:c.s.st.length<=1000)(hm:c.s.m.length<=1000000)(k12:(enX p c 0).kind=12)(hf:(c.b.getD 0 default).ft=false):Vc (vF_ 18 [.agg (pgA p),.agg (cfA c)] [.fv,gb p c,ga p c,f9 c,.b false,.b false,.b false,.bd true,.b false,.bd true] [] (.tup [.agg (cfA ⟨c.s.go (c.b.getD 0 default).pc,[],[],2⟩),.bool true]) []):=al (dd p (fE p c (fF c (cj hC (cj (pv ((0:Int)<=0∧(0:Int)<c.b.length)) (dd p (fP p c (cj (bw p (c.b.getD 0 default).pc) (cj (rf c.b.length) (cj (rr c.b.length 8 fun i j=>an enC c.b i j) (cj hP (cj (ap 0 c.s.m.length 8) (cj (ap 0 c.s.st.length 8) (cj hf (cj hf (cj hf (cj (e1 ((enX p c 0).kind) 12) (cj hf (cj (n1 (2:Int) 0) (pT c (cj (za c.s.m.length) (cj (rr (0+c.s.m.length) 1 fun i j=>aI (List.getD c.s.m i 0)) (cj (za c.s.st.length) (Co c trivial))))))))))))))))))))))))
theorem DO(p:Pg)(c:Cf)(hC:f8 p c)(hP:f6 c)(h0:c.e=0)(hl:0<c.b.length)(hb:c.b.length<900000)(hs:c.s.st.length<=1000)(hm:c.s.m.length<=1000000)(k12: ¬(enX p c 0).kind=12)(k11:(enX p c 0).kind=11)(hf:(c.b.getD 0 default).ft=false):Vc (vF_ 18 [.agg (pgA p),.agg (cfA c)] [.fv,gb p c,ga p c,f9 c,.b false,.b false,.b false,.bd false,.b false,.bd true,.bd true] [] (.tup [.agg (cfA ⟨c.s.go (c.b.getD 0 default).pc,[],[],1⟩),.bool true]) []):=al (dd p (fE p c (fF c (cj hC (cj (pv ((0:Int)<=0∧(0:Int)<c.b.length)) (dd p (fP p c (cj (bw p (c.b.getD 0 default).pc) (cj (rf c.b.length) (cj (rr c.b.length 8 fun i j=>an enC c.b i j) (cj hP (cj (ap 0 c.s.m.length 8) (cj (ap 0 c.s.st.length 8) (cj hf (cj hf (cj hf (cj (e0 ((enX p c 0).kind) 12) (cj hf (cj (e1 ((enX p c 0).kind) 11) (cj (n1 (1:Int) 0) (pT c (cj (za c.s.m.length) (cj (rr (0+c.s.m.length) 1 fun i j=>aI (List.getD c.s.m i 0)) (cj (za c.s.st.length) (cj (rr (0+c.s.st.length) 1 fun i j=>aI (List.getD c.s.st i 0)) (cj (rf ((c.b.getD 0 default).pc)) (cj (rf (0:Nat)) (cj (rf (0:Nat)) (cj (rf (1:Int)) (cj (rf true) trivial))))))))))))))))))))))))))))))
theorem zY(p:Pg)(c:Cf)(hd:(enX p c 0).d=0):Go.bits Go.BinOp.and IntKind.i64 (enX p c 0).d (3:Int)=((0:Nat):Int):=by rw[hd];decide
theorem ji(c:Cf){Z:Prop}(z:Z):(RR (0+c.s.st.length) 1 (fun i j=>aI (List.getD c.s.st i 0)) (RF c.s.pc (RF ((ax c.b).length) (RR ((ax c.b).length) 8 (fun i j=>an enC (ax c.b) i j) (RF c.r.length (RR c.r.length 1 (fun i j=>aI (c.r.getD i 0)) (RF c.e (RF true Z)))))))):=⟨fun _ _ _ _=>rfl,rfl,rfl,fun _ _ _ _=>rfl,rfl,fun _ _ _ _=>rfl,rfl,rfl,z⟩
theorem zq(c:Cf){Z:Prop}(z:Z):(RF ((c.b.getD 0 default).val) (RF c.s.r1 (RF c.s.r2 (RF c.s.r3 Z)))):=⟨rfl,rfl,rfl,rfl,z⟩
theorem Ar(p:Pg)(c:Cf)(hC:f8 p c)(hP:f6 c)(h0:c.e=0)(hl:0<c.b.length)(hb:c.b.length<900000)(hs:c.s.st.length<=1000)(hm:c.s.m.length<=1000000)(k12: ¬(enX p c 0).kind=12)(k11: ¬(enX p c 0).kind=11)(k1:(enX p c 0).kind=1)(hf:(c.b.getD 0 default).ft=false)(hd:(enX p c 0).d=0):Vc (vF_ 18 [.agg (pgA p),.agg (cfA c)] [.fv,gb p c,ga p c,f9 c,.b false,.b false,.b false,.bd false,.b false,.bd false,.bd true,.ix 0,.bd false] [] (.tup [.agg (cfA ⟨c.s.set 0 (c.b.getD 0 default).val,ax c.b,c.r,c.e⟩),.bool true]) []):=al (dd p (fE p c (fF c (cj hC (cj (pv ((0:Int)<=0∧(0:Int)<c.b.length)) (dd p (fP p c (cj (bw p (c.b.getD 0 default).pc) (cj (rf c.b.length) (cj (rr c.b.length 8 fun i j=>an enC c.b i j) (cj hP (cj (ap 0 c.s.m.length 8) (cj (ap 0 c.s.st.length 8) (cj hf (cj hf (cj hf (cj (e0 ((enX p c 0).kind) 12) (cj hf (cj (e0 ((enX p c 0).kind) 11) (cj (e1 ((enX p c 0).kind) 1) (cj (zY p c hd) (cj (aw.2 h0) (zq c (cj (za c.s.m.length) (cj (rr (0+c.s.m.length) 1 fun i j=>aI (List.getD c.s.m i 0)) (cj (za c.s.st.length) (ji c trivial)))))))))))))))))))))))))))
theorem zX(p:Pg)(c:Cf)(hd:(enX p c 0).d=1):Go.bits Go.BinOp.and IntKind.i64 (enX p c 0).d (3:Int)=((1:Nat):Int):=by rw[hd];decide
theorem zp(c:Cf){Z:Prop}(z:Z):(RF c.s.r0 (RF ((c.b.getD 0 default).val) (RF c.s.r2 (RF c.s.r3 Z)))):=⟨rfl,rfl,rfl,rfl,z⟩
theorem Aq(p:Pg)(c:Cf)(hC:f8 p c)(hP:f6 c)(h0:c.e=0)(hl:0<c.b.length)(hb:c.b.length<900000)(hs:c.s.st.length<=1000)(hm:c.s.m.length<=1000000)(k12: ¬(enX p c 0).kind=12)(k11: ¬(enX p c 0).kind=11)(k1:(enX p c 0).kind=1)(hf:(c.b.getD 0 default).ft=false)(hd:(enX p c 0).d=1):Vc (vF_ 18 [.agg (pgA p),.agg (cfA c)] [.fv,gb p c,ga p c,f9 c,.b false,.b false,.b false,.bd false,.b false,.bd false,.bd true,.ix 1,.bd false] [] (.tup [.agg (cfA ⟨c.s.set 1 (c.b.getD 0 default).val,ax c.b,c.r,c.e⟩),.bool true]) []):=al (dd p (fE p c (fF c (cj hC (cj (pv ((0:Int)<=0∧(0:Int)<c.b.length)) (dd p (fP p c (cj (bw p (c.b.getD 0 default).pc) (cj (rf c.b.length) (cj (rr c.b.length 8 fun i j=>an enC c.b i j) (cj hP (cj (ap 0 c.s.m.length 8) (cj (ap 0 c.s.st.length 8) (cj hf (cj hf (cj hf (cj (e0 ((enX p c 0).kind) 12) (cj hf (cj (e0 ((enX p c 0).kind) 11) (cj (e1 ((enX p c 0).kind) 1) (cj (zX p c hd) (cj (aw.2 h0) (zp c (cj (za c.s.m.length) (cj (rr (0+c.s.m.length) 1 fun i j=>aI (List.getD c.s.m i 0)) (cj (za c.s.st.length) (ji c trivial)))))))))))))))))))))))))))
theorem zW(p:Pg)(c:Cf)(hd:(enX p c 0).d=2):Go.bits Go.BinOp.and IntKind.i64 (enX p c 0).d (3:Int)=((2:Nat):Int):=by rw[hd];decide
theorem zo(c:Cf){Z:Prop}(z:Z):(RF c.s.r0 (RF c.s.r1 (RF ((c.b.getD 0 default).val) (RF c.s.r3 Z)))):=⟨rfl,rfl,rfl,rfl,z⟩
theorem Ap(p:Pg)(c:Cf)(hC:f8 p c)(hP:f6 c)(h0:c.e=0)(hl:0<c.b.length)(hb:c.b.length<900000)(hs:c.s.st.length<=1000)(hm:c.s.m.length<=1000000)(k12: ¬(enX p c 0).kind=12)(k11: ¬(enX p c 0).kind=11)(k1:(enX p c 0).kind=1)(hf:(c.b.getD 0 default).ft=false)(hd:(enX p c 0).d=2):Vc (vF_ 18 [.agg (pgA p),.agg (cfA c)] [.fv,gb p c,ga p c,f9 c,.b false,.b false,.b false,.bd false,.b false,.bd false,.bd true,.ix 2,.bd false] [] (.tup [.agg (cfA ⟨c.s.set 2 (c.b.getD 0 default).val,ax c.b,c.r,c.e⟩),.bool true]) []):=al (dd p (fE p c (fF c (cj hC (cj (pv ((0:Int)<=0∧(0:Int)<c.b.length)) (dd p (fP p c (cj (bw p (c.b.getD 0 default).pc) (cj (rf c.b.length) (cj (rr c.b.length 8 fun i j=>an enC c.b i j) (cj hP (cj (ap 0 c.s.m.length 8) (cj (ap 0 c.s.st.length 8) (cj hf (cj hf (cj hf (cj (e0 ((enX p c 0).kind) 12) (cj hf (cj (e0 ((enX p c 0).kind) 11) (cj (e1 ((enX p c 0).kind) 1) (cj (zW p c hd) (cj (aw.2 h0) (zo c (cj (za c.s.m.length) (cj (rr (0+c.s.m.length) 1 fun i j=>aI (List.getD c.s.m i 0)) (cj (za c.s.st.length) (ji c trivial)))))))))))))))))))))))))))
theorem zV(p:Pg)(c:Cf)(hd:(enX p c 0).d=3):Go.bits Go.BinOp.and IntKind.i64 (enX p c 0).d (3:Int)=((3:Nat):Int):=by rw[hd];decide
theorem te(c:Cf){Z:Prop}(z:Z):(RF c.s.r0 (RF c.s.r1 (RF c.s.r2 (RF ((c.b.getD 0 default).val) Z)))):=⟨rfl,rfl,rfl,rfl,z⟩
theorem Ao(p:Pg)(c:Cf)(hC:f8 p c)(hP:f6 c)(h0:c.e=0)(hl:0<c.b.length)(hb:c.b.length<900000)(hs:c.s.st.length<=1000)(hm:c.s.m.length<=1000000)(k12: ¬(enX p c 0).kind=12)(k11: ¬(enX p c 0).kind=11)(k1:(enX p c 0).kind=1)(hf:(c.b.getD 0 default).ft=false)(hd:(enX p c 0).d=3):Vc (vF_ 18 [.agg (pgA p),.agg (cfA c)] [.fv,gb p c,ga p c,f9 c,.b false,.b false,.b false,.bd false,.b false,.bd false,.bd true,.ix 3,.bd false] [] (.tup [.agg (cfA ⟨c.s.set 3 (c.b.getD 0 default).val,ax c.b,c.r,c.e⟩),.bool true]) []):=al (dd p (fE p c (fF c (cj hC (cj (pv ((0:Int)<=0∧(0:Int)<c.b.length)) (dd p (fP p c (cj (bw p (c.b.getD 0 default).pc) (cj (rf c.b.length) (cj (rr c.b.length 8 fun i j=>an enC c.b i j) (cj hP (cj (ap 0 c.s.m.length 8) (cj (ap 0 c.s.st.length 8) (cj hf (cj hf (cj hf (cj (e0 ((enX p c 0).kind) 12) (cj hf (cj (e0 ((enX p c 0).kind) 11) (cj (e1 ((enX p c 0).kind) 1) (cj (zV p c hd) (cj (aw.2 h0) (te c (cj (za c.s.m.length) (cj (rr (0+c.s.m.length) 1 fun i j=>aI (List.getD c.s.m i 0)) (cj (za c.s.st.length) (ji c trivial)))))))))))))))))))))))))))
theorem An(p:Pg)(c:Cf)(hC:f8 p c)(hP:f6 c)(h0:c.e=0)(hl:0<c.b.length)(hb:c.b.length<900000)(hs:c.s.st.length<=1000)(hm:c.s.m.length<=1000000)(k12: ¬(enX p c 0).kind=12)(k11: ¬(enX p c 0).kind=11)(k1: ¬(enX p c 0).kind=1)(k2:(enX p c 0).kind=2)(hf:(c.b.getD 0 default).ft=false)(hd:(enX p c 0).d=0):Vc (vF_ 18 [.agg (pgA p),.agg (cfA c)] [.fv,gb p c,ga p c,f9 c,.b false,.b false,.b false,.bd false,.b false,.bd false,.bd false,.bd true,.ix 0,.bd false] [] (.tup [.agg (cfA ⟨c.s.set 0 (c.b.getD 0 default).val,ax c.b,c.r,c.e⟩),.bool true]) []):=al (dd p (fE p c (fF c (cj hC (cj (pv ((0:Int)<=0∧(0:Int)<c.b.length)) (dd p (fP p c (cj (bw p (c.b.getD 0 default).pc) (cj (rf c.b.length) (cj (rr c.b.length 8 fun i j=>an enC c.b i j) (cj hP (cj (ap 0 c.s.m.length 8) (cj (ap 0 c.s.st.length 8) (cj hf (cj hf (cj hf (cj (e0 ((enX p c 0).kind) 12) (cj hf (cj (e0 ((enX p c 0).kind) 11) (cj (e0 ((enX p c 0).kind) 1) (cj (e1 ((enX p c 0).kind) 2) (cj (zY p c hd) (cj (aw.2 h0) (zq c (cj (za c.s.m.length) (cj (rr (0+c.s.m.length) 1 fun i j=>aI (List.getD c.s.m i 0)) (cj (za c.s.st.length) (ji c trivial))))))))))))))))))))))))))))
theorem Am(p:Pg)(c:Cf)(hC:f8 p c)(hP:f6 c)(h0:c.e=0)(hl:0<c.b.length)(hb:c.b.length<900000)(hs:c.s.st.length<=1000)(hm:c.s.m.length<=1000000)(k12: ¬(enX p c 0).kind=12)(k11: ¬(enX p c 0).kind=11)(k1: ¬(enX p c 0).kind=1)(k2:(enX p c 0).kind=2)(hf:(c.b.getD 0 default).ft=false)(hd:(enX p c 0).d=1):Vc (vF_ 18 [.agg (pgA p),.agg (cfA c)] [.fv,gb p c,ga p c,f9 c,.b false,.b false,.b false,.bd false,.b false,.bd false,.bd false,.bd true,.ix 1,.bd false] [] (.tup [.agg (cfA ⟨c.s.set 1 (c.b.getD 0 default).val,ax c.b,c.r,c.e⟩),.bool true]) []):=al (dd p (fE p c (fF c (cj hC (cj (pv ((0:Int)<=0∧(0:Int)<c.b.length)) (dd p (fP p c (cj (bw p (c.b.getD 0 default).pc) (cj (rf c.b.length) (cj (rr c.b.length 8 fun i j=>an enC c.b i j) (cj hP (cj (ap 0 c.s.m.length 8) (cj (ap 0 c.s.st.length 8) (cj hf (cj hf (cj hf (cj (e0 ((enX p c 0).kind) 12) (cj hf (cj (e0 ((enX p c 0).kind) 11) (cj (e0 ((enX p c 0).kind) 1) (cj (e1 ((enX p c 0).kind) 2) (cj (zX p c hd) (cj (aw.2 h0) (zp c (cj (za c.s.m.length) (cj (rr (0+c.s.m.length) 1 fun i j=>aI (List.getD c.s.m i 0)) (cj (za c.s.st.length) (ji c trivial))))))))))))))))))))))))))))
theorem Al(p:Pg)(c:Cf)(hC:f8 p c)(hP:f6 c)(h0:c.e=0)(hl:0<c.b.length)(hb:c.b.length<900000)(hs:c.s.st.length<=1000)(hm:c.s.m.length<=1000000)(k12: ¬(enX p c 0).kind=12)(k11: ¬(enX p c 0).kind=11)(k1: ¬(enX p c 0).kind=1)(k2:(enX p c 0).kind=2)(hf:(c.b.getD 0 default).ft=false)(hd:(enX p c 0).d=2):Vc (vF_ 18 [.agg (pgA p),.agg (cfA c)] [.fv,gb p c,ga p c,f9 c,.b false,.b false,.b false,.bd false,.b false,.bd false,.bd false,.bd true,.ix 2,.bd false] [] (.tup [.agg (cfA ⟨c.s.set 2 (c.b.getD 0 default).val,ax c.b,c.r,c.e⟩),.bool true]) []):=al (dd p (fE p c (fF c (cj hC (cj (pv ((0:Int)<=0∧(0:Int)<c.b.length)) (dd p (fP p c (cj (bw p (c.b.getD 0 default).pc) (cj (rf c.b.length) (cj (rr c.b.length 8 fun i j=>an enC c.b i j) (cj hP (cj (ap 0 c.s.m.length 8) (cj (ap 0 c.s.st.length 8) (cj hf (cj hf (cj hf (cj (e0 ((enX p c 0).kind) 12) (cj hf (cj (e0 ((enX p c 0).kind) 11) (cj (e0 ((enX p c 0).kind) 1) (cj (e1 ((enX p c 0).kind) 2) (cj (zW p c hd) (cj (aw.2 h0) (zo c (cj (za c.s.m.length) (cj (rr (0+c.s.m.length) 1 fun i j=>aI (List.getD c.s.m i 0)) (cj (za c.s.st.length) (ji c trivial))))))))))))))))))))))))))))
theorem Ak(p:Pg)(c:Cf)(hC:f8 p c)(hP:f6 c)(h0:c.e=0)(hl:0<c.b.length)(hb:c.b.length<900000)(hs:c.s.st.length<=1000)(hm:c.s.m.length<=1000000)(k12: ¬(enX p c 0).kind=12)(k11: ¬(enX p c 0).kind=11)(k1: ¬(enX p c 0).kind=1)(k2:(enX p c 0).kind=2)(hf:(c.b.getD 0 default).ft=false)(hd:(enX p c 0).d=3):Vc (vF_ 18 [.agg (pgA p),.agg (cfA c)] [.fv,gb p c,ga p c,f9 c,.b false,.b false,.b false,.bd false,.b false,.bd false,.bd false,.bd true,.ix 3,.bd false] [] (.tup [.agg (cfA ⟨c.s.set 3 (c.b.getD 0 default).val,ax c.b,c.r,c.e⟩),.bool true]) []):=al (dd p (fE p c (fF c (cj hC (cj (pv ((0:Int)<=0∧(0:Int)<c.b.length)) (dd p (fP p c (cj (bw p (c.b.getD 0 default).pc) (cj (rf c.b.length) (cj (rr c.b.length 8 fun i j=>an enC c.b i j) (cj hP (cj (ap 0 c.s.m.length 8) (cj (ap 0 c.s.st.length 8) (cj hf (cj hf (cj hf (cj (e0 ((enX p c 0).kind) 12) (cj hf (cj (e0 ((enX p c 0).kind) 11) (cj (e0 ((enX p c 0).kind) 1) (cj (e1 ((enX p c 0).kind) 2) (cj (zV p c hd) (cj (aw.2 h0) (te c (cj (za c.s.m.length) (cj (rr (0+c.s.m.length) 1 fun i j=>aI (List.getD c.s.m i 0)) (cj (za c.s.st.length) (ji c trivial))))))))))))))))))))))))))))
theorem Aj(p:Pg)(c:Cf)(hC:f8 p c)(hP:f6 c)(h0:c.e=0)(hl:0<c.b.length)(hb:c.b.length<900000)(hs:c.s.st.length<=1000)(hm:c.s.m.length<=1000000)(k12: ¬(enX p c 0).kind=12)(k11: ¬(enX p c 0).kind=11)(k1: ¬(enX p c 0).kind=1)(k2: ¬(enX p c 0).kind=2)(k4:(enX p c 0).kind=4)(hf:(c.b.getD 0 default).ft=false)(hd:(enX p c 0).d=0):Vc (vF_ 18 [.agg (pgA p),.agg (cfA c)] [.fv,gb p c,ga p c,f9 c,.b false,.b false,.b false,.bd false,.b false,.bd false,.bd false,.bd false,.bd true,.ix 0,.bd false] [] (.tup [.agg (cfA ⟨c.s.set 0 (c.b.getD 0 default).val,ax c.b,c.r,c.e⟩),.bool true]) []):=al (dd p (fE p c (fF c (cj hC (cj (pv ((0:Int)<=0∧(0:Int)<c.b.length)) (dd p (fP p c (cj (bw p (c.b.getD 0 default).pc) (cj (rf c.b.length) (cj (rr c.b.length 8 fun i j=>an enC c.b i j) (cj hP (cj (ap 0 c.s.m.length 8) (cj (ap 0 c.s.st.length 8) (cj hf (cj hf (cj hf (cj (e0 ((enX p c 0).kind) 12) (cj hf (cj (e0 ((enX p c 0).kind) 11) (cj (e0 ((enX p c 0).kind) 1) (cj (e0 ((enX p c 0).kind) 2) (cj (e1 ((enX p c 0).kind) 4) (cj (zY p c hd) (cj (aw.2 h0) (zq c (cj (za c.s.m.length) (cj (rr (0+c.s.m.length) 1 fun i j=>aI (List.getD c.s.m i 0)) (cj (za c.s.st.length) (ji c trivial)))))))))))))))))))))))))))))
theorem Ai(p:Pg)(c:Cf)(hC:f8 p c)(hP:f6 c)(h0:c.e=0)(hl:0<c.b.length)(hb:c.b.length<900000)(hs:c.s.st.length<=1000)(hm:c.s.m.length<=1000000)(k12: ¬(enX p c 0).kind=12)(k11: ¬(enX p c 0).kind=11)(k1: ¬(enX p c 0).kind=1)(k2: ¬(enX p c 0).kind=2)(k4:(enX p c 0).kind=4)(hf:(c.b.getD 0 default).ft=false)(hd:(enX p c 0).d=1):Vc (vF_ 18 [.agg (pgA p),.agg (cfA c)] [.fv,gb p c,ga p c,f9 c,.b false,.b false,.b false,.bd false,.b false,.bd false,.bd false,.bd false,.bd true,.ix 1,.bd false] [] (.tup [.agg (cfA ⟨c.s.set 1 (c.b.getD 0 default).val,ax c.b,c.r,c.e⟩),.bool true]) []):=al (dd p (fE p c (fF c (cj hC (cj (pv ((0:Int)<=0∧(0:Int)<c.b.length)) (dd p (fP p c (cj (bw p (c.b.getD 0 default).pc) (cj (rf c.b.length) (cj (rr c.b.length 8 fun i j=>an enC c.b i j) (cj hP (cj (ap 0 c.s.m.length 8) (cj (ap 0 c.s.st.length 8) (cj hf (cj hf (cj hf (cj (e0 ((enX p c 0).kind) 12) (cj hf (cj (e0 ((enX p c 0).kind) 11) (cj (e0 ((enX p c 0).kind) 1) (cj (e0 ((enX p c 0).kind) 2) (cj (e1 ((enX p c 0).kind) 4) (cj (zX p c hd) (cj (aw.2 h0) (zp c (cj (za c.s.m.length) (cj (rr (0+c.s.m.length) 1 fun i j=>aI (List.getD c.s.m i 0)) (cj (za c.s.st.length) (ji c trivial)))))))))))))))))))))))))))))
theorem Ah(p:Pg)(c:Cf)(hC:f8 p c)(hP:f6 c)(h0:c.e=0)(hl:0<c.b.length)(hb:c.b.length<900000)(hs:c.s.st.length<=1000)(hm:c.s.m.length<=1000000)(k12: ¬(enX p c 0).kind=12)(k11: ¬(enX p c 0).kind=11)(k1: ¬(enX p c 0).kind=1)(k2: ¬(enX p c 0).kind=2)(k4:(enX p c 0).kind=4)(hf:(c.b.getD 0 default).ft=false)(hd:(enX p c 0).d=2):Vc (vF_ 18 [.agg (pgA p),.agg (cfA c)] [.fv,gb p c,ga p c,f9 c,.b false,.b false,.b false,.bd false,.b false,.bd false,.bd false,.bd false,.bd true,.ix 2,.bd false] [] (.tup [.agg (cfA ⟨c.s.set 2 (c.b.getD 0 default).val,ax c.b,c.r,c.e⟩),.bool true]) []):=al (dd p (fE p c (fF c (cj hC (cj (pv ((0:Int)<=0∧(0:Int)<c.b.length)) (dd p (fP p c (cj (bw p (c.b.getD 0 default).pc) (cj (rf c.b.length) (cj (rr c.b.length 8 fun i j=>an enC c.b i j) (cj hP (cj (ap 0 c.s.m.length 8) (cj (ap 0 c.s.st.length 8) (cj hf (cj hf (cj hf (cj (e0 ((enX p c 0).kind) 12) (cj hf (cj (e0 ((enX p c 0).kind) 11) (cj (e0 ((enX p c 0).kind) 1) (cj (e0 ((enX p c 0).kind) 2) (cj (e1 ((enX p c 0).kind) 4) (cj (zW p c hd) (cj (aw.2 h0) (zo c (cj (za c.s.m.length) (cj (rr (0+c.s.m.length) 1 fun i j=>aI (List.getD c.s.m i 0)) (cj (za c.s.st.length) (ji c trivial)))))))))))))))))))))))))))))
theorem Ag(p:Pg)(c:Cf)(hC:f8 p c)(hP:f6 c)(h0:c.e=0)(hl:0<c.b.length)(hb:c.b.length<900000)(hs:c.s.st.length<=1000)(hm:c.s.m.length<=1000000)(k12: ¬(enX p c 0).kind=12)(k11: ¬(enX p c 0).kind=11)(k1: ¬(enX p c 0).kind=1)(k2: ¬(enX p c 0).kind=2)(k4:(enX p c 0).kind=4)(hf:(c.b.getD 0 default).ft=false)(hd:(enX p c 0).d=3):Vc (vF_ 18 [.agg (pgA p),.agg (cfA c)] [.fv,gb p c,ga p c,f9 c,.b false,.b false,.b false,.bd false,.b false,.bd false,.bd false,.bd false,.bd true,.ix 3,.bd false] [] (.tup [.agg (cfA ⟨c.s.set 3 (c.b.getD 0 default).val,ax c.b,c.r,c.e⟩),.bool true]) []):=al (dd p (fE p c (fF c (cj hC (cj (pv ((0:Int)<=0∧(0:Int)<c.b.length)) (dd p (fP p c (cj (bw p (c.b.getD 0 default).pc) (cj (rf c.b.length) (cj (rr c.b.length 8 fun i j=>an enC c.b i j) (cj hP (cj (ap 0 c.s.m.length 8) (cj (ap 0 c.s.st.length 8) (cj hf (cj hf (cj hf (cj (e0 ((enX p c 0).kind) 12) (cj hf (cj (e0 ((enX p c 0).kind) 11) (cj (e0 ((enX p c 0).kind) 1) (cj (e0 ((enX p c 0).kind) 2) (cj (e1 ((enX p c 0).kind) 4) (cj (zV p c hd) (cj (aw.2 h0) (te c (cj (za c.s.m.length) (cj (rr (0+c.s.m.length) 1 fun i j=>aI (List.getD c.s.m i 0)) (cj (za c.s.st.length) (ji c trivial)))))))))))))))))))))))))))))
theorem Gj(p:Pg)(c:Cf)(hC:f8 p c)(hP:f6 c)(h0:c.e=0)(hl:0<c.b.length)(hb:c.b.length<900000)(hs:c.s.st.length<=1000)(hm:c.s.m.length<=1000000)(k12: ¬(enX p c 0).kind=12)(k11: ¬(enX p c 0).kind=11)(k1: ¬(enX p c 0).kind=1)(k2: ¬(enX p c 0).kind=2)(k4: ¬(enX p c 0).kind=4)(k3:(enX p c 0).kind=3)(hf:(c.b.getD 0 default).ft=false)(ha:0<=(c.b.getD 0 default).adr)(ha1:(c.b.getD 0 default).adr<c.s.m.length):Vc (vF_ 18 [.agg (pgA p),.agg (cfA c)] [.fv,gb p c,ga p c,f9 c,.b false,.b false,.b false,.bd false,.b false,.bd false,.bd false,.bd false,.bd false,.bd true,.bd false] [] (.tup [.agg (cfA ⟨{c.s with m:=c.s.m.set (c.b.getD 0 default).adr.toNat (c.b.getD 0 default).val},ax c.b,c.r,c.e⟩),.bool true]) []):=al (dd p (fE p c (fF c (cj hC (cj (pv ((0:Int)<=0∧(0:Int)<c.b.length)) (dd p (fP p c (cj (bw p (c.b.getD 0 default).pc) (cj (rf c.b.length) (cj (rr c.b.length 8 fun i j=>an enC c.b i j) (cj hP (cj (ap 0 c.s.m.length 8) (cj (ap 0 c.s.st.length 8) (cj hf (cj hf (cj hf (cj (e0 ((enX p c 0).kind) 12) (cj hf (cj (e0 ((enX p c 0).kind) 11) (cj (e0 ((enX p c 0).kind) 1) (cj (e0 ((enX p c 0).kind) 2) (cj (e0 ((enX p c 0).kind) 4) (cj (e1 ((enX p c 0).kind) 3) (cj (bi ((c.b.getD 0 default).adr) (↑((0:Nat)+c.s.m.length):Int)) (cj (lz (Int.toNat (c.b.getD 0 default).adr) c.s.m.length) (cj (aw.2 h0) (pT c (cj (pv ((0:Nat)+c.s.m.length=(List.set c.s.m (Int.toNat (c.b.getD 0 default).adr) (c.b.getD 0 default).val).length)) (cj (show ∀(i:Nat),i<0+c.s.m.length-> ∀(j:Nat),j<1->(bif Nat.ble (0:Nat) j&&Nat.blt j (1:Nat)&&Nat.beq (i+0) (Int.toNat (c.b.getD 0 default).adr+0) then List.getD [aI (c.b.getD 0 default).val] (j-0) AV.junk else aI (List.getD c.s.m (i+0-0) 0))=aI (List.getD (List.set c.s.m (Int.toNat (c.b.getD 0 default).adr) (c.b.getD 0 default).val) i 0) from oT) (cj (za c.s.st.length) (ji c trivial)))))))))))))))))))))))))))))))
theorem yv(c:Cf){Z:Prop}(z:Z):(RF c.s.pc (RF ((ax c.b).length) (RR ((ax c.b).length) 8 (fun i j=>an enC (ax c.b) i j) (RF c.r.length (RR c.r.length 1 (fun i j=>aI (c.r.getD i 0)) (RF c.e (RF true Z))))))):=⟨rfl,rfl,fun _ _ _ _=>rfl,rfl,fun _ _ _ _=>rfl,rfl,rfl,z⟩
theorem Gi(p:Pg)(c:Cf)(hC:f8 p c)(hP:f6 c)(h0:c.e=0)(hl:0<c.b.length)(hb:c.b.length<900000)(hs:c.s.st.length<=1000)(hm:c.s.m.length<=1000000)(k12: ¬(enX p c 0).kind=12)(k11: ¬(enX p c 0).kind=11)(k1: ¬(enX p c 0).kind=1)(k2: ¬(enX p c 0).kind=2)(k4: ¬(enX p c 0).kind=4)(k3: ¬(enX p c 0).kind=3)(k8:(enX p c 0).kind=8)(hf:(c.b.getD 0 default).ft=false)(hp:0<=(c.b.getD 0 default).pc)(hp1:(c.b.getD 0 default).pc<=1000000):Vc (vF_ 18 [.agg (pgA p),.agg (cfA c)] [.fv,gb p c,ga p c,f9 c,.b false,.b false,.b false,.bd false,.b false,.bd false,.bd false,.bd false,.bd false,.bd false,.bd true,.bd false] [] (.tup [.agg (cfA ⟨{c.s with st:=c.s.st++[(c.b.getD 0 default).pc+1]},ax c.b,c.r,c.e⟩),.bool true]) []):=al (dd p (fE p c (fF c (cj hC (cj (pv ((0:Int)<=0∧(0:Int)<c.b.length)) (dd p (fP p c (cj (bw p (c.b.getD 0 default).pc) (cj (rf c.b.length) (cj (rr c.b.length 8 fun i j=>an enC c.b i j) (cj hP (cj (ap 0 c.s.m.length 8) (cj (ap 0 c.s.st.length 8) (cj hf (cj hf (cj hf (cj (e0 ((enX p c 0).kind) 12) (cj hf (cj (e0 ((enX p c 0).kind) 11) (cj (e0 ((enX p c 0).kind) 1) (cj (e0 ((enX p c 0).kind) 2) (cj (e0 ((enX p c 0).kind) 4) (cj (e0 ((enX p c 0).kind) 3) (cj (e1 ((enX p c 0).kind) 8) (cj (i6 ((c.b.getD 0 default).pc+1)) (cj (ap (0+c.s.st.length) 1 8) (cj (aw.2 h0) (pT c (cj (za c.s.m.length) (cj (rr (0+c.s.m.length) 1 fun i j=>aI (List.getD c.s.m i 0)) (cj (pv ((0:Nat)+c.s.st.length+1=(c.s.st++[(c.b.getD 0 default).pc+1]).length)) (cj (show ∀(i:Nat),i<0+c.s.st.length+1-> ∀(j:Nat),j<1->(bif Nat.blt (i+0) ((0:Nat)+c.s.st.length) then aI (List.getD c.s.st (i+0-0) 0) else List.getD [aI ((c.b.getD 0 default).pc+1)] ((i+0-((0:Nat)+c.s.st.length)+0)*1+j) AV.junk)=aI (List.getD (c.s.st++[(c.b.getD 0 default).pc+1]) i (0:Int)) from nh) (yv c trivial)))))))))))))))))))))))))))))))))
theorem Gh(p:Pg)(c:Cf)(hC:f8 p c)(hP:f6 c)(h0:c.e=0)(hl:0<c.b.length)(hb:c.b.length<900000)(hs:c.s.st.length<=1000)(hm:c.s.m.length<=1000000)(k12: ¬(enX p c 0).kind=12)(k11: ¬(enX p c 0).kind=11)(k1: ¬(enX p c 0).kind=1)(k2: ¬(enX p c 0).kind=2)(k4: ¬(enX p c 0).kind=4)(k3: ¬(enX p c 0).kind=3)(k8: ¬(enX p c 0).kind=8)(k9:(enX p c 0).kind=9)(hf:(c.b.getD 0 default).ft=false)(hz:c.s.st.length≠0):Vc (vF_ 18 [.agg (pgA p),.agg (cfA c)] [.fv,gb p c,ga p c,f9 c,.b false,.b false,.b false,.bd false,.b false,.bd false,.bd false,.bd false,.bd false,.bd false,.bd false,.bd true,.bd false] [] (.tup [.agg (cfA ⟨{c.s with st:=c.s.st.take (c.s.st.length-1)},ax c.b,c.r,c.e⟩),.bool true]) []):=al (dd p (fE p c (fF c (cj hC (cj (pv ((0:Int)<=0∧(0:Int)<c.b.length)) (dd p (fP p c (cj (bw p (c.b.getD 0 default).pc) (cj (rf c.b.length) (cj (rr c.b.length 8 fun i j=>an enC c.b i j) (cj hP (cj (ap 0 c.s.m.length 8) (cj (ap 0 c.s.st.length 8) (cj hf (cj hf (cj hf (cj (e0 ((enX p c 0).kind) 12) (cj hf (cj (e0 ((enX p c 0).kind) 11) (cj (e0 ((enX p c 0).kind) 1) (cj (e0 ((enX p c 0).kind) 2) (cj (e0 ((enX p c 0).kind) 4) (cj (e0 ((enX p c 0).kind) 3) (cj (e0 ((enX p c 0).kind) 8) (cj (e1 ((enX p c 0).kind) 9) (cj (i6 ((↑((0:Nat)+c.s.st.length):Int)-1)) (cj (pv ((0:Int)<=(↑((0:Nat)+c.s.st.length):Int)-1∧(↑((0:Nat)+c.s.st.length):Int)-1<=(↑((0:Nat)+c.s.st.length):Int))) (cj (aw.2 h0) (pT c (cj (za c.s.m.length) (cj (rr (0+c.s.m.length) 1 fun i j=>aI (List.getD c.s.m i 0)) (cj (pv (Int.toNat ((↑((0:Nat)+c.s.st.length):Int)-1)=(List.take (c.s.st.length-1) c.s.st).length)) (cj (show ∀(i:Nat),i<Int.toNat ((↑((0:Nat)+c.s.st.length):Int)-1)-> ∀(j:Nat),j<1->aI (List.getD c.s.st (i+0-0) 0)=aI (List.getD (List.take (c.s.st.length-1) c.s.st) i 0) from ne) (yv c trivial))))))))))))))))))))))))))))))))))
theorem Gf(p:Pg)(c:Cf)(hC:f8 p c)(hP:f6 c)(h0:c.e=0)(hl:0<c.b.length)(hb:c.b.length<900000)(hs:c.s.st.length<=1000)(hm:c.s.m.length<=1000000)(k12: ¬(enX p c 0).kind=12)(k11: ¬(enX p c 0).kind=11)(k1: ¬(enX p c 0).kind=1)(k2: ¬(enX p c 0).kind=2)(k4: ¬(enX p c 0).kind=4)(k3: ¬(enX p c 0).kind=3)(k8: ¬(enX p c 0).kind=8)(k9: ¬(enX p c 0).kind=9)(hf:(c.b.getD 0 default).ft=false):Vc (vF_ 18 [.agg (pgA p),.agg (cfA c)] [.fv,gb p c,ga p c,f9 c,.b false,.b false,.b false,.bd false,.b false,.bd false,.bd false,.bd false,.bd false,.bd false,.bd false,.bd false,.bd false] [] (.tup [.agg (cfA ⟨c.s,ax c.b,c.r,c.e⟩),.bool true]) []):=al (dd p (fE p c (fF c (cj hC (cj (pv ((0:Int)<=0∧(0:Int)<c.b.length)) (dd p (fP p c (cj (bw p (c.b.getD 0 default).pc) (cj (rf c.b.length) (cj (rr c.b.length 8 fun i j=>an enC c.b i j) (cj hP (cj (ap 0 c.s.m.length 8) (cj (ap 0 c.s.st.length 8) (cj hf (cj hf (cj hf (cj (e0 ((enX p c 0).kind) 12) (cj hf (cj (e0 ((enX p c 0).kind) 11) (cj (e0 ((enX p c 0).kind) 1) (cj (e0 ((enX p c 0).kind) 2) (cj (e0 ((enX p c 0).kind) 4) (cj (e0 ((enX p c 0).kind) 3) (cj (e0 ((enX p c 0).kind) 8) (cj (e0 ((enX p c 0).kind) 9) (cj (aw.2 h0) (pT c (cj (za c.s.m.length) (cj (rr (0+c.s.m.length) 1 fun i j=>aI (List.getD c.s.m i 0)) (cj (za c.s.st.length) (ji c trivial)))))))))))))))))))))))))))))))
theorem fB{p:Pg}{c:Cf}(h:crV p c=true):c.e=0∧0<c.b.length∧((c.b.getD 0 default).dn=true∨(enX p c 0).kind=10)∧((enX p c 0).kind=3->(c.b.getD 0 default).kn=true):=by
 unfold crV at h
 split at h
 ·rename_i h0
  cases hb:c.b with
  |nil=>rw[hb] at h;cases h
  |cons e l=>
   rw[hb] at h
   simp only[crE,au,fa] at h
   refine⟨h0,by simp, ?_,fun hk=> ?_⟩
   ·rcases h.1 with h1 |h1
    ·exact .inl h1
    ·refine .inr ?_
     unfold enX;rw[hb];simpa using h1
   ·unfold enX at hk;rw[hb] at hk
    rcases h.2 with h1 |h1
    ·exact absurd hk (by simpa using h1)
    ·exact h1
 ·cases h
theorem Gk(p:Pg)(c:Cf)(ho:RtOk p c)(hf: ∀e∈c.b, -1000000<=e.frm∧e.frm<=1000000):pC_ 18 [.agg (pgA p),.agg (cfA c)] (.tup (ocA (rtO p c))) []:=by
 have hC:=D6 p c
 unfold rtO
 cases hc:crV p c with
 |false=>rw[hc] at hC;exact PureC.vc (Ge p c hC)
 |true=>
  rw[hc] at hC
  rw[ai rfl]
  obtain⟨h0,hl,hdn,hkn⟩:=fB hc
  have hP:=DQ c.b (by have:=ho.bl;omega) hf
  show PureC _ _ _ (.tup [.agg (cfA (rtV p c)),.bool true]) _
  cases hf:(c.b.getD 0 default).ft with
  |true=>rw[show rtV p c=⟨c.s.go (c.b.getD 0 default).pc,[],[],2⟩ from by unfold rtV;rw[ai (.inl hf)]];exact PureC.vc (Gg p c hC hP h0 hl ho.bl ho.sl ho.ml hf)
  |false=>
  by_cases k12:(enX p c 0).kind=12
  ·rw[show rtV p c=⟨c.s.go (c.b.getD 0 default).pc,[],[],2⟩ from by unfold rtV;rw[ai (.inr k12)]];exact PureC.vc (DN p c hC hP h0 hl ho.bl ho.sl ho.ml k12 hf)
  have n12: ¬((c.b.getD 0 default).ft=true∨(enX p c 0).kind=12):=by rintro(h |h);rw[hf] at h;cases h;exact k12 h
  by_cases k11:(enX p c 0).kind=11
  ·rw[show rtV p c=⟨c.s.go (c.b.getD 0 default).pc,[],[],1⟩ from by unfold rtV;rw[af n12,ai k11]];exact PureC.vc (DO p c hC hP h0 hl ho.bl ho.sl ho.ml k12 k11 hf)
  by_cases k1:(enX p c 0).kind=1
  ·obtain⟨hd0,hd1⟩:=ho.d (eP k1)
   rcases kX hd0 hd1 with hd |hd |hd |hd
   ·rw[show rtV p c=⟨c.s.set 0 (c.b.getD 0 default).val,ax c.b,c.r,c.e⟩ from by unfold rtV;rw[af n12,af k11,ai (eP k1),hd]];exact PureC.vc (Ar p c hC hP h0 hl ho.bl ho.sl ho.ml k12 k11 k1 hf hd)
   ·rw[show rtV p c=⟨c.s.set 1 (c.b.getD 0 default).val,ax c.b,c.r,c.e⟩ from by unfold rtV;rw[af n12,af k11,ai (eP k1),hd]];exact PureC.vc (Aq p c hC hP h0 hl ho.bl ho.sl ho.ml k12 k11 k1 hf hd)
   ·rw[show rtV p c=⟨c.s.set 2 (c.b.getD 0 default).val,ax c.b,c.r,c.e⟩ from by unfold rtV;rw[af n12,af k11,ai (eP k1),hd]];exact PureC.vc (Ap p c hC hP h0 hl ho.bl ho.sl ho.ml k12 k11 k1 hf hd)
   ·rw[show rtV p c=⟨c.s.set 3 (c.b.getD 0 default).val,ax c.b,c.r,c.e⟩ from by unfold rtV;rw[af n12,af k11,ai (eP k1),hd]];exact PureC.vc (Ao p c hC hP h0 hl ho.bl ho.sl ho.ml k12 k11 k1 hf hd)
  by_cases k2:(enX p c 0).kind=2
  ·obtain⟨hd0,hd1⟩:=ho.d (eO k2)
   rcases kX hd0 hd1 with hd |hd |hd |hd
   ·rw[show rtV p c=⟨c.s.set 0 (c.b.getD 0 default).val,ax c.b,c.r,c.e⟩ from by unfold rtV;rw[af n12,af k11,ai (eO k2),hd]];exact PureC.vc (An p c hC hP h0 hl ho.bl ho.sl ho.ml k12 k11 k1 k2 hf hd)
   ·rw[show rtV p c=⟨c.s.set 1 (c.b.getD 0 default).val,ax c.b,c.r,c.e⟩ from by unfold rtV;rw[af n12,af k11,ai (eO k2),hd]];exact PureC.vc (Am p c hC hP h0 hl ho.bl ho.sl ho.ml k12 k11 k1 k2 hf hd)
   ·rw[show rtV p c=⟨c.s.set 2 (c.b.getD 0 default).val,ax c.b,c.r,c.e⟩ from by unfold rtV;rw[af n12,af k11,ai (eO k2),hd]];exact PureC.vc (Al p c hC hP h0 hl ho.bl ho.sl ho.ml k12 k11 k1 k2 hf hd)
   ·rw[show rtV p c=⟨c.s.set 3 (c.b.getD 0 default).val,ax c.b,c.r,c.e⟩ from by unfold rtV;rw[af n12,af k11,ai (eO k2),hd]];exact PureC.vc (Ak p c hC hP h0 hl ho.bl ho.sl ho.ml k12 k11 k1 k2 hf hd)
  by_cases k4:(enX p c 0).kind=4
  ·obtain⟨hd0,hd1⟩:=ho.d (eN k4)
   rcases kX hd0 hd1 with hd |hd |hd |hd
   ·rw[show rtV p c=⟨c.s.set 0 (c.b.getD 0 default).val,ax c.b,c.r,c.e⟩ from by unfold rtV;rw[af n12,af k11,ai (eN k4),hd]];exact PureC.vc (Aj p c hC hP h0 hl ho.bl ho.sl ho.ml k12 k11 k1 k2 k4 hf hd)
   ·rw[show rtV p c=⟨c.s.set 1 (c.b.getD 0 default).val,ax c.b,c.r,c.e⟩ from by unfold rtV;rw[af n12,af k11,ai (eN k4),hd]];exact PureC.vc (Ai p c hC hP h0 hl ho.bl ho.sl ho.ml k12 k11 k1 k2 k4 hf hd)
   ·rw[show rtV p c=⟨c.s.set 2 (c.b.getD 0 default).val,ax c.b,c.r,c.e⟩ from by unfold rtV;rw[af n12,af k11,ai (eN k4),hd]];exact PureC.vc (Ah p c hC hP h0 hl ho.bl ho.sl ho.ml k12 k11 k1 k2 k4 hf hd)
   ·rw[show rtV p c=⟨c.s.set 3 (c.b.getD 0 default).val,ax c.b,c.r,c.e⟩ from by unfold rtV;rw[af n12,af k11,ai (eN k4),hd]];exact PureC.vc (Ag p c hC hP h0 hl ho.bl ho.sl ho.ml k12 k11 k1 k2 k4 hf hd)
  have kd: ¬(cL (enX p c 0)=true):=by simp[cL,k1,k2,k4]
  have e0:rtV p c=if(enX p c 0).kind=3 then⟨{c.s with m:=c.s.m.set (c.b.getD 0 default).adr.toNat (c.b.getD 0 default).val},ax c.b,c.r,c.e⟩ else if(enX p c 0).kind=8 then⟨{c.s with st:=c.s.st++[(c.b.getD 0 default).pc+1]},ax c.b,c.r,c.e⟩ else if(enX p c 0).kind=9 then⟨{c.s with st:=c.s.st.take (c.s.st.length-1)},ax c.b,c.r,c.e⟩ else⟨c.s,ax c.b,c.r,c.e⟩:=by
   unfold rtV;rw[af n12,af k11,af kd]
  rw[e0]
  by_cases k3:(enX p c 0).kind=3
  ·rw[ai k3]
   obtain⟨ha,ha1⟩:=ho.m k3 hf (hkn k3)
   exact PureC.vc (Gj p c hC hP h0 hl ho.bl ho.sl ho.ml k12 k11 k1 k2 k4 k3 hf ha ha1)
  rw[af k3]
  by_cases k8:(enX p c 0).kind=8
  ·rw[ai k8];exact PureC.vc (Gi p c hC hP h0 hl ho.bl ho.sl ho.ml k12 k11 k1 k2 k4 k3 k8 hf ho.pc.1 ho.pc.2)
  rw[af k8]
  by_cases k9:(enX p c 0).kind=9
  ·rw[ai k9];exact PureC.vc (Gh p c hC hP h0 hl ho.bl ho.sl ho.ml k12 k11 k1 k2 k4 k3 k8 k9 hf (ho.st k9 hf (by rcases hdn with h |h;exact h;omega)))
  rw[af k9];exact PureC.vc (Gf p c hC hP h0 hl ho.bl ho.sl ho.ml k12 k11 k1 k2 k4 k3 k8 k9 hf)
structure Dr where
 k:Int
 n:Int
 deriving DecidableEq
instance:Inhabited Dr:=⟨⟨0,0⟩⟩
def drA(d:Dr):List AV:=[.int .i64 d.k,.int .i64 d.n]
def drC(d:Dr)(j:Nat):AV:=(drA d).getD j .junk
def drR(l:List Dr):AV:= .row 2 l.length (an drC l)
def drB(l:List Dr):Blk:=⟨0,false,64,.rows 2 l.length (an drC l)⟩
def drO(l:List Dr):AV:= .own 0 0 2 0 l.length
def cfP(c:Cf):AV:= .rptr 10 (fun q=>(cfA c).getD q .junk) 0
def aF:Nat->List Dr
 |0=>[]
 |k+1=>aF k++[⟨1,k⟩]
def aX(p:Pg)(c:Cf)(L:List Dr):Nat->List Dr
 |0=>L
 |k+1=>if cnV p c k=true then aX p c L k++[⟨2,k⟩] else aX p c L k
def aA(p:Pg)(c:Cf)(L:List Dr):Nat->List Dr
 |0=>L
 |k+1=>if caV p c k=true then aA p c L k++[⟨3,k⟩] else aA p c L k
def aR(p:Pg)(c:Cf)(L:List Dr):List Dr:=if crV p c=true then L++[⟨4,0⟩] else L
def c9(p:Pg)(c:Cf):List Dr:=aR p c (aA p c (aX p c (aF (gsV p c).toNat) c.b.length) c.b.length)
def fS(p:Pg)(c:Cf)(L:List Dr)(s k:Nat):Sm:=⟨[(2,pgP p),(3,cfP c),(5,drO L),(s,.int .i64 k)],[(0,drB L)],1⟩
theorem gM(c:Cf){Z:Prop}(z:Z):(RR c.s.m.length 1 (fun i j=>aI (List.getD c.s.m i 0)) (RF c.s.st.length (RR c.s.st.length 1 (fun i j=>aI (List.getD c.s.st i 0)) (RF c.s.pc (RF c.b.length (RR c.b.length 8 (fun i j=>an enC c.b i j) (RF c.r.length (RR c.r.length 1 (fun i j=>aI (c.r.getD i 0)) (RF c.e Z))))))))):=⟨fun _ _ _ _=>rfl,rfl,fun _ _ _ _=>rfl,rfl,rfl,fun _ _ _ _=>rfl,rfl,fun _ _ _ _=>rfl,rfl,z⟩
theorem gL(p:Pg)(c:Cf){Z:Prop}(z:Z):(RF p.ls.length (RR p.ls.length 2 (fun i j=>an lbC p.ls i j) (RF p.is.length (RR p.is.length 9 (fun i j=>an inC p.is i j) (RF c.s.r0 (RF c.s.r1 (RF c.s.r2 (RF c.s.r3 (RF c.s.m.length Z))))))))):=⟨rfl,fun _ _ _ _=>rfl,rfl,fun _ _ _ _=>rfl,rfl,rfl,rfl,rfl,rfl,z⟩
theorem gK(p:Pg){Z:Prop}(z:Z):(RF p.W (RF p.win (RF p.fuel (RF p.r0 (RF p.r1 (RF p.r2 (RF p.r3 (RF p.ms.length (RR p.ms.length 3 (fun i j=>an mmC p.ms i j) Z))))))))):=⟨rfl,rfl,rfl,rfl,rfl,rfl,rfl,rfl,fun _ _ _ _=>rfl,z⟩
abbrev yZ(p:Pg)(c:Cf):Prop:=PureC Try.prog 42 [.agg (pgA p),.agg (cfA c)] (.int .i64 (gsV p c)) []
theorem HY(p:Pg)(c:Cf)(L:List Dr)(k:Nat)(hk1:k<1000000)(hL:L.length<10000000)(hG:yZ p c)(hk:(k:Int)<gsV p c):Vc (vC_ 20 0 (fS p c L 6 k) [.cl [.agg (pgA p),.agg (cfA c)] (aI (gsV p c)) [],.bd true] .nrm [(0,0)] (fS p c (L++[⟨1,k⟩]) 6 (k+1))):=al (gK p (gL p c (gM c (cj hG (cj (dt ((k:Int)<gsV p c)) (cj (ap L.length 1 16) (cj (i6 (k+1)) (cj (pv (L.length+1=(L++[Dr.mk (1:Int) (k:Int)]).length)) (cj (show ∀(i:Nat),i<L.length+1-> ∀(j:Nat),j<2->(bif Nat.blt i L.length then an drC L i j else List.getD [aI 1,aI k] ((i-L.length+0)*2+j) AV.junk)=an drC (L++[Dr.mk (1:Int) (k:Int)]) i j from(fun i hi j hj=>dV (fun h=>(co h).symm) (fun h=>by obtain rfl:i=_:=bI (bH.mp hi) (bz.mp h);rw[ct,bR];match j,hj with |0,_=>rfl |1,_=>rfl))) (gK p (gL p c (gM c (cj (rf (0:Nat)) (cj (pv (L.length+1=(L++[Dr.mk (1:Int) (k:Int)]).length)) (cj (rf ((k:Int)+1)) trivial)))))))))))))))
theorem tt(c:Cf)(L:List Dr)(k:Nat){Z:Prop}(z:Z):(RR c.r.length 1 (fun i j=>aI (c.r.getD i 0)) (RF c.e (RF (0:Nat) (RF L.length (RF (k:Int) Z))))):=⟨fun _ _ _ _=>rfl,rfl,rfl,rfl,rfl,z⟩
theorem jm(c:Cf){Z:Prop}(z:Z):(RF c.s.r3 (RF c.s.m.length (RR c.s.m.length 1 (fun i j=>aI (List.getD c.s.m i 0)) (RF c.s.st.length (RR c.s.st.length 1 (fun i j=>aI (List.getD c.s.st i 0)) (RF c.s.pc (RF c.b.length (RR c.b.length 8 (fun i j=>an enC c.b i j) (RF c.r.length Z))))))))):=⟨rfl,rfl,fun _ _ _ _=>rfl,rfl,fun _ _ _ _=>rfl,rfl,rfl,fun _ _ _ _=>rfl,rfl,z⟩
theorem jl(p:Pg)(c:Cf){Z:Prop}(z:Z):(RF p.ms.length (RR p.ms.length 3 (fun i j=>an mmC p.ms i j) (RF p.ls.length (RR p.ls.length 2 (fun i j=>an lbC p.ls i j) (RF p.is.length (RR p.is.length 9 (fun i j=>an inC p.is i j) (RF c.s.r0 (RF c.s.r1 (RF c.s.r2 Z))))))))):=⟨rfl,fun _ _ _ _=>rfl,rfl,fun _ _ _ _=>rfl,rfl,fun _ _ _ _=>rfl,rfl,rfl,rfl,z⟩
theorem oJ(p:Pg)(L:List Dr){Z:Prop}(z:Z):(RF L.length (RR L.length 2 (fun i j=>an drC L i j) (RF p.W (RF p.win (RF p.fuel (RF p.r0 (RF p.r1 (RF p.r2 (RF p.r3 Z))))))))):=⟨rfl,fun _ _ _ _=>rfl,rfl,rfl,rfl,rfl,rfl,rfl,rfl,z⟩
theorem HZ(p:Pg)(c:Cf)(L:List Dr)(k:Nat)(hk1:k<1000000)(hL:L.length<10000000)(hG:yZ p c)(hk: ¬(k:Int)<gsV p c):Vc (vC_ 20 0 (fS p c L 6 k) [.cl [.agg (pgA p),.agg (cfA c)] (aI (gsV p c)) [],.bd false] (.ext 0) [(0,0)] (fS p c L 6 k)):=al (gK p (gL p c (gM c (cj hG (cj (df ((k:Int)<gsV p c)) (oJ p L (jl p c (jm c (tt c L k trivial)))))))))
theorem HV(p:Pg)(c:Cf)(L:List Dr)(k:Nat)(hk1:k<1000000)(hL:L.length<10000000)(hC:pC_ 43 [.agg (pgA p),.agg (cfA c), aI k] (.bool true) [])(hk:k<c.b.length):Vc (vC_ 20 1 (fS p c L 7 k) [.bd true,.cl [.agg (pgA p),.agg (cfA c), aI k] (.bool true) []] .nrm [(0,0)] (fS p c (L++[⟨2,k⟩]) 7 (k+1))):=al (cj (dt ((k:Int)<c.b.length)) (gK p (gL p c (gM c (cj (rf (k:Int)) (cj hC (cj (ap L.length 1 16) (cj (i6 (k+1)) (cj (pv (L.length+1=(L++[Dr.mk (2:Int) (k:Int)]).length)) (cj (show ∀(i:Nat),i<L.length+1-> ∀(j:Nat),j<2->(bif Nat.blt i L.length then an drC L i j else List.getD [aI 2,aI k] ((i-L.length+0)*2+j) AV.junk)=an drC (L++[Dr.mk (2:Int) (k:Int)]) i j from(fun i hi j hj=>dV (fun h=>(co h).symm) (fun h=>by obtain rfl:i=_:=bI (bH.mp hi) (bz.mp h);rw[ct,bR];match j,hj with |0,_=>rfl |1,_=>rfl))) (gK p (gL p c (gM c (cj (rf (0:Nat)) (cj (pv (L.length+1=(L++[Dr.mk (2:Int) (k:Int)]).length)) (cj (rf ((k:Int)+1)) trivial))))))))))))))))
theorem yH(c:Cf)(L:List Dr)(k:Nat){Z:Prop}(z:Z):(RR c.r.length 1 (fun i j=>aI (c.r.getD i 0)) (RF c.e (RF (0:Nat) (RF L.length (RF ((k:Int)+1) Z))))):=⟨fun _ _ _ _=>rfl,rfl,rfl,rfl,rfl,z⟩
theorem HW(p:Pg)(c:Cf)(L:List Dr)(k:Nat)(hk1:k<1000000)(hL:L.length<10000000)(hC:pC_ 43 [.agg (pgA p),.agg (cfA c), aI k] (.bool false) [])(hk:k<c.b.length):Vc (vC_ 20 1 (fS p c L 7 k) [.bd true,.cl [.agg (pgA p),.agg (cfA c), aI k] (.bool false) []] .nrm [(0,0)] (fS p c L 7 (k+1))):=al (cj (dt ((k:Int)<c.b.length)) (gK p (gL p c (gM c (cj (rf (k:Int)) (cj hC (cj (i6 (k+1)) (oJ p L (jl p c (jm c (yH c L k trivial)))))))))))
theorem HX(p:Pg)(c:Cf)(L:List Dr)(k:Nat)(hk1:k<1000000)(hL:L.length<10000000)(hk: ¬k<c.b.length):Vc (vC_ 20 1 (fS p c L 7 k) [.bd false] (.ext 2) [(0,0)] (fS p c L 7 k)):=al (cj (df ((k:Int)<c.b.length)) (oJ p L (jl p c (jm c (tt c L k trivial)))))
theorem HS(p:Pg)(c:Cf)(L:List Dr)(k:Nat)(hk1:k<1000000)(hL:L.length<10000000)(hC:pC_ 44 [.agg (pgA p),.agg (cfA c), aI k] (.bool true) [])(hk:k<c.b.length):Vc (vC_ 20 2 (fS p c L 8 k) [.bd true,.cl [.agg (pgA p),.agg (cfA c), aI k] (.bool true) []] .nrm [(0,0)] (fS p c (L++[⟨3,k⟩]) 8 (k+1))):=al (cj (dt ((k:Int)<c.b.length)) (gK p (gL p c (gM c (cj (rf (k:Int)) (cj hC (cj (ap L.length 1 16) (cj (i6 (k+1)) (cj (pv (L.length+1=(L++[Dr.mk (3:Int) (k:Int)]).length)) (cj (show ∀(i:Nat),i<L.length+1-> ∀(j:Nat),j<2->(bif Nat.blt i L.length then an drC L i j else List.getD [aI 3,aI k] ((i-L.length+0)*2+j) AV.junk)=an drC (L++[Dr.mk (3:Int) (k:Int)]) i j from(fun i hi j hj=>dV (fun h=>(co h).symm) (fun h=>by obtain rfl:i=_:=bI (bH.mp hi) (bz.mp h);rw[ct,bR];match j,hj with |0,_=>rfl |1,_=>rfl))) (gK p (gL p c (gM c (cj (rf (0:Nat)) (cj (pv (L.length+1=(L++[Dr.mk (3:Int) (k:Int)]).length)) (cj (rf ((k:Int)+1)) trivial))))))))))))))))
theorem HT(p:Pg)(c:Cf)(L:List Dr)(k:Nat)(hk1:k<1000000)(hL:L.length<10000000)(hC:pC_ 44 [.agg (pgA p),.agg (cfA c), aI k] (.bool false) [])(hk:k<c.b.length):Vc (vC_ 20 2 (fS p c L 8 k) [.bd true,.cl [.agg (pgA p),.agg (cfA c), aI k] (.bool false) []] .nrm [(0,0)] (fS p c L 8 (k+1))):=al (cj (dt ((k:Int)<c.b.length)) (gK p (gL p c (gM c (cj (rf (k:Int)) (cj hC (cj (i6 (k+1)) (oJ p L (jl p c (jm c (yH c L k trivial)))))))))))
theorem HU(p:Pg)(c:Cf)(L:List Dr)(k:Nat)(hk1:k<1000000)(hL:L.length<10000000)(hk: ¬k<c.b.length):Vc (vC_ 20 2 (fS p c L 8 k) [.bd false] (.ext 4) [(0,0)] (fS p c L 8 k)):=al (cj (df ((k:Int)<c.b.length)) (oJ p L (jl p c (jm c (tt c L k trivial)))))
theorem oE: ∀k,(aF k).length=k
 |0=>rfl
 |k+1=>by rw[aF,aJ,oE k];rfl
theorem oD(p:Pg)(c:Cf)(L:List Dr): ∀k,(aX p c L k).length<=L.length+k
 |0=>aG _
 |k+1=>by
  have:=oD p c L k
  unfold aX
  split
  ·rw[aJ,bO];omega
  ·omega
theorem oF(p:Pg)(c:Cf)(L:List Dr): ∀k,(aA p c L k).length<=L.length+k
 |0=>aG _
 |k+1=>by
  have:=oF p c L k
  unfold aA
  split
  ·rw[aJ,bO];omega
  ·omega
theorem yq(p:Pg)(c:Cf)(hG:pC_ 42 [.agg (pgA p),.agg (cfA c)] (.int .i64 (gsV p c)) [])(hg:gsV p c<=1001):oL_ 20 0 (fS p c [] 6 0).st (.ext 0) (fS p c (aF (gsV p c).toNat) 6 (gsV p c).toNat).st:=
 Ok.loop (P:=Try.prog) (nt:=dG Try.prog 20) (c:=lpC Try.prog 20 0) (F:=fun k=>fS p c (aF k) 6 k) (m:=(gsV p c).toNat) (x:= .ext 0) (J:=fS p c (aF (gsV p c).toNat) 6 (gsV p c).toNat) (fun k hk=>Ok.vc (HY p c (aF k) k (by omega) (by rw[oE];omega) hG (by omega))) (Ok.vc (HZ p c _ _ (by omega) (by rw[oE];omega) hG (by omega))) (by simp)
theorem yp(p:Pg)(c:Cf)(L:List Dr)(hL:L.length<=1000000)(hb:c.b.length<900000)(hC: ∀i:Nat,pC_ 43 [.agg (pgA p),.agg (cfA c),.int .i64 i] (.bool (cnV p c i)) []):oL_ 20 1 (fS p c L 7 0).st (.ext 2) (fS p c (aX p c L c.b.length) 7 c.b.length).st:=
 Ok.loop (P:=Try.prog) (nt:=dG Try.prog 20) (c:=lpC Try.prog 20 1) (F:=fun k=>fS p c (aX p c L k) 7 k) (m:=c.b.length) (x:= .ext 2) (J:=fS p c (aX p c L c.b.length) 7 c.b.length) (fun k hk=>by
  have h:=hC k
  have hl:=oD p c L k
  show Ok _ _ _ _ _ (fS p c (aX p c L (k+1)) 7 (k+1)).st
  rw[aX]
  cases hv:cnV p c k with
  |true=>rw[hv] at h;rw[ai rfl];exact Ok.vc (HV p c _ k (by omega) (by omega) h hk)
  |false=>rw[hv] at h;rw[af (by simp)];exact Ok.vc (HW p c _ k (by omega) (by omega) h hk)) (Ok.vc (HX p c _ _ (by omega) (by have:=oD p c L c.b.length;omega) (by omega))) (by simp)
theorem yo(p:Pg)(c:Cf)(L:List Dr)(hL:L.length<=2000000)(hb:c.b.length<900000)(hC: ∀i:Nat,pC_ 44 [.agg (pgA p),.agg (cfA c),.int .i64 i] (.bool (caV p c i)) []):oL_ 20 2 (fS p c L 8 0).st (.ext 4) (fS p c (aA p c L c.b.length) 8 c.b.length).st:=
 Ok.loop (P:=Try.prog) (nt:=dG Try.prog 20) (c:=lpC Try.prog 20 2) (F:=fun k=>fS p c (aA p c L k) 8 k) (m:=c.b.length) (x:= .ext 4) (J:=fS p c (aA p c L c.b.length) 8 c.b.length) (fun k hk=>by
  have h:=hC k
  have hl:=oF p c L k
  show Ok _ _ _ _ _ (fS p c (aA p c L (k+1)) 8 (k+1)).st
  rw[aA]
  cases hv:caV p c k with
  |true=>rw[hv] at h;rw[ai rfl];exact Ok.vc (HS p c _ k (by omega) (by omega) h hk)
  |false=>rw[hv] at h;rw[af (by simp)];exact Ok.vc (HT p c _ k (by omega) (by omega) h hk)) (Ok.vc (HU p c _ _ (by omega) (by have:=oF p c L c.b.length;omega) (by omega))) (by simp)
theorem yG(c:Cf)(L2:List Dr){Z:Prop}(z:Z):(RR c.r.length 1 (fun i j=>aI (c.r.getD i 0)) (RF c.e (RF (0:Nat) (RF L2.length (RF (0:Int) Z))))):=⟨fun _ _ _ _=>rfl,rfl,rfl,rfl,rfl,z⟩
theorem yE(p:Pg)(L2:List Dr){Z:Prop}(z:Z):(RF L2.length (RR L2.length 2 (fun i j=>an drC L2 i j) (RF p.W (RF p.win (RF p.fuel (RF p.r0 (RF p.r1 (RF p.r2 (RF p.r3 Z))))))))):=⟨rfl,fun _ _ _ _=>rfl,rfl,rfl,rfl,rfl,rfl,rfl,rfl,z⟩
theorem tC(c:Cf)(L1:List Dr){Z:Prop}(z:Z):(RR c.r.length 1 (fun i j=>aI (c.r.getD i 0)) (RF c.e (RF (0:Nat) (RF L1.length (RF (0:Int) Z))))):=⟨fun _ _ _ _=>rfl,rfl,rfl,rfl,rfl,z⟩
theorem tz(p:Pg)(L1:List Dr){Z:Prop}(z:Z):(RF L1.length (RR L1.length 2 (fun i j=>an drC L1 i j) (RF p.W (RF p.win (RF p.fuel (RF p.r0 (RF p.r1 (RF p.r2 (RF p.r3 Z))))))))):=⟨rfl,fun _ _ _ _=>rfl,rfl,rfl,rfl,rfl,rfl,rfl,rfl,z⟩
theorem tx(c:Cf){Z:Prop}(z:Z):(RF c.e (RF (0:Nat) (RF (0:Nat) (RF (0:Int) Z)))):=⟨rfl,rfl,rfl,rfl,z⟩
theorem tw(c:Cf){Z:Prop}(z:Z):(RF c.s.m.length (RR c.s.m.length 1 (fun i j=>aI (List.getD c.s.m i 0)) (RF c.s.st.length (RR c.s.st.length 1 (fun i j=>aI (List.getD c.s.st i 0)) (RF c.s.pc (RF c.b.length (RR c.b.length 8 (fun i j=>an enC c.b i j) (RF c.r.length (RR c.r.length 1 (fun i j=>aI (c.r.getD i 0)) Z))))))))):=⟨rfl,fun _ _ _ _=>rfl,rfl,fun _ _ _ _=>rfl,rfl,rfl,fun _ _ _ _=>rfl,rfl,fun _ _ _ _=>rfl,z⟩
theorem tv(p:Pg)(c:Cf){Z:Prop}(z:Z):(RR p.ms.length 3 (fun i j=>an mmC p.ms i j) (RF p.ls.length (RR p.ls.length 2 (fun i j=>an lbC p.ls i j) (RF p.is.length (RR p.is.length 9 (fun i j=>an inC p.is i j) (RF c.s.r0 (RF c.s.r1 (RF c.s.r2 (RF c.s.r3 Z))))))))):=⟨fun _ _ _ _=>rfl,rfl,fun _ _ _ _=>rfl,rfl,fun _ _ _ _=>rfl,rfl,rfl,rfl,rfl,z⟩
theorem tu(p:Pg){Z:Prop}(z:Z):(RF (0:Nat) (RF p.W (RF p.win (RF p.fuel (RF p.r0 (RF p.r1 (RF p.r2 (RF p.r3 (RF p.ms.length Z))))))))):=⟨rfl,rfl,rfl,rfl,rfl,rfl,rfl,rfl,rfl,z⟩
abbrev yY(p:Pg)(c:Cf)(L1:List Dr)(n1:Nat):Prop:=Ok Try.prog (dG Try.prog 20) (.loop (lpC Try.prog 20 0)) (fS p c [] 6 0).st (.ext 0) (fS p c L1 6 n1).st
abbrev yX(p:Pg)(c:Cf)(L1:List Dr)(L2:List Dr)(n2:Nat):Prop:=Ok Try.prog (dG Try.prog 20) (.loop (lpC Try.prog 20 1)) (fS p c L1 7 0).st (.ext 2) (fS p c L2 7 n2).st
abbrev yW(p:Pg)(c:Cf)(L2:List Dr)(L3:List Dr)(n3:Nat):Prop:=Ok Try.prog (dG Try.prog 20) (.loop (lpC Try.prog 20 2)) (fS p c L2 8 0).st (.ext 4) (fS p c L3 8 n3).st
theorem we(p:Pg)(c:Cf)(L1 L2 L3:List Dr)(n1 n2 n3:Nat)(h1:yY p c L1 n1)(h2:yX p c L1 L2 n2)(h3:yW p c L2 L3 n3)(hR:pC_ 40 [.agg (pgA p),.agg (cfA c)] (.bool true) [])(hL:L3.length<10000000):Vc (vF_ 20 [.agg (pgA p),.agg (cfA c)] [.fv,.fv,.lp [] (fS p c [] 6 0) (.ext 0) (fS p c L1 6 n1),.lp [(0,0)] (fS p c L1 7 0) (.ext 2) (fS p c L2 7 n2),.lp [(0,0)] (fS p c L2 8 0) (.ext 4) (fS p c L3 8 n3),.cl [.agg (pgA p),.agg (cfA c)] (.bool true) []] [] (drR (L3++[⟨4,0⟩])) []):=al (tu p (tv p c (tw c (tx c (cj h1 (tz p L1 (jl p c (jm c (tC c L1 (cj h2 (yE p L2 (jl p c (jm c (yG c L2 (cj h3 (gK p (gL p c (gM c (cj hR (cj (ap L3.length 1 16) (cj (pv (L3.length+1=(L3++[Dr.mk (4:Int) (0:Int)]).length)) (cj (show ∀(i:Nat),i<L3.length+1-> ∀(j:Nat),j<2->(bif Nat.blt (i+0) L3.length then an drC L3 (i+0) j else List.getD [aI 4,aI 0] ((i+0-L3.length+0)*2+j) AV.junk)=an drC (L3++[Dr.mk (4:Int) (0:Int)]) i j from(fun i hi j hj=>by simp only[a7,cz,fC] at hi ⊢;exact dV (fun h=>(co h).symm) (fun h=>by obtain rfl:i=_:=bI (bH.mp hi) (bz.mp h);rw[ct,bR];match j,hj with |0,_=>rfl |1,_=>rfl))) trivial))))))))))))))))))))))
theorem td(p:Pg)(c:Cf)(L1 L2 L3:List Dr)(n1 n2 n3:Nat)(h1:yY p c L1 n1)(h2:yX p c L1 L2 n2)(h3:yW p c L2 L3 n3)(hR:pC_ 40 [.agg (pgA p),.agg (cfA c)] (.bool false) [])(hL:L3.length<10000000):Vc (vF_ 20 [.agg (pgA p),.agg (cfA c)] [.fv,.fv,.lp [] (fS p c [] 6 0) (.ext 0) (fS p c L1 6 n1),.lp [(0,0)] (fS p c L1 7 0) (.ext 2) (fS p c L2 7 n2),.lp [(0,0)] (fS p c L2 8 0) (.ext 4) (fS p c L3 8 n3),.cl [.agg (pgA p),.agg (cfA c)] (.bool false) []] [] (drR L3) []):=al (tu p (tv p c (tw c (tx c (cj h1 (tz p L1 (jl p c (jm c (tC c L1 (cj h2 (yE p L2 (jl p c (jm c (yG c L2 (cj h3 (gK p (gL p c (gM c (cj hR (cj (rf L3.length) (cj (rr L3.length 2 fun i j=>an drC L3 i j) trivial)))))))))))))))))))))
theorem BN(p:Pg)(c:Cf)(hl:p.is.length<1000):gsV p c<=1001:=by unfold gsV;repeat' split<;>omega
theorem Ea(p:Pg)(c:Cf)(hl:p.is.length<1000)(hb:c.b.length<900000)(hm:c.s.m.length<1000000)(hv:Sml p c):pC_ 20 [.agg (pgA p),.agg (cfA c)] (drR (c9 p c)) []:=by
 have hG:=jw p c hl (by omega)
 have hg:=BN p c hl
 have e1:=oE (gsV p c).toNat
 have e2:=oD p c (aF (gsV p c).toNat) c.b.length
 have e3:=oF p c (aX p c (aF (gsV p c).toNat) c.b.length) c.b.length
 have h1:=yq p c hG hg
 have h2:=yp p c (aF (gsV p c).toNat) (by omega) hb fun i=>yU p c i (by omega) hm hv
 have h3:=yo p c (aX p c (aF (gsV p c).toNat) c.b.length) (by omega) hb fun i=>D7 p c i (by omega)
 have hR:=D6 p c
 unfold c9 aR
 cases hc:crV p c with
 |true=>rw[hc] at hR;rw[ai rfl];exact PureC.vc (we p c _ _ _ _ _ _ h1 h2 h3 hR (by omega))
 |false=>rw[hc] at hR;rw[af (by simp)];exact PureC.vc (td p c _ _ _ _ _ _ h1 h2 h3 hR (by omega))
def sayO(p:Pg)(c:Cf)(d:Dr):Option (Cf×List Ob):=
 if d.k=1 then(ftO p c d.n).map fun x=>(x,[]) else if d.k=2 then doO p c d.n else if d.k=3 then adrO p c d.n
 else if d.k=4 then(if d.n=0 then(rtO p c).map fun x=>(x,[]) else none) else none
structure MOk (p:Pg) (c:Cf):Prop where
 il:p.is.length<1000
 bl:c.b.length<900000
 ml:c.s.m.length<1000000
 sm:Sml p c
 sm': ∀k,Sml p (upE c k En.done)
 st:c.s.st.length<=1000
 bp: ∀e∈c.b, -1<=e.pc∧e.pc<=1000000
 bf: ∀e∈c.b, -1000000<=e.frm∧e.frm<=1000000
 pc: -1<=c.s.pc∧c.s.pc<=1000
 rl:c.r.length<1000
 rt:RtOk p c
theorem qQ{Z:Prop}(z:Z):(RF (0:Nat) (RR 0 8 (fun i j=>an enC [] i j) (RF (0:Nat) (RR 0 1 (fun i j=>aI (List.getD [] i (0:Int))) (RF (0:Int) (RF false Z)))))):=⟨rfl,fun _ _ _ _=>rfl,rfl,fun _ _ _ _=>rfl,rfl,rfl,z⟩
theorem qP{Z:Prop}(z:Z):(RF (0:Int) (RF (0:Int) (RF (0:Int) (RF (0:Int) (RF (0:Nat) (RR 0 1 (fun i j=>aI (List.getD [] i (0:Int))) (RF (0:Nat) (RR 0 1 (fun i j=>aI (List.getD [] i (0:Int))) (RF (0:Int) Z))))))))):=⟨rfl,rfl,rfl,rfl,rfl,fun _ _ _ _=>rfl,rfl,fun _ _ _ _=>rfl,rfl,z⟩
theorem iS(c:Cf){Z:Prop}(z:Z):(RR c.s.m.length 1 (fun i j=>aI (List.getD c.s.m i 0)) (RF c.s.st.length (RR c.s.st.length 1 (fun i j=>aI (List.getD c.s.st i 0)) (RF c.s.pc (RF c.b.length (RR c.b.length 8 (fun i j=>an enC c.b i j) (RF c.r.length (RR c.r.length 1 (fun i j=>aI (c.r.getD i 0)) (RF c.e Z))))))))):=⟨fun _ _ _ _=>rfl,rfl,fun _ _ _ _=>rfl,rfl,rfl,fun _ _ _ _=>rfl,rfl,fun _ _ _ _=>rfl,rfl,z⟩
theorem iR(p:Pg)(c:Cf){Z:Prop}(z:Z):(RF p.ls.length (RR p.ls.length 2 (fun i j=>an lbC p.ls i j) (RF p.is.length (RR p.is.length 9 (fun i j=>an inC p.is i j) (RF c.s.r0 (RF c.s.r1 (RF c.s.r2 (RF c.s.r3 (RF c.s.m.length Z))))))))):=⟨rfl,fun _ _ _ _=>rfl,rfl,fun _ _ _ _=>rfl,rfl,rfl,rfl,rfl,rfl,z⟩
theorem iQ(p:Pg){Z:Prop}(z:Z):(RF p.W (RF p.win (RF p.fuel (RF p.r0 (RF p.r1 (RF p.r2 (RF p.r3 (RF p.ms.length (RR p.ms.length 3 (fun i j=>an mmC p.ms i j) Z))))))))):=⟨rfl,rfl,rfl,rfl,rfl,rfl,rfl,rfl,fun _ _ _ _=>rfl,z⟩
theorem Dp(p:Pg)(c c2:Cf)(n:Int)(hF:pC_ 45 [.agg (pgA p),.agg (cfA c), aI n] (.tup (ocA none)) []):Vc (vF_ 21 [.agg (pgA p),.agg (cfA c),.agg [aI 1, aI n]] [.fv,.fv,.fv,.bd true,.cl [.agg (pgA p),.agg (cfA c), aI n] (.tup (ocA none)) []] [] (.tup [.agg (cfA Cf0),.nils,.bool false]) []):=al (cj (e1 1 1) (iQ p (iR p c (iS c (cj (rf n) (cj hF (qP (qQ trivial))))))))
theorem qO(c2:Cf){Z:Prop}(z:Z):(RF c2.b.length (RR c2.b.length 8 (fun i j=>an enC c2.b i j) (RF c2.r.length (RR c2.r.length 1 (fun i j=>aI (c2.r.getD i 0)) (RF c2.e (RF true Z)))))):=⟨rfl,fun _ _ _ _=>rfl,rfl,fun _ _ _ _=>rfl,rfl,rfl,z⟩
theorem nc(c2:Cf){Z:Prop}(z:Z):(RF c2.s.r0 (RF c2.s.r1 (RF c2.s.r2 (RF c2.s.r3 (RF c2.s.m.length (RR c2.s.m.length 1 (fun i j=>aI (List.getD c2.s.m i 0)) (RF c2.s.st.length (RR c2.s.st.length 1 (fun i j=>aI (List.getD c2.s.st i 0)) (RF c2.s.pc Z))))))))):=⟨rfl,rfl,rfl,rfl,rfl,fun _ _ _ _=>rfl,rfl,fun _ _ _ _=>rfl,rfl,z⟩
theorem Do(p:Pg)(c c2:Cf)(n:Int)(hF:pC_ 45 [.agg (pgA p),.agg (cfA c), aI n] (.tup (ocA (some c2))) []):Vc (vF_ 21 [.agg (pgA p),.agg (cfA c),.agg [aI 1, aI n]] [.fv,.fv,.fv,.bd true,.cl [.agg (pgA p),.agg (cfA c), aI n] (.tup (ocA (some c2))) []] [] (.tup [.agg (cfA c2),.nils,.bool true]) []):=al (cj (e1 1 1) (iQ p (iR p c (iS c (cj (rf n) (cj hF (nc c2 (qO c2 trivial))))))))
theorem Dn(p:Pg)(c c2:Cf)(n:Int)(hF:pC_ 46 [.agg (pgA p),.agg (cfA c), aI n] (dmA none) []):Vc (vF_ 21 [.agg (pgA p),.agg (cfA c),.agg [aI 2, aI n]] [.fv,.fv,.fv,.bd false,.bd true,.cl [.agg (pgA p),.agg (cfA c), aI n] (dmA none) []] [] (.tup [.agg (cfA Cf0),.nils,.bool false]) []):=al (cj (e0 2 1) (cj (e1 2 2) (iQ p (iR p c (iS c (cj (rf n) (cj hF (qP (qQ trivial)))))))))
theorem Dl(p:Pg)(c c2:Cf)(n:Int)(hF:pC_ 46 [.agg (pgA p),.agg (cfA c), aI n] (dmA (some (c2,[]))) []):Vc (vF_ 21 [.agg (pgA p),.agg (cfA c),.agg [aI 2, aI n]] [.fv,.fv,.fv,.bd false,.bd true,.cl [.agg (pgA p),.agg (cfA c), aI n] (dmA (some (c2,[]))) []] [] (.tup [.agg (cfA c2),.nils,.bool true]) []):=al (cj (e0 2 1) (cj (e1 2 2) (iQ p (iR p c (iS c (cj (rf n) (cj hF (nc c2 (qO c2 trivial)))))))))
theorem yD(c2:Cf)(o:Ob)(l:List Ob){Z:Prop}(z:Z):(RF c2.b.length (RR c2.b.length 8 (fun i j=>an enC c2.b i j) (RF c2.r.length (RR c2.r.length 1 (fun i j=>aI (c2.r.getD i 0)) (RF c2.e (RF ((o::l).length) (RR ((o::l).length) 2 (fun i j=>an obC (o::l) i j) (RF true Z)))))))):=⟨rfl,fun _ _ _ _=>rfl,rfl,fun _ _ _ _=>rfl,rfl,rfl,fun _ _ _ _=>rfl,rfl,z⟩
theorem Dm(p:Pg)(c c2:Cf)(n:Int)(o:Ob)(l:List Ob)(hF:pC_ 46 [.agg (pgA p),.agg (cfA c), aI n] (dmA (some (c2,o::l))) []):Vc (vF_ 21 [.agg (pgA p),.agg (cfA c),.agg [aI 2, aI n]] [.fv,.fv,.fv,.bd false,.bd true,.cl [.agg (pgA p),.agg (cfA c), aI n] (dmA (some (c2,o::l))) []] [] (.tup [.agg (cfA c2),(obR (o::l)),.bool true]) []):=al (cj (e0 2 1) (cj (e1 2 2) (iQ p (iR p c (iS c (cj (rf n) (cj hF (nc c2 (yD c2 o l trivial)))))))))
theorem Dk(p:Pg)(c c2:Cf)(n:Int)(hF:pC_ 47 [.agg (pgA p),.agg (cfA c), aI n] (dmA none) []):Vc (vF_ 21 [.agg (pgA p),.agg (cfA c),.agg [aI 3, aI n]] [.fv,.fv,.fv,.bd false,.bd false,.bd true,.cl [.agg (pgA p),.agg (cfA c), aI n] (dmA none) []] [] (.tup [.agg (cfA Cf0),.nils,.bool false]) []):=al (cj (e0 3 1) (cj (e0 3 2) (cj (e1 3 3) (iQ p (iR p c (iS c (cj (rf n) (cj hF (qP (qQ trivial))))))))))
theorem Di(p:Pg)(c c2:Cf)(n:Int)(hF:pC_ 47 [.agg (pgA p),.agg (cfA c), aI n] (dmA (some (c2,[]))) []):Vc (vF_ 21 [.agg (pgA p),.agg (cfA c),.agg [aI 3, aI n]] [.fv,.fv,.fv,.bd false,.bd false,.bd true,.cl [.agg (pgA p),.agg (cfA c), aI n] (dmA (some (c2,[]))) []] [] (.tup [.agg (cfA c2),.nils,.bool true]) []):=al (cj (e0 3 1) (cj (e0 3 2) (cj (e1 3 3) (iQ p (iR p c (iS c (cj (rf n) (cj hF (nc c2 (qO c2 trivial))))))))))
theorem Dj(p:Pg)(c c2:Cf)(n:Int)(o:Ob)(l:List Ob)(hF:pC_ 47 [.agg (pgA p),.agg (cfA c), aI n] (dmA (some (c2,o::l))) []):Vc (vF_ 21 [.agg (pgA p),.agg (cfA c),.agg [aI 3, aI n]] [.fv,.fv,.fv,.bd false,.bd false,.bd true,.cl [.agg (pgA p),.agg (cfA c), aI n] (dmA (some (c2,o::l))) []] [] (.tup [.agg (cfA c2),(obR (o::l)),.bool true]) []):=al (cj (e0 3 1) (cj (e0 3 2) (cj (e1 3 3) (iQ p (iR p c (iS c (cj (rf n) (cj hF (nc c2 (yD c2 o l trivial))))))))))
theorem Dh(p:Pg)(c c2:Cf)(n:Int)(hF:pC_ 18 [.agg (pgA p),.agg (cfA c)] (.tup (ocA none)) []):Vc (vF_ 21 [.agg (pgA p),.agg (cfA c),.agg [aI 4, aI 0]] [.fv,.fv,.fv,.bd false,.bd false,.bd false,.bd true,.bd true,.cl [.agg (pgA p),.agg (cfA c)] (.tup (ocA none)) []] [] (.tup [.agg (cfA Cf0),.nils,.bool false]) []):=al (cj (e0 4 1) (cj (e0 4 2) (cj (e0 4 3) (cj (e1 4 4) (cj (e1 0 0) (iQ p (iR p c (iS c (cj hF (qP (qQ trivial)))))))))))
theorem Dg(p:Pg)(c c2:Cf)(n:Int)(hF:pC_ 18 [.agg (pgA p),.agg (cfA c)] (.tup (ocA (some c2))) []):Vc (vF_ 21 [.agg (pgA p),.agg (cfA c),.agg [aI 4, aI 0]] [.fv,.fv,.fv,.bd false,.bd false,.bd false,.bd true,.bd true,.cl [.agg (pgA p),.agg (cfA c)] (.tup (ocA (some c2))) []] [] (.tup [.agg (cfA c2),.nils,.bool true]) []):=al (cj (e0 4 1) (cj (e0 4 2) (cj (e0 4 3) (cj (e1 4 4) (cj (e1 0 0) (iQ p (iR p c (iS c (cj hF (nc c2 (qO c2 trivial)))))))))))
theorem yC{Z:Prop}(z:Z):(RF (0:Int) (RF (0:Int) (RF (0:Int) (RF (0:Int) (RF (0:Nat) (RF (0:Nat) (RF (0:Int) (RF (0:Nat) (RF (0:Nat) Z))))))))):=⟨rfl,rfl,rfl,rfl,rfl,rfl,rfl,rfl,rfl,z⟩
theorem Df(p:Pg)(c c2:Cf)(n:Int)(hn: ¬n=0):Vc (vF_ 21 [.agg (pgA p),.agg (cfA c),.agg [aI 4, aI n]] [.fv,.fv,.fv,.bd false,.bd false,.bd false,.bd true,.bd false] [] (.tup [.agg (cfA Cf0),.nils,.bool false]) []):=al (cj (e0 4 1) (cj (e0 4 2) (cj (e0 4 3) (cj (e1 4 4) (cj (aa.2 hn) (yC (cj (rf (0:Int)) (cj (rf false) trivial))))))))
theorem F6(p:Pg)(c c2:Cf)(n:Int)(k:Int)(h1: ¬k=1)(h2: ¬k=2)(h3: ¬k=3)(h4: ¬k=4):Vc (vF_ 21 [.agg (pgA p),.agg (cfA c),.agg [aI k, aI n]] [.fv,.fv,.fv,.bd false,.bd false,.bd false,.bd false] [] (.tup [.agg (cfA Cf0),.nils,.bool false]) []):=al (cj (aa.2 h1) (cj (aa.2 h2) (cj (aa.2 h3) (cj (aa.2 h4) (yC (cj (rf (0:Int)) (cj (rf false) trivial)))))))
theorem DP(p:Pg)(c:Cf)(d:Dr)(h:MOk p c):pC_ 21 [.agg (pgA p),.agg (cfA c),.agg (drA d)] (dmA (sayO p c d)) []:=by
 obtain⟨k,n⟩:=d
 show PureC _ _ [_,_,.agg [.int .i64 k,.int .i64 n]] (dmA (if k=1 then(ftO p c n).map (fun x=>(x,[])) else if k=2 then doO p c n else if k=3 then adrO p c n else if k=4 then(if n=0 then(rtO p c).map (fun x=>(x,[])) else none) else none)) []
 by_cases h1:k=1
 ·subst h1
  rw[ai rfl]
  have q:=Gp p c n h.il h.bl h.pc h.rl h.st h.bp
  cases e:ftO p c n with
  |none=>rw[e] at q;exact PureC.vc (Dp p c c n q)
  |some c2=>rw[e] at q;exact PureC.vc (Do p c c2 n q)
 rw[af h1]
 by_cases h2:k=2
 ·subst h2
  rw[ai rfl]
  have q:=Gu p c n h.bl h.ml h.sm h.sm' h.st h.bp
  cases e:doO p c n with
  |none=>rw[e] at q;exact PureC.vc (Dn p c c n q)
  |some x=>
   obtain⟨c2,l⟩:=x
   rw[e] at q
   cases l with
   |nil=>exact PureC.vc (Dl p c c2 n q)
   |cons o l=>exact PureC.vc (Dm p c c2 n o l q)
 rw[af h2]
 by_cases h3:k=3
 ·subst h3
  rw[ai rfl]
  have q:=Gv p c n h.bl h.ml h.sm
  cases e:adrO p c n with
  |none=>rw[e] at q;exact PureC.vc (Dk p c c n q)
  |some x=>
   obtain⟨c2,l⟩:=x
   rw[e] at q
   cases l with
   |nil=>exact PureC.vc (Di p c c2 n q)
   |cons o l=>exact PureC.vc (Dj p c c2 n o l q)
 rw[af h3]
 by_cases h4:k=4
 ·subst h4
  rw[ai rfl]
  by_cases hn:n=0
  ·subst hn
   rw[ai rfl]
   have q:=Gk p c h.rt h.bf
   cases e:rtO p c with
   |none=>rw[e] at q;exact PureC.vc (Dh p c c 0 q)
   |some c2=>rw[e] at q;exact PureC.vc (Dg p c c2 0 q)
  ·rw[af hn];exact PureC.vc (Df p c c n hn)
 rw[af h4];exact PureC.vc (F6 p c c n k h1 h2 h3 h4)
structure EnOk (p:Pg) (e:En):Prop where
 pc:0<=e.pc∧e.pc<=p.is.length
 val:0<=e.val∧e.val<65536
 frm: -1<=e.frm∧e.frm<=1000000
 nxt: -1<=e.nxt∧e.nxt<=p.is.length
 adr:0<=e.adr∧e.adr<65536
def rOk(p:Pg)(st:List Int)(b:List En)(k:Nat):Prop:= ∃L,reG p b 0 k st=some L∧L.length≠0
def lOk(p:Pg)(st:List Int)(b:List En)(k:Nat):Prop:= ∃L,reG p b 0 k st=some L∧L.length<4
structure EtOk (p:Pg) (m:Nat) (st:List Int) (b:List En) (k:Nat) (e:En):Prop where
 sto:(atI p e.pc).kind=3->e.kn=true->e.ft=false->e.adr<m
 ret:(atI p e.pc).kind=9->e.dn=true->e.ft=false->rOk p st b k
 cal:(atI p e.pc).kind=8->e.ft=false->lOk p st b k
structure Inv (p:Pg) (c:Cf):Prop where
 reg:okR c.s
 mem: ∀x∈c.s.m,0<=x∧x<65536
 ml:c.s.m.length=bF p.ms
 pc: -1<=c.s.pc∧c.s.pc<=p.is.length
 st:c.s.st.length<=4
 stk: ∀x∈c.s.st,0<=x∧x<=p.is.length
 bl:(c.b.length:Int)<=max p.win 0
 be: ∀e∈c.b,EnOk p e
 rl:c.r.length<=2
 rb: ∀x∈c.r,0<=x∧x<=p.is.length
 et: ∀k,k<c.b.length->EtOk p c.s.m.length c.s.st c.b k (c.b.getD k default)
theorem cQ{l:List En}{k:Nat}(h:k<l.length):l.getD k default∈l:=by simp[List.getD,h]
theorem lw{l:List En}{k:Nat}(h: ¬k<l.length):l.getD k default=En0:=by
 simp[List.getD,di (bz.1 h)];rfl
theorem lr{l:List Int}{k:Nat}(h:k<l.length):l.getD k 0∈l:=by simp[List.getD,h]
theorem bv{k n:Nat}(h:k<=n):cl0 (k:Int) n=k:=by unfold cl0;omega
theorem nX(p:Pg)(st:List Int)(l:List En){k:Nat}(h:k<=l.length):reV p st l k=reG p l 0 k st:=by unfold reV;rw[bv h]
theorem dk(p:Pg)(l l':List En): ∀j k k' st,(∀i,i<j->(l.getD (k+i) default).pc=(l'.getD (k'+i) default).pc)->reG p l k j st=reG p l' k' j st
 |0,_,_,_,_=>rfl
 |j+1,k,k',st,h=>by
  have h0:=h 0 (by omega)
  rw[cz,cz] at h0
  have e:enI p l k=enI p l' k':=by unfold enI;rw[h0]
  have hr: ∀i,i<j->(l.getD (k+1+i) default).pc=(l'.getD (k'+1+i) default).pc:=fun i hi=>by
   have:=h (i+1) (by omega)
   rw[show k+1+i=k+(i+1) by omega,show k'+1+i=k'+(i+1) by omega];exact this
  have hR:=fun s=>dk p l l' j (k+1) (k'+1) s hr
  unfold reG
  rw[e,h0,hR,hR,hR]
theorem jz(p:Pg)(l:List En)(P:Int->Prop): ∀j k st L,(∀x∈st,P x)->(∀i,k<=i->i<k+j->(enI p l i).kind=8->P ((l.getD i default).pc+1))->reG p l k j st=some L-> ∀x∈L,P x
 |0,_,st,L,h,_,e=>by cases e;exact h
 |j+1,k,st,L,h,hc,e=>by
  have hc': ∀i,k+1<=i->i<k+1+j->(enI p l i).kind=8->P ((l.getD i default).pc+1):=fun i a b=>hc i (by omega) (by omega)
  unfold reG at e
  split at e
  ·rename_i h8
   split at e
   ·cases e
   ·refine jz p l P j (k+1) _ L (fun x hx=> ?_) hc' e
    rcases aP.1 hx with hx |hx
    ·exact h x hx
    ·rw[aB.1 hx];exact hc k (by omega) (by omega) h8
  ·split at e
   ·split at e
    ·cases e
    ·exact jz p l P j (k+1) _ L (fun x hx=>h x (cN hx)) hc' e
   ·exact jz p l P j (k+1) _ L h hc' e
theorem lu{l:List En}{k i:Nat}{e:En}(hk:k<l.length):(l.set k e).getD i default=if i=k then e else l.getD i default:=by
 by_cases h:i=k
 ·subst h;simp[List.getD,hk]
 ·rw[af h];simp[List.getD,cA,Ne.symm h]
theorem mc{l:List En}{n i:Nat}(h:i<n):(l.take n).getD i default=l.getD i default:=by
 rw[aq,aq,bg,ai h]
theorem lx{l r:List En}{i:Nat}(h:i<l.length):(l++r).getD i default=l.getD i default:=by
 simp[List.getD,bh h]
theorem me{l:List En}{e:En}:(l++[e]).getD l.length default=e:=by simp[List.getD]
theorem nY(p:Pg)(st:List Int){l l':List En}{k:Nat}(h: ∀i,i<k->(l.getD i default).pc=(l'.getD i default).pc):reG p l 0 k st=reG p l' 0 k st:=
 dk p l l' k 0 0 st fun i hi=>by rw[a7];exact h i hi
theorem EtOk.pcs{p:Pg}{m:Nat}{st:List Int}{b b':List En}{k:Nat}{e:En}(h:EtOk p m st b k e)(hp: ∀i,i<k->(b.getD i default).pc=(b'.getD i default).pc):EtOk p m st b' k e:=by
 have e0:=nY p st hp
 refine⟨h.sto,fun a b c=> ?_,fun a b=> ?_⟩
 ·have:=h.ret a b c;unfold rOk at this ⊢;rw[<-e0];exact this
 ·have:=h.cal a b;unfold lOk at this ⊢;rw[<-e0];exact this
theorem Inv.up{p:Pg}{c:Cf}(h:Inv p c){k:Nat}(hk:k<c.b.length){e:En}(hp:e.pc=(c.b.getD k default).pc)(he:EnOk p e)(ht:EtOk p c.s.m.length c.s.st c.b k e):Inv p ⟨c.s,c.b.set k e,c.r,c.e⟩:=by
 have hpc: ∀i,(c.b.getD i default).pc=((c.b.set k e).getD i default).pc:=fun i=>by
  rw[lu hk]
  split
  ·rename_i hi;rw[hi];exact hp.symm
  ·rfl
 refine⟨h.reg,h.mem,h.ml,h.pc,h.st,h.stk,by show((c.b.set k e).length:Int)<=_;rw[av];exact h.bl,fun x hx=> ?_,h.rl,h.rb,fun j hj=> ?_⟩
 ·rcases b7 hx with h1 |h1
  ·exact h.be x h1
  ·rw[h1];exact he
 ·have hj:j<c.b.length:=by have:(c.b.set k e).length=c.b.length:=av;exact this▸hj
  show EtOk p _ _ (c.b.set k e) j ((c.b.set k e).getD j default)
  rw[lu hk]
  split
  ·rename_i hi;rw[hi];exact ht.pcs fun i _=>hpc i
  ·exact(h.et j hj).pcs fun i _=>hpc i
theorem Inv.cut{p:Pg}{c:Cf}(h:Inv p c)(n:Nat){t:Int}(ht: -1<=t∧t<=p.is.length):Inv p ⟨c.s.go t,c.b.take n,c.r,c.e⟩:=by
 refine⟨h.reg,h.mem,h.ml,ht,h.st,h.stk, ?_,fun x hx=>h.be x (cN hx),h.rl,h.rb,fun j hj=> ?_⟩
 ·have:=h.bl
  show((c.b.take n).length:Int)<=_
  rw[aT];omega
 ·have hj:j<min n c.b.length:=by have:(c.b.take n).length=min n c.b.length:=aT;exact this▸hj
  show EtOk p _ _ (c.b.take n) j ((c.b.take n).getD j default)
  rw[mc (by omega)]
  exact(h.et j (by omega)).pcs fun i hi=>by rw[mc (by omega)]
theorem lb{l:List En}(h: ∀e∈l,0<=e.val∧e.val<65536)(k:Nat):0<=(l.getD k default).val∧(l.getD k default).val<65536:=by
 by_cases hk:k<l.length
 ·exact h _ (cQ hk)
 ·rw[lw hk];exact⟨by decide,by decide⟩
theorem ri{p:Pg}{l:List En}{r:Int}(h: ∀e∈l,0<=e.val∧e.val<65536): ∀k x,eB p l r k=some x->0<=x.1∧x.1<65536
 |0,x,e=>by cases e
 |k+1,x,e=>by
  unfold eB at e
  split at e
  ·cases e
   split
   ·exact lb h k
   ·exact⟨by decide,by decide⟩
  ·exact ri h k x e
theorem reg_bd{s:S8}(h:okR s)(r:Int):0<=s.reg r∧s.reg r<65536:=by
 obtain⟨h0,h1,h2,h3⟩:=h
 unfold S8.reg
 repeat' split
 all_goals assumption
theorem nW{p:Pg}{s:S8}{l:List En}(hs:okR s)(h: ∀e∈l,0<=e.val∧e.val<65536)(i r:Int):0<=(cS p s l i r).1∧(cS p s l i r).1<65536:=by
 unfold cS
 split
 ·cases e:eB p l r (cl0 i l.length) with
  |some x=>exact ri h _ _ e
  |none=>exact reg_bd hs r
 ·exact⟨by decide,by decide⟩
theorem la{p:Pg}{s:S8}{l:List En}(hs:okR s)(h: ∀e∈l,0<=e.val∧e.val<65536)(i:Int)(v:Vl):0<=(cv p s l i v).1∧(cv p s l i v).1<65536:=by
 unfold cv
 split
 ·exact nW hs h i _
 ·exact Wd.maskV_bd _ _
theorem t4{p:Pg}{c:Cf}(hs:okR c.s)(h: ∀e∈c.b,0<=e.val∧e.val<65536):Sml p c:=fun i x=>by
 have h1:=la (p:=p) hs h i x.a
 have h2:=la (p:=p) hs h i x.b
 unfold tA tB
 omega
theorem Inv.val{p:Pg}{c:Cf}(h:Inv p c): ∀e∈c.b,0<=e.val∧e.val<65536:=fun e he=>(h.be e he).val
theorem Inv.sml{p:Pg}{c:Cf}(h:Inv p c):Sml p c:=t4 h.reg h.val
theorem Inv.done{p:Pg}{c:Cf}(h:Inv p c)(k:Nat): ∀e∈(upE c k En.done).b,0<=e.val∧e.val<65536:=fun e he=>by
 rcases b7 he with h1 |h1
 ·exact h.val e h1
 ·rw[h1];exact lb h.val k
theorem Inv.smlD{p:Pg}{c:Cf}(h:Inv p c)(k:Nat):Sml p (upE c k En.done):=t4 h.reg (h.done k)
theorem Inv.ok{p:Pg}{c:Cf}(hP:OkP p)(hw:p.win<=1000)(h:Inv p c):MOk p c:=by
 have hl:=hP.len
 have hb:=h.bl
 have hm:c.s.m.length<=16:=by rw[h.ml];exact hP.sum
 have h4:=h.st
 have h2:=h.rl
 refine⟨hl,by omega,by omega,h.sml,h.smlD,by omega,fun e he=> ?_,fun e he=> ?_,by have:=h.pc;omega,by omega, ?_⟩
 ·have:=(h.be e he).pc;omega
 ·have:=(h.be e he).frm;omega
 ·have hx:=(gl hP (c.b.getD 0 default).pc).1
  refine⟨fun _=>hx.2.2.2.1,fun a b d=> ?_,fun a b d=> ?_,by omega,by omega,by omega, ?_⟩
  ·by_cases h0:0<c.b.length
   ·exact⟨(h.be _ (cQ h0)).adr.1,(h.et 0 h0).sto a d b⟩
   ·rw[lw h0] at d;cases d
  ·by_cases h0:0<c.b.length
   ·obtain⟨L,e,hL⟩:=(h.et 0 h0).ret a d b
    cases e;exact hL
   ·rw[lw h0] at d;cases d
  ·by_cases h0:0<c.b.length
   ·have:=(h.be _ (cQ h0)).pc;omega
   ·rw[lw h0];exact⟨by decide,by decide⟩
theorem jD(p:Pg)(n:Int):0<=Wd.maskV p.W n∧Wd.maskV p.W n<65536:=Wd.maskV_bd _ _
theorem Inv.goV{p:Pg}{c:Cf}(h:Inv p c){k:Nat}(hk:k<c.b.length){t:Int}(ht: -1<=t∧t<=p.is.length):Inv p (goV c k t):=by
 unfold Px.goV
 split
 ·exact h
 ·have he:=h.be _ (cQ hk)
  have h1:=h.up hk (e:=(c.b.getD k default).to t) rfl ⟨he.pc,he.val,he.frm,ht,he.adr⟩ ⟨(h.et k hk).sto,(h.et k hk).ret,(h.et k hk).cal⟩
  exact h1.cut (k+1) ht
theorem vf{p:Pg}{l:List En}{a:Int}(h: ∀e∈l,0<=e.val∧e.val<65536): ∀k x,ldF p l a k=some x->(0<=x.1∧x.1<65536)∧ -1<=x.2.1∧x.2.1<=k
 |0,x,e=>by cases e
 |k+1,x,e=>by
  unfold ldF at e
  split at e
  ·cases e
   split
   ·exact⟨lb h k,by show(-1:Int)<=(k:Int);omega,by show(k:Int)<=((k+1:Nat):Int);omega⟩
   ·exact⟨⟨by decide,by decide⟩,by show(-1:Int)<=0;decide,by show(0:Int)<=((k+1:Nat):Int);omega⟩
  ·have:=vf h k x e
   refine⟨this.1,this.2.1, ?_⟩
   have:=this.2.2
   omega
theorem Bw{p:Pg}{m:List Int}{l:List En}{i a:Int}(hm: ∀x∈m,0<=x∧x<65536)(h: ∀e∈l,0<=e.val∧e.val<65536):(0<=(ldV p m l i a).1∧(ldV p m l i a).1<65536)∧ -1<=(ldV p m l i a).2.1∧(ldV p m l i a).2.1<=l.length:=by
 unfold ldV
 cases e:ldF p l a (cl0 i l.length) with
 |some x=>
  have:=vf h _ _ e
  have hc:=jf i l.length
  exact⟨this.1,this.2.1,by have:=this.2.2;show x.2.1<=_;omega⟩
 |none=>
  show(0<=(if _ then _ else _:Int×Int×Bool).1∧_)∧_
  split
  ·exact⟨Bj hm _,by show(-1:Int)<= -1;decide,by show(-1:Int)<=_;omega⟩
  ·exact⟨⟨by decide,by decide⟩,by show(-1:Int)<= -1;decide,by show(-1:Int)<=_;omega⟩
theorem mn{p:Pg}(hP:OkP p)(c:Cf)(k:Nat):OkI (enX p c k) p.is.length∧((enX p c k).kind≠12->0<=(c.b.getD k default).pc∧(c.b.getD k default).pc<p.is.length):=gl hP _
theorem Inv.doO{p:Pg}{c c2:Cf}{o:List Ob}(hP:OkP p)(hw:p.win<=1000)(h:Inv p c){i:Int}(e:doO p c i=some (c2,o)):Inv p c2:=by
 unfold Px.doO at e
 split at e
 ·rename_i hc
  obtain⟨k,rfl,hk,hd,hK⟩:=gk hc
  rw[aK,ah] at e
  have he:=h.be _ (cQ hk)
  have ht:=h.et k hk
  have hb:=h.bl
  obtain⟨hx,hx2⟩:=mn hP c k
  have hbD: ∀i,((upE c k En.done).b.getD i default).pc=(c.b.getD i default).pc:=fun i=>n7 (l:=c.b) (k:=k) (g:=En.done) (fun _=>rfl) i
  have hlD:(upE c k En.done).b.length=c.b.length:=av
  have hv0:=la (p:=p) h.reg (h.done k) (k:Int)
  have n8:(enX p c k).kind=8->False:=fun k8=>by
   unfold cnK at hK
   simp[k8] at hK
  have n3: ∀{q:Prop}, ¬(enX p c k).kind=3->(atI p (c.b.getD k default).pc).kind=3->q:=fun a b=>absurd b a
  have mk: ∀e':En,e'.pc=(c.b.getD k default).pc->EnOk p e'->((enX p c k).kind=3->e'.kn=true->e'.ft=false->e'.adr<c.s.m.length)->((enX p c k).kind=9->e'.ft=false->rOk p c.s.st c.b k)->Inv p ⟨c.s,c.b.set k e',c.r,c.e⟩:=fun e' hp ho h3 h9=>
   h.up hk hp ho ⟨fun a=>h3 (by unfold enX;rw[<-hp];exact a),fun a _ b=>h9 (by unfold enX;rw[<-hp];exact a) b,fun a=>absurd (by unfold enX;rw[<-hp];exact a) n8⟩
  unfold dmV at e
  by_cases k1:(enX p c k).kind=1
  ·rw[ai k1] at e
   cases e
   exact mk _ rfl ⟨he.pc,BX _ _ _ _,he.frm,he.nxt,he.adr⟩ (fun a=>by omega) (fun a=>by omega)
  rw[af k1] at e
  by_cases k4:(enX p c k).kind=4
  ·rw[ai k4] at e
   cases e
   refine mk _ rfl ⟨he.pc, ?_,he.frm,he.nxt,he.adr⟩ (fun a=>by omega) (fun a=>by omega)
   show 0<=(if _ then _ else _:Int)∧(if _ then _ else _:Int)<65536
   split
   ·exact nW h.reg (h.done k) _ _
   ·exact hv0 _
  rw[af k4] at e
  by_cases k3:(enX p c k).kind=3
  ·rw[ai k3] at e
   cases e
   exact mk _ rfl ⟨he.pc,nW h.reg (h.done k) _ _,he.frm,he.nxt,he.adr⟩ (fun a b d=>ht.sto a b d) (fun a=>by omega)
  rw[af k3] at e
  by_cases k2:(enX p c k).kind=2
  ·rw[ai k2] at e
   split at e
   ·cases e
    exact mk _ rfl ⟨he.pc,he.val,he.frm,he.nxt,jD _ _⟩ (fun a=>by omega) (fun a=>by omega)
   ·cases e
    have hl:=Bw (p:=p) (m:=c.s.m) (l:=(upE c k fun e=>e.done.ad (adV p (upE c k En.done) k (enX p c k))).b) (i:=(k:Int)) (a:=adV p (upE c k En.done) k (enX p c k)) h.mem (fun e he=>by
     rcases b7 he with h1 |h1
     ·exact h.val e h1
     ·rw[h1];exact lb h.val k)
    have hlb:(upE c k fun e=>e.done.ad (adV p (upE c k En.done) k (enX p c k))).b.length=c.b.length:=av
    rw[hlb] at hl
    exact mk _ rfl ⟨he.pc,hl.1,⟨hl.2.1,Int.le_trans hl.2.2 (by omega)⟩,he.nxt,jD _ _⟩ (fun a=>by omega) (fun a=>by omega)
  rw[af k2] at e
  by_cases k5:(enX p c k).kind=5
  ·rw[ai k5] at e
   cases e
   have hD:Inv p (upE c k En.done):=mk _ rfl ⟨he.pc,he.val,he.frm,he.nxt,he.adr⟩ (fun a=>by omega) (fun a=>by omega)
   have hpc:=hx2 (by omega)
   refine hD.goV (by rw[hlD];exact hk) ?_
   have htg:=hx.2.2.2.2
   split
   ·omega
   ·omega
  rw[af k5] at e
  by_cases k7:(enX p c k).kind=7
  ·rw[ai k7] at e
   cases e
   have hD:Inv p (upE c k En.done):=mk _ rfl ⟨he.pc,he.val,he.frm,he.nxt,he.adr⟩ (fun a=>by omega) (fun a=>by omega)
   refine hD.goV (by rw[hlD];exact hk) ?_
   have:=hv0 (enX p c k).a
   unfold cO tA
   show -1<=min (cv p c.s (upE c k En.done).b k (enX p c k).a).1 _∧min (cv p c.s (upE c k En.done).b k (enX p c k).a).1 _<=_
   omega
  rw[af k7,nX p c.s.st _ (by rw[hlD];omega),nY p c.s.st (fun i _=>hbD i)] at e
  have flt:Inv p (upE c k fun e=>e.done.flt):=mk _ rfl ⟨he.pc,he.val,he.frm,he.nxt,he.adr⟩ (fun _ _ a=>by cases a) (fun _ a=>by cases a)
  cases hv:reG p c.b 0 k c.s.st with
  |none=>rw[hv] at e;cases e;exact flt
  |some L=>
   rw[hv] at e
   by_cases h0:L.length=0
   ·have e':(if L.length=0 then((upE c k fun e=>e.done.flt,[]):Cf×List Ob) else(Px.goV (upE c k En.done) k (bq L),[⟨3,bq L⟩]))=(c2,o):=e
    rw[ai h0] at e';cases e';exact flt
   ·have e':(if L.length=0 then((upE c k fun e=>e.done.flt,[]):Cf×List Ob) else(Px.goV (upE c k En.done) k (bq L),[⟨3,bq L⟩]))=(c2,o):=e
    rw[af h0] at e';cases e'
    have hD:Inv p (upE c k En.done):=mk _ rfl ⟨he.pc,he.val,he.frm,he.nxt,he.adr⟩ (fun a=>by omega) (fun _ _=>⟨L,hv,h0⟩)
    refine hD.goV (by rw[hlD];exact hk) ?_
    have hm:bq L∈L:=by unfold bq;exact lr (by omega)
    have:=jz p c.b (fun x=>0<=x∧x<=p.is.length) k 0 c.s.st L h.stk (fun i _ hi h8=>by
     have:=(gl hP (c.b.getD i default).pc).2 (by unfold enI at h8;omega)
     omega) hv _ hm
    omega
 ·cases e
theorem Inv.adrO{p:Pg}{c c2:Cf}{o:List Ob}(hP:OkP p)(h:Inv p c){i:Int}(e:adrO p c i=some (c2,o)):Inv p c2:=by
 unfold Px.adrO at e
 split at e
 ·rename_i hc
  obtain⟨k,rfl,hk,hd,hK⟩:=mw hc
  rw[aK,ah] at e
  have he:=h.be _ (cQ hk)
  have ht:=h.et k hk
  have hU: ∀g:En->En,(g (c.b.getD k default)).pc=(c.b.getD k default).pc->EnOk p (g (c.b.getD k default))->((g (c.b.getD k default)).kn=true->(g (c.b.getD k default)).ft=false->(g (c.b.getD k default)).adr<c.s.m.length)->Inv p (upE c k g):=fun g hp ho h3=>
   h.up hk hp ho ⟨fun _=>h3,fun a=>by rw[hp] at a;unfold enX at hK;omega,fun a=>by rw[hp] at a;unfold enX at hK;omega⟩
  unfold qK at e
  split at e
  ·cases e
   exact hU _ rfl ⟨he.pc,he.val,he.frm,he.nxt,jD _ _⟩ (fun _ a=>by cases a)
  ·rename_i ho
   have hI:Inv p (upE c k fun e=>e.ad (adV p c k (enX p c k))):=hU _ rfl ⟨he.pc,he.val,he.frm,he.nxt,jD _ _⟩ (fun _ _=>by show adV p c k (enX p c k)<_;omega)
   split at e
   ·rename_i q hz
    cases e
    obtain⟨q',rfl,hq⟩:=qw hz
    refine hI.cut _ ?_
    rw[aK]
    have:=(hI.be _ (cQ hq)).pc
    omega
   ·cases e;exact hI
 ·cases e
theorem oj{p:Pg}{c:Cf}{g:Int}(h0:0<=g)(h:g<gsV p c):(c.e=0∧c.s.pc≠ -1∧ ¬p.win<=(c.b.length:Int))∧((atI p c.s.pc).kind=7->g<=p.is.length)∧((atI p c.s.pc).kind=9->c.r.length=0->g<=p.is.length):=by
 unfold gsV at h
 split at h
 ·omega
 ·rename_i hn
  refine⟨⟨?_, ?_, ?_⟩,fun k7=> ?_,fun k9 hr=> ?_⟩
  ·exact Classical.byContradiction fun e=>hn (.inl e)
  ·exact fun e=>hn (.inr (.inl e))
  ·exact fun e=>hn (.inr (.inr e))
  ·rw[af (by omega),ai k7] at h;omega
  ·rw[af (by omega),af (by omega),ai ⟨k9,hr⟩] at h;omega
theorem BR{p:Pg}{c:Cf}{g:Int}(hP:OkP p)(h:Inv p c)(h0:0<=g)(hg:g<gsV p c):EnOk p (ftE p c g)∧EtOk p c.s.m.length c.s.st c.b c.b.length (ftE p c g):=by
 obtain⟨⟨he,hp1,hw⟩,h7,h9⟩:=oj h0 hg
 have hpc:=h.pc
 have hpc0:0<=c.s.pc∧c.s.pc<=p.is.length:=by omega
 obtain⟨hx,hx2⟩:=gl hP c.s.pc
 have htg:=hx.2.2.2.2
 have mk: ∀(n:Int) (d f:Bool), -1<=n∧n<=p.is.length->((atI p c.s.pc).kind=9->d=true->False)->((atI p c.s.pc).kind=8->f=false->lOk p c.s.st c.b c.b.length)->EnOk p ⟨c.s.pc,0,0, -1,n,d,false,f⟩∧EtOk p c.s.m.length c.s.st c.b c.b.length ⟨c.s.pc,0,0, -1,n,d,false,f⟩:=fun n d f hn h9 h8=>
  ⟨⟨hpc0,⟨by show(0:Int)<=0;decide,by show(0:Int)<65536;decide⟩,⟨by show(-1:Int)<= -1;decide,by show(-1:Int)<=1000000;decide⟩,hn,⟨by show(0:Int)<=0;decide,by show(0:Int)<65536;decide⟩⟩,⟨(fun _ b=>by cases b),(fun a b=>(h9 a b).elim),(fun a b=>h8 a b)⟩⟩
 unfold ftE
 by_cases k5:(atI p c.s.pc).kind=5
 ·rw[ai k5]
  have:=hx2 (by omega)
  refine mk _ _ _ ?_ (fun a=>by omega) (fun a=>by omega)
  split<;>omega
 rw[af k5]
 by_cases k6:(atI p c.s.pc).kind=6
 ·rw[ai k6];exact mk _ _ _ (by omega) (fun a=>by omega) (fun a=>by omega)
 rw[af k6]
 by_cases k7:(atI p c.s.pc).kind=7
 ·rw[ai k7];exact mk _ _ _ (by have:=h7 k7;omega) (fun a=>by omega) (fun a=>by omega)
 rw[af k7]
 by_cases k9:(atI p c.s.pc).kind=9
 ·rw[ai k9]
  refine mk _ _ _ ?_ (fun _ b=>by cases b) (fun a=>by omega)
  split
  ·rename_i hr;have:=h9 k9 hr;omega
  ·rename_i hr
   have:=h.rb (bq c.r) (by unfold bq;exact lr (by omega))
   omega
 rw[af k9]
 by_cases k8:(atI p c.s.pc).kind=8
 ·rw[ai k8]
  refine mk _ _ _ (by omega) (fun a=>absurd a k9) (fun _ hf=> ?_)
  unfold ftB at hf
  rw[nX p c.s.st c.b (aG _)] at hf
  cases e:reG p c.b 0 c.b.length c.s.st with
  |none=>rw[e] at hf;cases hf
  |some L=>rw[e] at hf;exact⟨L,e,by have:=of_decide_eq_false hf;omega⟩
 rw[af k8]
 by_cases k1:(atI p c.s.pc).kind=11∨(atI p c.s.pc).kind=12
 ·rw[ai k1];exact mk _ _ _ (by omega) (fun a=>absurd a k9) (fun a=>absurd a k8)
 rw[af k1]
 have:=hx2 (fun a=>k1 (.inr a))
 exact mk _ _ _ (by omega) (fun a=>absurd a k9) (fun a=>absurd a k8)
theorem sF{l:List Int}{pc x:Int}(h:x∈dP l pc):x∈l∨x=pc:=by
 unfold dP at h
 rcases aP.1 (List.mem_of_mem_drop h) with h |h
 ·exact .inl h
 ·exact .inr (aB.1 h)
theorem Inv.ftO{p:Pg}{c c2:Cf}{g:Int}(hP:OkP p)(h:Inv p c)(e:ftO p c g=some c2):Inv p c2:=by
 unfold Px.ftO at e
 split at e
 ·rename_i hg
  cases e
  obtain⟨ho,ht⟩:=BR hP h hg.1 hg.2
  obtain⟨⟨he,hp1,hw⟩, -, -⟩:=oj hg.1 hg.2
  have hbl:=h.bl
  have hr:(ftR p c).length<=2∧ ∀x∈ftR p c,0<=x∧x<=p.is.length:=by
   unfold ftR
   have hrl:=h.rl
   split
   ·exact⟨by rw[aT];omega,fun x hx=>h.rb x (cN hx)⟩
   ·split
    ·rename_i k8
     refine⟨by rw[pd];omega,fun x hx=> ?_⟩
     rcases sF hx with hx |hx
     ·exact h.rb x hx
     ·have:=(gl hP c.s.pc).2 (by omega)
      rw[hx];omega
    ·exact⟨hrl,h.rb⟩
  refine⟨h.reg,h.mem,h.ml,ho.nxt,h.st,h.stk, ?_,fun x hx=> ?_,hr.1,hr.2,fun j hj=> ?_⟩
  ·show((c.b++[ftE p c g]).length:Int)<=_
   rw[aJ,bO];omega
  ·rcases aP.1 hx with hx |hx
   ·exact h.be x hx
   ·rw[aB.1 hx];exact ho
  ·have hj:j<c.b.length+1:=by
    have:(c.b++[ftE p c g]).length=c.b.length+1:=by rw[aJ];rfl
    exact this▸hj
   show EtOk p _ _ (c.b++[ftE p c g]) j ((c.b++[ftE p c g]).getD j default)
   by_cases hq:j<c.b.length
   ·rw[lx hq]
    exact(h.et j hq).pcs fun i hi=>by rw[lx (by omega)]
   ·obtain rfl:j=c.b.length:=by omega
    rw[me]
    exact ht.pcs fun i hi=>by rw[lx (by omega)]
 ·cases e
theorem Bi{l:List En}{x:En}(h:x∈l): ∃i,i<l.length∧l.getD i default=x:=by
 obtain⟨i,hi,e⟩:=List.getElem_of_mem h
 exact⟨i,hi,by simp[List.getD,hi,e]⟩
theorem pg{l:List En}{x:En}(h:x∈ax l): ∃e∈l,x=e.pop:=by
 obtain⟨i,hi,e⟩:=Bi h
 rw[dC] at hi
 rw[cF l (by omega)] at e
 exact⟨_,cQ (by omega:i+1<l.length),e.symm⟩
theorem xk{e:En}(h: -1<=e.frm∧e.frm<=1000000): -1<=e.pop.frm∧e.pop.frm<=1000000:=by
 by_cases h0:0<=e.frm
 ·rw[uE h0];exact⟨by show -1<=e.frm-1;omega,by show e.frm-1<=_;omega⟩
 ·rw[uF h0];exact h
theorem Inv.popS{p:Pg}{c:Cf}(h:Inv p c){s:S8}(hr:okR s)(hm: ∀x∈s.m,0<=x∧x<65536)(hml:s.m.length=c.s.m.length)(hpc:s.pc=c.s.pc)(hst:s.st.length<=4)(hsk: ∀x∈s.st,0<=x∧x<=p.is.length)(hG: ∀k,k+1<c.b.length->reG p c.b 0 (k+1) c.s.st=reG p c.b 1 k s.st):Inv p ⟨s,ax c.b,c.r,c.e⟩:=by
 refine⟨hr,hm,hml.trans h.ml,by show -1<=s.pc∧s.pc<=_;rw[hpc];exact h.pc,hst,hsk, ?_,fun x hx=> ?_,h.rl,h.rb,fun j hj=> ?_⟩
 ·have:=h.bl
  show((ax c.b).length:Int)<=_
  rw[dC];omega
 ·obtain⟨e,he,rfl⟩:=pg hx
  have ho:=h.be e he
  exact⟨ho.pc,ho.val,xk ho.frm,ho.nxt,ho.adr⟩
 ·have hj:j<c.b.length-1:=by have:=dC c.b;exact this▸hj
  show EtOk p s.m.length s.st (ax c.b) j ((ax c.b).getD j default)
  rw[cF c.b (by omega),hml]
  have ht:=h.et (j+1) (by omega)
  have hg:reG p (ax c.b) 0 j s.st=reG p c.b 0 (j+1) c.s.st:=by
   rw[hG j (by omega)]
   exact dk p (ax c.b) c.b j 0 1 s.st fun i hi=>by
    rw[a7,cF c.b (by omega),iP 1 i];rfl
  refine⟨ht.sto,fun a b d=> ?_,fun a b=> ?_⟩
  ·have:=ht.ret a b d;unfold rOk at this ⊢;rw[hg];exact this
  ·have:=ht.cal a b;unfold lOk at this ⊢;rw[hg];exact this
theorem Inv.fin{p:Pg}{c:Cf}(h:Inv p c){t e:Int}(ht: -1<=t∧t<=p.is.length):Inv p ⟨c.s.go t,[],[],e⟩:=
 ⟨h.reg,h.mem,h.ml,ht,h.st,h.stk,(by show((0:Nat):Int)<=_;omega),(fun _ hx=>by cases hx),(by show 0<=2;omega),(fun _ hx=>by cases hx),fun k hk=>absurd hk (du k)⟩
theorem Inv.rtO{p:Pg}{c c2:Cf}(hP:OkP p)(h:Inv p c)(e:rtO p c=some c2):Inv p c2:=by
 unfold Px.rtO at e
 split at e
 ·rename_i hc
  cases e
  obtain⟨h0,hl,hdn,hkn⟩:=fB hc
  have ho:=h.be _ (cQ hl)
  have ht:=h.et 0 hl
  have hpc: -1<=(c.b.getD 0 default).pc∧(c.b.getD 0 default).pc<=p.is.length:=by have:=ho.pc;omega
  obtain⟨hx,hx2⟩:=mn hP c 0
  have hG: ∀k,reG p c.b 0 (k+1) c.s.st=if(enX p c 0).kind=8 then(if 4<=c.s.st.length then none else reG p c.b 1 k (c.s.st++[(c.b.getD 0 default).pc+1])) else if(enX p c 0).kind=9 then(if c.s.st.length=0 then none else reG p c.b 1 k (c.s.st.take (c.s.st.length-1))) else reG p c.b 1 k c.s.st:=fun k=>rfl
  have hst:=h.st
  unfold rtV
  by_cases n12:(c.b.getD 0 default).ft=true∨(enX p c 0).kind=12
  ·rw[ai n12];exact h.fin hpc
  rw[af n12]
  have hf:(c.b.getD 0 default).ft=false:=by
   cases hb:(c.b.getD 0 default).ft with
   |true=>exact absurd (.inl hb) n12
   |false=>rfl
  by_cases k11:(enX p c 0).kind=11
  ·rw[ai k11];exact h.fin hpc
  rw[af k11]
  by_cases kd:cL (enX p c 0)=true
  ·rw[ai kd]
   have n8:(enX p c 0).kind≠8∧(enX p c 0).kind≠9:=by
    constructor<;>(intro k8;unfold cL at kd;rw[k8] at kd;revert kd;decide)
   exact h.popS (zU h.reg _ ho.val) h.mem rfl rfl hst h.stk fun k _=>by rw[hG,af n8.1,af n8.2];rfl
  rw[af kd]
  by_cases k3:(enX p c 0).kind=3
  ·rw[ai k3]
   refine h.popS h.reg (fun x hx=> ?_) (by show(List.set _ _ _).length=_;rw[av]) rfl hst h.stk fun k _=>by rw[hG,af (by omega),af (by omega)]
   rcases b7 hx with h1 |h1
   ·exact h.mem x h1
   ·rw[h1];exact ho.val
  rw[af k3]
  by_cases k8:(enX p c 0).kind=8
  ·rw[ai k8]
   obtain⟨L,e,hL⟩:=ht.cal k8 hf
   cases e
   have:=hx2 (by omega)
   refine h.popS h.reg h.mem rfl rfl (by show(c.s.st++[_]).length<=4;rw[aJ,bO];omega) (fun x hx=> ?_) fun k _=>by rw[hG,ai k8,af (by omega)]
   rcases aP.1 hx with hx |hx
   ·exact h.stk x hx
   ·rw[aB.1 hx];omega
  rw[af k8]
  by_cases k9:(enX p c 0).kind=9
  ·rw[ai k9]
   obtain⟨L,e,hL⟩:=ht.ret k9 (by rcases hdn with h |h;exact h;omega) hf
   cases e
   exact h.popS h.reg h.mem rfl rfl (by show(c.s.st.take _).length<=4;rw[aT];omega) (fun x hx=>h.stk x (cN hx)) fun k _=>by rw[hG,af k8,ai k9,af hL]
  rw[af k9]
  exact h.popS h.reg h.mem rfl rfl hst h.stk fun k _=>by rw[hG,af k8,af k9]
 ·cases e
theorem Inv.sayO{p:Pg}{c c2:Cf}{o:List Ob}(hP:OkP p)(hw:p.win<=1000)(h:Inv p c){d:Dr}(e:sayO p c d=some (c2,o)):Inv p c2:=by
 unfold Px.sayO at e
 split at e
 ·cases hq:Px.ftO p c d.n with
  |none=>rw[hq] at e;cases e
  |some x=>rw[hq] at e;cases e;exact h.ftO hP hq
 ·split at e
  ·exact h.doO hP hw e
  ·split at e
   ·exact h.adrO hP e
   ·split at e
    ·split at e
     ·cases hq:Px.rtO p c with
      |none=>rw[hq] at e;cases e
      |some x=>rw[hq] at e;cases e;exact h.rtO hP hq
     ·cases e
    ·cases e
theorem Inv.begin{p:Pg}{s:S8}(hs:OkS s.m.length p.is.length s)(hm:s.m.length=bF p.ms)(hst:s.st.length<=4)(hsk: ∀x∈s.st,0<=x∧x<=p.is.length):Inv p ⟨s,[],[],0⟩:=
 ⟨hs.reg,hs.mem,hm,hs.pc,hst,hsk,(by show((0:Nat):Int)<=_;omega),(fun _ hx=>by cases hx),(by show 0<=2;omega),(fun _ hx=>by cases hx),fun k hk=>absurd hk (du k)⟩
def wkI(l:List Int)(i:Nat)(D:List Dr):Nat:=(Int.tmod (bits .and .i64 (l.getD i 0) 65535) D.length).toNat
def wkD(p:Pg)(l:List Int)(c:Cf)(i:Nat):Dr:=(c9 p c).getD (wkI l i (c9 p c)) default
def beg(s:S8):Cf:=⟨s,[],[],0⟩
theorem CH(s:S8){Z:Prop}(z:Z):(RF s.r0 (RF s.r1 (RF s.r2 (RF s.r3 (RF s.m.length (RR s.m.length 1 (fun i j=>aI (s.m.getD i 0)) (RF s.st.length (RR s.st.length 1 (fun i j=>aI (s.st.getD i 0)) (RF s.pc Z))))))))):=⟨rfl,rfl,rfl,rfl,rfl,fun _ _ _ _=>rfl,rfl,fun _ _ _ _=>rfl,rfl,z⟩
theorem Cc(s:S8):Vc (vF_ 19 [.agg (s8R s)] [.fz] [] (.agg (cfA (beg s))) []):=al (CH s (cj (rf (0:Nat)) (cj (rf (0:Nat)) (cj (rf (0:Int)) trivial))))
theorem D9(s:S8):pC_ 19 [.agg (s8R s)] (.agg (cfA (beg s))) []:=PureC.vc (Cc s)
theorem zI(l:List Int)(i:Nat){D:List Dr}(h: ¬D.length=0):0<=Int.tmod (bits .and .i64 (l.getD i 0) 65535) D.length∧Int.tmod (bits .and .i64 (l.getD i 0) 65535) D.length<D.length:=by
 have h1:=Wd.bits_mask (l.getD i 0) 16 (by omega)
 have h2:bits .and .i64 (l.getD i 0) 65535=(l.getD i 0)%65536:=h1
 have hb:0<(D.length:Int):=by omega
 have h0:0<=bits .and .i64 (l.getD i 0) 65535:=by omega
 exact wy h0 hb
def fh(s:S8):List Int:=((([s.r0,s.r1,s.r2,s.r3,(s.m.length:Int)]++s.m)++[(s.st.length:Int)])++s.st)++[s.pc]
def enN(e:En):List Int:=[e.pc,e.val,e.adr,e.frm,e.nxt,Wd.tI e.dn,Wd.tI e.kn,Wd.tI e.ft]
def ciK(c:Cf):Nat->List Int
 |0=>fh c.s++[(c.b.length:Int)]
 |k+1=>ciK c k++enN (c.b.getD k default)
def ciL(c:Cf):List Int:=((ciK c c.b.length++[(c.r.length:Int)])++c.r)++[c.e]
def ciS(c:Cf)(X:List Int)(k:Nat):Sm:=⟨[(1,cfP c),(3,.own 0 0 1 0 X.length),(4,.int .i64 k)],[(0,a9 X)],1⟩
theorem eF{A B:List Int}{n i:Nat}{x y:AV}(hn:n=A.length)(hx:i<n->x= .int .i64 (A.getD i 0))(hy:n<=i->y= .int .i64 (B.getD (i-n) 0)):(bif Nat.blt i n then x else y)= .int .i64 ((A++B).getD i 0):=by
 subst hn
 by_cases h:i<A.length
 ·have:Nat.blt i A.length=true:=by rw[bA];exact h
  rw[this,aO,hx h]
  simp[List.getD,bh h]
 ·have:Nat.blt i A.length=false:=by
   cases hb:Nat.blt i A.length with
   |false=>rfl
   |true=>rw[bA] at hb;omega
  rw[this,bb,hy (by omega)]
  simp[List.getD,bX (Nat.le_of_not_lt h)]
theorem qf{x:Int}{q:Nat}(h:q=0):[AV.int .i64 x].getD ((q+0)*1+0) .junk= .int .i64 ([x].getD q 0):=by subst h;rfl
theorem Fe{a b c d e:Int}{i:Nat}(h:i<5):[AV.int .i64 a,.int .i64 b,.int .i64 c,.int .i64 d,.int .i64 e].getD ((i+0)*1+0) .junk= .int .i64 ([a,b,c,d,e].getD i 0):=
 match i,h with |0,_=>rfl |1,_=>rfl |2,_=>rfl |3,_=>rfl |4,_=>rfl
theorem ec(s:S8):(fh s).length=s.m.length+s.st.length+7:=by simp[fh];omega
theorem EW(s:S8)(L:List Int)(hL:L=fh s)(hm:s.m.length<1000000)(hst:s.st.length<1000000):Vc (vF_ 52 [.agg (s8R s)] [.fv] [] (lR L) []):=al (cj (pv ((0:Nat)=0∧(5:Nat)=5∧((5:Nat)+s.m.length)*8<=140737488355328∧(5:Nat)+s.m.length<=140737488355328)) (cj (pv ((0:Nat)=0∧(5:Nat)+s.m.length=5+s.m.length∧((5:Nat)+s.m.length+1)*8<=140737488355328∧(5:Nat)+s.m.length+1<=140737488355328)) (cj (pv ((0:Nat)=0∧(5:Nat)+s.m.length+1=5+s.m.length+1∧((5:Nat)+s.m.length+1+s.st.length)*8<=140737488355328∧(5:Nat)+s.m.length+1+s.st.length<=140737488355328)) (cj (pv ((0:Nat)=0∧(5:Nat)+s.m.length+1+s.st.length=5+s.m.length+1+s.st.length∧((5:Nat)+s.m.length+1+s.st.length+1)*8<=140737488355328∧(5:Nat)+s.m.length+1+s.st.length+1<=140737488355328)) (cj (show(5:Nat)+s.m.length+1+s.st.length+1=L.length from by rw[hL,ec];omega) (cj (show ∀(i:Nat),i<5+s.m.length+1+s.st.length+1-> ∀(j:Nat),j<1->(bif Nat.blt (i+0) ((5:Nat)+s.m.length+1+s.st.length) then bif Nat.blt (i+0) ((5:Nat)+s.m.length+1) then bif Nat.blt (i+0) ((5:Nat)+s.m.length) then bif Nat.blt (i+0) (5:Nat) then List.getD [aI s.r0,aI s.r1,aI s.r2,aI s.r3,aI s.m.length] ((i+0)*1+j) AV.junk else aI (s.m.getD (i+0-5) 0) else List.getD [aI s.st.length] ((i+0-((5:Nat)+s.m.length)+0)*1+j) AV.junk else aI (s.st.getD (i+0-((5:Nat)+s.m.length+1)) 0) else List.getD [aI s.pc] ((i+0-((5:Nat)+s.m.length+1+s.st.length)+0)*1+j) AV.junk)=aI (L.getD i 0) from(fun i hi j hj=>by
 subst hL
 obtain rfl:j=0:=by omega
 exact eF (A:=((([s.r0,s.r1,s.r2,s.r3,(s.m.length:Int)]++s.m)++[(s.st.length:Int)])++s.st)) (B:=[s.pc]) (by simp;omega) (fun _=>eF (A:=(([s.r0,s.r1,s.r2,s.r3,(s.m.length:Int)]++s.m)++[(s.st.length:Int)])) (B:=s.st) (by simp;omega) (fun _=>eF (A:=([s.r0,s.r1,s.r2,s.r3,(s.m.length:Int)]++s.m)) (B:=[(s.st.length:Int)]) (by simp;omega) (fun _=>eF (A:=[s.r0,s.r1,s.r2,s.r3,(s.m.length:Int)]) (B:=s.m) rfl (fun h=>Fe h) (fun _=>rfl)) (fun _=>qf (by omega))) (fun _=>rfl)) (fun _=>qf (by omega)))) trivial)))))) (by kernel_rfl)
theorem EN(s:S8)(hm:s.m.length<1000000)(hst:s.st.length<1000000):pC_ 52 [.agg (s8R s)] (lR (fh s)) []:=PureC.vc (EW s _ rfl hm hst)
theorem GX(s:S8)(L:List Int)(hL:L=fh s)(hm:s.m.length<1000000)(hst:s.st.length<1000000):Vc (vF_ 52 [.agg (s8R s)] [.fv] [(0,0)] (.own 0 0 1 0 L.length) [a9 L]):=al (cj (pv ((0:Nat)=0∧(5:Nat)=5∧((5:Nat)+s.m.length)*8<=140737488355328∧(5:Nat)+s.m.length<=140737488355328)) (cj (pv ((0:Nat)=0∧(5:Nat)+s.m.length=5+s.m.length∧((5:Nat)+s.m.length+1)*8<=140737488355328∧(5:Nat)+s.m.length+1<=140737488355328)) (cj (pv ((0:Nat)=0∧(5:Nat)+s.m.length+1=5+s.m.length+1∧((5:Nat)+s.m.length+1+s.st.length)*8<=140737488355328∧(5:Nat)+s.m.length+1+s.st.length<=140737488355328)) (cj (pv ((0:Nat)=0∧(5:Nat)+s.m.length+1+s.st.length=5+s.m.length+1+s.st.length∧((5:Nat)+s.m.length+1+s.st.length+1)*8<=140737488355328∧(5:Nat)+s.m.length+1+s.st.length+1<=140737488355328)) (cj (show(5:Nat)+s.m.length+1+s.st.length+1=L.length from by rw[hL,ec];omega) (cj (show ∀(i:Nat),i<5+s.m.length+1+s.st.length+1-> ∀(j:Nat),j<1->(bif Nat.blt i ((5:Nat)+s.m.length+1+s.st.length) then bif Nat.blt i ((5:Nat)+s.m.length+1) then bif Nat.blt i ((5:Nat)+s.m.length) then bif Nat.blt i (5:Nat) then List.getD [aI s.r0,aI s.r1,aI s.r2,aI s.r3,aI s.m.length] (i*1+j) AV.junk else aI (s.m.getD (i-5) 0) else List.getD [aI s.st.length] ((i-((5:Nat)+s.m.length)+0)*1+j) AV.junk else aI (s.st.getD (i-((5:Nat)+s.m.length+1)) 0) else List.getD [aI s.pc] ((i-((5:Nat)+s.m.length+1+s.st.length)+0)*1+j) AV.junk)=aI (L.getD i 0) from(fun i hi j hj=>by
 subst hL
 obtain rfl:j=0:=by omega
 exact eF (A:=((([s.r0,s.r1,s.r2,s.r3,(s.m.length:Int)]++s.m)++[(s.st.length:Int)])++s.st)) (B:=[s.pc]) (by simp;omega) (fun _=>eF (A:=(([s.r0,s.r1,s.r2,s.r3,(s.m.length:Int)]++s.m)++[(s.st.length:Int)])) (B:=s.st) (by simp;omega) (fun _=>eF (A:=([s.r0,s.r1,s.r2,s.r3,(s.m.length:Int)]++s.m)) (B:=[(s.st.length:Int)]) (by simp;omega) (fun _=>eF (A:=[s.r0,s.r1,s.r2,s.r3,(s.m.length:Int)]) (B:=s.m) rfl (fun h=>Fe h) (fun _=>rfl)) (fun _=>qf (by omega))) (fun _=>rfl)) (fun _=>qf (by omega)))) (cj (rf (0:Nat)) (cj (show(5:Nat)+s.m.length+1+s.st.length+1=L.length from by rw[hL,ec];omega) trivial)))))))) (by kernel_rfl)
theorem EM(s:S8)(hm:s.m.length<1000000)(hst:s.st.length<1000000):pC_ 52 [.agg (s8R s)] (.own 0 0 1 0 (fh s).length) [a9 (fh s)]:=PureC.vc (GX s _ rfl hm hst)
theorem tZ(b:Bool)(h:b=true):Vc (vF_ 56 [.bool b] [.b true] [] (aI (Wd.tI b)) []):=al (cj h (cj (show(1:Int)=Wd.tI b from by rw[h];rfl) trivial))
theorem sa(b:Bool)(h:b=false):Vc (vF_ 56 [.bool b] [.b false] [] (aI (Wd.tI b)) []):=al (cj h (cj (show(0:Int)=Wd.tI b from by rw[h];rfl) trivial))
theorem zJ(b:Bool):pC_ 56 [.bool b] (.int .i64 (Wd.tI b)) []:=by
 cases h:b with
 |true=>exact PureC.vc (tZ true rfl)
 |false=>exact PureC.vc (sa false rfl)
theorem Du(c:Cf)(X:List Int)(k:Nat):X.length+8=(X++[(c.b.getD k default).pc,(c.b.getD k default).val,(c.b.getD k default).adr,(c.b.getD k default).frm,(c.b.getD k default).nxt,Wd.tI (c.b.getD k default).dn,Wd.tI (c.b.getD k default).kn,Wd.tI (c.b.getD k default).ft]).length:=by rw[aJ];rfl
theorem Cl(c:Cf){Z:Prop}(z:Z):(RF c.b.length (RR c.b.length 8 (fun i j=>an enC c.b i j) (RF c.r.length (RR c.r.length 1 (fun i j=>aI (c.r.getD i 0)) (RF c.e (RF (0:Nat) Z)))))):=⟨rfl,fun _ _ _ _=>rfl,rfl,fun _ _ _ _=>rfl,rfl,rfl,z⟩
theorem wi(c:Cf){Z:Prop}(z:Z):(RF c.s.r0 (RF c.s.r1 (RF c.s.r2 (RF c.s.r3 (RF c.s.m.length (RR c.s.m.length 1 (fun i j=>aI (List.getD c.s.m i 0)) (RF c.s.st.length (RR c.s.st.length 1 (fun i j=>aI (List.getD c.s.st i 0)) (RF c.s.pc Z))))))))):=⟨rfl,rfl,rfl,rfl,rfl,fun _ _ _ _=>rfl,rfl,fun _ _ _ _=>rfl,rfl,z⟩
theorem HH(c:Cf)(X:List Int)(k:Nat)(hk:k<c.b.length)(hb:c.b.length<1000000)(hX:X.length<100000000):Vc (vC_ 33 0 (ciS c X k) [.bd true,.cl [.bool (c.b.getD k default).dn] (aI (Wd.tI (c.b.getD k default).dn)) [],.cl [.bool (c.b.getD k default).kn] (aI (Wd.tI (c.b.getD k default).kn)) [],.cl [.bool (c.b.getD k default).ft] (aI (Wd.tI (c.b.getD k default).ft)) []] .nrm [(0,0)] (ciS c (X++enN (c.b.getD k default)) (k+1))):=al (cj (dt ((k:Int)<c.b.length)) (cj (bi k c.b.length) (cj (rf ((c.b.getD k default).dn)) (cj (zJ (c.b.getD k default).dn) (cj (rf ((c.b.getD k default).kn)) (cj (zJ (c.b.getD k default).kn) (cj (rf ((c.b.getD k default).ft)) (cj (zJ (c.b.getD k default).ft) (cj (ap X.length 8 8) (cj (i6 (k+1)) (cj (Du c X k) (cj (show ∀(i:Nat),i<X.length+8-> ∀(j:Nat),j<1->(bif Nat.blt i X.length then aI (X.getD i 0) else List.getD [aI (c.b.getD k default).pc,aI (c.b.getD k default).val,aI (c.b.getD k default).adr,aI (c.b.getD k default).frm,aI (c.b.getD k default).nxt,aI (Wd.tI (c.b.getD k default).dn),aI (Wd.tI (c.b.getD k default).kn),aI (Wd.tI (c.b.getD k default).ft)] ((i-X.length+0)*1+j) AV.junk)=aI (List.getD (X++[(c.b.getD k default).pc,(c.b.getD k default).val,(c.b.getD k default).adr,(c.b.getD k default).frm,(c.b.getD k default).nxt,Wd.tI (c.b.getD k default).dn,Wd.tI (c.b.getD k default).kn,Wd.tI (c.b.getD k default).ft]) i (0:Int)) from(fun i hi j hj=>by obtain rfl:j=0:=(by omega);exact eF (A:=X) (B:=enN (c.b.getD k default)) rfl (fun _=>rfl) (fun h=>by obtain⟨q,rfl⟩: ∃q,i=X.length+q:=⟨i-X.length,by omega⟩;rw[Nat.add_sub_cancel_left];exact(match q,(show q<8 by omega) with |0,_=>rfl |1,_=>rfl |2,_=>rfl |3,_=>rfl |4,_=>rfl |5,_=>rfl |6,_=>rfl |7,_=>rfl)))) (wi c (Cl c (cj (Du c X k) (cj (rf ((k:Int)+1)) trivial))))))))))))))))
theorem HI(c:Cf)(X:List Int)(k:Nat)(hk: ¬k<c.b.length):Vc (vC_ 33 0 (ciS c X k) [.bd false] (.ext 0) [(0,0)] (ciS c X k)):=al (cj (df ((k:Int)<c.b.length)) (cj (rf X.length) (cj (rr X.length 1 fun i j=>aI (X.getD i 0)) (wi c (cj (rf c.b.length) (cj (rr c.b.length 8 fun i j=>an enC c.b i j) (cj (rf c.r.length) (cj (rr c.r.length 1 fun i j=>aI (c.r.getD i 0)) (cj (rf c.e) (cj (rf (0:Nat)) (cj (rf X.length) (cj (rf (k:Int)) trivial))))))))))))
theorem ly(c:Cf): ∀k,(ciK c k).length=(fh c.s).length+1+8*k
 |0=>by rw[ciK,aJ];rfl
 |k+1=>by rw[ciK,aJ,ly c k];show _+8=_;omega
theorem yg(c:Cf)(hb:c.b.length<1000000)(hm:c.s.m.length<1000000)(hst:c.s.st.length<1000000):oL_ 33 0 (ciS c (ciK c 0) 0).st (.ext 0) (ciS c (ciK c c.b.length) c.b.length).st:=
 Ok.loop (P:=Try.prog) (nt:=dG Try.prog 33) (c:=lpC Try.prog 33 0) (F:=fun k=>ciS c (ciK c k) k) (m:=c.b.length) (x:= .ext 0) (J:=ciS c (ciK c c.b.length) c.b.length) (fun k hk=>Ok.vc (HH c (ciK c k) k hk hb (by rw[ly,ec];omega))) (Ok.vc (HI c _ _ (cJ _))) (by simp)
theorem cif(c:Cf)(L0 X L:List Int)(n:Nat)(hL:L=((X++[(c.r.length:Int)])++c.r)++[c.e])(h7:pC_ 52 [.agg (s8R c.s)] (.own 0 0 1 0 L0.length) [a9 L0])(h:oL_ 33 0 (ciS c (L0++[(c.b.length:Int)]) 0).st (.ext 0) (ciS c X n).st)(hl0:L0.length<100000000)(hX:X.length<100000000)(hr:c.r.length<1000000):Vc (vF_ 33 [.agg (cfA c)] [.fv,.cl [.agg (s8R c.s)] (.own 0 0 1 0 L0.length) [a9 L0],.lp [(0,0)] (ciS c (L0++[(c.b.length:Int)]) 0) (.ext 0) (ciS c X n)] [] (lR L) []):=al (wi c (cj h7 (cj (ap L0.length 1 8) (cj (pv (L0.length+1=(L0++[(↑c.b.length:Int)]).length)) (cj (show ∀(i:Nat),i<L0.length+1-> ∀(j:Nat),j<1->(bif Nat.blt i L0.length then aI (L0.getD i 0) else List.getD [aI c.b.length] ((i-L0.length+0)*1+j) AV.junk)=aI (List.getD (L0++[(↑c.b.length:Int)]) i (0:Int)) from(fun i hi j hj=>by obtain rfl:j=0:=(by omega);exact eF (A:=L0) (B:=[(c.b.length:Int)]) (by simp) (fun _=>rfl) (fun h=>qf (by omega)))) (wi c (Cl c (cj (pv (L0.length+1=(L0++[(↑c.b.length:Int)]).length)) (cj (rf (0:Int)) (cj h (cj (ap X.length 1 8) (cj (ap (X.length+1) c.r.length 8) (cj (ap (X.length+1+c.r.length) 1 8) (cj (show X.length+1+c.r.length+1=L.length from by rw[hL];simp;omega) (cj (show ∀(i:Nat),i<X.length+1+c.r.length+1-> ∀(j:Nat),j<1->(bif Nat.blt (i+0) (X.length+1+c.r.length) then bif Nat.blt (i+0) (X.length+1) then bif Nat.blt (i+0) X.length then aI (X.getD (i+0) 0) else List.getD [aI c.r.length] ((i+0-X.length+0)*1+j) AV.junk else aI (c.r.getD (i+0-(X.length+1)) 0) else List.getD [aI c.e] ((i+0-(X.length+1+c.r.length)+0)*1+j) AV.junk)=aI (L.getD i 0) from(fun i hi j hj=>by
 subst hL
 obtain rfl:j=0:=by omega
 exact eF (A:=((X++[(c.r.length:Int)])++c.r)) (B:=[c.e]) (by simp only[aJ,bO]) (fun _=>eF (A:=(X++[(c.r.length:Int)])) (B:=c.r) (by simp only[aJ,bO]) (fun _=>eF (A:=X) (B:=[(c.r.length:Int)]) (by simp) (fun _=>rfl) (fun h=>qf (by omega))) (fun _=>rfl)) (fun h=>qf (by omega)))) trivial))))))))))))))) (by kernel_rfl)
theorem rP(c:Cf):(ciL c).length=c.s.m.length+c.s.st.length+10+8*c.b.length+c.r.length:=by
 unfold ciL;rw[aJ,aJ,aJ,ly,ec];simp;omega
theorem ciC(c:Cf)(hb:c.b.length<1000000)(hm:c.s.m.length<1000000)(hst:c.s.st.length<1000000)(hr:c.r.length<1000000):pC_ 33 [.agg (cfA c)] (lR (ciL c)) []:=
 PureC.vc (cif c (fh c.s) (ciK c c.b.length) (ciL c) _ rfl (EM c.s hm hst) (yg c hb hm hst) (by rw[ec];omega) (by rw[ly,ec];omega) hr)
theorem Dt(a b:Cf)(A B:List Int)(x:Bool)(ha:pC_ 33 [.agg (cfA a)] (lR A) [])(hb:pC_ 33 [.agg (cfA b)] (lR B) [])(hs:pC_ 32 [lR A,lR B] (.bool x) []):Vc (vF_ 10 [.agg (cfA a),.agg (cfA b)] [.fv,.fv,.cl [.agg (cfA a)] (lR A) [],.cl [.agg (cfA b)] (lR B) [],.cl [lR A,lR B] (.bool x) []] [] (.bool x) []):=al (cj (rf a.s.r0) (cj (rf a.s.r1) (cj (rf a.s.r2) (cj (rf a.s.r3) (cj (rf a.s.m.length) (cj (rr a.s.m.length 1 fun i j=>aI (List.getD a.s.m i 0)) (cj (rf a.s.st.length) (cj (rr a.s.st.length 1 fun i j=>aI (List.getD a.s.st i 0)) (cj (rf a.s.pc) (cj (rf a.b.length) (cj (rr a.b.length 8 fun i j=>an enC a.b i j) (cj (rf a.r.length) (cj (rr a.r.length 1 fun i j=>aI (a.r.getD i 0)) (cj (rf a.e) (cj ha (cj (rf b.s.r0) (cj (rf b.s.r1) (cj (rf b.s.r2) (cj (rf b.s.r3) (cj (rf b.s.m.length) (cj (rr b.s.m.length 1 fun i j=>aI (List.getD b.s.m i 0)) (cj (rf b.s.st.length) (cj (rr b.s.st.length 1 fun i j=>aI (List.getD b.s.st i 0)) (cj (rf b.s.pc) (cj (rf b.b.length) (cj (rr b.b.length 8 fun i j=>an enC b.b i j) (cj (rf b.r.length) (cj (rr b.r.length 1 fun i j=>aI (b.r.getD i 0)) (cj (rf b.e) (cj hb (cj (rf A.length) (cj (rr A.length 1 fun i j=>aI (A.getD i 0)) (cj (rf B.length) (cj (rr B.length 1 fun i j=>aI (B.getD i 0)) (cj hs (cj (rf x) trivial))))))))))))))))))))))))))))))))))))
theorem Au(a b:Cf)(hb:a.b.length<1000000)(hm:a.s.m.length<1000000)(hst:a.s.st.length<1000000)(hr:a.r.length<1000000)(hb':b.b.length<1000000)(hm':b.s.m.length<1000000)(hst':b.s.st.length<1000000)(hr':b.r.length<1000000):pC_ 10 [.agg (cfA a),.agg (cfA b)] (.bool (decide (ciL a=ciL b))) []:=
 PureC.vc (Dt a b _ _ _ (ciC a hb hm hst hr) (ciC b hb' hm' hst' hr') (Et _ _ (by rw[rP];omega)))
def sW(l:List Int):AV:= .rptr 1 (fun q=>[AV.row 1 l.length (dB l)].getD q .junk) 0
def kN(l:List Int)(i:Nat):Int:=if i<l.length then l.getD i 0 else(i:Int)
def dgS:Nat->ByteArray
 |0=>⟨#[48]⟩
 |1=>⟨#[49]⟩
 |2=>⟨#[50]⟩
 |3=>⟨#[51]⟩
 |4=>⟨#[52]⟩
 |_=>⟨#[53]⟩
theorem GN(l:List Int)(i:Nat)(h:i<l.length)(hi:i<1000):Vc (vF_ 34 [aI i,sW l] [.b true] [] (aI (l.getD i 0)) []):=al (cj (dt ((i:Int)<l.length)) (cj (bi i l.length) (cj (rf (l.getD i 0)) trivial)))
theorem EK(l:List Int)(i:Nat)(h: ¬i<l.length)(hi:i<1000):Vc (vF_ 34 [aI i,sW l] [.b false] [] (aI i) []):=al (cj (df ((i:Int)<l.length)) (cj (rf (i:Int)) trivial))
theorem kC(l:List Int)(i:Nat)(hi:i<1000):pC_ 34 [.int .i64 i,sW l] (.int .i64 (kN l i)) []:=by
 unfold kN
 by_cases h:i<l.length
 ·rw[ai h];exact PureC.vc (GN l i h hi)
 ·rw[af h];exact PureC.vc (EK l i h hi)
theorem dg0:Vc (nM Try.prog true 35 [aI 0] [] [] (.str (dgS 0)) []):=al (cj (rf (dgS (0:Nat))) trivial)
theorem dg1:Vc (nM Try.prog true 35 [aI 1] [] [] (.str (dgS 1)) []):=al (cj (rf (dgS (1:Nat))) trivial)
theorem dg2:Vc (nM Try.prog true 35 [aI 2] [] [] (.str (dgS 2)) []):=al (cj (rf (dgS (2:Nat))) trivial)
theorem dg3:Vc (nM Try.prog true 35 [aI 3] [] [] (.str (dgS 3)) []):=al (cj (rf (dgS (3:Nat))) trivial)
theorem dg4:Vc (nM Try.prog true 35 [aI 4] [] [] (.str (dgS 4)) []):=al (cj (rf (dgS (4:Nat))) trivial)
theorem dg5:Vc (nM Try.prog true 35 [aI 5] [] [] (.str (dgS 5)) []):=al (cj (rf (dgS (5:Nat))) trivial)
theorem Ht(i:Nat)(hi:i<6):pC_ 35 [.int .i64 i] (.str (dgS i)) []:=match i,hi with
 |0,_=>PureC.vc dg0
 |1,_=>PureC.vc dg1
 |2,_=>PureC.vc dg2
 |3,_=>PureC.vc dg3
 |4,_=>PureC.vc dg4
 |5,_=>PureC.vc dg5
def x2(x:Int)(s:Nat):Int:=Int.fdiv x (2^s)
def vlN(x:Int):Vl:=if bits .and .i64 x 4=0 then⟨false,bits .and .i64 x 3⟩ else⟨true,bits .and .i64 x 3⟩
def v0:Vl:=⟨false,0⟩
def tmN(x:Int)(m:Int):Int:=Int.tmod (bits .and .i64 x 255) m
def cP(k:Nat)(x:Int)(n:Nat):In:=match k with
 |1=>⟨1,tmN (x2 x 16) 10+1,bits .and .i64 (x2 x 14) 3,vlN (x2 x 8),vlN (x2 x 11),⟨#[]⟩,0⟩
 |2=>⟨2,0,bits .and .i64 (x2 x 14) 3,vlN (x2 x 8),vlN (x2 x 11),⟨#[]⟩,0⟩
 |3=>⟨3,0,bits .and .i64 (x2 x 14) 3,vlN (x2 x 8),vlN (x2 x 11),⟨#[]⟩,0⟩
 |4=>⟨4,0,bits .and .i64 (x2 x 14) 3,vlN (x2 x 8),vlN (x2 x 11),⟨#[]⟩,0⟩
 |5=>⟨5,([9,10,3,2]:List Int).getD (bits .and .i64 (x2 x 16) 3).toNat 0,0,vlN (x2 x 8),vlN (x2 x 11),⟨#[]⟩,tmN (x2 x 18) (n+1)⟩
 |6=>⟨6,0,0,v0,v0,⟨#[]⟩,tmN (x2 x 18) (n+1)⟩
 |7=>⟨7,0,0,vlN (x2 x 8),v0,⟨#[]⟩,0⟩
 |8=>⟨8,0,0,v0,v0,⟨#[]⟩,tmN (x2 x 18) (n+1)⟩
 |k=>⟨k,0,0,v0,v0,⟨#[]⟩,0⟩
def EJ:List Nat:=[1,1,2,2,2,3,3,4,5,5,5,6,7,8,9,10,11,1]
def ii(x:Int)(n:Nat):In:=cP (EJ.getD (tmN x 18).toNat 0) x n
theorem tW(x:Int)(h:(bits .and .i64 x 4==0)=true):Vc (vF_ 57 [aI x] [.b true] [] (.agg (vlA ⟨false,bits .and .i64 x 3⟩)) []):=al (cj h (cj (rf false) (cj (rf (Go.bits Go.BinOp.and IntKind.i64 x (3:Int))) trivial)))
theorem r9(x:Int)(h:(bits .and .i64 x 4==0)=false):Vc (vF_ 57 [aI x] [.b false] [] (.agg (vlA ⟨true,bits .and .i64 x 3⟩)) []):=al (cj h (cj (rf true) (cj (rf (Go.bits Go.BinOp.and IntKind.i64 x (3:Int))) trivial)))
theorem y9(x:Int):pC_ 57 [.int .i64 x] (.agg (vlA (vlN x))) []:=by
 unfold vlN
 cases h:(bits .and .i64 x 4==0) with
 |true=>rw[ai (by simpa using h)];exact PureC.vc (tW x h)
 |false=>rw[af (by simpa using h)];exact PureC.vc (r9 x h)
theorem qW(y m:Int)(hm:0<m):0<=Int.tmod (bits .and .i64 y 255) m∧Int.tmod (bits .and .i64 y 255) m<m:=by
 have h:=Wd.bits_mask y 8 (by omega)
 have h2:bits .and .i64 y 255=y%256:=h
 rw[h2,Int.tmod_eq_emod_of_nonneg (by omega)]
 exact⟨mJ _ (by omega),jg _ hm⟩
theorem rH(y m:Int)(hm:0<m)(h1:m<=1000):inK .i64 (Int.tmod (bits .and .i64 y 255) m+1):=by
 have:=qW y m hm
 exact dM (by omega) (by omega)
theorem pQ(y:Int): ∃q:Nat,q<4∧bits .and .i64 y 3=(q:Int):=by
 have h:=Wd.bits_mask y 2 (by omega)
 have h2:bits .and .i64 y 3=y%4:=h
 exact⟨(y%4).toNat,by omega,by omega⟩
theorem ev(x:Int):pC_ 57 [aI (x2 x 8)] (.agg (vlA (vlN (x2 x 8)))) []:=y9 _
theorem eu(x:Int):pC_ 57 [aI (x2 x 11)] (.agg (vlA (vlN (x2 x 11)))) []:=y9 _
theorem zH(x:Int)(n:Nat){Z:Prop}(z:Z):(RF (1:Int) (RF (tmN (x2 x (16:Nat)) (10:Int)+1) (RF (Go.bits Go.BinOp.and IntKind.i64 (x2 x (14:Nat)) (3:Int)) (RF ((vlN (x2 x (8:Nat))).reg) (RF ((vlN (x2 x (8:Nat))).n) (RF ((vlN (x2 x (11:Nat))).reg) (RF ((vlN (x2 x (11:Nat))).n) (RF (ByteArray.mk (Array.mk [])) (RF (0:Int) Z))))))))):=⟨rfl,rfl,rfl,rfl,rfl,rfl,rfl,rfl,rfl,z⟩
abbrev eC(x:Int):Orc:= .cl [aI (x2 x 11)] (.agg (vlA (vlN (x2 x 11)))) []
abbrev eD(x:Int):Orc:= .cl [aI (x2 x 8)] (.agg (vlA (vlN (x2 x 8)))) []
theorem GW(x:Int)(n:Nat)(hn:n<100)(hq:Int.tmod (bits .and .i64 x 255) 18=((0:Nat):Int)):Vc (vF_ 36 [aI x, aI n] [.iy 0,eD x,eC x,.ll [3,4]] [] (.agg (inA (cP 1 x n))) []):=al (cj (show(18:Int)≠0 from by omega) (cj (pv (Int.tmod (Go.bits Go.BinOp.and IntKind.i64 x (255:Int)) 18=(0:Nat))) (cj (bi (0:Nat) (18:Nat)) (cj (pv ((0:Nat)<18)) (cj (pv ((0:Int)<=8)) (cj (rf (x2 x (8:Nat))) (cj (ev x) (cj (pv ((0:Int)<=11)) (cj (rf (x2 x (11:Nat))) (cj (eu x) (cj (pv ((0:Int)<=16)) (cj (show(10:Int)≠0 from by omega) (cj (show inK IntKind.i64 (Int.tmod (Go.bits Go.BinOp.and IntKind.i64 (Int.fdiv x ((2:Int)^(16:Nat))) (255:Int)) (10:Int)+1) from(rH _ _ (by omega) (by omega))) (cj (pv ((0:Int)<=14)) (zH x n trivial)))))))))))))))
theorem GV(x:Int)(n:Nat)(hn:n<100)(hq:Int.tmod (bits .and .i64 x 255) 18=((1:Nat):Int)):Vc (vF_ 36 [aI x, aI n] [.iy 1,eD x,eC x,.ll [3,4]] [] (.agg (inA (cP 1 x n))) []):=al (cj (show(18:Int)≠0 from by omega) (cj (pv (Int.tmod (Go.bits Go.BinOp.and IntKind.i64 x (255:Int)) 18=(1:Nat))) (cj (bi (1:Nat) (18:Nat)) (cj (pv ((1:Nat)<18)) (cj (pv ((0:Int)<=8)) (cj (rf (x2 x (8:Nat))) (cj (ev x) (cj (pv ((0:Int)<=11)) (cj (rf (x2 x (11:Nat))) (cj (eu x) (cj (pv ((0:Int)<=16)) (cj (show(10:Int)≠0 from by omega) (cj (show inK IntKind.i64 (Int.tmod (Go.bits Go.BinOp.and IntKind.i64 (Int.fdiv x ((2:Int)^(16:Nat))) (255:Int)) (10:Int)+1) from(rH _ _ (by omega) (by omega))) (cj (pv ((0:Int)<=14)) (zH x n trivial)))))))))))))))
theorem zG(x:Int)(n:Nat){Z:Prop}(z:Z):(RF (2:Int) (RF (0:Int) (RF (Go.bits Go.BinOp.and IntKind.i64 (x2 x (14:Nat)) (3:Int)) (RF ((vlN (x2 x (8:Nat))).reg) (RF ((vlN (x2 x (8:Nat))).n) (RF ((vlN (x2 x (11:Nat))).reg) (RF ((vlN (x2 x (11:Nat))).n) (RF (ByteArray.mk (Array.mk [])) (RF (0:Int) Z))))))))):=⟨rfl,rfl,rfl,rfl,rfl,rfl,rfl,rfl,rfl,z⟩
theorem GU(x:Int)(n:Nat)(hn:n<100)(hq:Int.tmod (bits .and .i64 x 255) 18=((2:Nat):Int)):Vc (vF_ 36 [aI x, aI n] [.iy 2,eD x,eC x,.ll [3,4]] [] (.agg (inA (cP 2 x n))) []):=al (cj (show(18:Int)≠0 from by omega) (cj (pv (Int.tmod (Go.bits Go.BinOp.and IntKind.i64 x (255:Int)) 18=(2:Nat))) (cj (bi (2:Nat) (18:Nat)) (cj (pv ((2:Nat)<18)) (cj (pv ((0:Int)<=8)) (cj (rf (x2 x (8:Nat))) (cj (ev x) (cj (pv ((0:Int)<=11)) (cj (rf (x2 x (11:Nat))) (cj (eu x) (cj (pv ((0:Int)<=14)) (zG x n trivial))))))))))))
theorem GT(x:Int)(n:Nat)(hn:n<100)(hq:Int.tmod (bits .and .i64 x 255) 18=((3:Nat):Int)):Vc (vF_ 36 [aI x, aI n] [.iy 3,eD x,eC x,.ll [3,4]] [] (.agg (inA (cP 2 x n))) []):=al (cj (show(18:Int)≠0 from by omega) (cj (pv (Int.tmod (Go.bits Go.BinOp.and IntKind.i64 x (255:Int)) 18=(3:Nat))) (cj (bi (3:Nat) (18:Nat)) (cj (pv ((3:Nat)<18)) (cj (pv ((0:Int)<=8)) (cj (rf (x2 x (8:Nat))) (cj (ev x) (cj (pv ((0:Int)<=11)) (cj (rf (x2 x (11:Nat))) (cj (eu x) (cj (pv ((0:Int)<=14)) (zG x n trivial))))))))))))
theorem GS(x:Int)(n:Nat)(hn:n<100)(hq:Int.tmod (bits .and .i64 x 255) 18=((4:Nat):Int)):Vc (vF_ 36 [aI x, aI n] [.iy 4,eD x,eC x,.ll [3,4]] [] (.agg (inA (cP 2 x n))) []):=al (cj (show(18:Int)≠0 from by omega) (cj (pv (Int.tmod (Go.bits Go.BinOp.and IntKind.i64 x (255:Int)) 18=(4:Nat))) (cj (bi (4:Nat) (18:Nat)) (cj (pv ((4:Nat)<18)) (cj (pv ((0:Int)<=8)) (cj (rf (x2 x (8:Nat))) (cj (ev x) (cj (pv ((0:Int)<=11)) (cj (rf (x2 x (11:Nat))) (cj (eu x) (cj (pv ((0:Int)<=14)) (zG x n trivial))))))))))))
theorem C3(x:Int)(n:Nat){Z:Prop}(z:Z):(RF (3:Int) (RF (0:Int) (RF (Go.bits Go.BinOp.and IntKind.i64 (x2 x (14:Nat)) (3:Int)) (RF ((vlN (x2 x (8:Nat))).reg) (RF ((vlN (x2 x (8:Nat))).n) (RF ((vlN (x2 x (11:Nat))).reg) (RF ((vlN (x2 x (11:Nat))).n) (RF (ByteArray.mk (Array.mk [])) (RF (0:Int) Z))))))))):=⟨rfl,rfl,rfl,rfl,rfl,rfl,rfl,rfl,rfl,z⟩
theorem GR(x:Int)(n:Nat)(hn:n<100)(hq:Int.tmod (bits .and .i64 x 255) 18=((5:Nat):Int)):Vc (vF_ 36 [aI x, aI n] [.iy 5,eD x,eC x,.ll [3,4]] [] (.agg (inA (cP 3 x n))) []):=al (cj (show(18:Int)≠0 from by omega) (cj (pv (Int.tmod (Go.bits Go.BinOp.and IntKind.i64 x (255:Int)) 18=(5:Nat))) (cj (bi (5:Nat) (18:Nat)) (cj (pv ((5:Nat)<18)) (cj (pv ((0:Int)<=8)) (cj (rf (x2 x (8:Nat))) (cj (ev x) (cj (pv ((0:Int)<=11)) (cj (rf (x2 x (11:Nat))) (cj (eu x) (cj (pv ((0:Int)<=14)) (C3 x n trivial))))))))))))
theorem GQ(x:Int)(n:Nat)(hn:n<100)(hq:Int.tmod (bits .and .i64 x 255) 18=((6:Nat):Int)):Vc (vF_ 36 [aI x, aI n] [.iy 6,eD x,eC x,.ll [3,4]] [] (.agg (inA (cP 3 x n))) []):=al (cj (show(18:Int)≠0 from by omega) (cj (pv (Int.tmod (Go.bits Go.BinOp.and IntKind.i64 x (255:Int)) 18=(6:Nat))) (cj (bi (6:Nat) (18:Nat)) (cj (pv ((6:Nat)<18)) (cj (pv ((0:Int)<=8)) (cj (rf (x2 x (8:Nat))) (cj (ev x) (cj (pv ((0:Int)<=11)) (cj (rf (x2 x (11:Nat))) (cj (eu x) (cj (pv ((0:Int)<=14)) (C3 x n trivial))))))))))))
theorem GP(x:Int)(n:Nat)(hn:n<100)(hq:Int.tmod (bits .and .i64 x 255) 18=((7:Nat):Int)):Vc (vF_ 36 [aI x, aI n] [.iy 7,eD x,eC x,.ll [3,4]] [] (.agg (inA (cP 4 x n))) []):=al (cj (show(18:Int)≠0 from by omega) (cj (pv (Int.tmod (Go.bits Go.BinOp.and IntKind.i64 x (255:Int)) 18=(7:Nat))) (cj (bi (7:Nat) (18:Nat)) (cj (pv ((7:Nat)<18)) (cj (pv ((0:Int)<=8)) (cj (rf (x2 x (8:Nat))) (cj (ev x) (cj (pv ((0:Int)<=11)) (cj (rf (x2 x (11:Nat))) (cj (eu x) (cj (pv ((0:Int)<=14)) (cj (rf (4:Int)) (cj (rf (0:Int)) (cj (rf (Go.bits Go.BinOp.and IntKind.i64 (x2 x (14:Nat)) (3:Int))) (cj (rf ((vlN (x2 x (8:Nat))).reg)) (cj (rf ((vlN (x2 x (8:Nat))).n)) (cj (rf ((vlN (x2 x (11:Nat))).reg)) (cj (rf ((vlN (x2 x (11:Nat))).n)) (cj (rf (ByteArray.mk (Array.mk []))) (cj (rf (0:Int)) trivial))))))))))))))))))))
theorem Ae(x:Int)(hr:bits .and .i64 (Int.fdiv x (2^16)) 3=((0:Nat):Int)):(9:Int)=List.getD [(9:Int),(10:Int),(3:Int),(2:Int)] (Int.toNat (Go.bits Go.BinOp.and IntKind.i64 (x2 x (16:Nat)) (3:Int))) (0:Int):=by rw[show bits .and .i64 (x2 x 16) 3=((0:Nat):Int) from hr];rfl
theorem kR(x:Int)(n:Nat){Z:Prop}(z:Z):(RF (0:Int) (RF ((vlN (x2 x (8:Nat))).reg) (RF ((vlN (x2 x (8:Nat))).n) (RF ((vlN (x2 x (11:Nat))).reg) (RF ((vlN (x2 x (11:Nat))).n) (RF (ByteArray.mk (Array.mk [])) (RF (tmN (x2 x (18:Nat)) ((n:Int)+1)) Z))))))):=⟨rfl,rfl,rfl,rfl,rfl,rfl,rfl,z⟩
theorem BK(x:Int)(n:Nat)(hn:n<100)(hq:Int.tmod (bits .and .i64 x 255) 18=((8:Nat):Int))(hr:bits .and .i64 (Int.fdiv x (2^16)) 3=((0:Nat):Int)):Vc (vF_ 36 [aI x, aI n] [.iy 8,eD x,eC x,.ll [3,4],.iy 0] [] (.agg (inA (cP 5 x n))) []):=al (cj (show(18:Int)≠0 from by omega) (cj (pv (Int.tmod (Go.bits Go.BinOp.and IntKind.i64 x (255:Int)) 18=(8:Nat))) (cj (bi (8:Nat) (18:Nat)) (cj (pv ((8:Nat)<18)) (cj (pv ((0:Int)<=8)) (cj (rf (x2 x (8:Nat))) (cj (ev x) (cj (pv ((0:Int)<=11)) (cj (rf (x2 x (11:Nat))) (cj (eu x) (cj (pv ((0:Int)<=16)) (cj (pv (Go.bits Go.BinOp.and IntKind.i64 (Int.fdiv x ((2:Int)^(16:Nat))) (3:Int)=(0:Nat))) (cj (bi (0:Nat) (4:Nat)) (cj (pv ((0:Nat)<4)) (cj (pv ((0:Int)<=18)) (cj (i6 (n+1)) (cj (show(n:Int)+1≠0 from by omega) (cj (rf (5:Int)) (cj (Ae x hr) (kR x n trivial))))))))))))))))))))
theorem Ad(x:Int)(hr:bits .and .i64 (Int.fdiv x (2^16)) 3=((1:Nat):Int)):(10:Int)=List.getD [(9:Int),(10:Int),(3:Int),(2:Int)] (Int.toNat (Go.bits Go.BinOp.and IntKind.i64 (x2 x (16:Nat)) (3:Int))) (0:Int):=by rw[show bits .and .i64 (x2 x 16) 3=((1:Nat):Int) from hr];rfl
theorem BJ(x:Int)(n:Nat)(hn:n<100)(hq:Int.tmod (bits .and .i64 x 255) 18=((8:Nat):Int))(hr:bits .and .i64 (Int.fdiv x (2^16)) 3=((1:Nat):Int)):Vc (vF_ 36 [aI x, aI n] [.iy 8,eD x,eC x,.ll [3,4],.iy 1] [] (.agg (inA (cP 5 x n))) []):=al (cj (show(18:Int)≠0 from by omega) (cj (pv (Int.tmod (Go.bits Go.BinOp.and IntKind.i64 x (255:Int)) 18=(8:Nat))) (cj (bi (8:Nat) (18:Nat)) (cj (pv ((8:Nat)<18)) (cj (pv ((0:Int)<=8)) (cj (rf (x2 x (8:Nat))) (cj (ev x) (cj (pv ((0:Int)<=11)) (cj (rf (x2 x (11:Nat))) (cj (eu x) (cj (pv ((0:Int)<=16)) (cj (pv (Go.bits Go.BinOp.and IntKind.i64 (Int.fdiv x ((2:Int)^(16:Nat))) (3:Int)=(1:Nat))) (cj (bi (1:Nat) (4:Nat)) (cj (pv ((1:Nat)<4)) (cj (pv ((0:Int)<=18)) (cj (i6 (n+1)) (cj (show(n:Int)+1≠0 from by omega) (cj (rf (5:Int)) (cj (Ad x hr) (kR x n trivial))))))))))))))))))))
theorem Ac(x:Int)(hr:bits .and .i64 (Int.fdiv x (2^16)) 3=((2:Nat):Int)):(3:Int)=List.getD [(9:Int),(10:Int),(3:Int),(2:Int)] (Int.toNat (Go.bits Go.BinOp.and IntKind.i64 (x2 x (16:Nat)) (3:Int))) (0:Int):=by rw[show bits .and .i64 (x2 x 16) 3=((2:Nat):Int) from hr];rfl
theorem BI(x:Int)(n:Nat)(hn:n<100)(hq:Int.tmod (bits .and .i64 x 255) 18=((8:Nat):Int))(hr:bits .and .i64 (Int.fdiv x (2^16)) 3=((2:Nat):Int)):Vc (vF_ 36 [aI x, aI n] [.iy 8,eD x,eC x,.ll [3,4],.iy 2] [] (.agg (inA (cP 5 x n))) []):=al (cj (show(18:Int)≠0 from by omega) (cj (pv (Int.tmod (Go.bits Go.BinOp.and IntKind.i64 x (255:Int)) 18=(8:Nat))) (cj (bi (8:Nat) (18:Nat)) (cj (pv ((8:Nat)<18)) (cj (pv ((0:Int)<=8)) (cj (rf (x2 x (8:Nat))) (cj (ev x) (cj (pv ((0:Int)<=11)) (cj (rf (x2 x (11:Nat))) (cj (eu x) (cj (pv ((0:Int)<=16)) (cj (pv (Go.bits Go.BinOp.and IntKind.i64 (Int.fdiv x ((2:Int)^(16:Nat))) (3:Int)=(2:Nat))) (cj (bi (2:Nat) (4:Nat)) (cj (pv ((2:Nat)<4)) (cj (pv ((0:Int)<=18)) (cj (i6 (n+1)) (cj (show(n:Int)+1≠0 from by omega) (cj (rf (5:Int)) (cj (Ac x hr) (kR x n trivial))))))))))))))))))))
theorem Ab(x:Int)(hr:bits .and .i64 (Int.fdiv x (2^16)) 3=((3:Nat):Int)):(2:Int)=List.getD [(9:Int),(10:Int),(3:Int),(2:Int)] (Int.toNat (Go.bits Go.BinOp.and IntKind.i64 (x2 x (16:Nat)) (3:Int))) (0:Int):=by rw[show bits .and .i64 (x2 x 16) 3=((3:Nat):Int) from hr];rfl
theorem BH(x:Int)(n:Nat)(hn:n<100)(hq:Int.tmod (bits .and .i64 x 255) 18=((8:Nat):Int))(hr:bits .and .i64 (Int.fdiv x (2^16)) 3=((3:Nat):Int)):Vc (vF_ 36 [aI x, aI n] [.iy 8,eD x,eC x,.ll [3,4],.iy 3] [] (.agg (inA (cP 5 x n))) []):=al (cj (show(18:Int)≠0 from by omega) (cj (pv (Int.tmod (Go.bits Go.BinOp.and IntKind.i64 x (255:Int)) 18=(8:Nat))) (cj (bi (8:Nat) (18:Nat)) (cj (pv ((8:Nat)<18)) (cj (pv ((0:Int)<=8)) (cj (rf (x2 x (8:Nat))) (cj (ev x) (cj (pv ((0:Int)<=11)) (cj (rf (x2 x (11:Nat))) (cj (eu x) (cj (pv ((0:Int)<=16)) (cj (pv (Go.bits Go.BinOp.and IntKind.i64 (Int.fdiv x ((2:Int)^(16:Nat))) (3:Int)=(3:Nat))) (cj (bi (3:Nat) (4:Nat)) (cj (pv ((3:Nat)<4)) (cj (pv ((0:Int)<=18)) (cj (i6 (n+1)) (cj (show(n:Int)+1≠0 from by omega) (cj (rf (5:Int)) (cj (Ab x hr) (kR x n trivial))))))))))))))))))))
theorem BG(x:Int)(n:Nat)(hn:n<100)(hq:Int.tmod (bits .and .i64 x 255) 18=((9:Nat):Int))(hr:bits .and .i64 (Int.fdiv x (2^16)) 3=((0:Nat):Int)):Vc (vF_ 36 [aI x, aI n] [.iy 9,eD x,eC x,.ll [3,4],.iy 0] [] (.agg (inA (cP 5 x n))) []):=al (cj (show(18:Int)≠0 from by omega) (cj (pv (Int.tmod (Go.bits Go.BinOp.and IntKind.i64 x (255:Int)) 18=(9:Nat))) (cj (bi (9:Nat) (18:Nat)) (cj (pv ((9:Nat)<18)) (cj (pv ((0:Int)<=8)) (cj (rf (x2 x (8:Nat))) (cj (ev x) (cj (pv ((0:Int)<=11)) (cj (rf (x2 x (11:Nat))) (cj (eu x) (cj (pv ((0:Int)<=16)) (cj (pv (Go.bits Go.BinOp.and IntKind.i64 (Int.fdiv x ((2:Int)^(16:Nat))) (3:Int)=(0:Nat))) (cj (bi (0:Nat) (4:Nat)) (cj (pv ((0:Nat)<4)) (cj (pv ((0:Int)<=18)) (cj (i6 (n+1)) (cj (show(n:Int)+1≠0 from by omega) (cj (rf (5:Int)) (cj (Ae x hr) (kR x n trivial))))))))))))))))))))
theorem BF(x:Int)(n:Nat)(hn:n<100)(hq:Int.tmod (bits .and .i64 x 255) 18=((9:Nat):Int))(hr:bits .and .i64 (Int.fdiv x (2^16)) 3=((1:Nat):Int)):Vc (vF_ 36 [aI x, aI n] [.iy 9,eD x,eC x,.ll [3,4],.iy 1] [] (.agg (inA (cP 5 x n))) []):=al (cj (show(18:Int)≠0 from by omega) (cj (pv (Int.tmod (Go.bits Go.BinOp.and IntKind.i64 x (255:Int)) 18=(9:Nat))) (cj (bi (9:Nat) (18:Nat)) (cj (pv ((9:Nat)<18)) (cj (pv ((0:Int)<=8)) (cj (rf (x2 x (8:Nat))) (cj (ev x) (cj (pv ((0:Int)<=11)) (cj (rf (x2 x (11:Nat))) (cj (eu x) (cj (pv ((0:Int)<=16)) (cj (pv (Go.bits Go.BinOp.and IntKind.i64 (Int.fdiv x ((2:Int)^(16:Nat))) (3:Int)=(1:Nat))) (cj (bi (1:Nat) (4:Nat)) (cj (pv ((1:Nat)<4)) (cj (pv ((0:Int)<=18)) (cj (i6 (n+1)) (cj (show(n:Int)+1≠0 from by omega) (cj (rf (5:Int)) (cj (Ad x hr) (kR x n trivial))))))))))))))))))))
theorem BE(x:Int)(n:Nat)(hn:n<100)(hq:Int.tmod (bits .and .i64 x 255) 18=((9:Nat):Int))(hr:bits .and .i64 (Int.fdiv x (2^16)) 3=((2:Nat):Int)):Vc (vF_ 36 [aI x, aI n] [.iy 9,eD x,eC x,.ll [3,4],.iy 2] [] (.agg (inA (cP 5 x n))) []):=al (cj (show(18:Int)≠0 from by omega) (cj (pv (Int.tmod (Go.bits Go.BinOp.and IntKind.i64 x (255:Int)) 18=(9:Nat))) (cj (bi (9:Nat) (18:Nat)) (cj (pv ((9:Nat)<18)) (cj (pv ((0:Int)<=8)) (cj (rf (x2 x (8:Nat))) (cj (ev x) (cj (pv ((0:Int)<=11)) (cj (rf (x2 x (11:Nat))) (cj (eu x) (cj (pv ((0:Int)<=16)) (cj (pv (Go.bits Go.BinOp.and IntKind.i64 (Int.fdiv x ((2:Int)^(16:Nat))) (3:Int)=(2:Nat))) (cj (bi (2:Nat) (4:Nat)) (cj (pv ((2:Nat)<4)) (cj (pv ((0:Int)<=18)) (cj (i6 (n+1)) (cj (show(n:Int)+1≠0 from by omega) (cj (rf (5:Int)) (cj (Ac x hr) (kR x n trivial))))))))))))))))))))
theorem BD(x:Int)(n:Nat)(hn:n<100)(hq:Int.tmod (bits .and .i64 x 255) 18=((9:Nat):Int))(hr:bits .and .i64 (Int.fdiv x (2^16)) 3=((3:Nat):Int)):Vc (vF_ 36 [aI x, aI n] [.iy 9,eD x,eC x,.ll [3,4],.iy 3] [] (.agg (inA (cP 5 x n))) []):=al (cj (show(18:Int)≠0 from by omega) (cj (pv (Int.tmod (Go.bits Go.BinOp.and IntKind.i64 x (255:Int)) 18=(9:Nat))) (cj (bi (9:Nat) (18:Nat)) (cj (pv ((9:Nat)<18)) (cj (pv ((0:Int)<=8)) (cj (rf (x2 x (8:Nat))) (cj (ev x) (cj (pv ((0:Int)<=11)) (cj (rf (x2 x (11:Nat))) (cj (eu x) (cj (pv ((0:Int)<=16)) (cj (pv (Go.bits Go.BinOp.and IntKind.i64 (Int.fdiv x ((2:Int)^(16:Nat))) (3:Int)=(3:Nat))) (cj (bi (3:Nat) (4:Nat)) (cj (pv ((3:Nat)<4)) (cj (pv ((0:Int)<=18)) (cj (i6 (n+1)) (cj (show(n:Int)+1≠0 from by omega) (cj (rf (5:Int)) (cj (Ab x hr) (kR x n trivial))))))))))))))))))))
theorem xM(x:Int)(n:Nat)(hn:n<100)(hq:Int.tmod (bits .and .i64 x 255) 18=((10:Nat):Int))(hr:bits .and .i64 (Int.fdiv x (2^16)) 3=((0:Nat):Int)):Vc (vF_ 36 [aI x, aI n] [.iy 10,eD x,eC x,.ll [3,4],.iy 0] [] (.agg (inA (cP 5 x n))) []):=al (cj (show(18:Int)≠0 from by omega) (cj (pv (Int.tmod (Go.bits Go.BinOp.and IntKind.i64 x (255:Int)) 18=(10:Nat))) (cj (bi (10:Nat) (18:Nat)) (cj (pv ((10:Nat)<18)) (cj (pv ((0:Int)<=8)) (cj (rf (x2 x (8:Nat))) (cj (ev x) (cj (pv ((0:Int)<=11)) (cj (rf (x2 x (11:Nat))) (cj (eu x) (cj (pv ((0:Int)<=16)) (cj (pv (Go.bits Go.BinOp.and IntKind.i64 (Int.fdiv x ((2:Int)^(16:Nat))) (3:Int)=(0:Nat))) (cj (bi (0:Nat) (4:Nat)) (cj (pv ((0:Nat)<4)) (cj (pv ((0:Int)<=18)) (cj (i6 (n+1)) (cj (show(n:Int)+1≠0 from by omega) (cj (rf (5:Int)) (cj (Ae x hr) (kR x n trivial))))))))))))))))))))
theorem xL(x:Int)(n:Nat)(hn:n<100)(hq:Int.tmod (bits .and .i64 x 255) 18=((10:Nat):Int))(hr:bits .and .i64 (Int.fdiv x (2^16)) 3=((1:Nat):Int)):Vc (vF_ 36 [aI x, aI n] [.iy 10,eD x,eC x,.ll [3,4],.iy 1] [] (.agg (inA (cP 5 x n))) []):=al (cj (show(18:Int)≠0 from by omega) (cj (pv (Int.tmod (Go.bits Go.BinOp.and IntKind.i64 x (255:Int)) 18=(10:Nat))) (cj (bi (10:Nat) (18:Nat)) (cj (pv ((10:Nat)<18)) (cj (pv ((0:Int)<=8)) (cj (rf (x2 x (8:Nat))) (cj (ev x) (cj (pv ((0:Int)<=11)) (cj (rf (x2 x (11:Nat))) (cj (eu x) (cj (pv ((0:Int)<=16)) (cj (pv (Go.bits Go.BinOp.and IntKind.i64 (Int.fdiv x ((2:Int)^(16:Nat))) (3:Int)=(1:Nat))) (cj (bi (1:Nat) (4:Nat)) (cj (pv ((1:Nat)<4)) (cj (pv ((0:Int)<=18)) (cj (i6 (n+1)) (cj (show(n:Int)+1≠0 from by omega) (cj (rf (5:Int)) (cj (Ad x hr) (kR x n trivial))))))))))))))))))))
theorem xK(x:Int)(n:Nat)(hn:n<100)(hq:Int.tmod (bits .and .i64 x 255) 18=((10:Nat):Int))(hr:bits .and .i64 (Int.fdiv x (2^16)) 3=((2:Nat):Int)):Vc (vF_ 36 [aI x, aI n] [.iy 10,eD x,eC x,.ll [3,4],.iy 2] [] (.agg (inA (cP 5 x n))) []):=al (cj (show(18:Int)≠0 from by omega) (cj (pv (Int.tmod (Go.bits Go.BinOp.and IntKind.i64 x (255:Int)) 18=(10:Nat))) (cj (bi (10:Nat) (18:Nat)) (cj (pv ((10:Nat)<18)) (cj (pv ((0:Int)<=8)) (cj (rf (x2 x (8:Nat))) (cj (ev x) (cj (pv ((0:Int)<=11)) (cj (rf (x2 x (11:Nat))) (cj (eu x) (cj (pv ((0:Int)<=16)) (cj (pv (Go.bits Go.BinOp.and IntKind.i64 (Int.fdiv x ((2:Int)^(16:Nat))) (3:Int)=(2:Nat))) (cj (bi (2:Nat) (4:Nat)) (cj (pv ((2:Nat)<4)) (cj (pv ((0:Int)<=18)) (cj (i6 (n+1)) (cj (show(n:Int)+1≠0 from by omega) (cj (rf (5:Int)) (cj (Ac x hr) (kR x n trivial))))))))))))))))))))
theorem xJ(x:Int)(n:Nat)(hn:n<100)(hq:Int.tmod (bits .and .i64 x 255) 18=((10:Nat):Int))(hr:bits .and .i64 (Int.fdiv x (2^16)) 3=((3:Nat):Int)):Vc (vF_ 36 [aI x, aI n] [.iy 10,eD x,eC x,.ll [3,4],.iy 3] [] (.agg (inA (cP 5 x n))) []):=al (cj (show(18:Int)≠0 from by omega) (cj (pv (Int.tmod (Go.bits Go.BinOp.and IntKind.i64 x (255:Int)) 18=(10:Nat))) (cj (bi (10:Nat) (18:Nat)) (cj (pv ((10:Nat)<18)) (cj (pv ((0:Int)<=8)) (cj (rf (x2 x (8:Nat))) (cj (ev x) (cj (pv ((0:Int)<=11)) (cj (rf (x2 x (11:Nat))) (cj (eu x) (cj (pv ((0:Int)<=16)) (cj (pv (Go.bits Go.BinOp.and IntKind.i64 (Int.fdiv x ((2:Int)^(16:Nat))) (3:Int)=(3:Nat))) (cj (bi (3:Nat) (4:Nat)) (cj (pv ((3:Nat)<4)) (cj (pv ((0:Int)<=18)) (cj (i6 (n+1)) (cj (show(n:Int)+1≠0 from by omega) (cj (rf (5:Int)) (cj (Ab x hr) (kR x n trivial))))))))))))))))))))
theorem C2(x:Int)(n:Nat){Z:Prop}(z:Z):(RF (0:Int) (RF (0:Int) (RF false (RF (0:Int) (RF false (RF (0:Int) (RF (ByteArray.mk (Array.mk [])) (RF (tmN (x2 x (18:Nat)) ((n:Int)+1)) Z)))))))):=⟨rfl,rfl,rfl,rfl,rfl,rfl,rfl,rfl,z⟩
theorem EU(x:Int)(n:Nat)(hn:n<100)(hq:Int.tmod (bits .and .i64 x 255) 18=((11:Nat):Int)):Vc (vF_ 36 [aI x, aI n] [.iy 11,eD x,eC x] [] (.agg (inA (cP 6 x n))) []):=al (cj (show(18:Int)≠0 from by omega) (cj (pv (Int.tmod (Go.bits Go.BinOp.and IntKind.i64 x (255:Int)) 18=(11:Nat))) (cj (bi (11:Nat) (18:Nat)) (cj (pv ((11:Nat)<18)) (cj (pv ((0:Int)<=8)) (cj (rf (x2 x (8:Nat))) (cj (ev x) (cj (pv ((0:Int)<=11)) (cj (rf (x2 x (11:Nat))) (cj (eu x) (cj (pv ((0:Int)<=18)) (cj (i6 (n+1)) (cj (show(n:Int)+1≠0 from by omega) (cj (rf (6:Int)) (C2 x n trivial)))))))))))))))
theorem ET(x:Int)(n:Nat)(hn:n<100)(hq:Int.tmod (bits .and .i64 x 255) 18=((12:Nat):Int)):Vc (vF_ 36 [aI x, aI n] [.iy 12,eD x,eC x] [] (.agg (inA (cP 7 x n))) []):=al (cj (show(18:Int)≠0 from by omega) (cj (pv (Int.tmod (Go.bits Go.BinOp.and IntKind.i64 x (255:Int)) 18=(12:Nat))) (cj (bi (12:Nat) (18:Nat)) (cj (pv ((12:Nat)<18)) (cj (pv ((0:Int)<=8)) (cj (rf (x2 x (8:Nat))) (cj (ev x) (cj (pv ((0:Int)<=11)) (cj (rf (x2 x (11:Nat))) (cj (eu x) (cj (rf (7:Int)) (cj (rf (0:Int)) (cj (rf (0:Int)) (cj (rf ((vlN (x2 x (8:Nat))).reg)) (cj (rf ((vlN (x2 x (8:Nat))).n)) (cj (rf false) (cj (rf (0:Int)) (cj (rf (ByteArray.mk (Array.mk []))) (cj (rf (0:Int)) trivial)))))))))))))))))))
theorem ES(x:Int)(n:Nat)(hn:n<100)(hq:Int.tmod (bits .and .i64 x 255) 18=((13:Nat):Int)):Vc (vF_ 36 [aI x, aI n] [.iy 13,eD x,eC x] [] (.agg (inA (cP 8 x n))) []):=al (cj (show(18:Int)≠0 from by omega) (cj (pv (Int.tmod (Go.bits Go.BinOp.and IntKind.i64 x (255:Int)) 18=(13:Nat))) (cj (bi (13:Nat) (18:Nat)) (cj (pv ((13:Nat)<18)) (cj (pv ((0:Int)<=8)) (cj (rf (x2 x (8:Nat))) (cj (ev x) (cj (pv ((0:Int)<=11)) (cj (rf (x2 x (11:Nat))) (cj (eu x) (cj (pv ((0:Int)<=18)) (cj (i6 (n+1)) (cj (show(n:Int)+1≠0 from by omega) (cj (rf (8:Int)) (C2 x n trivial)))))))))))))))
theorem zF{Z:Prop}(z:Z):(RF (0:Int) (RF (0:Int) (RF false (RF (0:Int) (RF false (RF (0:Int) (RF (ByteArray.mk (Array.mk [])) (RF (0:Int) Z)))))))):=⟨rfl,rfl,rfl,rfl,rfl,rfl,rfl,rfl,z⟩
theorem ER(x:Int)(n:Nat)(hn:n<100)(hq:Int.tmod (bits .and .i64 x 255) 18=((14:Nat):Int)):Vc (vF_ 36 [aI x, aI n] [.iy 14,eD x,eC x] [] (.agg (inA (cP 9 x n))) []):=al (cj (show(18:Int)≠0 from by omega) (cj (pv (Int.tmod (Go.bits Go.BinOp.and IntKind.i64 x (255:Int)) 18=(14:Nat))) (cj (bi (14:Nat) (18:Nat)) (cj (pv ((14:Nat)<18)) (cj (pv ((0:Int)<=8)) (cj (rf (x2 x (8:Nat))) (cj (ev x) (cj (pv ((0:Int)<=11)) (cj (rf (x2 x (11:Nat))) (cj (eu x) (cj (rf (9:Int)) (zF trivial))))))))))))
theorem EQ(x:Int)(n:Nat)(hn:n<100)(hq:Int.tmod (bits .and .i64 x 255) 18=((15:Nat):Int)):Vc (vF_ 36 [aI x, aI n] [.iy 15,eD x,eC x] [] (.agg (inA (cP 10 x n))) []):=al (cj (show(18:Int)≠0 from by omega) (cj (pv (Int.tmod (Go.bits Go.BinOp.and IntKind.i64 x (255:Int)) 18=(15:Nat))) (cj (bi (15:Nat) (18:Nat)) (cj (pv ((15:Nat)<18)) (cj (pv ((0:Int)<=8)) (cj (rf (x2 x (8:Nat))) (cj (ev x) (cj (pv ((0:Int)<=11)) (cj (rf (x2 x (11:Nat))) (cj (eu x) (cj (rf (10:Int)) (zF trivial))))))))))))
theorem EP(x:Int)(n:Nat)(hn:n<100)(hq:Int.tmod (bits .and .i64 x 255) 18=((16:Nat):Int)):Vc (vF_ 36 [aI x, aI n] [.iy 16,eD x,eC x] [] (.agg (inA (cP 11 x n))) []):=al (cj (show(18:Int)≠0 from by omega) (cj (pv (Int.tmod (Go.bits Go.BinOp.and IntKind.i64 x (255:Int)) 18=(16:Nat))) (cj (bi (16:Nat) (18:Nat)) (cj (pv ((16:Nat)<18)) (cj (pv ((0:Int)<=8)) (cj (rf (x2 x (8:Nat))) (cj (ev x) (cj (pv ((0:Int)<=11)) (cj (rf (x2 x (11:Nat))) (cj (eu x) (cj (rf (11:Int)) (zF trivial))))))))))))
theorem EO(x:Int)(n:Nat)(hn:n<100)(hq:Int.tmod (bits .and .i64 x 255) 18=((17:Nat):Int)):Vc (vF_ 36 [aI x, aI n] [.iy 17,eD x,eC x,.ll [3,4]] [] (.agg (inA (cP 1 x n))) []):=al (cj (show(18:Int)≠0 from by omega) (cj (pv (Int.tmod (Go.bits Go.BinOp.and IntKind.i64 x (255:Int)) 18=(17:Nat))) (cj (bi (17:Nat) (18:Nat)) (cj (pv ((17:Nat)<18)) (cj (pv ((0:Int)<=8)) (cj (rf (x2 x (8:Nat))) (cj (ev x) (cj (pv ((0:Int)<=11)) (cj (rf (x2 x (11:Nat))) (cj (eu x) (cj (pv ((0:Int)<=16)) (cj (show(10:Int)≠0 from by omega) (cj (show inK IntKind.i64 (Int.tmod (Go.bits Go.BinOp.and IntKind.i64 (Int.fdiv x ((2:Int)^(16:Nat))) (255:Int)) (10:Int)+1) from(rH _ _ (by omega) (by omega))) (cj (pv ((0:Int)<=14)) (zH x n trivial)))))))))))))))
theorem EB(x:Int)(n:Nat)(hn:n<100):pC_ 36 [.int .i64 x,.int .i64 n] (.agg (inA (ii x n))) []:=by
 have hb:=qW x 18 (by omega)
 obtain⟨q,e⟩: ∃q:Nat,Int.tmod (bits .and .i64 x 255) 18=(q:Int):=⟨(Int.tmod (bits .and .i64 x 255) 18).toNat,by omega⟩
 have hq:q<18:=by omega
 unfold ii tmN
 rw[e,aK]
 match q,hq,e with
 |0,_,e=>exact PureC.vc (GW x n hn e)
 |1,_,e=>exact PureC.vc (GV x n hn e)
 |2,_,e=>exact PureC.vc (GU x n hn e)
 |3,_,e=>exact PureC.vc (GT x n hn e)
 |4,_,e=>exact PureC.vc (GS x n hn e)
 |5,_,e=>exact PureC.vc (GR x n hn e)
 |6,_,e=>exact PureC.vc (GQ x n hn e)
 |7,_,e=>exact PureC.vc (GP x n hn e)
 |8,_,e=>obtain⟨r,hr,e2⟩:=pQ (Int.fdiv x (2^16));exact(match r,hr,e2 with |0,_,e2=>PureC.vc (BK x n hn e e2)|1,_,e2=>PureC.vc (BJ x n hn e e2)|2,_,e2=>PureC.vc (BI x n hn e e2)|3,_,e2=>PureC.vc (BH x n hn e e2))
 |9,_,e=>obtain⟨r,hr,e2⟩:=pQ (Int.fdiv x (2^16));exact(match r,hr,e2 with |0,_,e2=>PureC.vc (BG x n hn e e2)|1,_,e2=>PureC.vc (BF x n hn e e2)|2,_,e2=>PureC.vc (BE x n hn e e2)|3,_,e2=>PureC.vc (BD x n hn e e2))
 |10,_,e=>obtain⟨r,hr,e2⟩:=pQ (Int.fdiv x (2^16));exact(match r,hr,e2 with |0,_,e2=>PureC.vc (xM x n hn e e2)|1,_,e2=>PureC.vc (xL x n hn e e2)|2,_,e2=>PureC.vc (xK x n hn e e2)|3,_,e2=>PureC.vc (xJ x n hn e e2))
 |11,_,e=>exact PureC.vc (EU x n hn e)
 |12,_,e=>exact PureC.vc (ET x n hn e)
 |13,_,e=>exact PureC.vc (ES x n hn e)
 |14,_,e=>exact PureC.vc (ER x n hn e)
 |15,_,e=>exact PureC.vc (EQ x n hn e)
 |16,_,e=>exact PureC.vc (EP x n hn e)
 |17,_,e=>exact PureC.vc (EO x n hn e)
 |_+18,h,_=>exact absurd h (by omega)
end
end Go.Proofs.Ytdanmboalfmifaa.Px
