import Derived.Test.YtlfldlnohmobmaaGreatMbE
import Derived.Test.YtlfldlnohmobmaaGreatMbD
set_option linter.unusedVariables false
set_option linter.unusedSimpArgs false
set_option maxRecDepth 100000
namespace Go.Proofs.YtlfldlnohmobmaaGreat.Px
section
open Go.RowKit Go.Proofs.YtlfldlnohmobmaaGreat.Rx
theorem kY{l:List En}{k:Nat}{g:En->En}(hg: ∀e,(g e).pc=e.pc)(h:Nat):((l.set k (g (l.getD k default))).getD h default).pc=(l.getD h default).pc:=by
 by_cases hq:k=h
 ·subst hq
  by_cases hk:k<l.length
  ·simp[List.getD,hk,hg]
  ·simp[List.getD,hk]
 ·simp[List.getD,b9,hq]
def qi(p:Pg)(c:Cf)(k:Nat):Cf×List Ob:=
 if(c.s.m.length:Int)<=adV p c k (enX p c k) then(upE c k fun e=>(e.ad (adV p c k (enX p c k))).flt,[])
 else match hzV p (upE c k fun e=>e.ad (adV p c k (enX p c k))).b k (adV p c k (enX p c k)) with
  | (h,true)=>(⟨c.s.go ((upE c k fun e=>e.ad (adV p c k (enX p c k))).b.getD h.toNat default).pc,(upE c k fun e=>e.ad (adV p c k (enX p c k))).b.take h.toNat,c.r,c.e⟩,[⟨2,adV p c k (enX p c k)⟩])
  | (_,false)=>(upE c k fun e=>e.ad (adV p c k (enX p c k)),[⟨2,adV p c k (enX p c k)⟩])
def adrO(p:Pg)(c:Cf)(i:Int):Option (Cf×List Ob):=if caV p c i=true then some (qi p c i.toNat) else none
theorem zT(c:Cf){Z:Prop}(z:Z):(RR c.s.m.length 1 (fun i j=>aI (List.getD c.s.m i 0)) (RF c.s.st.length (RR c.s.st.length 1 (fun i j=>aI (List.getD c.s.st i 0)) (RF c.s.pc (RF c.b.length (RR c.b.length 8 (fun i j=>ao enC c.b i j) (RF c.r.length (RR c.r.length 1 (fun i j=>aI (c.r.getD i 0)) (RF c.e Z))))))))):=⟨fun _ _ _ _=>rfl,rfl,fun _ _ _ _=>rfl,rfl,rfl,fun _ _ _ _=>rfl,rfl,fun _ _ _ _=>rfl,rfl,z⟩
theorem sf(p:Pg)(c:Cf){Z:Prop}(z:Z):(RF p.ls.length (RR p.ls.length 2 (fun i j=>ao lbC p.ls i j) (RF p.is.length (RR p.is.length 9 (fun i j=>ao inC p.is i j) (RF c.s.r0 (RF c.s.r1 (RF c.s.r2 (RF c.s.r3 (RF c.s.m.length Z))))))))):=⟨rfl,fun _ _ _ _=>rfl,rfl,fun _ _ _ _=>rfl,rfl,rfl,rfl,rfl,rfl,z⟩
theorem ma(p:Pg){Z:Prop}(z:Z):(RF p.W (RF p.win (RF p.fuel (RF p.r0 (RF p.r1 (RF p.r2 (RF p.r3 (RF p.ms.length (RR p.ms.length 3 (fun i j=>ao mmC p.ms i j) Z))))))))):=⟨rfl,rfl,rfl,rfl,rfl,rfl,rfl,rfl,fun _ _ _ _=>rfl,z⟩
theorem PX(p:Pg)(c:Cf)(i:Int)(hC:pC_ 48 [.agg (pgA p),.agg (cfA c), aI i] (.bool false) []):Vc (vF_ 15 [.agg (pgA p),.agg (cfA c), aI i] [.fv,.cl [.agg (pgA p),.agg (cfA c), aI i] (.bool false) []] [] (.tup [.agg (cfA Cf0),.nils,.bool false]) []):=aj (ma p (sf p c (zT c (cj (rf i) (cj hC (cj (rf (0:Int)) (cj (rf (0:Int)) (cj (rf (0:Int)) (cj (rf (0:Int)) (cj (rf (0:Nat)) (cj (rf (0:Nat)) (cj (rf (0:Int)) (cj (rf (0:Nat)) (cj (rf (0:Nat)) (cj (rf (0:Int)) (cj (rf false) trivial))))))))))))))))
theorem ER(p:Pg)(c:Cf)(k:Nat)(a:Int)(b:Int):Option.some (bif Nat.ble (6:Nat) (2:Nat)&&Nat.blt (2:Nat) (7:Nat)&&Nat.beq (k+0) (k+0) then AV.bool true else bif Nat.ble (2:Nat) (2:Nat)&&Nat.blt (2:Nat) (3:Nat)&&Nat.beq (k+0) (k+0) then aI (Wd.maskV p.W (a+b)) else aI (c.b.getD (k+0-0) default).adr)=Option.some (aI (Wd.maskV p.W (a+b))):=by rw[dc];rfl
theorem Im(c:Cf){Z:Prop}(z:Z):(RF c.s.r0 (RF c.s.r1 (RF c.s.r2 (RF c.s.r3 (RF c.s.m.length (RR c.s.m.length 1 (fun i j=>aI (List.getD c.s.m i 0)) (RF c.s.st.length (RR c.s.st.length 1 (fun i j=>aI (List.getD c.s.st i 0)) (RF c.s.pc Z))))))))):=⟨rfl,rfl,rfl,rfl,rfl,fun _ _ _ _=>rfl,rfl,fun _ _ _ _=>rfl,rfl,z⟩
theorem DV(p:Pg)(c:Cf)(k:Nat)(a:Int)(b:Int){Z:Prop}(z:Z):(RF ((enX p c k).a.n) (RF ((enX p c k).b.reg) (RF ((enX p c k).b.n) (RF ((enX p c k).nm) (RF ((enX p c k).tg) Z))))):=⟨rfl,rfl,rfl,rfl,rfl,z⟩
theorem DU(p:Pg)(c:Cf)(k:Nat)(a:Int)(b:Int)(d:Int){Z:Prop}(z:Z):(RR (0+c.b.length) 8 (fun i j=>ao enC c.b i j) (RF c.r.length (RR c.r.length 1 (fun i j=>aI (c.r.getD i 0)) (RF c.e (RF (k:Int) (RF ((enX p c k).kind) (RF ((enX p c k).op) (RF ((enX p c k).d) (RF ((enX p c k).a.reg) Z))))))))):=⟨fun _ _ _ _=>rfl,rfl,fun _ _ _ _=>rfl,rfl,rfl,rfl,rfl,rfl,rfl,z⟩
theorem DT(c:Cf){Z:Prop}(z:Z):(RR c.s.m.length 1 (fun i j=>aI (List.getD c.s.m i 0)) (RF c.s.st.length (RR c.s.st.length 1 (fun i j=>aI (List.getD c.s.st i 0)) (RF c.s.pc Z)))):=⟨fun _ _ _ _=>rfl,rfl,fun _ _ _ _=>rfl,rfl,z⟩
theorem DR(p:Pg)(c:Cf)(k:Nat)(b:Int){Z:Prop}(z:Z):(RF p.ls.length (RR p.ls.length 2 (fun i j=>ao lbC p.ls i j) (RF p.is.length (RR p.is.length 9 (fun i j=>ao inC p.is i j) (RF ((c.b.getD k default).pc) Z))))):=⟨rfl,fun _ _ _ _=>rfl,rfl,fun _ _ _ _=>rfl,rfl,z⟩
abbrev FC(p:Pg)(c:Cf)(k:Nat)(a:Int)(b:Int)(d:Int)(ab:Bool)(so:Bool):Prop:=PureC Tryz.prog 38 [.agg (pgA p),.agg (cfA c),.int .i64 k,.agg (inA (enX p c k))] (.tup [.int .i64 a,.int .i64 b,.int .i64 d,.bool ab,.bool so]) []
abbrev FD(p:Pg)(c:Cf)(k:Nat):Prop:=PureC Tryz.prog 48 [.agg (pgA p),.agg (cfA c),.int .i64 k] (.bool true) []
abbrev FU(p:Pg)(c:Cf)(k:Nat)(a:Int)(b:Int)(d:Int)(ab:Bool)(so:Bool):Orc:= .cp [.agg (pgA p),.agg (cfA c), aI k,.agg (inA (enX p c k))] (.tup [aI a, aI b, aI d,.bool ab,.bool so])
abbrev FV(p:Pg)(c:Cf)(k:Nat):Orc:= .cl [.agg (pgA p), aI (c.b.getD k default).pc] (.agg (inA (enX p c k))) []
abbrev FT(p:Pg)(a:Int)(b:Int):Orc:= .cl [aI p.W, aI (a+b)] (aI (Wd.maskV p.W (a+b))) []
abbrev FW(p:Pg)(c:Cf)(k:Nat):Orc:= .cl [.agg (pgA p),.agg (cfA c), aI k] (.bool true) []
theorem PY(p:Pg)(c:Cf)(k:Nat)(hk:k<c.b.length)(hb:c.b.length<900000)(a b d:Int)(ab so:Bool)(hC:FD p c k)(hT:FC p c k a b d ab so)(hab: -1000000<=a+b∧a+b<=1000000)(hm:c.s.m.length<1000000)(ho:(c.s.m.length:Int)<=(Wd.maskV p.W (a+b))):Vc (vF_ 15 [.agg (pgA p),.agg (cfA c), aI k] [.fv,FW p c k,FV p c k,FU p c k a b d ab so,FT p a b,.lv (aI (Wd.maskV p.W (a+b))),.bd true] [] (.tup [.agg (cfA (upE c k fun e=>(e.ad (Wd.maskV p.W (a+b))).flt)),.nils,.bool true]) []):=aj (ma p (sf p c (zT c (cj (rf (k:Int)) (cj hC (cj (ap 0 c.b.length 48) (cj (bi k (↑((0:Nat)+c.b.length):Int)) (cj (lz k c.b.length) (ma p (DR p c k b (cj (bL p (c.b.getD k default).pc) (ma p (sf p c (DT c (cj (za c.b.length) (DU p c k a b d (DV p c k a b (cj hT (cj (i6 (a+b)) (cj (rf p.W) (cj (rf (a+b)) (cj (bI p.W (a+b)) (cj (lz k c.b.length) (cj (lz k c.b.length) (cj (ER p c k a b) (cj (lz k c.b.length) (cj (dt (Wd.maskV p.W (a+b)>=(↑(c.s.m.length):Int))) (cj (lz k c.b.length) (Im c (cj (pv ((0:Nat)+c.b.length=(List.set c.b k (En.flt (En.ad (Wd.maskV p.W (a+b)) (c.b.getD k default)))).length)) (cj (show ∀(i:Nat),i<0+c.b.length-> ∀(j:Nat),j<8->(bif Nat.ble (7:Nat) j&&Nat.blt j (8:Nat)&&Nat.beq (i+0) (k+0) then List.getD [AV.bool true] (j-7) AV.junk else bif Nat.ble (6:Nat) j&&Nat.blt j (7:Nat)&&Nat.beq (i+0) (k+0) then List.getD [AV.bool true] (j-6) AV.junk else bif Nat.ble (2:Nat) j&&Nat.blt j (3:Nat)&&Nat.beq (i+0) (k+0) then List.getD [aI (Wd.maskV p.W (a+b))] (j-2) AV.junk else bif Nat.blt (i+0) (0:Nat) then AV.junk else ao enC c.b (i+0-0) j)=ao enC (List.set c.b k (En.flt (En.ad (Wd.maskV p.W (a+b)) (c.b.getD k default)))) i j from(fun i hi j hj=>by cases hq:Nat.beq (i+0) (k+0) with |true=>obtain rfl:=kJ (i:=i) hq;rw[dz hk];exact(match j,hj with |0,_=>rfl |1,_=>rfl |2,_=>rfl |3,_=>rfl |4,_=>rfl |5,_=>rfl |6,_=>rfl |7,_=>rfl)|false=>rw[fM (i:=i) hq];exact(match j,hj with |0,_=>rfl |1,_=>rfl |2,_=>rfl |3,_=>rfl |4,_=>rfl |5,_=>rfl |6,_=>rfl |7,_=>rfl))) (cj (rf c.r.length) (cj (rr c.r.length 1 fun i j=>aI (c.r.getD i 0)) (cj (rf c.e) (cj (rf true) trivial)))))))))))))))))))))))))))))))))))
theorem EQ(p:Pg)(c:Cf)(k:Nat)(hk:k<c.b.length)(a:Int)(b:Int): ∀(i:Nat),i<0+c.b.length-> ∀(j:Nat),j<8->(bif Nat.ble (6:Nat) j&&Nat.blt j (7:Nat)&&Nat.beq (i+0) (k+0) then List.getD [AV.bool true] (j-6) AV.junk else bif Nat.ble (2:Nat) j&&Nat.blt j (3:Nat)&&Nat.beq (i+0) (k+0) then List.getD [aI (Wd.maskV p.W (a+b))] (j-2) AV.junk else bif Nat.blt (i+0) (0:Nat) then AV.junk else ao enC c.b (i+0-0) j)=ao enC (List.set c.b k (En.ad (Wd.maskV p.W (a+b)) (c.b.getD k default))) i j:=(fun i hi j hj=>by cases hq:Nat.beq (i+0) (k+0) with |true=>obtain rfl:=kJ (i:=i) hq;rw[dz hk];exact(match j,hj with |0,_=>rfl |1,_=>rfl |2,_=>rfl |3,_=>rfl |4,_=>rfl |5,_=>rfl |6,_=>rfl |7,_=>rfl)|false=>rw[fM (i:=i) hq];exact(match j,hj with |0,_=>rfl |1,_=>rfl |2,_=>rfl |3,_=>rfl |4,_=>rfl |5,_=>rfl |6,_=>rfl |7,_=>rfl))
theorem JY(p:Pg)(a:Int)(b:Int): ∀(i:Nat),i<1-> ∀(j:Nat),j<2->List.getD [aI 2,aI (Wd.maskV p.W (a+b))] ((i+0)*2+j) AV.junk=ao obC [Ob.mk (2:Int) (Wd.maskV p.W (a+b))] i j:=(fun i hi j hj=>match i,hi,j,hj with |0,_,0,_=>rfl |0,_,1,_=>rfl)
theorem Il(c:Cf){Z:Prop}(z:Z):(RF c.r.length (RR c.r.length 1 (fun i j=>aI (c.r.getD i 0)) (RF c.e (RF (1:Nat) Z)))):=⟨rfl,fun _ _ _ _=>rfl,rfl,rfl,z⟩
theorem Ik(p:Pg){Z:Prop}(z:Z):(RF p.ls.length (RR p.ls.length 2 (fun i j=>ao lbC p.ls i j) (RF p.is.length (RR p.is.length 9 (fun i j=>ao inC p.is i j) Z)))):=⟨rfl,fun _ _ _ _=>rfl,rfl,fun _ _ _ _=>rfl,z⟩
theorem PZ(p:Pg)(c:Cf)(k:Nat)(hk:k<c.b.length)(hb:c.b.length<900000)(a b d:Int)(ab so:Bool)(hC:FD p c k)(hT:FC p c k a b d ab so)(hab: -1000000<=a+b∧a+b<=1000000)(hm:c.s.m.length<1000000)(ho: ¬(c.s.m.length:Int)<=(Wd.maskV p.W (a+b)))(q1:Int)(hH:pC_ 49 [.agg (pgA p),enR (c.b.set k ((c.b.getD k default).ad (Wd.maskV p.W (a+b)))), aI k, aI (Wd.maskV p.W (a+b))] (.tup [aI q1,.bool false]) []):Vc (vF_ 15 [.agg (pgA p),.agg (cfA c), aI k] [.fv,FW p c k,FV p c k,FU p c k a b d ab so,FT p a b,.lv (aI (Wd.maskV p.W (a+b))),.bd false,.cp [.agg (pgA p),enR (c.b.set k ((c.b.getD k default).ad (Wd.maskV p.W (a+b)))), aI k, aI (Wd.maskV p.W (a+b))] (.tup [aI q1,.bool false])] [] (.tup [.agg (cfA (upE c k fun e=>e.ad (Wd.maskV p.W (a+b)))),(obR [⟨2,(Wd.maskV p.W (a+b))⟩]),.bool true]) []):=aj (ma p (sf p c (zT c (cj (rf (k:Int)) (cj hC (cj (ap 0 c.b.length 48) (cj (bi k (↑((0:Nat)+c.b.length):Int)) (cj (lz k c.b.length) (ma p (DR p c k b (cj (bL p (c.b.getD k default).pc) (ma p (sf p c (DT c (cj (za c.b.length) (DU p c k a b d (DV p c k a b (cj hT (cj (i6 (a+b)) (cj (rf p.W) (cj (rf (a+b)) (cj (bI p.W (a+b)) (cj (lz k c.b.length) (cj (lz k c.b.length) (cj (ER p c k a b) (cj (lz k c.b.length) (cj (df (Wd.maskV p.W (a+b)>=(↑(c.s.m.length):Int))) (ma p (Ik p (cj (pv ((0:Nat)+c.b.length=(List.set c.b k (En.ad (Wd.maskV p.W (a+b)) (c.b.getD k default))).length)) (cj (EQ p c k hk a b) (cj (rf (k:Int)) (cj (rf (Wd.maskV p.W (a+b))) (cj hH (Im c (cj (pv ((0:Nat)+c.b.length=(List.set c.b k (En.ad (Wd.maskV p.W (a+b)) (c.b.getD k default))).length)) (cj (EQ p c k hk a b) (Il c (cj (JY p a b) (cj (rf true) trivial))))))))))))))))))))))))))))))))))))))))
theorem PW(p:Pg)(c:Cf)(k:Nat)(hk:k<c.b.length)(hb:c.b.length<900000)(a b d:Int)(ab so:Bool)(hC:FD p c k)(hT:FC p c k a b d ab so)(hab: -1000000<=a+b∧a+b<=1000000)(hm:c.s.m.length<1000000)(ho: ¬(c.s.m.length:Int)<=(Wd.maskV p.W (a+b)))(h:Nat)(hh:h<c.b.length)(hH:pC_ 49 [.agg (pgA p),enR (c.b.set k ((c.b.getD k default).ad (Wd.maskV p.W (a+b)))), aI k, aI (Wd.maskV p.W (a+b))] (.tup [aI h,.bool true]) []):Vc (vF_ 15 [.agg (pgA p),.agg (cfA c), aI k] [.fv,FW p c k,FV p c k,FU p c k a b d ab so,FT p a b,.lv (aI (Wd.maskV p.W (a+b))),.bd false,.cp [.agg (pgA p),enR (c.b.set k ((c.b.getD k default).ad (Wd.maskV p.W (a+b)))), aI k, aI (Wd.maskV p.W (a+b))] (.tup [aI h,.bool true]),.lv (.own 2 1 8 0 (0+c.b.length)),.lv (aI ((c.b.set k ((c.b.getD k default).ad (Wd.maskV p.W (a+b)))).getD h default).pc)] [] (.tup [.agg (cfA ⟨c.s.go ((c.b.set k ((c.b.getD k default).ad (Wd.maskV p.W (a+b)))).getD h default).pc,(c.b.set k ((c.b.getD k default).ad (Wd.maskV p.W (a+b)))).take h,c.r,c.e⟩),(obR [⟨2,(Wd.maskV p.W (a+b))⟩]),.bool true]) []):=aj (ma p (sf p c (zT c (cj (rf (k:Int)) (cj hC (cj (ap 0 c.b.length 48) (cj (bi k (↑((0:Nat)+c.b.length):Int)) (cj (lz k c.b.length) (ma p (DR p c k b (cj (bL p (c.b.getD k default).pc) (ma p (sf p c (DT c (cj (za c.b.length) (DU p c k a b d (DV p c k a b (cj hT (cj (i6 (a+b)) (cj (rf p.W) (cj (rf (a+b)) (cj (bI p.W (a+b)) (cj (lz k c.b.length) (cj (lz k c.b.length) (cj (ER p c k a b) (cj (lz k c.b.length) (cj (df (Wd.maskV p.W (a+b)>=(↑(c.s.m.length):Int))) (ma p (Ik p (cj (pv ((0:Nat)+c.b.length=(List.set c.b k (En.ad (Wd.maskV p.W (a+b)) (c.b.getD k default))).length)) (cj (EQ p c k hk a b) (cj (rf (k:Int)) (cj (rf (Wd.maskV p.W (a+b))) (cj hH (cj (rf (Option.some (AV.own (2:Nat) (1:Nat) (8:Nat) (0:Nat) ((0:Nat)+c.b.length)))) (cj (bi h (↑((0:Nat)+c.b.length):Int)) (cj (show Option.some (aI (c.b.getD (h+0-0) default).pc)=Option.some (aI ((List.getD (List.set c.b k (En.ad (Wd.maskV p.W (a+b)) (c.b.getD k default))) h default).pc)) from by rw[dd,gh,kY (g:=En.ad (Wd.maskV p.W (a+b))) (fun e=>rfl) h]) (cj (lz h c.b.length) (cj (pv ((0:Int)<=h∧(h:Int)<=(↑((0:Nat)+c.b.length):Int))) (cj (rf c.s.r0) (cj (rf c.s.r1) (cj (rf c.s.r2) (cj (rf c.s.r3) (cj (rf c.s.m.length) (cj (rr c.s.m.length 1 fun i j=>aI (List.getD c.s.m i 0)) (cj (rf c.s.st.length) (cj (rr c.s.st.length 1 fun i j=>aI (List.getD c.s.st i 0)) (cj (rf ((List.getD (List.set c.b k (En.ad (Wd.maskV p.W (a+b)) (c.b.getD k default))) h default).pc)) (cj (show h=(List.take h (List.set c.b k (En.ad (Wd.maskV p.W (a+b)) (c.b.getD k default)))).length from by rw[aM,az];omega) (cj (show ∀(i:Nat),i<h-> ∀(j:Nat),j<8->(bif Nat.ble (6:Nat) j&&Nat.blt j (7:Nat)&&Nat.beq (i+0) (k+0) then List.getD [AV.bool true] (j-6) AV.junk else bif Nat.ble (2:Nat) j&&Nat.blt j (3:Nat)&&Nat.beq (i+0) (k+0) then List.getD [aI (Wd.maskV p.W (a+b))] (j-2) AV.junk else bif Nat.blt (i+0) (0:Nat) then AV.junk else ao enC c.b (i+0-0) j)=ao enC (List.take h (List.set c.b k (En.ad (Wd.maskV p.W (a+b)) (c.b.getD k default)))) i j from(fun i hi j hj=>by rw[tN (show i<h from hi)];cases hq:Nat.beq (i+0) (k+0) with |true=>obtain rfl:=kJ (i:=i) hq;rw[dz hk];exact(match j,hj with |0,_=>rfl |1,_=>rfl |2,_=>rfl |3,_=>rfl |4,_=>rfl |5,_=>rfl |6,_=>rfl |7,_=>rfl)|false=>rw[fM (i:=i) hq];exact(match j,hj with |0,_=>rfl |1,_=>rfl |2,_=>rfl |3,_=>rfl |4,_=>rfl |5,_=>rfl |6,_=>rfl |7,_=>rfl))) (Il c (cj (JY p a b) (cj (rf true) trivial)))))))))))))))))))))))))))))))))))))))))))))))))))))
theorem yE(p:Pg)(l:List En)(i a:Int): ∀j k q,hzG p l i a k j=some q->k<=q∧q<k+j
 |0,k,q,h=>by cases h
 |j+1,k,q,h=>by
  unfold hzG at h
  split at h
  ·cases h;omega
  ·have:=yE p l i a j (k+1) q h;omega
theorem nE{p:Pg}{l:List En}{i a h:Int}(e:hzV p l i a=(h,true)): ∃q:Nat,h=(q:Int)∧q<l.length:=by
 unfold hzV at e
 split at e
 ·rename_i q hq
  cases e
  have:=yE p l i a _ _ _ hq
  exact⟨q,rfl,by omega⟩
 ·cases e
theorem nU{p:Pg}{c:Cf}{i:Int}(h:caV p c i=true): ∃k:Nat,i=(k:Int)∧k<c.b.length∧(c.b.getD k default).kn=false∧(enX p c k).kind=3:=by
 unfold caV at h
 rw[av] at h
 obtain⟨k,rfl,hk⟩:=kZ h.1
 rw[aC,av,av] at h
 exact⟨k,rfl,hk,by simpa using h.2.1,by simpa using h.2.2.1⟩
theorem KG(p:Pg)(c:Cf)(i:Int)(hb:c.b.length<900000)(hm:c.s.m.length<1000000)(hv:Sml p c):pC_ 15 [.agg (pgA p),.agg (cfA c),.int .i64 i] (dmA (adrO p c i)) []:=by
 have hC:=KC p c i (by omega)
 unfold adrO
 cases hc:caV p c i with
 |false=>
  rw[hc] at hC
  exact PureC.vc (PX p c i hC)
 |true=>
  rw[hc] at hC
  obtain⟨k,rfl,hk,hd,hK⟩:=nU hc
  rw[aq rfl,aC]
  have hT:=AH p c k (enX p c k) (by omega)
  have ha:=hv.add k (enX p c k)
  unfold qi
  by_cases ho:(c.s.m.length:Int)<=adV p c k (enX p c k)
  ·rw[aq ho];exact PureC.vc (PY p c k hk hb _ _ _ _ _ hC hT ha hm ho)
  ·rw[an ho]
   have hH:=N5 p (upE c k fun e=>e.ad (adV p c k (enX p c k))).b k (adV p c k (enX p c k)) (by show(List.set _ _ _).length<_;rw[az];omega)
   cases hz:hzV p (upE c k fun e=>e.ad (adV p c k (enX p c k))).b k (adV p c k (enX p c k)) with
   |mk r y=>
    rw[hz] at hH
    cases y with
    |false=>exact PureC.vc (PZ p c k hk hb _ _ _ _ _ hC hT ha hm ho r hH)
    |true=>
     obtain⟨h,rfl,hl⟩:=nE hz
     have hl':h<c.b.length:=by
      have:(upE c k fun e=>e.ad (adV p c k (enX p c k))).b.length=c.b.length:=az
      omega
     exact PureC.vc (PW p c k hk hb _ _ _ _ _ hC hT ha hm ho h hl' hH)
def En.pop(e:En):En:={e with frm:=if 0<=e.frm then e.frm-1 else e.frm}
def dv(l:List En):Nat->List En
 |0=>[]
 |k+1=>dv l k++[(l.getD (k+1) default).pop]
def co(l:List En):List En:=dv l (l.length-1)
def ppS(l:List En)(k:Nat):Sm:=⟨[(0,enR l),(3,enO (dv l k)),(4,.int .i64 ((k:Int)+1))],[(0,enB (dv l k))],1⟩
def rtV(p:Pg)(c:Cf):Cf:=
 if(c.b.getD 0 default).ft=true∨(enX p c 0).kind=12 then⟨c.s.go (c.b.getD 0 default).pc,[],[],2⟩
 else if(enX p c 0).kind=11 then⟨c.s.go (c.b.getD 0 default).pc,[],[],1⟩
 else if dR (enX p c 0)=true then⟨c.s.set (enX p c 0).d (c.b.getD 0 default).val,co c.b,c.r,c.e⟩
 else if(enX p c 0).kind=3 then⟨{c.s with m:=c.s.m.set (c.b.getD 0 default).adr.toNat (c.b.getD 0 default).val},co c.b,c.r,c.e⟩
 else if(enX p c 0).kind=8 then⟨{c.s with st:=c.s.st++[(c.b.getD 0 default).pc+1]},co c.b,c.r,c.e⟩
 else if(enX p c 0).kind=9 then⟨{c.s with st:=c.s.st.take (c.s.st.length-1)},co c.b,c.r,c.e⟩
 else⟨c.s,co c.b,c.r,c.e⟩
def rtO(p:Pg)(c:Cf):Option Cf:=if crV p c=true then some (rtV p c) else none
structure RtOk (p:Pg) (c:Cf):Prop where
 d:dR (enX p c 0)=true->0<=(enX p c 0).d∧(enX p c 0).d<4
 m:(enX p c 0).kind=3->(c.b.getD 0 default).ft=false->(c.b.getD 0 default).kn=true->0<=(c.b.getD 0 default).adr∧(c.b.getD 0 default).adr<c.s.m.length
 st:(enX p c 0).kind=9->(c.b.getD 0 default).ft=false->(c.b.getD 0 default).dn=true->c.s.st.length≠0
 sl:c.s.st.length<=1000
 ml:c.s.m.length<=1000000
 bl:c.b.length<900000
 pc:0<=(c.b.getD 0 default).pc∧(c.b.getD 0 default).pc<=1000000
theorem gt(l:List En): ∀k,(dv l k).length=k
 |0=>rfl
 |k+1=>by rw[dv,aL,gt l k];rfl
theorem iN(l:List En):(co l).length=l.length-1:=gt _ _
theorem q9(l:List En): ∀k i,i<k->(dv l k).getD i default=(l.getD (i+1) default).pop
 |k+1,i,h=>by
  unfold dv
  by_cases hi:i<k
  ·rw[<-q9 l k i hi]
   simp[List.getD,bu (show i<(dv l k).length by rw[gt];exact hi)]
  ·obtain rfl:i=k:=by omega
   simp[List.getD,cg,gt]
theorem iO(l:List En){i:Nat}(h:i+1<l.length):(co l).getD i default=(l.getD (i+1) default).pop:=q9 l _ i (by omega)
theorem Dj{e:En}(h:0<=e.frm):e.pop={e with frm:=e.frm-1}:=by unfold En.pop;rw[aq h]
theorem Dk{e:En}(h: ¬0<=e.frm):e.pop=e:=by unfold En.pop;rw[an h]
theorem Ax(l:List En)(k:Nat):(dv l k).length+1=(dv l (k+1)).length:=by rw[dv,aL];rfl
theorem Ij(l:List En){Z:Prop}(z:Z):(RF l.length (RR l.length 8 (fun i j=>ao enC l i j) (RF (0:Nat) Z))):=⟨rfl,fun _ _ _ _=>rfl,rfl,z⟩
theorem Oe(l:List En)(k:Nat)(hk:k+1<l.length)(hb:l.length<1000000)(hf: -1000000<=(l.getD (k+1) default).frm∧(l.getD (k+1) default).frm<=1000000)(h:0<=(l.getD (k+1) default).frm):Vc (vC_ 87 0 (ppS l k) [.bd true,.bd true] .nrm [(0,0)] (ppS l (k+1))):=aj (cj (dt ((k:Int)+1<l.length)) (cj (bi (k+1) l.length) (cj (dt ((l.getD (k+nat_lit 1) default).frm>=0)) (cj (show inK IntKind.i64 ((l.getD (k+nat_lit 1) default).frm-1) from(fB (show -9223372036854775808<=(l.getD (k+1) default).frm-1 by omega) (show(l.getD (k+1) default).frm-1<=9223372036854775807 by omega))) (cj (show(0:Nat)=0∧(dv l k).length=(dv l k).length∧((dv l k).length+1)*48<=140737488355328∧(dv l k).length+1<=140737488355328 from by rw[gt];omega) (cj (i6 (k+1+1)) (cj (Ax l k) (cj (show ∀(i:Nat),i<(dv l k).length+1-> ∀(j:Nat),j<8->(bif Nat.blt i (dv l k).length then ao enC (dv l k) i j else List.getD [aI (l.getD (k+nat_lit 1) default).pc,aI (l.getD (k+nat_lit 1) default).val,aI (l.getD (k+nat_lit 1) default).adr,aI ((l.getD (k+nat_lit 1) default).frm-1),aI (l.getD (k+nat_lit 1) default).nxt,AV.bool (l.getD (k+nat_lit 1) default).dn,AV.bool (l.getD (k+nat_lit 1) default).kn,AV.bool (l.getD (k+nat_lit 1) default).ft] ((i-(dv l k).length+0)*8+j) AV.junk)=ao enC (dv l (k+1)) i j from(fun i hi j hj=>de (fun h=>(bW h).symm) (fun h2=>by obtain rfl:i=_:=bm (bk.mp hi) (bt.mp h2);rw[dv,bX,bA,Dj h];(match j,hj with |0,_=>rfl |1,_=>rfl |2,_=>rfl |3,_=>rfl |4,_=>rfl |5,_=>rfl |6,_=>rfl |7,_=>rfl)))) (Ij l (cj (Ax l k) (cj (rf ((k:Int)+1+1)) trivial)))))))))))
theorem Of(l:List En)(k:Nat)(hk:k+1<l.length)(hb:l.length<1000000)(hf: -1000000<=(l.getD (k+1) default).frm∧(l.getD (k+1) default).frm<=1000000)(h: ¬0<=(l.getD (k+1) default).frm):Vc (vC_ 87 0 (ppS l k) [.bd true,.bd false] .nrm [(0,0)] (ppS l (k+1))):=aj (cj (dt ((k:Int)+1<l.length)) (cj (bi (k+1) l.length) (cj (df ((l.getD (k+nat_lit 1) default).frm>=0)) (cj (show(0:Nat)=0∧(dv l k).length=(dv l k).length∧((dv l k).length+1)*48<=140737488355328∧(dv l k).length+1<=140737488355328 from by rw[gt];omega) (cj (i6 (k+1+1)) (cj (Ax l k) (cj (show ∀(i:Nat),i<(dv l k).length+1-> ∀(j:Nat),j<8->(bif Nat.blt i (dv l k).length then ao enC (dv l k) i j else List.getD [aI (l.getD (k+nat_lit 1) default).pc,aI (l.getD (k+nat_lit 1) default).val,aI (l.getD (k+nat_lit 1) default).adr,aI (l.getD (k+nat_lit 1) default).frm,aI (l.getD (k+nat_lit 1) default).nxt,AV.bool (l.getD (k+nat_lit 1) default).dn,AV.bool (l.getD (k+nat_lit 1) default).kn,AV.bool (l.getD (k+nat_lit 1) default).ft] ((i-(dv l k).length+0)*8+j) AV.junk)=ao enC (dv l (k+1)) i j from(fun i hi j hj=>de (fun h=>(bW h).symm) (fun h2=>by obtain rfl:i=_:=bm (bk.mp hi) (bt.mp h2);rw[dv,bX,bA,Dk h];(match j,hj with |0,_=>rfl |1,_=>rfl |2,_=>rfl |3,_=>rfl |4,_=>rfl |5,_=>rfl |6,_=>rfl |7,_=>rfl)))) (Ij l (cj (Ax l k) (cj (rf ((k:Int)+1+1)) trivial))))))))))
theorem FK(l:List En)(k:Nat)(hk: ¬k+1<l.length):Vc (vC_ 87 0 (ppS l k) [.bd false] (.ext 0) [(0,0)] (ppS l k)):=aj (cj (df ((k:Int)+1<l.length)) (cj (rf ((dv l k).length)) (cj (rr ((dv l k).length) 8 fun i j=>ao enC (dv l k) i j) (cj (rf l.length) (cj (rr l.length 8 fun i j=>ao enC l i j) (cj (rf (0:Nat)) (cj (rf ((dv l k).length)) (cj (rf ((k:Int)+1)) trivial))))))))
theorem A7(l:List En)(hb:l.length<1000000)(hf: ∀e∈l, -1000000<=e.frm∧e.frm<=1000000):oL_ 87 0 (ppS l 0).st (.ext 0) (ppS l (l.length-1)).st:=
 Ok.loop (P:=Tryz.prog) (nt:=bY Tryz.prog 87) (c:=lpC Tryz.prog 87 0) (F:=fun k=>ppS l k) (m:=l.length-1) (x:= .ext 0) (J:=ppS l (l.length-1)) (fun k hk=>by
  have hfk:=hf (l.getD (k+1) default) (by simp[List.getD,show k+1<l.length by omega])
  by_cases h:0<=(l.getD (k+1) default).frm
  ·exact Ok.vc (Oe l k (by omega) hb hfk h)
  ·exact Ok.vc (Of l k (by omega) hb hfk h)) (Ok.vc (FK l _ (by omega))) (by simp)
theorem FL(l:List En)(n:Nat)(h:oL_ 87 0 (ppS l 0).st (.ext 0) (ppS l n).st):Vc (vF_ 87 [enR l] [.lp [] (ppS l 0) (.ext 0) (ppS l n)] [] (enR (dv l n)) []):=aj (cj (rf (0:Nat)) (cj (rf l.length) (cj (rr l.length 8 fun i j=>ao enC l i j) (cj (rf (0:Nat)) (cj (rf (0:Nat)) (cj (rf (1:Int)) (cj h (cj (rf ((dv l n).length)) (cj (rr ((dv l n).length) 8 fun i j=>ao enC (dv l n) i j) trivial)))))))))
theorem Ki(l:List En)(hb:l.length<1000000)(hf: ∀e∈l, -1000000<=e.frm∧e.frm<=1000000):pC_ 87 [enR l] (enR (co l)) []:=PureC.vc (FL l _ (A7 l hb hf))
theorem xi{m:List Int}{n:Nat}{v:Int}: ∀i,i<0+m.length-> ∀j,j<1->(bif Nat.ble 0 j&&Nat.blt j 1&&Nat.beq (i+0) (n+0) then[AV.int .i64 v].getD (j-0) .junk else AV.int .i64 (m.getD (i+0-0) 0))= .int .i64 ((m.set n v).getD i 0):=fun i hi j hj=>
 gI (m:=m) (n:=n) (v:=v) i (by omega) j hj
theorem uO{l:List Int}{x:Int}: ∀i,i<0+l.length+1-> ∀j,j<1->(bif Nat.blt (i+0) (0+l.length) then AV.int .i64 (l.getD (i+0-0) 0) else[AV.int .i64 x].getD ((i+0-(0+l.length)+0)*1+j) .junk)= .int .i64 ((l++[x]).getD i 0):=fun i hi j hj=>by
 obtain rfl:j=0:=by omega
 simp only[bF,dd,gh] at hi ⊢
 exact kj (l:=l) (x:=x) (g:=fun a b=>[AV.int .i64 x].getD (a*1+b) .junk) rfl i hi _ fun _=>rfl
theorem uL{l:List Int}: ∀i,i<Int.toNat (((0+l.length:Nat):Int)-1)-> ∀j,j<1->AV.int .i64 (l.getD (i+0-0) 0)= .int .i64 ((l.take (l.length-1)).getD i 0):=fun i hi j hj=>by
 rw[pb l (l.length-1) i (by omega)]
 rfl
theorem gl(c:Cf){Z:Prop}(z:Z):(RR c.s.m.length 1 (fun i j=>aI (List.getD c.s.m i 0)) (RF c.s.st.length (RR c.s.st.length 1 (fun i j=>aI (List.getD c.s.st i 0)) (RF c.s.pc (RF c.b.length (RR c.b.length 8 (fun i j=>ao enC c.b i j) (RF c.r.length (RR c.r.length 1 (fun i j=>aI (c.r.getD i 0)) (RF c.e Z))))))))):=⟨fun _ _ _ _=>rfl,rfl,fun _ _ _ _=>rfl,rfl,rfl,fun _ _ _ _=>rfl,rfl,fun _ _ _ _=>rfl,rfl,z⟩
theorem gk(p:Pg)(c:Cf){Z:Prop}(z:Z):(RF p.ls.length (RR p.ls.length 2 (fun i j=>ao lbC p.ls i j) (RF p.is.length (RR p.is.length 9 (fun i j=>ao inC p.is i j) (RF c.s.r0 (RF c.s.r1 (RF c.s.r2 (RF c.s.r3 (RF c.s.m.length Z))))))))):=⟨rfl,fun _ _ _ _=>rfl,rfl,fun _ _ _ _=>rfl,rfl,rfl,rfl,rfl,rfl,z⟩
theorem dy(p:Pg){Z:Prop}(z:Z):(RF p.W (RF p.win (RF p.fuel (RF p.r0 (RF p.r1 (RF p.r2 (RF p.r3 (RF p.ms.length (RR p.ms.length 3 (fun i j=>ao mmC p.ms i j) Z))))))))):=⟨rfl,rfl,rfl,rfl,rfl,rfl,rfl,rfl,fun _ _ _ _=>rfl,z⟩
theorem NY(p:Pg)(c:Cf)(hC:pC_ 58 [.agg (pgA p),.agg (cfA c)] (.bool false) []):Vc (vF_ 59 [.agg (pgA p),.agg (cfA c)] [.fv,.cl [.agg (pgA p),.agg (cfA c)] (.bool false) []] [] (.tup (ocA none)) []):=aj (dy p (gk p c (gl c (cj hC (cj (rf (0:Int)) (cj (rf (0:Int)) (cj (rf (0:Int)) (cj (rf (0:Int)) (cj (rf (0:Nat)) (cj (rf (0:Nat)) (cj (rf (0:Int)) (cj (rf (0:Nat)) (cj (rf (0:Nat)) (cj (rf (0:Int)) (cj (rf false) trivial)))))))))))))))
theorem Ii(c:Cf){Z:Prop}(z:Z):(RR (0+c.s.st.length) 1 (fun i j=>aI (List.getD c.s.st i 0)) (RF ((c.b.getD 0 default).pc) (RF (0:Nat) (RF (0:Nat) (RF (2:Int) (RF true Z)))))):=⟨fun _ _ _ _=>rfl,rfl,rfl,rfl,rfl,rfl,z⟩
theorem se(c:Cf){Z:Prop}(z:Z):(RF c.s.r0 (RF c.s.r1 (RF c.s.r2 (RF c.s.r3 Z)))):=⟨rfl,rfl,rfl,rfl,z⟩
theorem gz(p:Pg)(c:Cf){Z:Prop}(z:Z):(RF p.ls.length (RR p.ls.length 2 (fun i j=>ao lbC p.ls i j) (RF p.is.length (RR p.is.length 9 (fun i j=>ao inC p.is i j) (RF ((c.b.getD 0 default).pc) Z))))):=⟨rfl,fun _ _ _ _=>rfl,rfl,fun _ _ _ _=>rfl,rfl,z⟩
abbrev gO(p:Pg)(c:Cf):Prop:=PureC Tryz.prog 58 [.agg (pgA p),.agg (cfA c)] (.bool true) []
abbrev gN(c:Cf):Prop:=PureC Tryz.prog 87 [enR c.b] (enR (co c.b)) []
abbrev gQ(p:Pg)(c:Cf):Orc:= .cl [.agg (pgA p), aI (c.b.getD 0 default).pc] (.agg (inA (enX p c 0))) []
abbrev gR(p:Pg)(c:Cf):Orc:= .cl [.agg (pgA p),.agg (cfA c)] (.bool true) []
abbrev gP(c:Cf):Orc:= .cl [enR c.b] (enR (co c.b)) []
theorem N0(p:Pg)(c:Cf)(hC:gO p c)(hP:gN c)(h0:c.e=0)(hl:0<c.b.length)(hb:c.b.length<900000)(hs:c.s.st.length<=1000)(hm:c.s.m.length<=1000000)(hf:(c.b.getD 0 default).ft=true):Vc (vF_ 59 [.agg (pgA p),.agg (cfA c)] [.fv,gR p c,gQ p c,gP c,.b true,.b true,.b true,.b true,.bd true] [] (.tup [.agg (cfA ⟨c.s.go (c.b.getD 0 default).pc,[],[],2⟩),.bool true]) []):=aj (dy p (gk p c (gl c (cj hC (cj (pv ((0:Int)<=0∧(0:Int)<c.b.length)) (dy p (gz p c (cj (bL p (c.b.getD 0 default).pc) (cj (rf c.b.length) (cj (rr c.b.length 8 fun i j=>ao enC c.b i j) (cj hP (cj (ap 0 c.s.m.length 8) (cj (ap 0 c.s.st.length 8) (cj hf (cj hf (cj hf (cj hf (cj (n1 (2:Int) 0) (se c (cj (za c.s.m.length) (cj (rr (0+c.s.m.length) 1 fun i j=>aI (List.getD c.s.m i 0)) (cj (za c.s.st.length) (Ii c trivial)))))))))))))))))))))))
theorem Ke(p:Pg)(c:Cf)(hC:gO p c)(hP:gN c)(h0:c.e=0)(hl:0<c.b.length)(hb:c.b.length<900000)(hs:c.s.st.length<=1000)(hm:c.s.m.length<=1000000)(k12:(enX p c 0).kind=12)(hf:(c.b.getD 0 default).ft=false):Vc (vF_ 59 [.agg (pgA p),.agg (cfA c)] [.fv,gR p c,gQ p c,gP c,.b false,.b false,.b false,.bd true,.b false,.bd true] [] (.tup [.agg (cfA ⟨c.s.go (c.b.getD 0 default).pc,[],[],2⟩),.bool true]) []):=aj (dy p (gk p c (gl c (cj hC (cj (pv ((0:Int)<=0∧(0:Int)<c.b.length)) (dy p (gz p c (cj (bL p (c.b.getD 0 default).pc) (cj (rf c.b.length) (cj (rr c.b.length 8 fun i j=>ao enC c.b i j) (cj hP (cj (ap 0 c.s.m.length 8) (cj (ap 0 c.s.st.length 8) (cj hf (cj hf (cj hf (cj (e1 ((enX p c 0).kind) 12) (cj hf (cj (n1 (2:Int) 0) (se c (cj (za c.s.m.length) (cj (rr (0+c.s.m.length) 1 fun i j=>aI (List.getD c.s.m i 0)) (cj (za c.s.st.length) (Ii c trivial))))))))))))))))))))))))
theorem Kf(p:Pg)(c:Cf)(hC:gO p c)(hP:gN c)(h0:c.e=0)(hl:0<c.b.length)(hb:c.b.length<900000)(hs:c.s.st.length<=1000)(hm:c.s.m.length<=1000000)(k12: ¬(enX p c 0).kind=12)(k11:(enX p c 0).kind=11)(hf:(c.b.getD 0 default).ft=false):Vc (vF_ 59 [.agg (pgA p),.agg (cfA c)] [.fv,gR p c,gQ p c,gP c,.b false,.b false,.b false,.bd false,.b false,.bd true,.bd true] [] (.tup [.agg (cfA ⟨c.s.go (c.b.getD 0 default).pc,[],[],1⟩),.bool true]) []):=aj (dy p (gk p c (gl c (cj hC (cj (pv ((0:Int)<=0∧(0:Int)<c.b.length)) (dy p (gz p c (cj (bL p (c.b.getD 0 default).pc) (cj (rf c.b.length) (cj (rr c.b.length 8 fun i j=>ao enC c.b i j) (cj hP (cj (ap 0 c.s.m.length 8) (cj (ap 0 c.s.st.length 8) (cj hf (cj hf (cj hf (cj (e0 ((enX p c 0).kind) 12) (cj hf (cj (e1 ((enX p c 0).kind) 11) (cj (n1 (1:Int) 0) (se c (cj (za c.s.m.length) (cj (rr (0+c.s.m.length) 1 fun i j=>aI (List.getD c.s.m i 0)) (cj (za c.s.st.length) (cj (rr (0+c.s.st.length) 1 fun i j=>aI (List.getD c.s.st i 0)) (cj (rf ((c.b.getD 0 default).pc)) (cj (rf (0:Nat)) (cj (rf (0:Nat)) (cj (rf (1:Int)) (cj (rf true) trivial))))))))))))))))))))))))))))))
theorem EP(p:Pg)(c:Cf)(hd:(enX p c 0).d=0):Go.bits Go.BinOp.and IntKind.i64 (enX p c 0).d (3:Int)=((0:Nat):Int):=by rw[hd];decide
theorem jX(c:Cf){Z:Prop}(z:Z):(RR (0+c.s.st.length) 1 (fun i j=>aI (List.getD c.s.st i 0)) (RF c.s.pc (RF ((co c.b).length) (RR ((co c.b).length) 8 (fun i j=>ao enC (co c.b) i j) (RF c.r.length (RR c.r.length 1 (fun i j=>aI (c.r.getD i 0)) (RF c.e (RF true Z)))))))):=⟨fun _ _ _ _=>rfl,rfl,rfl,fun _ _ _ _=>rfl,rfl,fun _ _ _ _=>rfl,rfl,rfl,z⟩
theorem DQ(c:Cf){Z:Prop}(z:Z):(RF ((c.b.getD 0 default).val) (RF c.s.r1 (RF c.s.r2 (RF c.s.r3 Z)))):=⟨rfl,rfl,rfl,rfl,z⟩
theorem Fd(p:Pg)(c:Cf)(hC:gO p c)(hP:gN c)(h0:c.e=0)(hl:0<c.b.length)(hb:c.b.length<900000)(hs:c.s.st.length<=1000)(hm:c.s.m.length<=1000000)(k12: ¬(enX p c 0).kind=12)(k11: ¬(enX p c 0).kind=11)(k1:(enX p c 0).kind=1)(hf:(c.b.getD 0 default).ft=false)(hd:(enX p c 0).d=0):Vc (vF_ 59 [.agg (pgA p),.agg (cfA c)] [.fv,gR p c,gQ p c,gP c,.b false,.b false,.b false,.bd false,.b false,.bd false,.bd true,.ix 0,.bd false] [] (.tup [.agg (cfA ⟨c.s.set 0 (c.b.getD 0 default).val,co c.b,c.r,c.e⟩),.bool true]) []):=aj (dy p (gk p c (gl c (cj hC (cj (pv ((0:Int)<=0∧(0:Int)<c.b.length)) (dy p (gz p c (cj (bL p (c.b.getD 0 default).pc) (cj (rf c.b.length) (cj (rr c.b.length 8 fun i j=>ao enC c.b i j) (cj hP (cj (ap 0 c.s.m.length 8) (cj (ap 0 c.s.st.length 8) (cj hf (cj hf (cj hf (cj (e0 ((enX p c 0).kind) 12) (cj hf (cj (e0 ((enX p c 0).kind) 11) (cj (e1 ((enX p c 0).kind) 1) (cj (EP p c hd) (cj (ax.2 h0) (DQ c (cj (za c.s.m.length) (cj (rr (0+c.s.m.length) 1 fun i j=>aI (List.getD c.s.m i 0)) (cj (za c.s.st.length) (jX c trivial)))))))))))))))))))))))))))
theorem EO(p:Pg)(c:Cf)(hd:(enX p c 0).d=1):Go.bits Go.BinOp.and IntKind.i64 (enX p c 0).d (3:Int)=((1:Nat):Int):=by rw[hd];decide
theorem DP(c:Cf){Z:Prop}(z:Z):(RF c.s.r0 (RF ((c.b.getD 0 default).val) (RF c.s.r2 (RF c.s.r3 Z)))):=⟨rfl,rfl,rfl,rfl,z⟩
theorem Fc(p:Pg)(c:Cf)(hC:gO p c)(hP:gN c)(h0:c.e=0)(hl:0<c.b.length)(hb:c.b.length<900000)(hs:c.s.st.length<=1000)(hm:c.s.m.length<=1000000)(k12: ¬(enX p c 0).kind=12)(k11: ¬(enX p c 0).kind=11)(k1:(enX p c 0).kind=1)(hf:(c.b.getD 0 default).ft=false)(hd:(enX p c 0).d=1):Vc (vF_ 59 [.agg (pgA p),.agg (cfA c)] [.fv,gR p c,gQ p c,gP c,.b false,.b false,.b false,.bd false,.b false,.bd false,.bd true,.ix 1,.bd false] [] (.tup [.agg (cfA ⟨c.s.set 1 (c.b.getD 0 default).val,co c.b,c.r,c.e⟩),.bool true]) []):=aj (dy p (gk p c (gl c (cj hC (cj (pv ((0:Int)<=0∧(0:Int)<c.b.length)) (dy p (gz p c (cj (bL p (c.b.getD 0 default).pc) (cj (rf c.b.length) (cj (rr c.b.length 8 fun i j=>ao enC c.b i j) (cj hP (cj (ap 0 c.s.m.length 8) (cj (ap 0 c.s.st.length 8) (cj hf (cj hf (cj hf (cj (e0 ((enX p c 0).kind) 12) (cj hf (cj (e0 ((enX p c 0).kind) 11) (cj (e1 ((enX p c 0).kind) 1) (cj (EO p c hd) (cj (ax.2 h0) (DP c (cj (za c.s.m.length) (cj (rr (0+c.s.m.length) 1 fun i j=>aI (List.getD c.s.m i 0)) (cj (za c.s.st.length) (jX c trivial)))))))))))))))))))))))))))
theorem EN(p:Pg)(c:Cf)(hd:(enX p c 0).d=2):Go.bits Go.BinOp.and IntKind.i64 (enX p c 0).d (3:Int)=((2:Nat):Int):=by rw[hd];decide
theorem DO(c:Cf){Z:Prop}(z:Z):(RF c.s.r0 (RF c.s.r1 (RF ((c.b.getD 0 default).val) (RF c.s.r3 Z)))):=⟨rfl,rfl,rfl,rfl,z⟩
theorem Fb(p:Pg)(c:Cf)(hC:gO p c)(hP:gN c)(h0:c.e=0)(hl:0<c.b.length)(hb:c.b.length<900000)(hs:c.s.st.length<=1000)(hm:c.s.m.length<=1000000)(k12: ¬(enX p c 0).kind=12)(k11: ¬(enX p c 0).kind=11)(k1:(enX p c 0).kind=1)(hf:(c.b.getD 0 default).ft=false)(hd:(enX p c 0).d=2):Vc (vF_ 59 [.agg (pgA p),.agg (cfA c)] [.fv,gR p c,gQ p c,gP c,.b false,.b false,.b false,.bd false,.b false,.bd false,.bd true,.ix 2,.bd false] [] (.tup [.agg (cfA ⟨c.s.set 2 (c.b.getD 0 default).val,co c.b,c.r,c.e⟩),.bool true]) []):=aj (dy p (gk p c (gl c (cj hC (cj (pv ((0:Int)<=0∧(0:Int)<c.b.length)) (dy p (gz p c (cj (bL p (c.b.getD 0 default).pc) (cj (rf c.b.length) (cj (rr c.b.length 8 fun i j=>ao enC c.b i j) (cj hP (cj (ap 0 c.s.m.length 8) (cj (ap 0 c.s.st.length 8) (cj hf (cj hf (cj hf (cj (e0 ((enX p c 0).kind) 12) (cj hf (cj (e0 ((enX p c 0).kind) 11) (cj (e1 ((enX p c 0).kind) 1) (cj (EN p c hd) (cj (ax.2 h0) (DO c (cj (za c.s.m.length) (cj (rr (0+c.s.m.length) 1 fun i j=>aI (List.getD c.s.m i 0)) (cj (za c.s.st.length) (jX c trivial)))))))))))))))))))))))))))
theorem EM(p:Pg)(c:Cf)(hd:(enX p c 0).d=3):Go.bits Go.BinOp.and IntKind.i64 (enX p c 0).d (3:Int)=((3:Nat):Int):=by rw[hd];decide
theorem vW(c:Cf){Z:Prop}(z:Z):(RF c.s.r0 (RF c.s.r1 (RF c.s.r2 (RF ((c.b.getD 0 default).val) Z)))):=⟨rfl,rfl,rfl,rfl,z⟩
theorem Fa(p:Pg)(c:Cf)(hC:gO p c)(hP:gN c)(h0:c.e=0)(hl:0<c.b.length)(hb:c.b.length<900000)(hs:c.s.st.length<=1000)(hm:c.s.m.length<=1000000)(k12: ¬(enX p c 0).kind=12)(k11: ¬(enX p c 0).kind=11)(k1:(enX p c 0).kind=1)(hf:(c.b.getD 0 default).ft=false)(hd:(enX p c 0).d=3):Vc (vF_ 59 [.agg (pgA p),.agg (cfA c)] [.fv,gR p c,gQ p c,gP c,.b false,.b false,.b false,.bd false,.b false,.bd false,.bd true,.ix 3,.bd false] [] (.tup [.agg (cfA ⟨c.s.set 3 (c.b.getD 0 default).val,co c.b,c.r,c.e⟩),.bool true]) []):=aj (dy p (gk p c (gl c (cj hC (cj (pv ((0:Int)<=0∧(0:Int)<c.b.length)) (dy p (gz p c (cj (bL p (c.b.getD 0 default).pc) (cj (rf c.b.length) (cj (rr c.b.length 8 fun i j=>ao enC c.b i j) (cj hP (cj (ap 0 c.s.m.length 8) (cj (ap 0 c.s.st.length 8) (cj hf (cj hf (cj hf (cj (e0 ((enX p c 0).kind) 12) (cj hf (cj (e0 ((enX p c 0).kind) 11) (cj (e1 ((enX p c 0).kind) 1) (cj (EM p c hd) (cj (ax.2 h0) (vW c (cj (za c.s.m.length) (cj (rr (0+c.s.m.length) 1 fun i j=>aI (List.getD c.s.m i 0)) (cj (za c.s.st.length) (jX c trivial)))))))))))))))))))))))))))
theorem E9(p:Pg)(c:Cf)(hC:gO p c)(hP:gN c)(h0:c.e=0)(hl:0<c.b.length)(hb:c.b.length<900000)(hs:c.s.st.length<=1000)(hm:c.s.m.length<=1000000)(k12: ¬(enX p c 0).kind=12)(k11: ¬(enX p c 0).kind=11)(k1: ¬(enX p c 0).kind=1)(k2:(enX p c 0).kind=2)(hf:(c.b.getD 0 default).ft=false)(hd:(enX p c 0).d=0):Vc (vF_ 59 [.agg (pgA p),.agg (cfA c)] [.fv,gR p c,gQ p c,gP c,.b false,.b false,.b false,.bd false,.b false,.bd false,.bd false,.bd true,.ix 0,.bd false] [] (.tup [.agg (cfA ⟨c.s.set 0 (c.b.getD 0 default).val,co c.b,c.r,c.e⟩),.bool true]) []):=aj (dy p (gk p c (gl c (cj hC (cj (pv ((0:Int)<=0∧(0:Int)<c.b.length)) (dy p (gz p c (cj (bL p (c.b.getD 0 default).pc) (cj (rf c.b.length) (cj (rr c.b.length 8 fun i j=>ao enC c.b i j) (cj hP (cj (ap 0 c.s.m.length 8) (cj (ap 0 c.s.st.length 8) (cj hf (cj hf (cj hf (cj (e0 ((enX p c 0).kind) 12) (cj hf (cj (e0 ((enX p c 0).kind) 11) (cj (e0 ((enX p c 0).kind) 1) (cj (e1 ((enX p c 0).kind) 2) (cj (EP p c hd) (cj (ax.2 h0) (DQ c (cj (za c.s.m.length) (cj (rr (0+c.s.m.length) 1 fun i j=>aI (List.getD c.s.m i 0)) (cj (za c.s.st.length) (jX c trivial))))))))))))))))))))))))))))
theorem E8(p:Pg)(c:Cf)(hC:gO p c)(hP:gN c)(h0:c.e=0)(hl:0<c.b.length)(hb:c.b.length<900000)(hs:c.s.st.length<=1000)(hm:c.s.m.length<=1000000)(k12: ¬(enX p c 0).kind=12)(k11: ¬(enX p c 0).kind=11)(k1: ¬(enX p c 0).kind=1)(k2:(enX p c 0).kind=2)(hf:(c.b.getD 0 default).ft=false)(hd:(enX p c 0).d=1):Vc (vF_ 59 [.agg (pgA p),.agg (cfA c)] [.fv,gR p c,gQ p c,gP c,.b false,.b false,.b false,.bd false,.b false,.bd false,.bd false,.bd true,.ix 1,.bd false] [] (.tup [.agg (cfA ⟨c.s.set 1 (c.b.getD 0 default).val,co c.b,c.r,c.e⟩),.bool true]) []):=aj (dy p (gk p c (gl c (cj hC (cj (pv ((0:Int)<=0∧(0:Int)<c.b.length)) (dy p (gz p c (cj (bL p (c.b.getD 0 default).pc) (cj (rf c.b.length) (cj (rr c.b.length 8 fun i j=>ao enC c.b i j) (cj hP (cj (ap 0 c.s.m.length 8) (cj (ap 0 c.s.st.length 8) (cj hf (cj hf (cj hf (cj (e0 ((enX p c 0).kind) 12) (cj hf (cj (e0 ((enX p c 0).kind) 11) (cj (e0 ((enX p c 0).kind) 1) (cj (e1 ((enX p c 0).kind) 2) (cj (EO p c hd) (cj (ax.2 h0) (DP c (cj (za c.s.m.length) (cj (rr (0+c.s.m.length) 1 fun i j=>aI (List.getD c.s.m i 0)) (cj (za c.s.st.length) (jX c trivial))))))))))))))))))))))))))))
theorem E7(p:Pg)(c:Cf)(hC:gO p c)(hP:gN c)(h0:c.e=0)(hl:0<c.b.length)(hb:c.b.length<900000)(hs:c.s.st.length<=1000)(hm:c.s.m.length<=1000000)(k12: ¬(enX p c 0).kind=12)(k11: ¬(enX p c 0).kind=11)(k1: ¬(enX p c 0).kind=1)(k2:(enX p c 0).kind=2)(hf:(c.b.getD 0 default).ft=false)(hd:(enX p c 0).d=2):Vc (vF_ 59 [.agg (pgA p),.agg (cfA c)] [.fv,gR p c,gQ p c,gP c,.b false,.b false,.b false,.bd false,.b false,.bd false,.bd false,.bd true,.ix 2,.bd false] [] (.tup [.agg (cfA ⟨c.s.set 2 (c.b.getD 0 default).val,co c.b,c.r,c.e⟩),.bool true]) []):=aj (dy p (gk p c (gl c (cj hC (cj (pv ((0:Int)<=0∧(0:Int)<c.b.length)) (dy p (gz p c (cj (bL p (c.b.getD 0 default).pc) (cj (rf c.b.length) (cj (rr c.b.length 8 fun i j=>ao enC c.b i j) (cj hP (cj (ap 0 c.s.m.length 8) (cj (ap 0 c.s.st.length 8) (cj hf (cj hf (cj hf (cj (e0 ((enX p c 0).kind) 12) (cj hf (cj (e0 ((enX p c 0).kind) 11) (cj (e0 ((enX p c 0).kind) 1) (cj (e1 ((enX p c 0).kind) 2) (cj (EN p c hd) (cj (ax.2 h0) (DO c (cj (za c.s.m.length) (cj (rr (0+c.s.m.length) 1 fun i j=>aI (List.getD c.s.m i 0)) (cj (za c.s.st.length) (jX c trivial))))))))))))))))))))))))))))
theorem E6(p:Pg)(c:Cf)(hC:gO p c)(hP:gN c)(h0:c.e=0)(hl:0<c.b.length)(hb:c.b.length<900000)(hs:c.s.st.length<=1000)(hm:c.s.m.length<=1000000)(k12: ¬(enX p c 0).kind=12)(k11: ¬(enX p c 0).kind=11)(k1: ¬(enX p c 0).kind=1)(k2:(enX p c 0).kind=2)(hf:(c.b.getD 0 default).ft=false)(hd:(enX p c 0).d=3):Vc (vF_ 59 [.agg (pgA p),.agg (cfA c)] [.fv,gR p c,gQ p c,gP c,.b false,.b false,.b false,.bd false,.b false,.bd false,.bd false,.bd true,.ix 3,.bd false] [] (.tup [.agg (cfA ⟨c.s.set 3 (c.b.getD 0 default).val,co c.b,c.r,c.e⟩),.bool true]) []):=aj (dy p (gk p c (gl c (cj hC (cj (pv ((0:Int)<=0∧(0:Int)<c.b.length)) (dy p (gz p c (cj (bL p (c.b.getD 0 default).pc) (cj (rf c.b.length) (cj (rr c.b.length 8 fun i j=>ao enC c.b i j) (cj hP (cj (ap 0 c.s.m.length 8) (cj (ap 0 c.s.st.length 8) (cj hf (cj hf (cj hf (cj (e0 ((enX p c 0).kind) 12) (cj hf (cj (e0 ((enX p c 0).kind) 11) (cj (e0 ((enX p c 0).kind) 1) (cj (e1 ((enX p c 0).kind) 2) (cj (EM p c hd) (cj (ax.2 h0) (vW c (cj (za c.s.m.length) (cj (rr (0+c.s.m.length) 1 fun i j=>aI (List.getD c.s.m i 0)) (cj (za c.s.st.length) (jX c trivial))))))))))))))))))))))))))))
theorem E5(p:Pg)(c:Cf)(hC:gO p c)(hP:gN c)(h0:c.e=0)(hl:0<c.b.length)(hb:c.b.length<900000)(hs:c.s.st.length<=1000)(hm:c.s.m.length<=1000000)(k12: ¬(enX p c 0).kind=12)(k11: ¬(enX p c 0).kind=11)(k1: ¬(enX p c 0).kind=1)(k2: ¬(enX p c 0).kind=2)(k4:(enX p c 0).kind=4)(hf:(c.b.getD 0 default).ft=false)(hd:(enX p c 0).d=0):Vc (vF_ 59 [.agg (pgA p),.agg (cfA c)] [.fv,gR p c,gQ p c,gP c,.b false,.b false,.b false,.bd false,.b false,.bd false,.bd false,.bd false,.bd true,.ix 0,.bd false] [] (.tup [.agg (cfA ⟨c.s.set 0 (c.b.getD 0 default).val,co c.b,c.r,c.e⟩),.bool true]) []):=aj (dy p (gk p c (gl c (cj hC (cj (pv ((0:Int)<=0∧(0:Int)<c.b.length)) (dy p (gz p c (cj (bL p (c.b.getD 0 default).pc) (cj (rf c.b.length) (cj (rr c.b.length 8 fun i j=>ao enC c.b i j) (cj hP (cj (ap 0 c.s.m.length 8) (cj (ap 0 c.s.st.length 8) (cj hf (cj hf (cj hf (cj (e0 ((enX p c 0).kind) 12) (cj hf (cj (e0 ((enX p c 0).kind) 11) (cj (e0 ((enX p c 0).kind) 1) (cj (e0 ((enX p c 0).kind) 2) (cj (e1 ((enX p c 0).kind) 4) (cj (EP p c hd) (cj (ax.2 h0) (DQ c (cj (za c.s.m.length) (cj (rr (0+c.s.m.length) 1 fun i j=>aI (List.getD c.s.m i 0)) (cj (za c.s.st.length) (jX c trivial)))))))))))))))))))))))))))))
theorem E4(p:Pg)(c:Cf)(hC:gO p c)(hP:gN c)(h0:c.e=0)(hl:0<c.b.length)(hb:c.b.length<900000)(hs:c.s.st.length<=1000)(hm:c.s.m.length<=1000000)(k12: ¬(enX p c 0).kind=12)(k11: ¬(enX p c 0).kind=11)(k1: ¬(enX p c 0).kind=1)(k2: ¬(enX p c 0).kind=2)(k4:(enX p c 0).kind=4)(hf:(c.b.getD 0 default).ft=false)(hd:(enX p c 0).d=1):Vc (vF_ 59 [.agg (pgA p),.agg (cfA c)] [.fv,gR p c,gQ p c,gP c,.b false,.b false,.b false,.bd false,.b false,.bd false,.bd false,.bd false,.bd true,.ix 1,.bd false] [] (.tup [.agg (cfA ⟨c.s.set 1 (c.b.getD 0 default).val,co c.b,c.r,c.e⟩),.bool true]) []):=aj (dy p (gk p c (gl c (cj hC (cj (pv ((0:Int)<=0∧(0:Int)<c.b.length)) (dy p (gz p c (cj (bL p (c.b.getD 0 default).pc) (cj (rf c.b.length) (cj (rr c.b.length 8 fun i j=>ao enC c.b i j) (cj hP (cj (ap 0 c.s.m.length 8) (cj (ap 0 c.s.st.length 8) (cj hf (cj hf (cj hf (cj (e0 ((enX p c 0).kind) 12) (cj hf (cj (e0 ((enX p c 0).kind) 11) (cj (e0 ((enX p c 0).kind) 1) (cj (e0 ((enX p c 0).kind) 2) (cj (e1 ((enX p c 0).kind) 4) (cj (EO p c hd) (cj (ax.2 h0) (DP c (cj (za c.s.m.length) (cj (rr (0+c.s.m.length) 1 fun i j=>aI (List.getD c.s.m i 0)) (cj (za c.s.st.length) (jX c trivial)))))))))))))))))))))))))))))
theorem E3(p:Pg)(c:Cf)(hC:gO p c)(hP:gN c)(h0:c.e=0)(hl:0<c.b.length)(hb:c.b.length<900000)(hs:c.s.st.length<=1000)(hm:c.s.m.length<=1000000)(k12: ¬(enX p c 0).kind=12)(k11: ¬(enX p c 0).kind=11)(k1: ¬(enX p c 0).kind=1)(k2: ¬(enX p c 0).kind=2)(k4:(enX p c 0).kind=4)(hf:(c.b.getD 0 default).ft=false)(hd:(enX p c 0).d=2):Vc (vF_ 59 [.agg (pgA p),.agg (cfA c)] [.fv,gR p c,gQ p c,gP c,.b false,.b false,.b false,.bd false,.b false,.bd false,.bd false,.bd false,.bd true,.ix 2,.bd false] [] (.tup [.agg (cfA ⟨c.s.set 2 (c.b.getD 0 default).val,co c.b,c.r,c.e⟩),.bool true]) []):=aj (dy p (gk p c (gl c (cj hC (cj (pv ((0:Int)<=0∧(0:Int)<c.b.length)) (dy p (gz p c (cj (bL p (c.b.getD 0 default).pc) (cj (rf c.b.length) (cj (rr c.b.length 8 fun i j=>ao enC c.b i j) (cj hP (cj (ap 0 c.s.m.length 8) (cj (ap 0 c.s.st.length 8) (cj hf (cj hf (cj hf (cj (e0 ((enX p c 0).kind) 12) (cj hf (cj (e0 ((enX p c 0).kind) 11) (cj (e0 ((enX p c 0).kind) 1) (cj (e0 ((enX p c 0).kind) 2) (cj (e1 ((enX p c 0).kind) 4) (cj (EN p c hd) (cj (ax.2 h0) (DO c (cj (za c.s.m.length) (cj (rr (0+c.s.m.length) 1 fun i j=>aI (List.getD c.s.m i 0)) (cj (za c.s.st.length) (jX c trivial)))))))))))))))))))))))))))))
theorem E2(p:Pg)(c:Cf)(hC:gO p c)(hP:gN c)(h0:c.e=0)(hl:0<c.b.length)(hb:c.b.length<900000)(hs:c.s.st.length<=1000)(hm:c.s.m.length<=1000000)(k12: ¬(enX p c 0).kind=12)(k11: ¬(enX p c 0).kind=11)(k1: ¬(enX p c 0).kind=1)(k2: ¬(enX p c 0).kind=2)(k4:(enX p c 0).kind=4)(hf:(c.b.getD 0 default).ft=false)(hd:(enX p c 0).d=3):Vc (vF_ 59 [.agg (pgA p),.agg (cfA c)] [.fv,gR p c,gQ p c,gP c,.b false,.b false,.b false,.bd false,.b false,.bd false,.bd false,.bd false,.bd true,.ix 3,.bd false] [] (.tup [.agg (cfA ⟨c.s.set 3 (c.b.getD 0 default).val,co c.b,c.r,c.e⟩),.bool true]) []):=aj (dy p (gk p c (gl c (cj hC (cj (pv ((0:Int)<=0∧(0:Int)<c.b.length)) (dy p (gz p c (cj (bL p (c.b.getD 0 default).pc) (cj (rf c.b.length) (cj (rr c.b.length 8 fun i j=>ao enC c.b i j) (cj hP (cj (ap 0 c.s.m.length 8) (cj (ap 0 c.s.st.length 8) (cj hf (cj hf (cj hf (cj (e0 ((enX p c 0).kind) 12) (cj hf (cj (e0 ((enX p c 0).kind) 11) (cj (e0 ((enX p c 0).kind) 1) (cj (e0 ((enX p c 0).kind) 2) (cj (e1 ((enX p c 0).kind) 4) (cj (EM p c hd) (cj (ax.2 h0) (vW c (cj (za c.s.m.length) (cj (rr (0+c.s.m.length) 1 fun i j=>aI (List.getD c.s.m i 0)) (cj (za c.s.st.length) (jX c trivial)))))))))))))))))))))))))))))
theorem N3(p:Pg)(c:Cf)(hC:gO p c)(hP:gN c)(h0:c.e=0)(hl:0<c.b.length)(hb:c.b.length<900000)(hs:c.s.st.length<=1000)(hm:c.s.m.length<=1000000)(k12: ¬(enX p c 0).kind=12)(k11: ¬(enX p c 0).kind=11)(k1: ¬(enX p c 0).kind=1)(k2: ¬(enX p c 0).kind=2)(k4: ¬(enX p c 0).kind=4)(k3:(enX p c 0).kind=3)(hf:(c.b.getD 0 default).ft=false)(ha:0<=(c.b.getD 0 default).adr)(ha1:(c.b.getD 0 default).adr<c.s.m.length):Vc (vF_ 59 [.agg (pgA p),.agg (cfA c)] [.fv,gR p c,gQ p c,gP c,.b false,.b false,.b false,.bd false,.b false,.bd false,.bd false,.bd false,.bd false,.bd true,.bd false] [] (.tup [.agg (cfA ⟨{c.s with m:=c.s.m.set (c.b.getD 0 default).adr.toNat (c.b.getD 0 default).val},co c.b,c.r,c.e⟩),.bool true]) []):=aj (dy p (gk p c (gl c (cj hC (cj (pv ((0:Int)<=0∧(0:Int)<c.b.length)) (dy p (gz p c (cj (bL p (c.b.getD 0 default).pc) (cj (rf c.b.length) (cj (rr c.b.length 8 fun i j=>ao enC c.b i j) (cj hP (cj (ap 0 c.s.m.length 8) (cj (ap 0 c.s.st.length 8) (cj hf (cj hf (cj hf (cj (e0 ((enX p c 0).kind) 12) (cj hf (cj (e0 ((enX p c 0).kind) 11) (cj (e0 ((enX p c 0).kind) 1) (cj (e0 ((enX p c 0).kind) 2) (cj (e0 ((enX p c 0).kind) 4) (cj (e1 ((enX p c 0).kind) 3) (cj (bi ((c.b.getD 0 default).adr) (↑((0:Nat)+c.s.m.length):Int)) (cj (lz (Int.toNat (c.b.getD 0 default).adr) c.s.m.length) (cj (ax.2 h0) (se c (cj (pv ((0:Nat)+c.s.m.length=(List.set c.s.m (Int.toNat (c.b.getD 0 default).adr) (c.b.getD 0 default).val).length)) (cj (show ∀(i:Nat),i<0+c.s.m.length-> ∀(j:Nat),j<1->(bif Nat.ble (0:Nat) j&&Nat.blt j (1:Nat)&&Nat.beq (i+0) (Int.toNat (c.b.getD 0 default).adr+0) then List.getD [aI (c.b.getD 0 default).val] (j-0) AV.junk else aI (List.getD c.s.m (i+0-0) 0))=aI (List.getD (List.set c.s.m (Int.toNat (c.b.getD 0 default).adr) (c.b.getD 0 default).val) i 0) from xi) (cj (za c.s.st.length) (jX c trivial)))))))))))))))))))))))))))))))
theorem Cz(c:Cf){Z:Prop}(z:Z):(RF c.s.pc (RF ((co c.b).length) (RR ((co c.b).length) 8 (fun i j=>ao enC (co c.b) i j) (RF c.r.length (RR c.r.length 1 (fun i j=>aI (c.r.getD i 0)) (RF c.e (RF true Z))))))):=⟨rfl,rfl,fun _ _ _ _=>rfl,rfl,fun _ _ _ _=>rfl,rfl,rfl,z⟩
theorem N2(p:Pg)(c:Cf)(hC:gO p c)(hP:gN c)(h0:c.e=0)(hl:0<c.b.length)(hb:c.b.length<900000)(hs:c.s.st.length<=1000)(hm:c.s.m.length<=1000000)(k12: ¬(enX p c 0).kind=12)(k11: ¬(enX p c 0).kind=11)(k1: ¬(enX p c 0).kind=1)(k2: ¬(enX p c 0).kind=2)(k4: ¬(enX p c 0).kind=4)(k3: ¬(enX p c 0).kind=3)(k8:(enX p c 0).kind=8)(hf:(c.b.getD 0 default).ft=false)(hp:0<=(c.b.getD 0 default).pc)(hp1:(c.b.getD 0 default).pc<=1000000):Vc (vF_ 59 [.agg (pgA p),.agg (cfA c)] [.fv,gR p c,gQ p c,gP c,.b false,.b false,.b false,.bd false,.b false,.bd false,.bd false,.bd false,.bd false,.bd false,.bd true,.bd false] [] (.tup [.agg (cfA ⟨{c.s with st:=c.s.st++[(c.b.getD 0 default).pc+1]},co c.b,c.r,c.e⟩),.bool true]) []):=aj (dy p (gk p c (gl c (cj hC (cj (pv ((0:Int)<=0∧(0:Int)<c.b.length)) (dy p (gz p c (cj (bL p (c.b.getD 0 default).pc) (cj (rf c.b.length) (cj (rr c.b.length 8 fun i j=>ao enC c.b i j) (cj hP (cj (ap 0 c.s.m.length 8) (cj (ap 0 c.s.st.length 8) (cj hf (cj hf (cj hf (cj (e0 ((enX p c 0).kind) 12) (cj hf (cj (e0 ((enX p c 0).kind) 11) (cj (e0 ((enX p c 0).kind) 1) (cj (e0 ((enX p c 0).kind) 2) (cj (e0 ((enX p c 0).kind) 4) (cj (e0 ((enX p c 0).kind) 3) (cj (e1 ((enX p c 0).kind) 8) (cj (i6 ((c.b.getD 0 default).pc+1)) (cj (ap (0+c.s.st.length) 1 8) (cj (ax.2 h0) (se c (cj (za c.s.m.length) (cj (rr (0+c.s.m.length) 1 fun i j=>aI (List.getD c.s.m i 0)) (cj (pv ((0:Nat)+c.s.st.length+1=(c.s.st++[(c.b.getD 0 default).pc+1]).length)) (cj (show ∀(i:Nat),i<0+c.s.st.length+1-> ∀(j:Nat),j<1->(bif Nat.blt (i+0) ((0:Nat)+c.s.st.length) then aI (List.getD c.s.st (i+0-0) 0) else List.getD [aI ((c.b.getD 0 default).pc+1)] ((i+0-((0:Nat)+c.s.st.length)+0)*1+j) AV.junk)=aI (List.getD (c.s.st++[(c.b.getD 0 default).pc+1]) i (0:Int)) from uO) (Cz c trivial)))))))))))))))))))))))))))))))))
theorem N1(p:Pg)(c:Cf)(hC:gO p c)(hP:gN c)(h0:c.e=0)(hl:0<c.b.length)(hb:c.b.length<900000)(hs:c.s.st.length<=1000)(hm:c.s.m.length<=1000000)(k12: ¬(enX p c 0).kind=12)(k11: ¬(enX p c 0).kind=11)(k1: ¬(enX p c 0).kind=1)(k2: ¬(enX p c 0).kind=2)(k4: ¬(enX p c 0).kind=4)(k3: ¬(enX p c 0).kind=3)(k8: ¬(enX p c 0).kind=8)(k9:(enX p c 0).kind=9)(hf:(c.b.getD 0 default).ft=false)(hz:c.s.st.length≠0):Vc (vF_ 59 [.agg (pgA p),.agg (cfA c)] [.fv,gR p c,gQ p c,gP c,.b false,.b false,.b false,.bd false,.b false,.bd false,.bd false,.bd false,.bd false,.bd false,.bd false,.bd true,.bd false] [] (.tup [.agg (cfA ⟨{c.s with st:=c.s.st.take (c.s.st.length-1)},co c.b,c.r,c.e⟩),.bool true]) []):=aj (dy p (gk p c (gl c (cj hC (cj (pv ((0:Int)<=0∧(0:Int)<c.b.length)) (dy p (gz p c (cj (bL p (c.b.getD 0 default).pc) (cj (rf c.b.length) (cj (rr c.b.length 8 fun i j=>ao enC c.b i j) (cj hP (cj (ap 0 c.s.m.length 8) (cj (ap 0 c.s.st.length 8) (cj hf (cj hf (cj hf (cj (e0 ((enX p c 0).kind) 12) (cj hf (cj (e0 ((enX p c 0).kind) 11) (cj (e0 ((enX p c 0).kind) 1) (cj (e0 ((enX p c 0).kind) 2) (cj (e0 ((enX p c 0).kind) 4) (cj (e0 ((enX p c 0).kind) 3) (cj (e0 ((enX p c 0).kind) 8) (cj (e1 ((enX p c 0).kind) 9) (cj (i6 ((↑((0:Nat)+c.s.st.length):Int)-1)) (cj (pv ((0:Int)<=(↑((0:Nat)+c.s.st.length):Int)-1∧(↑((0:Nat)+c.s.st.length):Int)-1<=(↑((0:Nat)+c.s.st.length):Int))) (cj (ax.2 h0) (se c (cj (za c.s.m.length) (cj (rr (0+c.s.m.length) 1 fun i j=>aI (List.getD c.s.m i 0)) (cj (pv (Int.toNat ((↑((0:Nat)+c.s.st.length):Int)-1)=(List.take (c.s.st.length-1) c.s.st).length)) (cj (show ∀(i:Nat),i<Int.toNat ((↑((0:Nat)+c.s.st.length):Int)-1)-> ∀(j:Nat),j<1->aI (List.getD c.s.st (i+0-0) 0)=aI (List.getD (List.take (c.s.st.length-1) c.s.st) i 0) from uL) (Cz c trivial))))))))))))))))))))))))))))))))))
theorem NZ(p:Pg)(c:Cf)(hC:gO p c)(hP:gN c)(h0:c.e=0)(hl:0<c.b.length)(hb:c.b.length<900000)(hs:c.s.st.length<=1000)(hm:c.s.m.length<=1000000)(k12: ¬(enX p c 0).kind=12)(k11: ¬(enX p c 0).kind=11)(k1: ¬(enX p c 0).kind=1)(k2: ¬(enX p c 0).kind=2)(k4: ¬(enX p c 0).kind=4)(k3: ¬(enX p c 0).kind=3)(k8: ¬(enX p c 0).kind=8)(k9: ¬(enX p c 0).kind=9)(hf:(c.b.getD 0 default).ft=false):Vc (vF_ 59 [.agg (pgA p),.agg (cfA c)] [.fv,gR p c,gQ p c,gP c,.b false,.b false,.b false,.bd false,.b false,.bd false,.bd false,.bd false,.bd false,.bd false,.bd false,.bd false,.bd false] [] (.tup [.agg (cfA ⟨c.s,co c.b,c.r,c.e⟩),.bool true]) []):=aj (dy p (gk p c (gl c (cj hC (cj (pv ((0:Int)<=0∧(0:Int)<c.b.length)) (dy p (gz p c (cj (bL p (c.b.getD 0 default).pc) (cj (rf c.b.length) (cj (rr c.b.length 8 fun i j=>ao enC c.b i j) (cj hP (cj (ap 0 c.s.m.length 8) (cj (ap 0 c.s.st.length 8) (cj hf (cj hf (cj hf (cj (e0 ((enX p c 0).kind) 12) (cj hf (cj (e0 ((enX p c 0).kind) 11) (cj (e0 ((enX p c 0).kind) 1) (cj (e0 ((enX p c 0).kind) 2) (cj (e0 ((enX p c 0).kind) 4) (cj (e0 ((enX p c 0).kind) 3) (cj (e0 ((enX p c 0).kind) 8) (cj (e0 ((enX p c 0).kind) 9) (cj (ax.2 h0) (se c (cj (za c.s.m.length) (cj (rr (0+c.s.m.length) 1 fun i j=>aI (List.getD c.s.m i 0)) (cj (za c.s.st.length) (jX c trivial)))))))))))))))))))))))))))))))
theorem qb{p:Pg}{c:Cf}(h:crV p c=true):c.e=0∧0<c.b.length∧((c.b.getD 0 default).dn=true∨(enX p c 0).kind=10)∧((enX p c 0).kind=3->(c.b.getD 0 default).kn=true):=by
 unfold crV at h
 split at h
 ·rename_i h0
  cases hb:c.b with
  |nil=>rw[hb] at h;cases h
  |cons e l=>
   rw[hb] at h
   simp only[crE,av,fH] at h
   refine⟨h0,by simp, ?_,fun hk=> ?_⟩
   ·rcases h.1 with h1 |h1
    ·exact .inl h1
    ·refine .inr ?_
     unfold enX;rw[hb];simpa using h1
   ·unfold enX at hk;rw[hb] at hk
    rcases h.2 with h1 |h1
    ·exact absurd hk (by simpa using h1)
    ·exact h1
 ·cases h
theorem N4(p:Pg)(c:Cf)(ho:RtOk p c)(hf: ∀e∈c.b, -1000000<=e.frm∧e.frm<=1000000):pC_ 59 [.agg (pgA p),.agg (cfA c)] (.tup (ocA (rtO p c))) []:=by
 have hC:=KB p c
 unfold rtO
 cases hc:crV p c with
 |false=>rw[hc] at hC;exact PureC.vc (NY p c hC)
 |true=>
  rw[hc] at hC
  rw[aq rfl]
  obtain⟨h0,hl,hdn,hkn⟩:=qb hc
  have hP:=Ki c.b (by have:=ho.bl;omega) hf
  show PureC _ _ _ (.tup [.agg (cfA (rtV p c)),.bool true]) _
  cases hf:(c.b.getD 0 default).ft with
  |true=>rw[show rtV p c=⟨c.s.go (c.b.getD 0 default).pc,[],[],2⟩ from by unfold rtV;rw[aq (.inl hf)]];exact PureC.vc (N0 p c hC hP h0 hl ho.bl ho.sl ho.ml hf)
  |false=>
  by_cases k12:(enX p c 0).kind=12
  ·rw[show rtV p c=⟨c.s.go (c.b.getD 0 default).pc,[],[],2⟩ from by unfold rtV;rw[aq (.inr k12)]];exact PureC.vc (Ke p c hC hP h0 hl ho.bl ho.sl ho.ml k12 hf)
  have n12: ¬((c.b.getD 0 default).ft=true∨(enX p c 0).kind=12):=by rintro(h |h);rw[hf] at h;cases h;exact k12 h
  by_cases k11:(enX p c 0).kind=11
  ·rw[show rtV p c=⟨c.s.go (c.b.getD 0 default).pc,[],[],1⟩ from by unfold rtV;rw[an n12,aq k11]];exact PureC.vc (Kf p c hC hP h0 hl ho.bl ho.sl ho.ml k12 k11 hf)
  by_cases k1:(enX p c 0).kind=1
  ·obtain⟨hd0,hd1⟩:=ho.d (jP k1)
   rcases jK hd0 hd1 with hd |hd |hd |hd
   ·rw[show rtV p c=⟨c.s.set 0 (c.b.getD 0 default).val,co c.b,c.r,c.e⟩ from by unfold rtV;rw[an n12,an k11,aq (jP k1),hd]];exact PureC.vc (Fd p c hC hP h0 hl ho.bl ho.sl ho.ml k12 k11 k1 hf hd)
   ·rw[show rtV p c=⟨c.s.set 1 (c.b.getD 0 default).val,co c.b,c.r,c.e⟩ from by unfold rtV;rw[an n12,an k11,aq (jP k1),hd]];exact PureC.vc (Fc p c hC hP h0 hl ho.bl ho.sl ho.ml k12 k11 k1 hf hd)
   ·rw[show rtV p c=⟨c.s.set 2 (c.b.getD 0 default).val,co c.b,c.r,c.e⟩ from by unfold rtV;rw[an n12,an k11,aq (jP k1),hd]];exact PureC.vc (Fb p c hC hP h0 hl ho.bl ho.sl ho.ml k12 k11 k1 hf hd)
   ·rw[show rtV p c=⟨c.s.set 3 (c.b.getD 0 default).val,co c.b,c.r,c.e⟩ from by unfold rtV;rw[an n12,an k11,aq (jP k1),hd]];exact PureC.vc (Fa p c hC hP h0 hl ho.bl ho.sl ho.ml k12 k11 k1 hf hd)
  by_cases k2:(enX p c 0).kind=2
  ·obtain⟨hd0,hd1⟩:=ho.d (jO k2)
   rcases jK hd0 hd1 with hd |hd |hd |hd
   ·rw[show rtV p c=⟨c.s.set 0 (c.b.getD 0 default).val,co c.b,c.r,c.e⟩ from by unfold rtV;rw[an n12,an k11,aq (jO k2),hd]];exact PureC.vc (E9 p c hC hP h0 hl ho.bl ho.sl ho.ml k12 k11 k1 k2 hf hd)
   ·rw[show rtV p c=⟨c.s.set 1 (c.b.getD 0 default).val,co c.b,c.r,c.e⟩ from by unfold rtV;rw[an n12,an k11,aq (jO k2),hd]];exact PureC.vc (E8 p c hC hP h0 hl ho.bl ho.sl ho.ml k12 k11 k1 k2 hf hd)
   ·rw[show rtV p c=⟨c.s.set 2 (c.b.getD 0 default).val,co c.b,c.r,c.e⟩ from by unfold rtV;rw[an n12,an k11,aq (jO k2),hd]];exact PureC.vc (E7 p c hC hP h0 hl ho.bl ho.sl ho.ml k12 k11 k1 k2 hf hd)
   ·rw[show rtV p c=⟨c.s.set 3 (c.b.getD 0 default).val,co c.b,c.r,c.e⟩ from by unfold rtV;rw[an n12,an k11,aq (jO k2),hd]];exact PureC.vc (E6 p c hC hP h0 hl ho.bl ho.sl ho.ml k12 k11 k1 k2 hf hd)
  by_cases k4:(enX p c 0).kind=4
  ·obtain⟨hd0,hd1⟩:=ho.d (jN k4)
   rcases jK hd0 hd1 with hd |hd |hd |hd
   ·rw[show rtV p c=⟨c.s.set 0 (c.b.getD 0 default).val,co c.b,c.r,c.e⟩ from by unfold rtV;rw[an n12,an k11,aq (jN k4),hd]];exact PureC.vc (E5 p c hC hP h0 hl ho.bl ho.sl ho.ml k12 k11 k1 k2 k4 hf hd)
   ·rw[show rtV p c=⟨c.s.set 1 (c.b.getD 0 default).val,co c.b,c.r,c.e⟩ from by unfold rtV;rw[an n12,an k11,aq (jN k4),hd]];exact PureC.vc (E4 p c hC hP h0 hl ho.bl ho.sl ho.ml k12 k11 k1 k2 k4 hf hd)
   ·rw[show rtV p c=⟨c.s.set 2 (c.b.getD 0 default).val,co c.b,c.r,c.e⟩ from by unfold rtV;rw[an n12,an k11,aq (jN k4),hd]];exact PureC.vc (E3 p c hC hP h0 hl ho.bl ho.sl ho.ml k12 k11 k1 k2 k4 hf hd)
   ·rw[show rtV p c=⟨c.s.set 3 (c.b.getD 0 default).val,co c.b,c.r,c.e⟩ from by unfold rtV;rw[an n12,an k11,aq (jN k4),hd]];exact PureC.vc (E2 p c hC hP h0 hl ho.bl ho.sl ho.ml k12 k11 k1 k2 k4 hf hd)
  have kd: ¬(dR (enX p c 0)=true):=by simp[dR,k1,k2,k4]
  have e0:rtV p c=if(enX p c 0).kind=3 then⟨{c.s with m:=c.s.m.set (c.b.getD 0 default).adr.toNat (c.b.getD 0 default).val},co c.b,c.r,c.e⟩ else if(enX p c 0).kind=8 then⟨{c.s with st:=c.s.st++[(c.b.getD 0 default).pc+1]},co c.b,c.r,c.e⟩ else if(enX p c 0).kind=9 then⟨{c.s with st:=c.s.st.take (c.s.st.length-1)},co c.b,c.r,c.e⟩ else⟨c.s,co c.b,c.r,c.e⟩:=by
   unfold rtV;rw[an n12,an k11,an kd]
  rw[e0]
  by_cases k3:(enX p c 0).kind=3
  ·rw[aq k3]
   obtain⟨ha,ha1⟩:=ho.m k3 hf (hkn k3)
   exact PureC.vc (N3 p c hC hP h0 hl ho.bl ho.sl ho.ml k12 k11 k1 k2 k4 k3 hf ha ha1)
  rw[an k3]
  by_cases k8:(enX p c 0).kind=8
  ·rw[aq k8];exact PureC.vc (N2 p c hC hP h0 hl ho.bl ho.sl ho.ml k12 k11 k1 k2 k4 k3 k8 hf ho.pc.1 ho.pc.2)
  rw[an k8]
  by_cases k9:(enX p c 0).kind=9
  ·rw[aq k9];exact PureC.vc (N1 p c hC hP h0 hl ho.bl ho.sl ho.ml k12 k11 k1 k2 k4 k3 k8 k9 hf (ho.st k9 hf (by rcases hdn with h |h;exact h;omega)))
  rw[an k9];exact PureC.vc (NZ p c hC hP h0 hl ho.bl ho.sl ho.ml k12 k11 k1 k2 k4 k3 k8 k9 hf)
structure Dr where
 k:Int
 n:Int
 deriving DecidableEq
instance:Inhabited Dr:=⟨⟨0,0⟩⟩
def drA(d:Dr):List AV:=[.int .i64 d.k,.int .i64 d.n]
def drC(d:Dr)(j:Nat):AV:=(drA d).getD j .junk
def drR(l:List Dr):AV:= .row 2 l.length (ao drC l)
def drB(l:List Dr):Blk:=⟨0,false,77,.rows 2 l.length (ao drC l)⟩
def drO(l:List Dr):AV:= .own 0 0 2 0 l.length
def cfP(c:Cf):AV:= .rptr 10 (fun q=>(cfA c).getD q .junk) 0
def aF:Nat->List Dr
 |0=>[]
 |k+1=>aF k++[⟨1,k⟩]
def aX(p:Pg)(c:Cf)(L:List Dr):Nat->List Dr
 |0=>L
 |k+1=>if cnV p c k=true then aX p c L k++[⟨2,k⟩] else aX p c L k
def aA(p:Pg)(c:Cf)(L:List Dr):Nat->List Dr
 |0=>L
 |k+1=>if caV p c k=true then aA p c L k++[⟨3,k⟩] else aA p c L k
def aR(p:Pg)(c:Cf)(L:List Dr):List Dr:=if crV p c=true then L++[⟨4,0⟩] else L
def da(p:Pg)(c:Cf):List Dr:=aR p c (aA p c (aX p c (aF (gsV p c).toNat) c.b.length) c.b.length)
def fS(p:Pg)(c:Cf)(L:List Dr)(s k:Nat):Sm:=⟨[(2,pgP p),(3,cfP c),(5,drO L),(s,.int .i64 k)],[(0,drB L)],1⟩
theorem iw(c:Cf){Z:Prop}(z:Z):(RR c.s.m.length 1 (fun i j=>aI (List.getD c.s.m i 0)) (RF c.s.st.length (RR c.s.st.length 1 (fun i j=>aI (List.getD c.s.st i 0)) (RF c.s.pc (RF c.b.length (RR c.b.length 8 (fun i j=>ao enC c.b i j) (RF c.r.length (RR c.r.length 1 (fun i j=>aI (c.r.getD i 0)) (RF c.e Z))))))))):=⟨fun _ _ _ _=>rfl,rfl,fun _ _ _ _=>rfl,rfl,rfl,fun _ _ _ _=>rfl,rfl,fun _ _ _ _=>rfl,rfl,z⟩
theorem iv(p:Pg)(c:Cf){Z:Prop}(z:Z):(RF p.ls.length (RR p.ls.length 2 (fun i j=>ao lbC p.ls i j) (RF p.is.length (RR p.is.length 9 (fun i j=>ao inC p.is i j) (RF c.s.r0 (RF c.s.r1 (RF c.s.r2 (RF c.s.r3 (RF c.s.m.length Z))))))))):=⟨rfl,fun _ _ _ _=>rfl,rfl,fun _ _ _ _=>rfl,rfl,rfl,rfl,rfl,rfl,z⟩
theorem iu(p:Pg){Z:Prop}(z:Z):(RF p.W (RF p.win (RF p.fuel (RF p.r0 (RF p.r1 (RF p.r2 (RF p.r3 (RF p.ms.length (RR p.ms.length 3 (fun i j=>ao mmC p.ms i j) Z))))))))):=⟨rfl,rfl,rfl,rfl,rfl,rfl,rfl,rfl,fun _ _ _ _=>rfl,z⟩
abbrev Dh(p:Pg)(c:Cf):Prop:=PureC Tryz.prog 57 [.agg (pgA p),.agg (cfA c)] (.int .i64 (gsV p c)) []
theorem P7(p:Pg)(c:Cf)(L:List Dr)(k:Nat)(hk1:k<1000000)(hL:L.length<10000000)(hG:Dh p c)(hk:(k:Int)<gsV p c):Vc (vC_ 27 0 (fS p c L 6 k) [.cl [.agg (pgA p),.agg (cfA c)] (aI (gsV p c)) [],.bd true] .nrm [(0,0)] (fS p c (L++[⟨1,k⟩]) 6 (k+1))):=aj (iu p (iv p c (iw c (cj hG (cj (dt ((k:Int)<gsV p c)) (cj (ap L.length 1 16) (cj (i6 (k+1)) (cj (pv (L.length+1=(L++[Dr.mk (1:Int) (k:Int)]).length)) (cj (show ∀(i:Nat),i<L.length+1-> ∀(j:Nat),j<2->(bif Nat.blt i L.length then ao drC L i j else List.getD [aI 1,aI k] ((i-L.length+0)*2+j) AV.junk)=ao drC (L++[Dr.mk (1:Int) (k:Int)]) i j from(fun i hi j hj=>de (fun h=>(bW h).symm) (fun h=>by obtain rfl:i=_:=bm (bk.mp hi) (bt.mp h);rw[bX,bA];match j,hj with |0,_=>rfl |1,_=>rfl))) (iu p (iv p c (iw c (cj (rf (0:Nat)) (cj (pv (L.length+1=(L++[Dr.mk (1:Int) (k:Int)]).length)) (cj (rf ((k:Int)+1)) trivial)))))))))))))))
theorem wc(c:Cf)(L:List Dr)(k:Nat){Z:Prop}(z:Z):(RR c.r.length 1 (fun i j=>aI (c.r.getD i 0)) (RF c.e (RF (0:Nat) (RF L.length (RF (k:Int) Z))))):=⟨fun _ _ _ _=>rfl,rfl,rfl,rfl,rfl,z⟩
theorem j8(c:Cf){Z:Prop}(z:Z):(RF c.s.r3 (RF c.s.m.length (RR c.s.m.length 1 (fun i j=>aI (List.getD c.s.m i 0)) (RF c.s.st.length (RR c.s.st.length 1 (fun i j=>aI (List.getD c.s.st i 0)) (RF c.s.pc (RF c.b.length (RR c.b.length 8 (fun i j=>ao enC c.b i j) (RF c.r.length Z))))))))):=⟨rfl,rfl,fun _ _ _ _=>rfl,rfl,fun _ _ _ _=>rfl,rfl,rfl,fun _ _ _ _=>rfl,rfl,z⟩
theorem j7(p:Pg)(c:Cf){Z:Prop}(z:Z):(RF p.ms.length (RR p.ms.length 3 (fun i j=>ao mmC p.ms i j) (RF p.ls.length (RR p.ls.length 2 (fun i j=>ao lbC p.ls i j) (RF p.is.length (RR p.is.length 9 (fun i j=>ao inC p.is i j) (RF c.s.r0 (RF c.s.r1 (RF c.s.r2 Z))))))))):=⟨rfl,fun _ _ _ _=>rfl,rfl,fun _ _ _ _=>rfl,rfl,fun _ _ _ _=>rfl,rfl,rfl,rfl,z⟩
theorem qu(p:Pg)(L:List Dr){Z:Prop}(z:Z):(RF L.length (RR L.length 2 (fun i j=>ao drC L i j) (RF p.W (RF p.win (RF p.fuel (RF p.r0 (RF p.r1 (RF p.r2 (RF p.r3 Z))))))))):=⟨rfl,fun _ _ _ _=>rfl,rfl,rfl,rfl,rfl,rfl,rfl,rfl,z⟩
theorem P8(p:Pg)(c:Cf)(L:List Dr)(k:Nat)(hk1:k<1000000)(hL:L.length<10000000)(hG:Dh p c)(hk: ¬(k:Int)<gsV p c):Vc (vC_ 27 0 (fS p c L 6 k) [.cl [.agg (pgA p),.agg (cfA c)] (aI (gsV p c)) [],.bd false] (.ext 0) [(0,0)] (fS p c L 6 k)):=aj (iu p (iv p c (iw c (cj hG (cj (df ((k:Int)<gsV p c)) (qu p L (j7 p c (j8 c (wc c L k trivial)))))))))
theorem P4(p:Pg)(c:Cf)(L:List Dr)(k:Nat)(hk1:k<1000000)(hL:L.length<10000000)(hC:pC_ 36 [.agg (pgA p),.agg (cfA c), aI k] (.bool true) [])(hk:k<c.b.length):Vc (vC_ 27 1 (fS p c L 7 k) [.bd true,.cl [.agg (pgA p),.agg (cfA c), aI k] (.bool true) []] .nrm [(0,0)] (fS p c (L++[⟨2,k⟩]) 7 (k+1))):=aj (cj (dt ((k:Int)<c.b.length)) (iu p (iv p c (iw c (cj (rf (k:Int)) (cj hC (cj (ap L.length 1 16) (cj (i6 (k+1)) (cj (pv (L.length+1=(L++[Dr.mk (2:Int) (k:Int)]).length)) (cj (show ∀(i:Nat),i<L.length+1-> ∀(j:Nat),j<2->(bif Nat.blt i L.length then ao drC L i j else List.getD [aI 2,aI k] ((i-L.length+0)*2+j) AV.junk)=ao drC (L++[Dr.mk (2:Int) (k:Int)]) i j from(fun i hi j hj=>de (fun h=>(bW h).symm) (fun h=>by obtain rfl:i=_:=bm (bk.mp hi) (bt.mp h);rw[bX,bA];match j,hj with |0,_=>rfl |1,_=>rfl))) (iu p (iv p c (iw c (cj (rf (0:Nat)) (cj (pv (L.length+1=(L++[Dr.mk (2:Int) (k:Int)]).length)) (cj (rf ((k:Int)+1)) trivial))))))))))))))))
theorem CM(c:Cf)(L:List Dr)(k:Nat){Z:Prop}(z:Z):(RR c.r.length 1 (fun i j=>aI (c.r.getD i 0)) (RF c.e (RF (0:Nat) (RF L.length (RF ((k:Int)+1) Z))))):=⟨fun _ _ _ _=>rfl,rfl,rfl,rfl,rfl,z⟩
theorem P5(p:Pg)(c:Cf)(L:List Dr)(k:Nat)(hk1:k<1000000)(hL:L.length<10000000)(hC:pC_ 36 [.agg (pgA p),.agg (cfA c), aI k] (.bool false) [])(hk:k<c.b.length):Vc (vC_ 27 1 (fS p c L 7 k) [.bd true,.cl [.agg (pgA p),.agg (cfA c), aI k] (.bool false) []] .nrm [(0,0)] (fS p c L 7 (k+1))):=aj (cj (dt ((k:Int)<c.b.length)) (iu p (iv p c (iw c (cj (rf (k:Int)) (cj hC (cj (i6 (k+1)) (qu p L (j7 p c (j8 c (CM c L k trivial)))))))))))
theorem P6(p:Pg)(c:Cf)(L:List Dr)(k:Nat)(hk1:k<1000000)(hL:L.length<10000000)(hk: ¬k<c.b.length):Vc (vC_ 27 1 (fS p c L 7 k) [.bd false] (.ext 2) [(0,0)] (fS p c L 7 k)):=aj (cj (df ((k:Int)<c.b.length)) (qu p L (j7 p c (j8 c (wc c L k trivial)))))
theorem P1(p:Pg)(c:Cf)(L:List Dr)(k:Nat)(hk1:k<1000000)(hL:L.length<10000000)(hC:pC_ 48 [.agg (pgA p),.agg (cfA c), aI k] (.bool true) [])(hk:k<c.b.length):Vc (vC_ 27 2 (fS p c L 8 k) [.bd true,.cl [.agg (pgA p),.agg (cfA c), aI k] (.bool true) []] .nrm [(0,0)] (fS p c (L++[⟨3,k⟩]) 8 (k+1))):=aj (cj (dt ((k:Int)<c.b.length)) (iu p (iv p c (iw c (cj (rf (k:Int)) (cj hC (cj (ap L.length 1 16) (cj (i6 (k+1)) (cj (pv (L.length+1=(L++[Dr.mk (3:Int) (k:Int)]).length)) (cj (show ∀(i:Nat),i<L.length+1-> ∀(j:Nat),j<2->(bif Nat.blt i L.length then ao drC L i j else List.getD [aI 3,aI k] ((i-L.length+0)*2+j) AV.junk)=ao drC (L++[Dr.mk (3:Int) (k:Int)]) i j from(fun i hi j hj=>de (fun h=>(bW h).symm) (fun h=>by obtain rfl:i=_:=bm (bk.mp hi) (bt.mp h);rw[bX,bA];match j,hj with |0,_=>rfl |1,_=>rfl))) (iu p (iv p c (iw c (cj (rf (0:Nat)) (cj (pv (L.length+1=(L++[Dr.mk (3:Int) (k:Int)]).length)) (cj (rf ((k:Int)+1)) trivial))))))))))))))))
theorem P2(p:Pg)(c:Cf)(L:List Dr)(k:Nat)(hk1:k<1000000)(hL:L.length<10000000)(hC:pC_ 48 [.agg (pgA p),.agg (cfA c), aI k] (.bool false) [])(hk:k<c.b.length):Vc (vC_ 27 2 (fS p c L 8 k) [.bd true,.cl [.agg (pgA p),.agg (cfA c), aI k] (.bool false) []] .nrm [(0,0)] (fS p c L 8 (k+1))):=aj (cj (dt ((k:Int)<c.b.length)) (iu p (iv p c (iw c (cj (rf (k:Int)) (cj hC (cj (i6 (k+1)) (qu p L (j7 p c (j8 c (CM c L k trivial)))))))))))
theorem P3(p:Pg)(c:Cf)(L:List Dr)(k:Nat)(hk1:k<1000000)(hL:L.length<10000000)(hk: ¬k<c.b.length):Vc (vC_ 27 2 (fS p c L 8 k) [.bd false] (.ext 4) [(0,0)] (fS p c L 8 k)):=aj (cj (df ((k:Int)<c.b.length)) (qu p L (j7 p c (j8 c (wc c L k trivial)))))
theorem ql: ∀k,(aF k).length=k
 |0=>rfl
 |k+1=>by rw[aF,aL,ql k];rfl
theorem qk(p:Pg)(c:Cf)(L:List Dr): ∀k,(aX p c L k).length<=L.length+k
 |0=>aB _
 |k+1=>by
  have:=qk p c L k
  unfold aX
  split
  ·rw[aL,bV];omega
  ·omega
theorem qm(p:Pg)(c:Cf)(L:List Dr): ∀k,(aA p c L k).length<=L.length+k
 |0=>aB _
 |k+1=>by
  have:=qm p c L k
  unfold aA
  split
  ·rw[aL,bV];omega
  ·omega
theorem Cm(p:Pg)(c:Cf)(hG:pC_ 57 [.agg (pgA p),.agg (cfA c)] (.int .i64 (gsV p c)) [])(hg:gsV p c<=1001):oL_ 27 0 (fS p c [] 6 0).st (.ext 0) (fS p c (aF (gsV p c).toNat) 6 (gsV p c).toNat).st:=
 Ok.loop (P:=Tryz.prog) (nt:=bY Tryz.prog 27) (c:=lpC Tryz.prog 27 0) (F:=fun k=>fS p c (aF k) 6 k) (m:=(gsV p c).toNat) (x:= .ext 0) (J:=fS p c (aF (gsV p c).toNat) 6 (gsV p c).toNat) (fun k hk=>Ok.vc (P7 p c (aF k) k (by omega) (by rw[ql];omega) hG (by omega))) (Ok.vc (P8 p c _ _ (by omega) (by rw[ql];omega) hG (by omega))) (by simp)
theorem Cl(p:Pg)(c:Cf)(L:List Dr)(hL:L.length<=1000000)(hb:c.b.length<900000)(hC: ∀i:Nat,pC_ 36 [.agg (pgA p),.agg (cfA c),.int .i64 i] (.bool (cnV p c i)) []):oL_ 27 1 (fS p c L 7 0).st (.ext 2) (fS p c (aX p c L c.b.length) 7 c.b.length).st:=
 Ok.loop (P:=Tryz.prog) (nt:=bY Tryz.prog 27) (c:=lpC Tryz.prog 27 1) (F:=fun k=>fS p c (aX p c L k) 7 k) (m:=c.b.length) (x:= .ext 2) (J:=fS p c (aX p c L c.b.length) 7 c.b.length) (fun k hk=>by
  have h:=hC k
  have hl:=qk p c L k
  show Ok _ _ _ _ _ (fS p c (aX p c L (k+1)) 7 (k+1)).st
  rw[aX]
  cases hv:cnV p c k with
  |true=>rw[hv] at h;rw[aq rfl];exact Ok.vc (P4 p c _ k (by omega) (by omega) h hk)
  |false=>rw[hv] at h;rw[an (by simp)];exact Ok.vc (P5 p c _ k (by omega) (by omega) h hk)) (Ok.vc (P6 p c _ _ (by omega) (by have:=qk p c L c.b.length;omega) (by omega))) (by simp)
theorem Ck(p:Pg)(c:Cf)(L:List Dr)(hL:L.length<=2000000)(hb:c.b.length<900000)(hC: ∀i:Nat,pC_ 48 [.agg (pgA p),.agg (cfA c),.int .i64 i] (.bool (caV p c i)) []):oL_ 27 2 (fS p c L 8 0).st (.ext 4) (fS p c (aA p c L c.b.length) 8 c.b.length).st:=
 Ok.loop (P:=Tryz.prog) (nt:=bY Tryz.prog 27) (c:=lpC Tryz.prog 27 2) (F:=fun k=>fS p c (aA p c L k) 8 k) (m:=c.b.length) (x:= .ext 4) (J:=fS p c (aA p c L c.b.length) 8 c.b.length) (fun k hk=>by
  have h:=hC k
  have hl:=qm p c L k
  show Ok _ _ _ _ _ (fS p c (aA p c L (k+1)) 8 (k+1)).st
  rw[aA]
  cases hv:caV p c k with
  |true=>rw[hv] at h;rw[aq rfl];exact Ok.vc (P1 p c _ k (by omega) (by omega) h hk)
  |false=>rw[hv] at h;rw[an (by simp)];exact Ok.vc (P2 p c _ k (by omega) (by omega) h hk)) (Ok.vc (P3 p c _ _ (by omega) (by have:=qm p c L c.b.length;omega) (by omega))) (by simp)
theorem CL(c:Cf)(L2:List Dr){Z:Prop}(z:Z):(RR c.r.length 1 (fun i j=>aI (c.r.getD i 0)) (RF c.e (RF (0:Nat) (RF L2.length (RF (0:Int) Z))))):=⟨fun _ _ _ _=>rfl,rfl,rfl,rfl,rfl,z⟩
theorem CK(p:Pg)(L2:List Dr){Z:Prop}(z:Z):(RF L2.length (RR L2.length 2 (fun i j=>ao drC L2 i j) (RF p.W (RF p.win (RF p.fuel (RF p.r0 (RF p.r1 (RF p.r2 (RF p.r3 Z))))))))):=⟨rfl,fun _ _ _ _=>rfl,rfl,rfl,rfl,rfl,rfl,rfl,rfl,z⟩
theorem wj(c:Cf)(L1:List Dr){Z:Prop}(z:Z):(RR c.r.length 1 (fun i j=>aI (c.r.getD i 0)) (RF c.e (RF (0:Nat) (RF L1.length (RF (0:Int) Z))))):=⟨fun _ _ _ _=>rfl,rfl,rfl,rfl,rfl,z⟩
theorem wi(p:Pg)(L1:List Dr){Z:Prop}(z:Z):(RF L1.length (RR L1.length 2 (fun i j=>ao drC L1 i j) (RF p.W (RF p.win (RF p.fuel (RF p.r0 (RF p.r1 (RF p.r2 (RF p.r3 Z))))))))):=⟨rfl,fun _ _ _ _=>rfl,rfl,rfl,rfl,rfl,rfl,rfl,rfl,z⟩
theorem wh(c:Cf){Z:Prop}(z:Z):(RF c.e (RF (0:Nat) (RF (0:Nat) (RF (0:Int) Z)))):=⟨rfl,rfl,rfl,rfl,z⟩
theorem wg(c:Cf){Z:Prop}(z:Z):(RF c.s.m.length (RR c.s.m.length 1 (fun i j=>aI (List.getD c.s.m i 0)) (RF c.s.st.length (RR c.s.st.length 1 (fun i j=>aI (List.getD c.s.st i 0)) (RF c.s.pc (RF c.b.length (RR c.b.length 8 (fun i j=>ao enC c.b i j) (RF c.r.length (RR c.r.length 1 (fun i j=>aI (c.r.getD i 0)) Z))))))))):=⟨rfl,fun _ _ _ _=>rfl,rfl,fun _ _ _ _=>rfl,rfl,rfl,fun _ _ _ _=>rfl,rfl,fun _ _ _ _=>rfl,z⟩
theorem we(p:Pg)(c:Cf){Z:Prop}(z:Z):(RR p.ms.length 3 (fun i j=>ao mmC p.ms i j) (RF p.ls.length (RR p.ls.length 2 (fun i j=>ao lbC p.ls i j) (RF p.is.length (RR p.is.length 9 (fun i j=>ao inC p.is i j) (RF c.s.r0 (RF c.s.r1 (RF c.s.r2 (RF c.s.r3 Z))))))))):=⟨fun _ _ _ _=>rfl,rfl,fun _ _ _ _=>rfl,rfl,fun _ _ _ _=>rfl,rfl,rfl,rfl,rfl,z⟩
theorem wd(p:Pg){Z:Prop}(z:Z):(RF (0:Nat) (RF p.W (RF p.win (RF p.fuel (RF p.r0 (RF p.r1 (RF p.r2 (RF p.r3 (RF p.ms.length Z))))))))):=⟨rfl,rfl,rfl,rfl,rfl,rfl,rfl,rfl,rfl,z⟩
abbrev Dg(p:Pg)(c:Cf)(L1:List Dr)(n1:Nat):Prop:=Ok Tryz.prog (bY Tryz.prog 27) (.loop (lpC Tryz.prog 27 0)) (fS p c [] 6 0).st (.ext 0) (fS p c L1 6 n1).st
abbrev Df(p:Pg)(c:Cf)(L1:List Dr)(L2:List Dr)(n2:Nat):Prop:=Ok Tryz.prog (bY Tryz.prog 27) (.loop (lpC Tryz.prog 27 1)) (fS p c L1 7 0).st (.ext 2) (fS p c L2 7 n2).st
abbrev De(p:Pg)(c:Cf)(L2:List Dr)(L3:List Dr)(n3:Nat):Prop:=Ok Tryz.prog (bY Tryz.prog 27) (.loop (lpC Tryz.prog 27 2)) (fS p c L2 8 0).st (.ext 4) (fS p c L3 8 n3).st
theorem zE(p:Pg)(c:Cf)(L1 L2 L3:List Dr)(n1 n2 n3:Nat)(h1:Dg p c L1 n1)(h2:Df p c L1 L2 n2)(h3:De p c L2 L3 n3)(hR:pC_ 58 [.agg (pgA p),.agg (cfA c)] (.bool true) [])(hL:L3.length<10000000):Vc (vF_ 27 [.agg (pgA p),.agg (cfA c)] [.fv,.fv,.lp [] (fS p c [] 6 0) (.ext 0) (fS p c L1 6 n1),.lp [(0,0)] (fS p c L1 7 0) (.ext 2) (fS p c L2 7 n2),.lp [(0,0)] (fS p c L2 8 0) (.ext 4) (fS p c L3 8 n3),.cl [.agg (pgA p),.agg (cfA c)] (.bool true) []] [] (drR (L3++[⟨4,0⟩])) []):=aj (wd p (we p c (wg c (wh c (cj h1 (wi p L1 (j7 p c (j8 c (wj c L1 (cj h2 (CK p L2 (j7 p c (j8 c (CL c L2 (cj h3 (iu p (iv p c (iw c (cj hR (cj (ap L3.length 1 16) (cj (pv (L3.length+1=(L3++[Dr.mk (4:Int) (0:Int)]).length)) (cj (show ∀(i:Nat),i<L3.length+1-> ∀(j:Nat),j<2->(bif Nat.blt (i+0) L3.length then ao drC L3 (i+0) j else List.getD [aI 4,aI 0] ((i+0-L3.length+0)*2+j) AV.junk)=ao drC (L3++[Dr.mk (4:Int) (0:Int)]) i j from(fun i hi j hj=>by simp only[bF,dd,gh] at hi ⊢;exact de (fun h=>(bW h).symm) (fun h=>by obtain rfl:i=_:=bm (bk.mp hi) (bt.mp h);rw[bX,bA];match j,hj with |0,_=>rfl |1,_=>rfl))) trivial))))))))))))))))))))))
theorem vH(p:Pg)(c:Cf)(L1 L2 L3:List Dr)(n1 n2 n3:Nat)(h1:Dg p c L1 n1)(h2:Df p c L1 L2 n2)(h3:De p c L2 L3 n3)(hR:pC_ 58 [.agg (pgA p),.agg (cfA c)] (.bool false) [])(hL:L3.length<10000000):Vc (vF_ 27 [.agg (pgA p),.agg (cfA c)] [.fv,.fv,.lp [] (fS p c [] 6 0) (.ext 0) (fS p c L1 6 n1),.lp [(0,0)] (fS p c L1 7 0) (.ext 2) (fS p c L2 7 n2),.lp [(0,0)] (fS p c L2 8 0) (.ext 4) (fS p c L3 8 n3),.cl [.agg (pgA p),.agg (cfA c)] (.bool false) []] [] (drR L3) []):=aj (wd p (we p c (wg c (wh c (cj h1 (wi p L1 (j7 p c (j8 c (wj c L1 (cj h2 (CK p L2 (j7 p c (j8 c (CL c L2 (cj h3 (iu p (iv p c (iw c (cj hR (cj (rf L3.length) (cj (rr L3.length 2 fun i j=>ao drC L3 i j) trivial)))))))))))))))))))))
theorem GS(p:Pg)(c:Cf)(hl:p.is.length<1000):gsV p c<=1001:=by unfold gsV;repeat' split<;>omega
theorem KF(p:Pg)(c:Cf)(hl:p.is.length<1000)(hb:c.b.length<900000)(hm:c.s.m.length<1000000)(hv:Sml p c):pC_ 27 [.agg (pgA p),.agg (cfA c)] (drR (da p c)) []:=by
 have hG:=km p c hl (by omega)
 have hg:=GS p c hl
 have e1:=ql (gsV p c).toNat
 have e2:=qk p c (aF (gsV p c).toNat) c.b.length
 have e3:=qm p c (aX p c (aF (gsV p c).toNat) c.b.length) c.b.length
 have h1:=Cm p c hG hg
 have h2:=Cl p c (aF (gsV p c).toNat) (by omega) hb fun i=>Db p c i (by omega) hm hv
 have h3:=Ck p c (aX p c (aF (gsV p c).toNat) c.b.length) (by omega) hb fun i=>KC p c i (by omega)
 have hR:=KB p c
 unfold da aR
 cases hc:crV p c with
 |true=>rw[hc] at hR;rw[aq rfl];exact PureC.vc (zE p c _ _ _ _ _ _ h1 h2 h3 hR (by omega))
 |false=>rw[hc] at hR;rw[an (by simp)];exact PureC.vc (vH p c _ _ _ _ _ _ h1 h2 h3 hR (by omega))
def sayO(p:Pg)(c:Cf)(d:Dr):Option (Cf×List Ob):=
 if d.k=1 then(ftO p c d.n).map fun x=>(x,[]) else if d.k=2 then doO p c d.n else if d.k=3 then adrO p c d.n
 else if d.k=4 then(if d.n=0 then(rtO p c).map fun x=>(x,[]) else none) else none
structure MOk (p:Pg) (c:Cf):Prop where
 il:p.is.length<1000
 bl:c.b.length<900000
 ml:c.s.m.length<1000000
 sm:Sml p c
 sm': ∀k,Sml p (upE c k En.done)
 st:c.s.st.length<=1000
 bp: ∀e∈c.b, -1<=e.pc∧e.pc<=1000000
 bf: ∀e∈c.b, -1000000<=e.frm∧e.frm<=1000000
 pc: -1<=c.s.pc∧c.s.pc<=1000
 rl:c.r.length<1000
 rt:RtOk p c
theorem tk{Z:Prop}(z:Z):(RF (0:Nat) (RR 0 8 (fun i j=>ao enC [] i j) (RF (0:Nat) (RR 0 1 (fun i j=>aI (List.getD [] i (0:Int))) (RF (0:Int) (RF false Z)))))):=⟨rfl,fun _ _ _ _=>rfl,rfl,fun _ _ _ _=>rfl,rfl,rfl,z⟩
theorem tj{Z:Prop}(z:Z):(RF (0:Int) (RF (0:Int) (RF (0:Int) (RF (0:Int) (RF (0:Nat) (RR 0 1 (fun i j=>aI (List.getD [] i (0:Int))) (RF (0:Nat) (RR 0 1 (fun i j=>aI (List.getD [] i (0:Int))) (RF (0:Int) Z))))))))):=⟨rfl,rfl,rfl,rfl,rfl,fun _ _ _ _=>rfl,rfl,fun _ _ _ _=>rfl,rfl,z⟩
theorem js(c:Cf){Z:Prop}(z:Z):(RR c.s.m.length 1 (fun i j=>aI (List.getD c.s.m i 0)) (RF c.s.st.length (RR c.s.st.length 1 (fun i j=>aI (List.getD c.s.st i 0)) (RF c.s.pc (RF c.b.length (RR c.b.length 8 (fun i j=>ao enC c.b i j) (RF c.r.length (RR c.r.length 1 (fun i j=>aI (c.r.getD i 0)) (RF c.e Z))))))))):=⟨fun _ _ _ _=>rfl,rfl,fun _ _ _ _=>rfl,rfl,rfl,fun _ _ _ _=>rfl,rfl,fun _ _ _ _=>rfl,rfl,z⟩
theorem jr(p:Pg)(c:Cf){Z:Prop}(z:Z):(RF p.ls.length (RR p.ls.length 2 (fun i j=>ao lbC p.ls i j) (RF p.is.length (RR p.is.length 9 (fun i j=>ao inC p.is i j) (RF c.s.r0 (RF c.s.r1 (RF c.s.r2 (RF c.s.r3 (RF c.s.m.length Z))))))))):=⟨rfl,fun _ _ _ _=>rfl,rfl,fun _ _ _ _=>rfl,rfl,rfl,rfl,rfl,rfl,z⟩
theorem jq(p:Pg){Z:Prop}(z:Z):(RF p.W (RF p.win (RF p.fuel (RF p.r0 (RF p.r1 (RF p.r2 (RF p.r3 (RF p.ms.length (RR p.ms.length 3 (fun i j=>ao mmC p.ms i j) Z))))))))):=⟨rfl,rfl,rfl,rfl,rfl,rfl,rfl,rfl,fun _ _ _ _=>rfl,z⟩
theorem JP(p:Pg)(c c2:Cf)(n:Int)(hF:pC_ 34 [.agg (pgA p),.agg (cfA c), aI n] (.tup (ocA none)) []):Vc (vF_ 28 [.agg (pgA p),.agg (cfA c),.agg [aI 1, aI n]] [.fv,.fv,.fv,.bd true,.cl [.agg (pgA p),.agg (cfA c), aI n] (.tup (ocA none)) []] [] (.tup [.agg (cfA Cf0),.nils,.bool false]) []):=aj (cj (e1 1 1) (jq p (jr p c (js c (cj (rf n) (cj hF (tj (tk trivial))))))))
theorem ti(c2:Cf){Z:Prop}(z:Z):(RF c2.b.length (RR c2.b.length 8 (fun i j=>ao enC c2.b i j) (RF c2.r.length (RR c2.r.length 1 (fun i j=>aI (c2.r.getD i 0)) (RF c2.e (RF true Z)))))):=⟨rfl,fun _ _ _ _=>rfl,rfl,fun _ _ _ _=>rfl,rfl,rfl,z⟩
theorem oM(c2:Cf){Z:Prop}(z:Z):(RF c2.s.r0 (RF c2.s.r1 (RF c2.s.r2 (RF c2.s.r3 (RF c2.s.m.length (RR c2.s.m.length 1 (fun i j=>aI (List.getD c2.s.m i 0)) (RF c2.s.st.length (RR c2.s.st.length 1 (fun i j=>aI (List.getD c2.s.st i 0)) (RF c2.s.pc Z))))))))):=⟨rfl,rfl,rfl,rfl,rfl,fun _ _ _ _=>rfl,rfl,fun _ _ _ _=>rfl,rfl,z⟩
theorem JO(p:Pg)(c c2:Cf)(n:Int)(hF:pC_ 34 [.agg (pgA p),.agg (cfA c), aI n] (.tup (ocA (some c2))) []):Vc (vF_ 28 [.agg (pgA p),.agg (cfA c),.agg [aI 1, aI n]] [.fv,.fv,.fv,.bd true,.cl [.agg (pgA p),.agg (cfA c), aI n] (.tup (ocA (some c2))) []] [] (.tup [.agg (cfA c2),.nils,.bool true]) []):=aj (cj (e1 1 1) (jq p (jr p c (js c (cj (rf n) (cj hF (oM c2 (ti c2 trivial))))))))
theorem JN(p:Pg)(c c2:Cf)(n:Int)(hF:pC_ 13 [.agg (pgA p),.agg (cfA c), aI n] (dmA none) []):Vc (vF_ 28 [.agg (pgA p),.agg (cfA c),.agg [aI 2, aI n]] [.fv,.fv,.fv,.bd false,.bd true,.cl [.agg (pgA p),.agg (cfA c), aI n] (dmA none) []] [] (.tup [.agg (cfA Cf0),.nils,.bool false]) []):=aj (cj (e0 2 1) (cj (e1 2 2) (jq p (jr p c (js c (cj (rf n) (cj hF (tj (tk trivial)))))))))
theorem JL(p:Pg)(c c2:Cf)(n:Int)(hF:pC_ 13 [.agg (pgA p),.agg (cfA c), aI n] (dmA (some (c2,[]))) []):Vc (vF_ 28 [.agg (pgA p),.agg (cfA c),.agg [aI 2, aI n]] [.fv,.fv,.fv,.bd false,.bd true,.cl [.agg (pgA p),.agg (cfA c), aI n] (dmA (some (c2,[]))) []] [] (.tup [.agg (cfA c2),.nils,.bool true]) []):=aj (cj (e0 2 1) (cj (e1 2 2) (jq p (jr p c (js c (cj (rf n) (cj hF (oM c2 (ti c2 trivial)))))))))
theorem CJ(c2:Cf)(o:Ob)(l:List Ob){Z:Prop}(z:Z):(RF c2.b.length (RR c2.b.length 8 (fun i j=>ao enC c2.b i j) (RF c2.r.length (RR c2.r.length 1 (fun i j=>aI (c2.r.getD i 0)) (RF c2.e (RF ((o::l).length) (RR ((o::l).length) 2 (fun i j=>ao obC (o::l) i j) (RF true Z)))))))):=⟨rfl,fun _ _ _ _=>rfl,rfl,fun _ _ _ _=>rfl,rfl,rfl,fun _ _ _ _=>rfl,rfl,z⟩
theorem JM(p:Pg)(c c2:Cf)(n:Int)(o:Ob)(l:List Ob)(hF:pC_ 13 [.agg (pgA p),.agg (cfA c), aI n] (dmA (some (c2,o::l))) []):Vc (vF_ 28 [.agg (pgA p),.agg (cfA c),.agg [aI 2, aI n]] [.fv,.fv,.fv,.bd false,.bd true,.cl [.agg (pgA p),.agg (cfA c), aI n] (dmA (some (c2,o::l))) []] [] (.tup [.agg (cfA c2),(obR (o::l)),.bool true]) []):=aj (cj (e0 2 1) (cj (e1 2 2) (jq p (jr p c (js c (cj (rf n) (cj hF (oM c2 (CJ c2 o l trivial)))))))))
theorem JK(p:Pg)(c c2:Cf)(n:Int)(hF:pC_ 15 [.agg (pgA p),.agg (cfA c), aI n] (dmA none) []):Vc (vF_ 28 [.agg (pgA p),.agg (cfA c),.agg [aI 3, aI n]] [.fv,.fv,.fv,.bd false,.bd false,.bd true,.cl [.agg (pgA p),.agg (cfA c), aI n] (dmA none) []] [] (.tup [.agg (cfA Cf0),.nils,.bool false]) []):=aj (cj (e0 3 1) (cj (e0 3 2) (cj (e1 3 3) (jq p (jr p c (js c (cj (rf n) (cj hF (tj (tk trivial))))))))))
theorem JI(p:Pg)(c c2:Cf)(n:Int)(hF:pC_ 15 [.agg (pgA p),.agg (cfA c), aI n] (dmA (some (c2,[]))) []):Vc (vF_ 28 [.agg (pgA p),.agg (cfA c),.agg [aI 3, aI n]] [.fv,.fv,.fv,.bd false,.bd false,.bd true,.cl [.agg (pgA p),.agg (cfA c), aI n] (dmA (some (c2,[]))) []] [] (.tup [.agg (cfA c2),.nils,.bool true]) []):=aj (cj (e0 3 1) (cj (e0 3 2) (cj (e1 3 3) (jq p (jr p c (js c (cj (rf n) (cj hF (oM c2 (ti c2 trivial))))))))))
theorem JJ(p:Pg)(c c2:Cf)(n:Int)(o:Ob)(l:List Ob)(hF:pC_ 15 [.agg (pgA p),.agg (cfA c), aI n] (dmA (some (c2,o::l))) []):Vc (vF_ 28 [.agg (pgA p),.agg (cfA c),.agg [aI 3, aI n]] [.fv,.fv,.fv,.bd false,.bd false,.bd true,.cl [.agg (pgA p),.agg (cfA c), aI n] (dmA (some (c2,o::l))) []] [] (.tup [.agg (cfA c2),(obR (o::l)),.bool true]) []):=aj (cj (e0 3 1) (cj (e0 3 2) (cj (e1 3 3) (jq p (jr p c (js c (cj (rf n) (cj hF (oM c2 (CJ c2 o l trivial))))))))))
theorem JH(p:Pg)(c c2:Cf)(n:Int)(hF:pC_ 59 [.agg (pgA p),.agg (cfA c)] (.tup (ocA none)) []):Vc (vF_ 28 [.agg (pgA p),.agg (cfA c),.agg [aI 4, aI 0]] [.fv,.fv,.fv,.bd false,.bd false,.bd false,.bd true,.bd true,.cl [.agg (pgA p),.agg (cfA c)] (.tup (ocA none)) []] [] (.tup [.agg (cfA Cf0),.nils,.bool false]) []):=aj (cj (e0 4 1) (cj (e0 4 2) (cj (e0 4 3) (cj (e1 4 4) (cj (e1 0 0) (jq p (jr p c (js c (cj hF (tj (tk trivial)))))))))))
theorem JG(p:Pg)(c c2:Cf)(n:Int)(hF:pC_ 59 [.agg (pgA p),.agg (cfA c)] (.tup (ocA (some c2))) []):Vc (vF_ 28 [.agg (pgA p),.agg (cfA c),.agg [aI 4, aI 0]] [.fv,.fv,.fv,.bd false,.bd false,.bd false,.bd true,.bd true,.cl [.agg (pgA p),.agg (cfA c)] (.tup (ocA (some c2))) []] [] (.tup [.agg (cfA c2),.nils,.bool true]) []):=aj (cj (e0 4 1) (cj (e0 4 2) (cj (e0 4 3) (cj (e1 4 4) (cj (e1 0 0) (jq p (jr p c (js c (cj hF (oM c2 (ti c2 trivial)))))))))))
theorem CI{Z:Prop}(z:Z):(RF (0:Int) (RF (0:Int) (RF (0:Int) (RF (0:Int) (RF (0:Nat) (RF (0:Nat) (RF (0:Int) (RF (0:Nat) (RF (0:Nat) Z))))))))):=⟨rfl,rfl,rfl,rfl,rfl,rfl,rfl,rfl,rfl,z⟩
theorem JF(p:Pg)(c c2:Cf)(n:Int)(hn: ¬n=0):Vc (vF_ 28 [.agg (pgA p),.agg (cfA c),.agg [aI 4, aI n]] [.fv,.fv,.fv,.bd false,.bd false,.bd false,.bd true,.bd false] [] (.tup [.agg (cfA Cf0),.nils,.bool false]) []):=aj (cj (e0 4 1) (cj (e0 4 2) (cj (e0 4 3) (cj (e1 4 4) (cj (ae.2 hn) (CI (cj (rf (0:Int)) (cj (rf false) trivial))))))))
theorem NW(p:Pg)(c c2:Cf)(n:Int)(k:Int)(h1: ¬k=1)(h2: ¬k=2)(h3: ¬k=3)(h4: ¬k=4):Vc (vF_ 28 [.agg (pgA p),.agg (cfA c),.agg [aI k, aI n]] [.fv,.fv,.fv,.bd false,.bd false,.bd false,.bd false] [] (.tup [.agg (cfA Cf0),.nils,.bool false]) []):=aj (cj (ae.2 h1) (cj (ae.2 h2) (cj (ae.2 h3) (cj (ae.2 h4) (CI (cj (rf (0:Int)) (cj (rf false) trivial)))))))
theorem Kg(p:Pg)(c:Cf)(d:Dr)(h:MOk p c):pC_ 28 [.agg (pgA p),.agg (cfA c),.agg (drA d)] (dmA (sayO p c d)) []:=by
 obtain⟨k,n⟩:=d
 show PureC _ _ [_,_,.agg [.int .i64 k,.int .i64 n]] (dmA (if k=1 then(ftO p c n).map (fun x=>(x,[])) else if k=2 then doO p c n else if k=3 then adrO p c n else if k=4 then(if n=0 then(rtO p c).map (fun x=>(x,[])) else none) else none)) []
 by_cases h1:k=1
 ·subst h1
  rw[aq rfl]
  have q:=Ko p c n h.il h.bl h.pc h.rl h.st h.bp
  cases e:ftO p c n with
  |none=>rw[e] at q;exact PureC.vc (JP p c c n q)
  |some c2=>rw[e] at q;exact PureC.vc (JO p c c2 n q)
 rw[an h1]
 by_cases h2:k=2
 ·subst h2
  rw[aq rfl]
  have q:=Kz p c n h.bl h.ml h.sm h.sm' h.st h.bp
  cases e:doO p c n with
  |none=>rw[e] at q;exact PureC.vc (JN p c c n q)
  |some x=>
   obtain⟨c2,l⟩:=x
   rw[e] at q
   cases l with
   |nil=>exact PureC.vc (JL p c c2 n q)
   |cons o l=>exact PureC.vc (JM p c c2 n o l q)
 rw[an h2]
 by_cases h3:k=3
 ·subst h3
  rw[aq rfl]
  have q:=KG p c n h.bl h.ml h.sm
  cases e:adrO p c n with
  |none=>rw[e] at q;exact PureC.vc (JK p c c n q)
  |some x=>
   obtain⟨c2,l⟩:=x
   rw[e] at q
   cases l with
   |nil=>exact PureC.vc (JI p c c2 n q)
   |cons o l=>exact PureC.vc (JJ p c c2 n o l q)
 rw[an h3]
 by_cases h4:k=4
 ·subst h4
  rw[aq rfl]
  by_cases hn:n=0
  ·subst hn
   rw[aq rfl]
   have q:=N4 p c h.rt h.bf
   cases e:rtO p c with
   |none=>rw[e] at q;exact PureC.vc (JH p c c 0 q)
   |some c2=>rw[e] at q;exact PureC.vc (JG p c c2 0 q)
  ·rw[an hn];exact PureC.vc (JF p c c n hn)
 rw[an h4];exact PureC.vc (NW p c c n k h1 h2 h3 h4)
structure EnOk (p:Pg) (e:En):Prop where
 pc:0<=e.pc∧e.pc<=p.is.length
 val:0<=e.val∧e.val<65536
 frm: -1<=e.frm∧e.frm<=1000000
 nxt: -1<=e.nxt∧e.nxt<=p.is.length
 adr:0<=e.adr∧e.adr<65536
def rOk(p:Pg)(st:List Int)(b:List En)(k:Nat):Prop:= ∃L,reG p b 0 k st=some L∧L.length≠0
def lOk(p:Pg)(st:List Int)(b:List En)(k:Nat):Prop:= ∃L,reG p b 0 k st=some L∧L.length<4
structure EtOk (p:Pg) (m:Nat) (st:List Int) (b:List En) (k:Nat) (e:En):Prop where
 sto:(atI p e.pc).kind=3->e.kn=true->e.ft=false->e.adr<m
 ret:(atI p e.pc).kind=9->e.dn=true->e.ft=false->rOk p st b k
 cal:(atI p e.pc).kind=8->e.ft=false->lOk p st b k
structure Inv (p:Pg) (c:Cf):Prop where
 reg:okR c.s
 mem: ∀x∈c.s.m,0<=x∧x<65536
 ml:c.s.m.length=aP p.ms
 pc: -1<=c.s.pc∧c.s.pc<=p.is.length
 st:c.s.st.length<=4
 stk: ∀x∈c.s.st,0<=x∧x<=p.is.length
 bl:(c.b.length:Int)<=max p.win 0
 be: ∀e∈c.b,EnOk p e
 rl:c.r.length<=2
 rb: ∀x∈c.r,0<=x∧x<=p.is.length
 et: ∀k,k<c.b.length->EtOk p c.s.m.length c.s.st c.b k (c.b.getD k default)
theorem cM{l:List En}{k:Nat}(h:k<l.length):l.getD k default∈l:=by simp[List.getD,h]
theorem mI{l:List En}{k:Nat}(h: ¬k<l.length):l.getD k default=En0:=by
 simp[List.getD,eR (bt.1 h)];rfl
theorem mH{l:List Int}{k:Nat}(h:k<l.length):l.getD k 0∈l:=by simp[List.getD,h]
theorem dC{k n:Nat}(h:k<=n):cl0 (k:Int) n=k:=by unfold cl0;omega
theorem mA(p:Pg)(st:List Int)(l:List En){k:Nat}(h:k<=l.length):reV p st l k=reG p l 0 k st:=by unfold reV;rw[dC h]
theorem fE(p:Pg)(l l':List En): ∀j k k' st,(∀i,i<j->(l.getD (k+i) default).pc=(l'.getD (k'+i) default).pc)->reG p l k j st=reG p l' k' j st
 |0,_,_,_,_=>rfl
 |j+1,k,k',st,h=>by
  have h0:=h 0 (by omega)
  rw[dd,dd] at h0
  have e:enI p l k=enI p l' k':=by unfold enI;rw[h0]
  have hr: ∀i,i<j->(l.getD (k+1+i) default).pc=(l'.getD (k'+1+i) default).pc:=fun i hi=>by
   have:=h (i+1) (by omega)
   rw[show k+1+i=k+(i+1) by omega,show k'+1+i=k'+(i+1) by omega];exact this
  have hR:=fun s=>fE p l l' j (k+1) (k'+1) s hr
  unfold reG
  rw[e,h0,hR,hR,hR]
theorem ks(p:Pg)(l:List En)(P:Int->Prop): ∀j k st L,(∀x∈st,P x)->(∀i,k<=i->i<k+j->(enI p l i).kind=8->P ((l.getD i default).pc+1))->reG p l k j st=some L-> ∀x∈L,P x
 |0,_,st,L,h,_,e=>by cases e;exact h
 |j+1,k,st,L,h,hc,e=>by
  have hc': ∀i,k+1<=i->i<k+1+j->(enI p l i).kind=8->P ((l.getD i default).pc+1):=fun i a b=>hc i (by omega) (by omega)
  unfold reG at e
  split at e
  ·rename_i h8
   split at e
   ·cases e
   ·refine ks p l P j (k+1) _ L (fun x hx=> ?_) hc' e
    rcases a8.1 hx with hx |hx
    ·exact h x hx
    ·rw[aG.1 hx];exact hc k (by omega) (by omega) h8
  ·split at e
   ·split at e
    ·cases e
    ·exact ks p l P j (k+1) _ L (fun x hx=>h x (cf hx)) hc' e
   ·exact ks p l P j (k+1) _ L h hc' e
theorem jc{l:List En}{k i:Nat}{e:En}(hk:k<l.length):(l.set k e).getD i default=if i=k then e else l.getD i default:=by
 by_cases h:i=k
 ·subst h;simp[List.getD,hk]
 ·rw[an h];simp[List.getD,b9,Ne.symm h]
theorem nF{l:List En}{n i:Nat}(h:i<n):(l.take n).getD i default=l.getD i default:=by
 rw[au,au,aZ,aq h]
theorem mJ{l r:List En}{i:Nat}(h:i<l.length):(l++r).getD i default=l.getD i default:=by
 simp[List.getD,bu h]
theorem nG{l:List En}{e:En}:(l++[e]).getD l.length default=e:=by simp[List.getD]
theorem pJ(p:Pg)(st:List Int){l l':List En}{k:Nat}(h: ∀i,i<k->(l.getD i default).pc=(l'.getD i default).pc):reG p l 0 k st=reG p l' 0 k st:=
 fE p l l' k 0 0 st fun i hi=>by rw[bF];exact h i hi
theorem EtOk.pcs{p:Pg}{m:Nat}{st:List Int}{b b':List En}{k:Nat}{e:En}(h:EtOk p m st b k e)(hp: ∀i,i<k->(b.getD i default).pc=(b'.getD i default).pc):EtOk p m st b' k e:=by
 have e0:=pJ p st hp
 refine⟨h.sto,fun a b c=> ?_,fun a b=> ?_⟩
 ·have:=h.ret a b c;unfold rOk at this ⊢;rw[<-e0];exact this
 ·have:=h.cal a b;unfold lOk at this ⊢;rw[<-e0];exact this
theorem Inv.up{p:Pg}{c:Cf}(h:Inv p c){k:Nat}(hk:k<c.b.length){e:En}(hp:e.pc=(c.b.getD k default).pc)(he:EnOk p e)(ht:EtOk p c.s.m.length c.s.st c.b k e):Inv p ⟨c.s,c.b.set k e,c.r,c.e⟩:=by
 have hpc: ∀i,(c.b.getD i default).pc=((c.b.set k e).getD i default).pc:=fun i=>by
  rw[jc hk]
  split
  ·rename_i hi;rw[hi];exact hp.symm
  ·rfl
 refine⟨h.reg,h.mem,h.ml,h.pc,h.st,h.stk,by show((c.b.set k e).length:Int)<=_;rw[az];exact h.bl,fun x hx=> ?_,h.rl,h.rb,fun j hj=> ?_⟩
 ·rcases ct hx with h1 |h1
  ·exact h.be x h1
  ·rw[h1];exact he
 ·have hj:j<c.b.length:=by have:(c.b.set k e).length=c.b.length:=az;exact this▸hj
  show EtOk p _ _ (c.b.set k e) j ((c.b.set k e).getD j default)
  rw[jc hk]
  split
  ·rename_i hi;rw[hi];exact ht.pcs fun i _=>hpc i
  ·exact(h.et j hj).pcs fun i _=>hpc i
theorem Inv.cut{p:Pg}{c:Cf}(h:Inv p c)(n:Nat){t:Int}(ht: -1<=t∧t<=p.is.length):Inv p ⟨c.s.go t,c.b.take n,c.r,c.e⟩:=by
 refine⟨h.reg,h.mem,h.ml,ht,h.st,h.stk, ?_,fun x hx=>h.be x (cf hx),h.rl,h.rb,fun j hj=> ?_⟩
 ·have:=h.bl
  show((c.b.take n).length:Int)<=_
  rw[aM];omega
 ·have hj:j<min n c.b.length:=by have:(c.b.take n).length=min n c.b.length:=aM;exact this▸hj
  show EtOk p _ _ (c.b.take n) j ((c.b.take n).getD j default)
  rw[nF (by omega)]
  exact(h.et j (by omega)).pcs fun i hi=>by rw[nF (by omega)]
theorem mw{l:List En}(h: ∀e∈l,0<=e.val∧e.val<65536)(k:Nat):0<=(l.getD k default).val∧(l.getD k default).val<65536:=by
 by_cases hk:k<l.length
 ·exact h _ (cM hk)
 ·rw[mI hk];exact⟨by decide,by decide⟩
theorem tP{p:Pg}{l:List En}{r:Int}(h: ∀e∈l,0<=e.val∧e.val<65536): ∀k x,gr p l r k=some x->0<=x.1∧x.1<65536
 |0,x,e=>by cases e
 |k+1,x,e=>by
  unfold gr at e
  split at e
  ·cases e
   split
   ·exact mw h k
   ·exact⟨by decide,by decide⟩
  ·exact tP h k x e
theorem reg_bd{s:S8}(h:okR s)(r:Int):0<=s.reg r∧s.reg r<65536:=by
 obtain⟨h0,h1,h2,h3⟩:=h
 unfold S8.reg
 repeat' split
 all_goals assumption
theorem gM{p:Pg}{s:S8}{l:List En}(hs:okR s)(h: ∀e∈l,0<=e.val∧e.val<65536)(i r:Int):0<=(cC p s l i r).1∧(cC p s l i r).1<65536:=by
 unfold cC
 split
 ·cases e:gr p l r (cl0 i l.length) with
  |some x=>exact tP h _ _ e
  |none=>exact reg_bd hs r
 ·exact⟨by decide,by decide⟩
theorem mv{p:Pg}{s:S8}{l:List En}(hs:okR s)(h: ∀e∈l,0<=e.val∧e.val<65536)(i:Int)(v:Vl):0<=(cH p s l i v).1∧(cH p s l i v).1<65536:=by
 unfold cH
 split
 ·exact gM hs h i _
 ·exact Wd.maskV_bd _ _
theorem xe{p:Pg}{c:Cf}(hs:okR c.s)(h: ∀e∈c.b,0<=e.val∧e.val<65536):Sml p c:=fun i x=>by
 have h1:=mv (p:=p) hs h i x.a
 have h2:=mv (p:=p) hs h i x.b
 unfold tA tB
 omega
theorem Inv.val{p:Pg}{c:Cf}(h:Inv p c): ∀e∈c.b,0<=e.val∧e.val<65536:=fun e he=>(h.be e he).val
theorem Inv.sml{p:Pg}{c:Cf}(h:Inv p c):Sml p c:=xe h.reg h.val
theorem Inv.done{p:Pg}{c:Cf}(h:Inv p c)(k:Nat): ∀e∈(upE c k En.done).b,0<=e.val∧e.val<65536:=fun e he=>by
 rcases ct he with h1 |h1
 ·exact h.val e h1
 ·rw[h1];exact mw h.val k
theorem Inv.smlD{p:Pg}{c:Cf}(h:Inv p c)(k:Nat):Sml p (upE c k En.done):=xe h.reg (h.done k)
theorem Inv.ok{p:Pg}{c:Cf}(hP:OkP p)(hw:p.win<=1000)(h:Inv p c):MOk p c:=by
 have hl:=hP.len
 have hb:=h.bl
 have hm:c.s.m.length<=16:=by rw[h.ml];exact hP.sum
 have h4:=h.st
 have h2:=h.rl
 refine⟨hl,by omega,by omega,h.sml,h.smlD,by omega,fun e he=> ?_,fun e he=> ?_,by have:=h.pc;omega,by omega, ?_⟩
 ·have:=(h.be e he).pc;omega
 ·have:=(h.be e he).frm;omega
 ·have hx:=(iW hP (c.b.getD 0 default).pc).1
  refine⟨fun _=>hx.2.2.2.1,fun a b d=> ?_,fun a b d=> ?_,by omega,by omega,by omega, ?_⟩
  ·by_cases h0:0<c.b.length
   ·exact⟨(h.be _ (cM h0)).adr.1,(h.et 0 h0).sto a d b⟩
   ·rw[mI h0] at d;cases d
  ·by_cases h0:0<c.b.length
   ·obtain⟨L,e,hL⟩:=(h.et 0 h0).ret a d b
    cases e;exact hL
   ·rw[mI h0] at d;cases d
  ·by_cases h0:0<c.b.length
   ·have:=(h.be _ (cM h0)).pc;omega
   ·rw[mI h0];exact⟨by decide,by decide⟩
theorem mC(p:Pg)(n:Int):0<=Wd.maskV p.W n∧Wd.maskV p.W n<65536:=Wd.maskV_bd _ _
theorem Inv.goV{p:Pg}{c:Cf}(h:Inv p c){k:Nat}(hk:k<c.b.length){t:Int}(ht: -1<=t∧t<=p.is.length):Inv p (goV c k t):=by
 unfold Px.goV
 split
 ·exact h
 ·have he:=h.be _ (cM hk)
  have h1:=h.up hk (e:=(c.b.getD k default).to t) rfl ⟨he.pc,he.val,he.frm,ht,he.adr⟩ ⟨(h.et k hk).sto,(h.et k hk).ret,(h.et k hk).cal⟩
  exact h1.cut (k+1) ht
theorem yv{p:Pg}{l:List En}{a:Int}(h: ∀e∈l,0<=e.val∧e.val<65536): ∀k x,ldF p l a k=some x->(0<=x.1∧x.1<65536)∧ -1<=x.2.1∧x.2.1<=k
 |0,x,e=>by cases e
 |k+1,x,e=>by
  unfold ldF at e
  split at e
  ·cases e
   split
   ·exact⟨mw h k,by show(-1:Int)<=(k:Int);omega,by show(k:Int)<=((k+1:Nat):Int);omega⟩
   ·exact⟨⟨by decide,by decide⟩,by show(-1:Int)<=0;decide,by show(0:Int)<=((k+1:Nat):Int);omega⟩
  ·have:=yv h k x e
   refine⟨this.1,this.2.1, ?_⟩
   have:=this.2.2
   omega
theorem GA{p:Pg}{m:List Int}{l:List En}{i a:Int}(hm: ∀x∈m,0<=x∧x<65536)(h: ∀e∈l,0<=e.val∧e.val<65536):(0<=(ldV p m l i a).1∧(ldV p m l i a).1<65536)∧ -1<=(ldV p m l i a).2.1∧(ldV p m l i a).2.1<=l.length:=by
 unfold ldV
 cases e:ldF p l a (cl0 i l.length) with
 |some x=>
  have:=yv h _ _ e
  have hc:=fu i l.length
  exact⟨this.1,this.2.1,by have:=this.2.2;show x.2.1<=_;omega⟩
 |none=>
  show(0<=(if _ then _ else _:Int×Int×Bool).1∧_)∧_
  split
  ·exact⟨F7 hm _,by show(-1:Int)<= -1;decide,by show(-1:Int)<=_;omega⟩
  ·exact⟨⟨by decide,by decide⟩,by show(-1:Int)<= -1;decide,by show(-1:Int)<=_;omega⟩
theorem gY{p:Pg}(hP:OkP p)(c:Cf)(k:Nat):OkI (enX p c k) p.is.length∧((enX p c k).kind≠12->0<=(c.b.getD k default).pc∧(c.b.getD k default).pc<p.is.length):=iW hP _
theorem Inv.doO{p:Pg}{c c2:Cf}{o:List Ob}(hP:OkP p)(hw:p.win<=1000)(h:Inv p c){i:Int}(e:doO p c i=some (c2,o)):Inv p c2:=by
 unfold Px.doO at e
 split at e
 ·rename_i hc
  obtain⟨k,rfl,hk,hd,hK⟩:=jQ hc
  rw[aC,ai] at e
  have he:=h.be _ (cM hk)
  have ht:=h.et k hk
  have hb:=h.bl
  obtain⟨hx,hx2⟩:=gY hP c k
  have hbD: ∀i,((upE c k En.done).b.getD i default).pc=(c.b.getD i default).pc:=fun i=>kY (l:=c.b) (k:=k) (g:=En.done) (fun _=>rfl) i
  have hlD:(upE c k En.done).b.length=c.b.length:=az
  have hv0:=mv (p:=p) h.reg (h.done k) (k:Int)
  have n8:(enX p c k).kind=8->False:=fun k8=>by
   unfold cnK at hK
   simp[k8] at hK
  have n3: ∀{q:Prop}, ¬(enX p c k).kind=3->(atI p (c.b.getD k default).pc).kind=3->q:=fun a b=>absurd b a
  have mk: ∀e':En,e'.pc=(c.b.getD k default).pc->EnOk p e'->((enX p c k).kind=3->e'.kn=true->e'.ft=false->e'.adr<c.s.m.length)->((enX p c k).kind=9->e'.ft=false->rOk p c.s.st c.b k)->Inv p ⟨c.s,c.b.set k e',c.r,c.e⟩:=fun e' hp ho h3 h9=>
   h.up hk hp ho ⟨fun a=>h3 (by unfold enX;rw[<-hp];exact a),fun a _ b=>h9 (by unfold enX;rw[<-hp];exact a) b,fun a=>absurd (by unfold enX;rw[<-hp];exact a) n8⟩
  unfold dmV at e
  by_cases k1:(enX p c k).kind=1
  ·rw[aq k1] at e
   cases e
   exact mk _ rfl ⟨he.pc,G4 _ _ _ _,he.frm,he.nxt,he.adr⟩ (fun a=>by omega) (fun a=>by omega)
  rw[an k1] at e
  by_cases k4:(enX p c k).kind=4
  ·rw[aq k4] at e
   cases e
   refine mk _ rfl ⟨he.pc, ?_,he.frm,he.nxt,he.adr⟩ (fun a=>by omega) (fun a=>by omega)
   show 0<=(if _ then _ else _:Int)∧(if _ then _ else _:Int)<65536
   split
   ·exact gM h.reg (h.done k) _ _
   ·exact hv0 _
  rw[an k4] at e
  by_cases k3:(enX p c k).kind=3
  ·rw[aq k3] at e
   cases e
   exact mk _ rfl ⟨he.pc,gM h.reg (h.done k) _ _,he.frm,he.nxt,he.adr⟩ (fun a b d=>ht.sto a b d) (fun a=>by omega)
  rw[an k3] at e
  by_cases k2:(enX p c k).kind=2
  ·rw[aq k2] at e
   split at e
   ·cases e
    exact mk _ rfl ⟨he.pc,he.val,he.frm,he.nxt,mC _ _⟩ (fun a=>by omega) (fun a=>by omega)
   ·cases e
    have hl:=GA (p:=p) (m:=c.s.m) (l:=(upE c k fun e=>e.done.ad (adV p (upE c k En.done) k (enX p c k))).b) (i:=(k:Int)) (a:=adV p (upE c k En.done) k (enX p c k)) h.mem (fun e he=>by
     rcases ct he with h1 |h1
     ·exact h.val e h1
     ·rw[h1];exact mw h.val k)
    have hlb:(upE c k fun e=>e.done.ad (adV p (upE c k En.done) k (enX p c k))).b.length=c.b.length:=az
    rw[hlb] at hl
    exact mk _ rfl ⟨he.pc,hl.1,⟨hl.2.1,Int.le_trans hl.2.2 (by omega)⟩,he.nxt,mC _ _⟩ (fun a=>by omega) (fun a=>by omega)
  rw[an k2] at e
  by_cases k5:(enX p c k).kind=5
  ·rw[aq k5] at e
   cases e
   have hD:Inv p (upE c k En.done):=mk _ rfl ⟨he.pc,he.val,he.frm,he.nxt,he.adr⟩ (fun a=>by omega) (fun a=>by omega)
   have hpc:=hx2 (by omega)
   refine hD.goV (by rw[hlD];exact hk) ?_
   have htg:=hx.2.2.2.2
   split
   ·omega
   ·omega
  rw[an k5] at e
  by_cases k7:(enX p c k).kind=7
  ·rw[aq k7] at e
   cases e
   have hD:Inv p (upE c k En.done):=mk _ rfl ⟨he.pc,he.val,he.frm,he.nxt,he.adr⟩ (fun a=>by omega) (fun a=>by omega)
   refine hD.goV (by rw[hlD];exact hk) ?_
   have:=hv0 (enX p c k).a
   unfold c9 tA
   show -1<=min (cH p c.s (upE c k En.done).b k (enX p c k).a).1 _∧min (cH p c.s (upE c k En.done).b k (enX p c k).a).1 _<=_
   omega
  rw[an k7,mA p c.s.st _ (by rw[hlD];omega),pJ p c.s.st (fun i _=>hbD i)] at e
  have flt:Inv p (upE c k fun e=>e.done.flt):=mk _ rfl ⟨he.pc,he.val,he.frm,he.nxt,he.adr⟩ (fun _ _ a=>by cases a) (fun _ a=>by cases a)
  cases hv:reG p c.b 0 k c.s.st with
  |none=>rw[hv] at e;cases e;exact flt
  |some L=>
   rw[hv] at e
   by_cases h0:L.length=0
   ·have e':(if L.length=0 then((upE c k fun e=>e.done.flt,[]):Cf×List Ob) else(Px.goV (upE c k En.done) k (bE L),[⟨3,bE L⟩]))=(c2,o):=e
    rw[aq h0] at e';cases e';exact flt
   ·have e':(if L.length=0 then((upE c k fun e=>e.done.flt,[]):Cf×List Ob) else(Px.goV (upE c k En.done) k (bE L),[⟨3,bE L⟩]))=(c2,o):=e
    rw[an h0] at e';cases e'
    have hD:Inv p (upE c k En.done):=mk _ rfl ⟨he.pc,he.val,he.frm,he.nxt,he.adr⟩ (fun a=>by omega) (fun _ _=>⟨L,hv,h0⟩)
    refine hD.goV (by rw[hlD];exact hk) ?_
    have hm:bE L∈L:=by unfold bE;exact mH (by omega)
    have:=ks p c.b (fun x=>0<=x∧x<=p.is.length) k 0 c.s.st L h.stk (fun i _ hi h8=>by
     have:=(iW hP (c.b.getD i default).pc).2 (by unfold enI at h8;omega)
     omega) hv _ hm
    omega
 ·cases e
theorem Inv.adrO{p:Pg}{c c2:Cf}{o:List Ob}(hP:OkP p)(h:Inv p c){i:Int}(e:adrO p c i=some (c2,o)):Inv p c2:=by
 unfold Px.adrO at e
 split at e
 ·rename_i hc
  obtain⟨k,rfl,hk,hd,hK⟩:=nU hc
  rw[aC,ai] at e
  have he:=h.be _ (cM hk)
  have ht:=h.et k hk
  have hU: ∀g:En->En,(g (c.b.getD k default)).pc=(c.b.getD k default).pc->EnOk p (g (c.b.getD k default))->((g (c.b.getD k default)).kn=true->(g (c.b.getD k default)).ft=false->(g (c.b.getD k default)).adr<c.s.m.length)->Inv p (upE c k g):=fun g hp ho h3=>
   h.up hk hp ho ⟨fun _=>h3,fun a=>by rw[hp] at a;unfold enX at hK;omega,fun a=>by rw[hp] at a;unfold enX at hK;omega⟩
  unfold qi at e
  split at e
  ·cases e
   exact hU _ rfl ⟨he.pc,he.val,he.frm,he.nxt,mC _ _⟩ (fun _ a=>by cases a)
  ·rename_i ho
   have hI:Inv p (upE c k fun e=>e.ad (adV p c k (enX p c k))):=hU _ rfl ⟨he.pc,he.val,he.frm,he.nxt,mC _ _⟩ (fun _ _=>by show adV p c k (enX p c k)<_;omega)
   split at e
   ·rename_i q hz
    cases e
    obtain⟨q',rfl,hq⟩:=nE hz
    refine hI.cut _ ?_
    rw[aC]
    have:=(hI.be _ (cM hq)).pc
    omega
   ·cases e;exact hI
 ·cases e
theorem pU{p:Pg}{c:Cf}{g:Int}(h0:0<=g)(h:g<gsV p c):(c.e=0∧c.s.pc≠ -1∧ ¬p.win<=(c.b.length:Int))∧((atI p c.s.pc).kind=7->g<=p.is.length)∧((atI p c.s.pc).kind=9->c.r.length=0->g<=p.is.length):=by
 unfold gsV at h
 split at h
 ·omega
 ·rename_i hn
  refine⟨⟨?_, ?_, ?_⟩,fun k7=> ?_,fun k9 hr=> ?_⟩
  ·exact Classical.byContradiction fun e=>hn (.inl e)
  ·exact fun e=>hn (.inr (.inl e))
  ·exact fun e=>hn (.inr (.inr e))
  ·rw[an (by omega),aq k7] at h;omega
  ·rw[an (by omega),an (by omega),aq ⟨k9,hr⟩] at h;omega
theorem GW{p:Pg}{c:Cf}{g:Int}(hP:OkP p)(h:Inv p c)(h0:0<=g)(hg:g<gsV p c):EnOk p (ftE p c g)∧EtOk p c.s.m.length c.s.st c.b c.b.length (ftE p c g):=by
 obtain⟨⟨he,hp1,hw⟩,h7,h9⟩:=pU h0 hg
 have hpc:=h.pc
 have hpc0:0<=c.s.pc∧c.s.pc<=p.is.length:=by omega
 obtain⟨hx,hx2⟩:=iW hP c.s.pc
 have htg:=hx.2.2.2.2
 have mk: ∀(n:Int) (d f:Bool), -1<=n∧n<=p.is.length->((atI p c.s.pc).kind=9->d=true->False)->((atI p c.s.pc).kind=8->f=false->lOk p c.s.st c.b c.b.length)->EnOk p ⟨c.s.pc,0,0, -1,n,d,false,f⟩∧EtOk p c.s.m.length c.s.st c.b c.b.length ⟨c.s.pc,0,0, -1,n,d,false,f⟩:=fun n d f hn h9 h8=>
  ⟨⟨hpc0,⟨by show(0:Int)<=0;decide,by show(0:Int)<65536;decide⟩,⟨by show(-1:Int)<= -1;decide,by show(-1:Int)<=1000000;decide⟩,hn,⟨by show(0:Int)<=0;decide,by show(0:Int)<65536;decide⟩⟩,⟨(fun _ b=>by cases b),(fun a b=>(h9 a b).elim),(fun a b=>h8 a b)⟩⟩
 unfold ftE
 by_cases k5:(atI p c.s.pc).kind=5
 ·rw[aq k5]
  have:=hx2 (by omega)
  refine mk _ _ _ ?_ (fun a=>by omega) (fun a=>by omega)
  split<;>omega
 rw[an k5]
 by_cases k6:(atI p c.s.pc).kind=6
 ·rw[aq k6];exact mk _ _ _ (by omega) (fun a=>by omega) (fun a=>by omega)
 rw[an k6]
 by_cases k7:(atI p c.s.pc).kind=7
 ·rw[aq k7];exact mk _ _ _ (by have:=h7 k7;omega) (fun a=>by omega) (fun a=>by omega)
 rw[an k7]
 by_cases k9:(atI p c.s.pc).kind=9
 ·rw[aq k9]
  refine mk _ _ _ ?_ (fun _ b=>by cases b) (fun a=>by omega)
  split
  ·rename_i hr;have:=h9 k9 hr;omega
  ·rename_i hr
   have:=h.rb (bE c.r) (by unfold bE;exact mH (by omega))
   omega
 rw[an k9]
 by_cases k8:(atI p c.s.pc).kind=8
 ·rw[aq k8]
  refine mk _ _ _ (by omega) (fun a=>absurd a k9) (fun _ hf=> ?_)
  unfold ftB at hf
  rw[mA p c.s.st c.b (aB _)] at hf
  cases e:reG p c.b 0 c.b.length c.s.st with
  |none=>rw[e] at hf;cases hf
  |some L=>rw[e] at hf;exact⟨L,e,by have:=of_decide_eq_false hf;omega⟩
 rw[an k8]
 by_cases k1:(atI p c.s.pc).kind=11∨(atI p c.s.pc).kind=12
 ·rw[aq k1];exact mk _ _ _ (by omega) (fun a=>absurd a k9) (fun a=>absurd a k8)
 rw[an k1]
 have:=hx2 (fun a=>k1 (.inr a))
 exact mk _ _ _ (by omega) (fun a=>absurd a k9) (fun a=>absurd a k8)
theorem u6{l:List Int}{pc x:Int}(h:x∈d7 l pc):x∈l∨x=pc:=by
 unfold d7 at h
 rcases a8.1 (List.mem_of_mem_drop h) with h |h
 ·exact .inl h
 ·exact .inr (aG.1 h)
theorem Inv.ftO{p:Pg}{c c2:Cf}{g:Int}(hP:OkP p)(h:Inv p c)(e:ftO p c g=some c2):Inv p c2:=by
 unfold Px.ftO at e
 split at e
 ·rename_i hg
  cases e
  obtain⟨ho,ht⟩:=GW hP h hg.1 hg.2
  obtain⟨⟨he,hp1,hw⟩, -, -⟩:=pU hg.1 hg.2
  have hbl:=h.bl
  have hr:(ftR p c).length<=2∧ ∀x∈ftR p c,0<=x∧x<=p.is.length:=by
   unfold ftR
   have hrl:=h.rl
   split
   ·exact⟨by rw[aM];omega,fun x hx=>h.rb x (cf hx)⟩
   ·split
    ·rename_i k8
     refine⟨by rw[qZ];omega,fun x hx=> ?_⟩
     rcases u6 hx with hx |hx
     ·exact h.rb x hx
     ·have:=(iW hP c.s.pc).2 (by omega)
      rw[hx];omega
    ·exact⟨hrl,h.rb⟩
  refine⟨h.reg,h.mem,h.ml,ho.nxt,h.st,h.stk, ?_,fun x hx=> ?_,hr.1,hr.2,fun j hj=> ?_⟩
  ·show((c.b++[ftE p c g]).length:Int)<=_
   rw[aL,bV];omega
  ·rcases a8.1 hx with hx |hx
   ·exact h.be x hx
   ·rw[aG.1 hx];exact ho
  ·have hj:j<c.b.length+1:=by
    have:(c.b++[ftE p c g]).length=c.b.length+1:=by rw[aL];rfl
    exact this▸hj
   show EtOk p _ _ (c.b++[ftE p c g]) j ((c.b++[ftE p c g]).getD j default)
   by_cases hq:j<c.b.length
   ·rw[mJ hq]
    exact(h.et j hq).pcs fun i hi=>by rw[mJ (by omega)]
   ·obtain rfl:j=c.b.length:=by omega
    rw[nG]
    exact ht.pcs fun i hi=>by rw[mJ (by omega)]
 ·cases e
theorem F6{l:List En}{x:En}(h:x∈l): ∃i,i<l.length∧l.getD i default=x:=by
 obtain⟨i,hi,e⟩:=List.getElem_of_mem h
 exact⟨i,hi,by simp[List.getD,hi,e]⟩
theorem rc{l:List En}{x:En}(h:x∈co l): ∃e∈l,x=e.pop:=by
 obtain⟨i,hi,e⟩:=F6 h
 rw[iN] at hi
 rw[iO l (by omega)] at e
 exact⟨_,cM (by omega:i+1<l.length),e.symm⟩
theorem A8{e:En}(h: -1<=e.frm∧e.frm<=1000000): -1<=e.pop.frm∧e.pop.frm<=1000000:=by
 by_cases h0:0<=e.frm
 ·rw[Dj h0];exact⟨by show -1<=e.frm-1;omega,by show e.frm-1<=_;omega⟩
 ·rw[Dk h0];exact h
theorem Inv.popS{p:Pg}{c:Cf}(h:Inv p c){s:S8}(hr:okR s)(hm: ∀x∈s.m,0<=x∧x<65536)(hml:s.m.length=c.s.m.length)(hpc:s.pc=c.s.pc)(hst:s.st.length<=4)(hsk: ∀x∈s.st,0<=x∧x<=p.is.length)(hG: ∀k,k+1<c.b.length->reG p c.b 0 (k+1) c.s.st=reG p c.b 1 k s.st):Inv p ⟨s,co c.b,c.r,c.e⟩:=by
 refine⟨hr,hm,hml.trans h.ml,by show -1<=s.pc∧s.pc<=_;rw[hpc];exact h.pc,hst,hsk, ?_,fun x hx=> ?_,h.rl,h.rb,fun j hj=> ?_⟩
 ·have:=h.bl
  show((co c.b).length:Int)<=_
  rw[iN];omega
 ·obtain⟨e,he,rfl⟩:=rc hx
  have ho:=h.be e he
  exact⟨ho.pc,ho.val,A8 ho.frm,ho.nxt,ho.adr⟩
 ·have hj:j<c.b.length-1:=by have:=iN c.b;exact this▸hj
  show EtOk p s.m.length s.st (co c.b) j ((co c.b).getD j default)
  rw[iO c.b (by omega),hml]
  have ht:=h.et (j+1) (by omega)
  have hg:reG p (co c.b) 0 j s.st=reG p c.b 0 (j+1) c.s.st:=by
   rw[hG j (by omega)]
   exact fE p (co c.b) c.b j 0 1 s.st fun i hi=>by
    rw[bF,iO c.b (by omega),n7 1 i];rfl
  refine⟨ht.sto,fun a b d=> ?_,fun a b=> ?_⟩
  ·have:=ht.ret a b d;unfold rOk at this ⊢;rw[hg];exact this
  ·have:=ht.cal a b;unfold lOk at this ⊢;rw[hg];exact this
theorem Inv.fin{p:Pg}{c:Cf}(h:Inv p c){t e:Int}(ht: -1<=t∧t<=p.is.length):Inv p ⟨c.s.go t,[],[],e⟩:=
 ⟨h.reg,h.mem,h.ml,ht,h.st,h.stk,(by show((0:Nat):Int)<=_;omega),(fun _ hx=>by cases hx),(by show 0<=2;omega),(fun _ hx=>by cases hx),fun k hk=>absurd hk (cA k)⟩
theorem Inv.rtO{p:Pg}{c c2:Cf}(hP:OkP p)(h:Inv p c)(e:rtO p c=some c2):Inv p c2:=by
 unfold Px.rtO at e
 split at e
 ·rename_i hc
  cases e
  obtain⟨h0,hl,hdn,hkn⟩:=qb hc
  have ho:=h.be _ (cM hl)
  have ht:=h.et 0 hl
  have hpc: -1<=(c.b.getD 0 default).pc∧(c.b.getD 0 default).pc<=p.is.length:=by have:=ho.pc;omega
  obtain⟨hx,hx2⟩:=gY hP c 0
  have hG: ∀k,reG p c.b 0 (k+1) c.s.st=if(enX p c 0).kind=8 then(if 4<=c.s.st.length then none else reG p c.b 1 k (c.s.st++[(c.b.getD 0 default).pc+1])) else if(enX p c 0).kind=9 then(if c.s.st.length=0 then none else reG p c.b 1 k (c.s.st.take (c.s.st.length-1))) else reG p c.b 1 k c.s.st:=fun k=>rfl
  have hst:=h.st
  unfold rtV
  by_cases n12:(c.b.getD 0 default).ft=true∨(enX p c 0).kind=12
  ·rw[aq n12];exact h.fin hpc
  rw[an n12]
  have hf:(c.b.getD 0 default).ft=false:=by
   cases hb:(c.b.getD 0 default).ft with
   |true=>exact absurd (.inl hb) n12
   |false=>rfl
  by_cases k11:(enX p c 0).kind=11
  ·rw[aq k11];exact h.fin hpc
  rw[an k11]
  by_cases kd:dR (enX p c 0)=true
  ·rw[aq kd]
   have n8:(enX p c 0).kind≠8∧(enX p c 0).kind≠9:=by
    constructor<;>(intro k8;unfold dR at kd;rw[k8] at kd;revert kd;decide)
   exact h.popS (xj h.reg _ ho.val) h.mem rfl rfl hst h.stk fun k _=>by rw[hG,an n8.1,an n8.2];rfl
  rw[an kd]
  by_cases k3:(enX p c 0).kind=3
  ·rw[aq k3]
   refine h.popS h.reg (fun x hx=> ?_) (by show(List.set _ _ _).length=_;rw[az]) rfl hst h.stk fun k _=>by rw[hG,an (by omega),an (by omega)]
   rcases ct hx with h1 |h1
   ·exact h.mem x h1
   ·rw[h1];exact ho.val
  rw[an k3]
  by_cases k8:(enX p c 0).kind=8
  ·rw[aq k8]
   obtain⟨L,e,hL⟩:=ht.cal k8 hf
   cases e
   have:=hx2 (by omega)
   refine h.popS h.reg h.mem rfl rfl (by show(c.s.st++[_]).length<=4;rw[aL,bV];omega) (fun x hx=> ?_) fun k _=>by rw[hG,aq k8,an (by omega)]
   rcases a8.1 hx with hx |hx
   ·exact h.stk x hx
   ·rw[aG.1 hx];omega
  rw[an k8]
  by_cases k9:(enX p c 0).kind=9
  ·rw[aq k9]
   obtain⟨L,e,hL⟩:=ht.ret k9 (by rcases hdn with h |h;exact h;omega) hf
   cases e
   exact h.popS h.reg h.mem rfl rfl (by show(c.s.st.take _).length<=4;rw[aM];omega) (fun x hx=>h.stk x (cf hx)) fun k _=>by rw[hG,an k8,aq k9,an hL]
  rw[an k9]
  exact h.popS h.reg h.mem rfl rfl hst h.stk fun k _=>by rw[hG,an k8,an k9]
 ·cases e
theorem Inv.sayO{p:Pg}{c c2:Cf}{o:List Ob}(hP:OkP p)(hw:p.win<=1000)(h:Inv p c){d:Dr}(e:sayO p c d=some (c2,o)):Inv p c2:=by
 unfold Px.sayO at e
 split at e
 ·cases hq:Px.ftO p c d.n with
  |none=>rw[hq] at e;cases e
  |some x=>rw[hq] at e;cases e;exact h.ftO hP hq
 ·split at e
  ·exact h.doO hP hw e
  ·split at e
   ·exact h.adrO hP e
   ·split at e
    ·split at e
     ·cases hq:Px.rtO p c with
      |none=>rw[hq] at e;cases e
      |some x=>rw[hq] at e;cases e;exact h.rtO hP hq
     ·cases e
    ·cases e
theorem Inv.begin{p:Pg}{s:S8}(hs:OkS s.m.length p.is.length s)(hm:s.m.length=aP p.ms)(hst:s.st.length<=4)(hsk: ∀x∈s.st,0<=x∧x<=p.is.length):Inv p ⟨s,[],[],0⟩:=
 ⟨hs.reg,hs.mem,hm,hs.pc,hst,hsk,(by show((0:Nat):Int)<=_;omega),(fun _ hx=>by cases hx),(by show 0<=2;omega),(fun _ hx=>by cases hx),fun k hk=>absurd hk (cA k)⟩
def cfB(c:Cf):Blk:=⟨0,false,36,.box (cfA c)⟩
def cfJ:Blk:=⟨0,false,36,.box (List.replicate 10 .junk)⟩
def wkI(l:List Int)(i:Nat)(D:List Dr):Nat:=(Int.tmod (bits .and .i64 (l.getD i 0) 65535) D.length).toNat
def wkD(p:Pg)(l:List Int)(c:Cf)(i:Nat):Dr:=(da p c).getD (wkI l i (da p c)) default
def wkR(p:Pg)(l:List Int):Nat->Nat->Cf->List Dr->Cf×List Dr
 |0,_,c,o=>(c,o)
 |j+1,i,c,o=>if(da p c).length=0 then(c,o) else match sayO p c (wkD p l c i) with
  |none=>(c,o)
  |some x=>wkR p l j (i+1) x.1 (o++[wkD p l c i])
def beg(s:S8):Cf:=⟨s,[],[],0⟩
def wkV(p:Pg)(s:S8)(l:List Int):Cf×List Dr:=wkR p l (min l.length 60) 0 (beg s) []
def wS(p:Pg)(l:List Int)(c:Cf)(o:List Dr)(i:Nat):Sm:=⟨[(3,pgP p),(2,lR l),(6,.bptr 0 0),(8,.bptr 1 0),(9,.own 2 0 2 0 o.length),(10,.int .i64 i)],[(0,cfJ),(1,cfB c),(2,drB o)],3⟩
def wJ(x:Cf×List Dr):Sm:=⟨[(6,.bptr 0 0),(8,.bptr 1 0),(9,.own 2 0 2 0 x.2.length)],[(0,cfJ),(1,cfB x.1),(2,drB x.2)],3⟩
theorem wb(s:S8){Z:Prop}(z:Z):(RF s.r0 (RF s.r1 (RF s.r2 (RF s.r3 (RF s.m.length (RR s.m.length 1 (fun i j=>aI (s.m.getD i 0)) (RF s.st.length (RR s.st.length 1 (fun i j=>aI (s.st.getD i 0)) (RF s.pc Z))))))))):=⟨rfl,rfl,rfl,rfl,rfl,fun _ _ _ _=>rfl,rfl,fun _ _ _ _=>rfl,rfl,z⟩
theorem Hi(s:S8):Vc (vF_ 26 [.agg (s8R s)] [.fz] [] (.agg (cfA (beg s))) []):=aj (wb s (cj (rf (0:Nat)) (cj (rf (0:Nat)) (cj (rf (0:Int)) trivial))))
theorem Dc(s:S8):pC_ 26 [.agg (s8R s)] (.agg (cfA (beg s))) []:=PureC.vc (Hi s)
theorem th(c:Cf)(o:List Dr){Z:Prop}(z:Z):(RF c.b.length (RR c.b.length 8 (fun i j=>ao enC c.b i j) (RF c.r.length (RR c.r.length 1 (fun i j=>aI (c.r.getD i 0)) (RF c.e (RF o.length (RR o.length 2 (fun i j=>ao drC o i j) (RF (0:Nat) (RF o.length Z))))))))):=⟨rfl,fun _ _ _ _=>rfl,rfl,fun _ _ _ _=>rfl,rfl,rfl,fun _ _ _ _=>rfl,rfl,rfl,z⟩
theorem tf(c:Cf){Z:Prop}(z:Z):(RF c.s.r0 (RF c.s.r1 (RF c.s.r2 (RF c.s.r3 (RF c.s.m.length (RR c.s.m.length 1 (fun i j=>aI (List.getD c.s.m i 0)) (RF c.s.st.length (RR c.s.st.length 1 (fun i j=>aI (List.getD c.s.st i 0)) (RF c.s.pc Z))))))))):=⟨rfl,rfl,rfl,rfl,rfl,fun _ _ _ _=>rfl,rfl,fun _ _ _ _=>rfl,rfl,z⟩
theorem NQ(p:Pg)(l:List Int)(c:Cf)(o:List Dr)(i:Nat)(h: ¬i<l.length):Vc (vC_ 8 0 (wS p l c o i) [.bd false] (.ext 0) [(0,0),(1,1),(2,2)] (wJ (c,o))):=aj (cj (df ((i:Int)<l.length)) (tf c (th c o trivial)))
theorem NR(p:Pg)(l:List Int)(c:Cf)(o:List Dr)(i:Nat)(h:i<l.length)(h6: ¬i<60):Vc (vC_ 8 0 (wS p l c o i) [.bd true,.bd false] (.ext 0) [(0,0),(1,1),(2,2)] (wJ (c,o))):=aj (cj (dt ((i:Int)<l.length)) (cj (df ((i:Int)<60)) (tf c (th c o trivial))))
theorem mR(c:Cf){Z:Prop}(z:Z):(RR c.s.m.length 1 (fun i j=>aI (List.getD c.s.m i 0)) (RF c.s.st.length (RR c.s.st.length 1 (fun i j=>aI (List.getD c.s.st i 0)) (RF c.s.pc (RF c.b.length (RR c.b.length 8 (fun i j=>ao enC c.b i j) (RF c.r.length (RR c.r.length 1 (fun i j=>aI (c.r.getD i 0)) (RF c.e Z))))))))):=⟨fun _ _ _ _=>rfl,rfl,fun _ _ _ _=>rfl,rfl,rfl,fun _ _ _ _=>rfl,rfl,fun _ _ _ _=>rfl,rfl,z⟩
theorem mQ(p:Pg)(c:Cf){Z:Prop}(z:Z):(RF p.ls.length (RR p.ls.length 2 (fun i j=>ao lbC p.ls i j) (RF p.is.length (RR p.is.length 9 (fun i j=>ao inC p.is i j) (RF c.s.r0 (RF c.s.r1 (RF c.s.r2 (RF c.s.r3 (RF c.s.m.length Z))))))))):=⟨rfl,fun _ _ _ _=>rfl,rfl,fun _ _ _ _=>rfl,rfl,rfl,rfl,rfl,rfl,z⟩
theorem j0(p:Pg){Z:Prop}(z:Z):(RF p.W (RF p.win (RF p.fuel (RF p.r0 (RF p.r1 (RF p.r2 (RF p.r3 (RF p.ms.length (RR p.ms.length 3 (fun i j=>ao mmC p.ms i j) Z))))))))):=⟨rfl,rfl,rfl,rfl,rfl,rfl,rfl,rfl,fun _ _ _ _=>rfl,z⟩
abbrev tQ(p:Pg)(c:Cf):Prop:=PureC Tryz.prog 27 [.agg (pgA p),.agg (cfA c)] (drR (da p c)) []
abbrev tX(p:Pg)(c:Cf):Orc:= .cl [.agg (pgA p),.agg (cfA c)] (drR (da p c)) []
theorem NS(p:Pg)(l:List Int)(c:Cf)(o:List Dr)(i:Nat)(h:i<l.length)(h6:i<60)(hA:tQ p c)(h0:(da p c).length=0):Vc (vC_ 8 0 (wS p l c o i) [.bd true,.bd true,tX p c,.bd true] (.ext 0) [(0,0),(1,1),(2,2)] (wJ (c,o))):=aj (cj (dt ((i:Int)<l.length)) (cj (dt ((i:Int)<60)) (j0 p (mQ p c (mR c (cj hA (cj (e1 (↑((da p c).length):Int) 0) (tf c (th c o trivial)))))))))
theorem NP(p:Pg)(l:List Int)(c:Cf)(o:List Dr)(i:Nat)(h:i<l.length)(h6:i<60)(hA:tQ p c)(h0: ¬(da p c).length=0)(hi0:0<=Int.tmod (bits .and .i64 (l.getD i 0) 65535) (da p c).length)(hi1:Int.tmod (bits .and .i64 (l.getD i 0) 65535) (da p c).length<(da p c).length)(ho:o.length<1000)(hS:pC_ 28 [.agg (pgA p),.agg (cfA c),.agg (drA (wkD p l c i))] (dmA none) []):Vc (vC_ 8 0 (wS p l c o i) [.bd true,.bd true,tX p c,.bd false,.cl [.agg (pgA p),.agg (cfA c),.agg (drA (wkD p l c i))] (dmA none) []] (.ext 0) [(0,0),(1,1),(2,2)] (wJ (c,o))):=aj (cj (dt ((i:Int)<l.length)) (cj (dt ((i:Int)<60)) (j0 p (mQ p c (mR c (cj hA (cj (e0 (↑((da p c).length):Int) 0) (cj (bi i l.length) (cj (pv ((↑((da p c).length):Int)≠0)) (cj (bi (Int.tmod (Go.bits Go.BinOp.and IntKind.i64 (l.getD i 0) 65535) (↑((da p c).length):Int)) (↑((da p c).length):Int)) (j0 p (mQ p c (mR c (cj (rf ((wkD p l c i).k)) (cj (rf ((wkD p l c i).n)) (cj hS (tf c (th c o trivial))))))))))))))))))
theorem C9(p:Pg)(l:List Int)(c:Cf)(o:List Dr)(i:Nat)(h:i<l.length): ∀(i_1:Nat),i_1<o.length+1-> ∀(j:Nat),j<2->(bif Nat.blt i_1 o.length then ao drC o i_1 j else List.getD [aI ((List.getD (da p c) (Int.toNat (Int.tmod (Go.bits Go.BinOp.and IntKind.i64 (l.getD i 0) 65535) (↑((da p c).length):Int))) default).k),aI ((List.getD (da p c) (Int.toNat (Int.tmod (Go.bits Go.BinOp.and IntKind.i64 (l.getD i 0) 65535) (↑((da p c).length):Int))) default).n)] ((i_1-o.length+0)*2+j) AV.junk)=ao drC (o++[wkD p l c i]) i_1 j:=(fun i hi j hj=>de (fun h=>(bW h).symm) (fun h=>by obtain rfl:i=_:=bm (bk.mp hi) (bt.mp h);rw[bX,bA];match j,hj with |0,_=>rfl |1,_=>rfl))
theorem CH(p:Pg)(l:List Int){Z:Prop}(z:Z):(RF p.ls.length (RR p.ls.length 2 (fun i j=>ao lbC p.ls i j) (RF p.is.length (RR p.is.length 9 (fun i j=>ao inC p.is i j) (RF l.length (RR l.length 1 (fun i j=>aI (l.getD i 0)) (RF (0:Nat) Z))))))):=⟨rfl,fun _ _ _ _=>rfl,rfl,fun _ _ _ _=>rfl,rfl,fun _ _ _ _=>rfl,rfl,z⟩
theorem CG(c2:Cf){Z:Prop}(z:Z):(RF c2.b.length (RR c2.b.length 8 (fun i j=>ao enC c2.b i j) (RF c2.r.length (RR c2.r.length 1 (fun i j=>aI (c2.r.getD i 0)) (RF c2.e Z))))):=⟨rfl,fun _ _ _ _=>rfl,rfl,fun _ _ _ _=>rfl,rfl,z⟩
theorem CF(c2:Cf){Z:Prop}(z:Z):(RF c2.s.r0 (RF c2.s.r1 (RF c2.s.r2 (RF c2.s.r3 (RF c2.s.m.length (RR c2.s.m.length 1 (fun i j=>aI (List.getD c2.s.m i 0)) (RF c2.s.st.length (RR c2.s.st.length 1 (fun i j=>aI (List.getD c2.s.st i 0)) (RF c2.s.pc Z))))))))):=⟨rfl,rfl,rfl,rfl,rfl,fun _ _ _ _=>rfl,rfl,fun _ _ _ _=>rfl,rfl,z⟩
theorem NN(p:Pg)(l:List Int)(c:Cf)(o:List Dr)(i:Nat)(h:i<l.length)(h6:i<60)(hA:tQ p c)(h0: ¬(da p c).length=0)(hi0:0<=Int.tmod (bits .and .i64 (l.getD i 0) 65535) (da p c).length)(hi1:Int.tmod (bits .and .i64 (l.getD i 0) 65535) (da p c).length<(da p c).length)(ho:o.length<1000)(c2:Cf)(hS:pC_ 28 [.agg (pgA p),.agg (cfA c),.agg (drA (wkD p l c i))] (dmA (some (c2,[]))) []):Vc (vC_ 8 0 (wS p l c o i) [.bd true,.bd true,tX p c,.bd false,.cl [.agg (pgA p),.agg (cfA c),.agg (drA (wkD p l c i))] (dmA (some (c2,[]))) [],.b false] .nrm [(0,0),(1,1),(2,2)] (wS p l c2 (o++[wkD p l c i]) (i+1))):=aj (cj (dt ((i:Int)<l.length)) (cj (dt ((i:Int)<60)) (j0 p (mQ p c (mR c (cj hA (cj (e0 (↑((da p c).length):Int) 0) (cj (bi i l.length) (cj (pv ((↑((da p c).length):Int)≠0)) (cj (bi (Int.tmod (Go.bits Go.BinOp.and IntKind.i64 (l.getD i 0) 65535) (↑((da p c).length):Int)) (↑((da p c).length):Int)) (j0 p (mQ p c (mR c (cj (rf ((wkD p l c i).k)) (cj (rf ((wkD p l c i).n)) (cj hS (cj (rf false) (cj (bi i l.length) (cj (pv ((↑((da p c).length):Int)≠0)) (cj (bi (Int.tmod (Go.bits Go.BinOp.and IntKind.i64 (l.getD i 0) 65535) (↑((da p c).length):Int)) (↑((da p c).length):Int)) (cj (ap o.length 1 16) (cj (i6 (i+1)) (CF c2 (CG c2 (cj (pv (o.length+1=(o++[wkD p l c i]).length)) (cj (C9 p l c o i h) (j0 p (CH p l (cj (pv (o.length+1=(o++[wkD p l c i]).length)) (cj (rf ((i:Int)+1)) trivial))))))))))))))))))))))))))))))
theorem NO(p:Pg)(l:List Int)(c:Cf)(o:List Dr)(i:Nat)(h:i<l.length)(h6:i<60)(hA:tQ p c)(h0: ¬(da p c).length=0)(hi0:0<=Int.tmod (bits .and .i64 (l.getD i 0) 65535) (da p c).length)(hi1:Int.tmod (bits .and .i64 (l.getD i 0) 65535) (da p c).length<(da p c).length)(ho:o.length<1000)(c2:Cf)(x:Ob)(r0:List Ob)(hS:pC_ 28 [.agg (pgA p),.agg (cfA c),.agg (drA (wkD p l c i))] (dmA (some (c2,x::r0))) []):Vc (vC_ 8 0 (wS p l c o i) [.bd true,.bd true,tX p c,.bd false,.cl [.agg (pgA p),.agg (cfA c),.agg (drA (wkD p l c i))] (dmA (some (c2,x::r0))) [],.b false] .nrm [(0,0),(1,1),(2,2)] (wS p l c2 (o++[wkD p l c i]) (i+1))):=aj (cj (dt ((i:Int)<l.length)) (cj (dt ((i:Int)<60)) (j0 p (mQ p c (mR c (cj hA (cj (e0 (↑((da p c).length):Int) 0) (cj (bi i l.length) (cj (pv ((↑((da p c).length):Int)≠0)) (cj (bi (Int.tmod (Go.bits Go.BinOp.and IntKind.i64 (l.getD i 0) 65535) (↑((da p c).length):Int)) (↑((da p c).length):Int)) (j0 p (mQ p c (mR c (cj (rf ((wkD p l c i).k)) (cj (rf ((wkD p l c i).n)) (cj hS (cj (rf false) (cj (bi i l.length) (cj (pv ((↑((da p c).length):Int)≠0)) (cj (bi (Int.tmod (Go.bits Go.BinOp.and IntKind.i64 (l.getD i 0) 65535) (↑((da p c).length):Int)) (↑((da p c).length):Int)) (cj (ap o.length 1 16) (cj (i6 (i+1)) (CF c2 (CG c2 (cj (pv (o.length+1=(o++[wkD p l c i]).length)) (cj (C9 p l c o i h) (j0 p (CH p l (cj (pv (o.length+1=(o++[wkD p l c i]).length)) (cj (rf ((i:Int)+1)) trivial))))))))))))))))))))))))))))))
theorem Ep(l:List Int)(i:Nat){D:List Dr}(h: ¬D.length=0):0<=Int.tmod (bits .and .i64 (l.getD i 0) 65535) D.length∧Int.tmod (bits .and .i64 (l.getD i 0) 65535) D.length<D.length:=by
 have h1:=Wd.bits_mask (l.getD i 0) 16 (by omega)
 have h2:bits .and .i64 (l.getD i 0) 65535=(l.getD i 0)%65536:=h1
 have hb:0<(D.length:Int):=by omega
 have h0:0<=bits .and .i64 (l.getD i 0) 65535:=by omega
 exact Ak h0 hb
theorem tv(p:Pg)(l:List Int)(hP:OkP p)(hw:p.win<=1000): ∀j i c o,i+j=min l.length 60->Inv p c->o.length<=i->OkL Tryz.prog (bY Tryz.prog 8) (lpC Tryz.prog 8 0) (wS p l c o i).st (.ext 0) (wJ (wkR p l j i c o)).st
 |0,i,c,o,hj,_,_=>by
  by_cases h:i<l.length
  ·exact OkL.exit (Ok.vc (NR p l c o i h (by omega))) (by simp)
  ·exact OkL.exit (Ok.vc (NQ p l c o i h)) (by simp)
 |j+1,i,c,o,hj,hI,ho=>by
  have hM:=hI.ok hP hw
  have hA:=KF p c hM.il hM.bl hM.ml hM.sm
  unfold wkR
  by_cases h0:(da p c).length=0
  ·rw[aq h0];exact OkL.exit (Ok.vc (NS p l c o i (by omega) (by omega) hA h0)) (by simp)
  rw[an h0]
  obtain⟨b0,b1⟩:=Ep l i h0
  have hS:=Kg p c (wkD p l c i) hM
  cases e:sayO p c (wkD p l c i) with
  |none=>rw[e] at hS;exact OkL.exit (Ok.vc (NP p l c o i (by omega) (by omega) hA h0 b0 b1 (by omega) hS)) (by simp)
  |some x=>
   obtain⟨c2,ob⟩:=x
   rw[e] at hS
   have hr:=tv p l hP hw j (i+1) c2 (o++[wkD p l c i]) (by omega) (hI.sayO hP hw e) (by rw[aL,bV];omega)
   cases ob with
   |nil=>exact OkL.step (Ok.vc (NN p l c o i (by omega) (by omega) hA h0 b0 b1 (by omega) c2 hS)) hr
   |cons y r=>exact OkL.step (Ok.vc (NO p l c o i (by omega) (by omega) hA h0 b0 b1 (by omega) c2 y r hS)) hr
theorem Ah(p:Pg)(s:S8)(l:List Int)(x:Cf×List Dr)(h:oL_ 8 0 (wS p l (beg s) [] 0).st (.ext 0) (wJ x).st):Vc (vF_ 8 [.agg (pgA p),.agg (s8R s),lR l] [.fv,.fv,.cl [.agg (s8R s)] (.agg (cfA (beg s))) [],.lp [(0,0),(1,1)] (wS p l (beg s) [] 0) (.ext 0) (wJ x)] [] (.tup [.agg (cfA x.1),drR x.2]) []):=aj (wb s (cj (Dc s) (wb s (cj (rf (0:Nat)) (cj (rr 0 8 fun i j=>ao enC [] i j) (cj (rf (0:Nat)) (cj (rr 0 1 fun i j=>aI (List.getD [] i (0:Int))) (cj (rf (0:Int)) (cj (rf (0:Nat)) (cj (rf p.W) (cj (rf p.win) (cj (rf p.fuel) (cj (rf p.r0) (cj (rf p.r1) (cj (rf p.r2) (cj (rf p.r3) (cj (rf p.ms.length) (cj (rr p.ms.length 3 fun i j=>ao mmC p.ms i j) (cj (rf p.ls.length) (cj (rr p.ls.length 2 fun i j=>ao lbC p.ls i j) (cj (rf p.is.length) (cj (rr p.is.length 9 fun i j=>ao inC p.is i j) (cj (rf l.length) (cj (rr l.length 1 fun i j=>aI (l.getD i 0)) (cj (rf (0:Nat)) (cj (rf (0:Nat)) (cj (rf (0:Int)) (cj h (cj (rf ((Prod.fst x).s.r0)) (cj (rf ((Prod.fst x).s.r1)) (cj (rf ((Prod.fst x).s.r2)) (cj (rf ((Prod.fst x).s.r3)) (cj (rf (((Prod.fst x).s.m).length)) (cj (rr (((Prod.fst x).s).m.length) 1 fun i j=>aI (List.getD ((Prod.fst x).s).m i 0)) (cj (rf (((Prod.fst x).s.st).length)) (cj (rr (((Prod.fst x).s).st.length) 1 fun i j=>aI (List.getD ((Prod.fst x).s).st i 0)) (cj (rf ((Prod.fst x).s.pc)) (cj (rf ((Prod.fst x).b.length)) (cj (rr ((Prod.fst x).b.length) 8 fun i j=>ao enC (Prod.fst x).b i j) (cj (rf ((Prod.fst x).r.length)) (cj (rr ((Prod.fst x).r.length) 1 fun i j=>aI (List.getD (Prod.fst x).r i 0)) (cj (rf ((Prod.fst x).e)) (cj (rf ((Prod.snd x).length)) (cj (rr ((Prod.snd x).length) 2 fun i j=>ao drC (Prod.snd x) i j) trivial))))))))))))))))))))))))))))))))))))))))))))
theorem tx{p:Pg}{l:List Int}(hP:OkP p)(hw:p.win<=1000): ∀j i c o,Inv p c->Inv p (wkR p l j i c o).1
 |0,i,c,o,h=>h
 |j+1,i,c,o,h=>by
  unfold wkR
  split
  ·exact h
  ·cases e:sayO p c (wkD p l c i) with
   |none=>exact h
   |some x=>exact tx hP hw j (i+1) x.1 _ (h.sayO hP hw (o:=x.2) e)
theorem E1(p:Pg)(s:S8)(l:List Int)(hP:OkP p)(hw:p.win<=1000)(h:Inv p (beg s)):pC_ 8 [.agg (pgA p),.agg (s8R s),lR l] (.tup [.agg (cfA (wkV p s l).1),drR (wkV p s l).2]) []:=PureC.vc (Ah p s l _ (tv p l hP hw _ 0 (beg s) [] (by omega) h (aB _)).ok)
def fQ(s:S8):List Int:=((([s.r0,s.r1,s.r2,s.r3,(s.m.length:Int)]++s.m)++[(s.st.length:Int)])++s.st)++[s.pc]
def enN(e:En):List Int:=[e.pc,e.val,e.adr,e.frm,e.nxt,Wd.tI e.dn,Wd.tI e.kn,Wd.tI e.ft]
def ciK(c:Cf):Nat->List Int
 |0=>fQ c.s++[(c.b.length:Int)]
 |k+1=>ciK c k++enN (c.b.getD k default)
def ciL(c:Cf):List Int:=((ciK c c.b.length++[(c.r.length:Int)])++c.r)++[c.e]
def ciS(c:Cf)(X:List Int)(k:Nat):Sm:=⟨[(1,cfP c),(3,.own 0 0 1 0 X.length),(4,.int .i64 k)],[(0,fw X)],1⟩
theorem fd{A B:List Int}{n i:Nat}{x y:AV}(hn:n=A.length)(hx:i<n->x= .int .i64 (A.getD i 0))(hy:n<=i->y= .int .i64 (B.getD (i-n) 0)):(bif Nat.blt i n then x else y)= .int .i64 ((A++B).getD i 0):=by
 subst hn
 by_cases h:i<A.length
 ·have:Nat.blt i A.length=true:=by rw[bH];exact h
  rw[this,aU,hx h]
  simp[List.getD,bu h]
 ·have:Nat.blt i A.length=false:=by
   cases hb:Nat.blt i A.length with
   |false=>rfl
   |true=>rw[bH] at hb;omega
  rw[this,bh,hy (by omega)]
  simp[List.getD,cg (Nat.le_of_not_lt h)]
theorem sy{x:Int}{q:Nat}(h:q=0):[AV.int .i64 x].getD ((q+0)*1+0) .junk= .int .i64 ([x].getD q 0):=by subst h;rfl
theorem MC{a b c d e:Int}{i:Nat}(h:i<5):[AV.int .i64 a,.int .i64 b,.int .i64 c,.int .i64 d,.int .i64 e].getD ((i+0)*1+0) .junk= .int .i64 ([a,b,c,d,e].getD i 0):=
 match i,h with |0,_=>rfl |1,_=>rfl |2,_=>rfl |3,_=>rfl |4,_=>rfl
theorem eu(s:S8):(fQ s).length=s.m.length+s.st.length+7:=by simp[fQ];omega
theorem Mk(s:S8)(L:List Int)(hL:L=fQ s)(hm:s.m.length<1000000)(hst:s.st.length<1000000):Vc (vF_ 54 [.agg (s8R s)] [.fv] [] (lR L) []):=aj (cj (pv ((0:Nat)=0∧(5:Nat)=5∧((5:Nat)+s.m.length)*8<=140737488355328∧(5:Nat)+s.m.length<=140737488355328)) (cj (pv ((0:Nat)=0∧(5:Nat)+s.m.length=5+s.m.length∧((5:Nat)+s.m.length+1)*8<=140737488355328∧(5:Nat)+s.m.length+1<=140737488355328)) (cj (pv ((0:Nat)=0∧(5:Nat)+s.m.length+1=5+s.m.length+1∧((5:Nat)+s.m.length+1+s.st.length)*8<=140737488355328∧(5:Nat)+s.m.length+1+s.st.length<=140737488355328)) (cj (pv ((0:Nat)=0∧(5:Nat)+s.m.length+1+s.st.length=5+s.m.length+1+s.st.length∧((5:Nat)+s.m.length+1+s.st.length+1)*8<=140737488355328∧(5:Nat)+s.m.length+1+s.st.length+1<=140737488355328)) (cj (show(5:Nat)+s.m.length+1+s.st.length+1=L.length from by rw[hL,eu];omega) (cj (show ∀(i:Nat),i<5+s.m.length+1+s.st.length+1-> ∀(j:Nat),j<1->(bif Nat.blt (i+0) ((5:Nat)+s.m.length+1+s.st.length) then bif Nat.blt (i+0) ((5:Nat)+s.m.length+1) then bif Nat.blt (i+0) ((5:Nat)+s.m.length) then bif Nat.blt (i+0) (5:Nat) then List.getD [aI s.r0,aI s.r1,aI s.r2,aI s.r3,aI s.m.length] ((i+0)*1+j) AV.junk else aI (s.m.getD (i+0-5) 0) else List.getD [aI s.st.length] ((i+0-((5:Nat)+s.m.length)+0)*1+j) AV.junk else aI (s.st.getD (i+0-((5:Nat)+s.m.length+1)) 0) else List.getD [aI s.pc] ((i+0-((5:Nat)+s.m.length+1+s.st.length)+0)*1+j) AV.junk)=aI (L.getD i 0) from(fun i hi j hj=>by
 subst hL
 obtain rfl:j=0:=by omega
 exact fd (A:=((([s.r0,s.r1,s.r2,s.r3,(s.m.length:Int)]++s.m)++[(s.st.length:Int)])++s.st)) (B:=[s.pc]) (by simp;omega) (fun _=>fd (A:=(([s.r0,s.r1,s.r2,s.r3,(s.m.length:Int)]++s.m)++[(s.st.length:Int)])) (B:=s.st) (by simp;omega) (fun _=>fd (A:=([s.r0,s.r1,s.r2,s.r3,(s.m.length:Int)]++s.m)) (B:=[(s.st.length:Int)]) (by simp;omega) (fun _=>fd (A:=[s.r0,s.r1,s.r2,s.r3,(s.m.length:Int)]) (B:=s.m) rfl (fun h=>MC h) (fun _=>rfl)) (fun _=>sy (by omega))) (fun _=>rfl)) (fun _=>sy (by omega)))) trivial)))))) (by kernel_rfl)
theorem Ma(s:S8)(hm:s.m.length<1000000)(hst:s.st.length<1000000):pC_ 54 [.agg (s8R s)] (lR (fQ s)) []:=PureC.vc (Mk s _ rfl hm hst)
theorem OP(s:S8)(L:List Int)(hL:L=fQ s)(hm:s.m.length<1000000)(hst:s.st.length<1000000):Vc (vF_ 54 [.agg (s8R s)] [.fv] [(0,0)] (.own 0 0 1 0 L.length) [fw L]):=aj (cj (pv ((0:Nat)=0∧(5:Nat)=5∧((5:Nat)+s.m.length)*8<=140737488355328∧(5:Nat)+s.m.length<=140737488355328)) (cj (pv ((0:Nat)=0∧(5:Nat)+s.m.length=5+s.m.length∧((5:Nat)+s.m.length+1)*8<=140737488355328∧(5:Nat)+s.m.length+1<=140737488355328)) (cj (pv ((0:Nat)=0∧(5:Nat)+s.m.length+1=5+s.m.length+1∧((5:Nat)+s.m.length+1+s.st.length)*8<=140737488355328∧(5:Nat)+s.m.length+1+s.st.length<=140737488355328)) (cj (pv ((0:Nat)=0∧(5:Nat)+s.m.length+1+s.st.length=5+s.m.length+1+s.st.length∧((5:Nat)+s.m.length+1+s.st.length+1)*8<=140737488355328∧(5:Nat)+s.m.length+1+s.st.length+1<=140737488355328)) (cj (show(5:Nat)+s.m.length+1+s.st.length+1=L.length from by rw[hL,eu];omega) (cj (show ∀(i:Nat),i<5+s.m.length+1+s.st.length+1-> ∀(j:Nat),j<1->(bif Nat.blt i ((5:Nat)+s.m.length+1+s.st.length) then bif Nat.blt i ((5:Nat)+s.m.length+1) then bif Nat.blt i ((5:Nat)+s.m.length) then bif Nat.blt i (5:Nat) then List.getD [aI s.r0,aI s.r1,aI s.r2,aI s.r3,aI s.m.length] (i*1+j) AV.junk else aI (s.m.getD (i-5) 0) else List.getD [aI s.st.length] ((i-((5:Nat)+s.m.length)+0)*1+j) AV.junk else aI (s.st.getD (i-((5:Nat)+s.m.length+1)) 0) else List.getD [aI s.pc] ((i-((5:Nat)+s.m.length+1+s.st.length)+0)*1+j) AV.junk)=aI (L.getD i 0) from(fun i hi j hj=>by
 subst hL
 obtain rfl:j=0:=by omega
 exact fd (A:=((([s.r0,s.r1,s.r2,s.r3,(s.m.length:Int)]++s.m)++[(s.st.length:Int)])++s.st)) (B:=[s.pc]) (by simp;omega) (fun _=>fd (A:=(([s.r0,s.r1,s.r2,s.r3,(s.m.length:Int)]++s.m)++[(s.st.length:Int)])) (B:=s.st) (by simp;omega) (fun _=>fd (A:=([s.r0,s.r1,s.r2,s.r3,(s.m.length:Int)]++s.m)) (B:=[(s.st.length:Int)]) (by simp;omega) (fun _=>fd (A:=[s.r0,s.r1,s.r2,s.r3,(s.m.length:Int)]) (B:=s.m) rfl (fun h=>MC h) (fun _=>rfl)) (fun _=>sy (by omega))) (fun _=>rfl)) (fun _=>sy (by omega)))) (cj (rf (0:Nat)) (cj (show(5:Nat)+s.m.length+1+s.st.length+1=L.length from by rw[hL,eu];omega) trivial)))))))) (by kernel_rfl)
theorem L9(s:S8)(hm:s.m.length<1000000)(hst:s.st.length<1000000):pC_ 54 [.agg (s8R s)] (.own 0 0 1 0 (fQ s).length) [fw (fQ s)]:=PureC.vc (OP s _ rfl hm hst)
theorem wV(b:Bool)(h:b=true):Vc (vF_ 70 [.bool b] [.b true] [] (aI (Wd.tI b)) []):=aj (cj h (cj (show(1:Int)=Wd.tI b from by rw[h];rfl) trivial))
theorem uH(b:Bool)(h:b=false):Vc (vF_ 70 [.bool b] [.b false] [] (aI (Wd.tI b)) []):=aj (cj h (cj (show(0:Int)=Wd.tI b from by rw[h];rfl) trivial))
theorem Eq(b:Bool):pC_ 70 [.bool b] (.int .i64 (Wd.tI b)) []:=by
 cases h:b with
 |true=>exact PureC.vc (wV true rfl)
 |false=>exact PureC.vc (uH false rfl)
theorem JX(c:Cf)(X:List Int)(k:Nat):X.length+8=(X++[(c.b.getD k default).pc,(c.b.getD k default).val,(c.b.getD k default).adr,(c.b.getD k default).frm,(c.b.getD k default).nxt,Wd.tI (c.b.getD k default).dn,Wd.tI (c.b.getD k default).kn,Wd.tI (c.b.getD k default).ft]).length:=by rw[aL];rfl
theorem Ie(c:Cf){Z:Prop}(z:Z):(RF c.b.length (RR c.b.length 8 (fun i j=>ao enC c.b i j) (RF c.r.length (RR c.r.length 1 (fun i j=>aI (c.r.getD i 0)) (RF c.e (RF (0:Nat) Z)))))):=⟨rfl,fun _ _ _ _=>rfl,rfl,fun _ _ _ _=>rfl,rfl,rfl,z⟩
theorem zS(c:Cf){Z:Prop}(z:Z):(RF c.s.r0 (RF c.s.r1 (RF c.s.r2 (RF c.s.r3 (RF c.s.m.length (RR c.s.m.length 1 (fun i j=>aI (List.getD c.s.m i 0)) (RF c.s.st.length (RR c.s.st.length 1 (fun i j=>aI (List.getD c.s.st i 0)) (RF c.s.pc Z))))))))):=⟨rfl,rfl,rfl,rfl,rfl,fun _ _ _ _=>rfl,rfl,fun _ _ _ _=>rfl,rfl,z⟩
theorem PN(c:Cf)(X:List Int)(k:Nat)(hk:k<c.b.length)(hb:c.b.length<1000000)(hX:X.length<100000000):Vc (vC_ 33 0 (ciS c X k) [.bd true,.cl [.bool (c.b.getD k default).dn] (aI (Wd.tI (c.b.getD k default).dn)) [],.cl [.bool (c.b.getD k default).kn] (aI (Wd.tI (c.b.getD k default).kn)) [],.cl [.bool (c.b.getD k default).ft] (aI (Wd.tI (c.b.getD k default).ft)) []] .nrm [(0,0)] (ciS c (X++enN (c.b.getD k default)) (k+1))):=aj (cj (dt ((k:Int)<c.b.length)) (cj (bi k c.b.length) (cj (rf ((c.b.getD k default).dn)) (cj (Eq (c.b.getD k default).dn) (cj (rf ((c.b.getD k default).kn)) (cj (Eq (c.b.getD k default).kn) (cj (rf ((c.b.getD k default).ft)) (cj (Eq (c.b.getD k default).ft) (cj (ap X.length 8 8) (cj (i6 (k+1)) (cj (JX c X k) (cj (show ∀(i:Nat),i<X.length+8-> ∀(j:Nat),j<1->(bif Nat.blt i X.length then aI (X.getD i 0) else List.getD [aI (c.b.getD k default).pc,aI (c.b.getD k default).val,aI (c.b.getD k default).adr,aI (c.b.getD k default).frm,aI (c.b.getD k default).nxt,aI (Wd.tI (c.b.getD k default).dn),aI (Wd.tI (c.b.getD k default).kn),aI (Wd.tI (c.b.getD k default).ft)] ((i-X.length+0)*1+j) AV.junk)=aI (List.getD (X++[(c.b.getD k default).pc,(c.b.getD k default).val,(c.b.getD k default).adr,(c.b.getD k default).frm,(c.b.getD k default).nxt,Wd.tI (c.b.getD k default).dn,Wd.tI (c.b.getD k default).kn,Wd.tI (c.b.getD k default).ft]) i (0:Int)) from(fun i hi j hj=>by obtain rfl:j=0:=(by omega);exact fd (A:=X) (B:=enN (c.b.getD k default)) rfl (fun _=>rfl) (fun h=>by obtain⟨q,rfl⟩: ∃q,i=X.length+q:=⟨i-X.length,by omega⟩;rw[Nat.add_sub_cancel_left];exact(match q,(show q<8 by omega) with |0,_=>rfl |1,_=>rfl |2,_=>rfl |3,_=>rfl |4,_=>rfl |5,_=>rfl |6,_=>rfl |7,_=>rfl)))) (zS c (Ie c (cj (JX c X k) (cj (rf ((k:Int)+1)) trivial))))))))))))))))
theorem PO(c:Cf)(X:List Int)(k:Nat)(hk: ¬k<c.b.length):Vc (vC_ 33 0 (ciS c X k) [.bd false] (.ext 0) [(0,0)] (ciS c X k)):=aj (cj (df ((k:Int)<c.b.length)) (cj (rf X.length) (cj (rr X.length 1 fun i j=>aI (X.getD i 0)) (zS c (cj (rf c.b.length) (cj (rr c.b.length 8 fun i j=>ao enC c.b i j) (cj (rf c.r.length) (cj (rr c.r.length 1 fun i j=>aI (c.r.getD i 0)) (cj (rf c.e) (cj (rf (0:Nat)) (cj (rf X.length) (cj (rf (k:Int)) trivial))))))))))))
theorem mL(c:Cf): ∀k,(ciK c k).length=(fQ c.s).length+1+8*k
 |0=>by rw[ciK,aL];rfl
 |k+1=>by rw[ciK,aL,mL c k];show _+8=_;omega
theorem B5(c:Cf)(hb:c.b.length<1000000)(hm:c.s.m.length<1000000)(hst:c.s.st.length<1000000):oL_ 33 0 (ciS c (ciK c 0) 0).st (.ext 0) (ciS c (ciK c c.b.length) c.b.length).st:=
 Ok.loop (P:=Tryz.prog) (nt:=bY Tryz.prog 33) (c:=lpC Tryz.prog 33 0) (F:=fun k=>ciS c (ciK c k) k) (m:=c.b.length) (x:= .ext 0) (J:=ciS c (ciK c c.b.length) c.b.length) (fun k hk=>Ok.vc (PN c (ciK c k) k hk hb (by rw[mL,eu];omega))) (Ok.vc (PO c _ _ (db _))) (by simp)
theorem cif(c:Cf)(L0 X L:List Int)(n:Nat)(hL:L=((X++[(c.r.length:Int)])++c.r)++[c.e])(h7:pC_ 54 [.agg (s8R c.s)] (.own 0 0 1 0 L0.length) [fw L0])(h:oL_ 33 0 (ciS c (L0++[(c.b.length:Int)]) 0).st (.ext 0) (ciS c X n).st)(hl0:L0.length<100000000)(hX:X.length<100000000)(hr:c.r.length<1000000):Vc (vF_ 33 [.agg (cfA c)] [.fv,.cl [.agg (s8R c.s)] (.own 0 0 1 0 L0.length) [fw L0],.lp [(0,0)] (ciS c (L0++[(c.b.length:Int)]) 0) (.ext 0) (ciS c X n)] [] (lR L) []):=aj (zS c (cj h7 (cj (ap L0.length 1 8) (cj (pv (L0.length+1=(L0++[(↑c.b.length:Int)]).length)) (cj (show ∀(i:Nat),i<L0.length+1-> ∀(j:Nat),j<1->(bif Nat.blt i L0.length then aI (L0.getD i 0) else List.getD [aI c.b.length] ((i-L0.length+0)*1+j) AV.junk)=aI (List.getD (L0++[(↑c.b.length:Int)]) i (0:Int)) from(fun i hi j hj=>by obtain rfl:j=0:=(by omega);exact fd (A:=L0) (B:=[(c.b.length:Int)]) (by simp) (fun _=>rfl) (fun h=>sy (by omega)))) (zS c (Ie c (cj (pv (L0.length+1=(L0++[(↑c.b.length:Int)]).length)) (cj (rf (0:Int)) (cj h (cj (ap X.length 1 8) (cj (ap (X.length+1) c.r.length 8) (cj (ap (X.length+1+c.r.length) 1 8) (cj (show X.length+1+c.r.length+1=L.length from by rw[hL];simp;omega) (cj (show ∀(i:Nat),i<X.length+1+c.r.length+1-> ∀(j:Nat),j<1->(bif Nat.blt (i+0) (X.length+1+c.r.length) then bif Nat.blt (i+0) (X.length+1) then bif Nat.blt (i+0) X.length then aI (X.getD (i+0) 0) else List.getD [aI c.r.length] ((i+0-X.length+0)*1+j) AV.junk else aI (c.r.getD (i+0-(X.length+1)) 0) else List.getD [aI c.e] ((i+0-(X.length+1+c.r.length)+0)*1+j) AV.junk)=aI (L.getD i 0) from(fun i hi j hj=>by
 subst hL
 obtain rfl:j=0:=by omega
 exact fd (A:=((X++[(c.r.length:Int)])++c.r)) (B:=[c.e]) (by simp only[aL,bV]) (fun _=>fd (A:=(X++[(c.r.length:Int)])) (B:=c.r) (by simp only[aL,bV]) (fun _=>fd (A:=X) (B:=[(c.r.length:Int)]) (by simp) (fun _=>rfl) (fun h=>sy (by omega))) (fun _=>rfl)) (fun h=>sy (by omega)))) trivial))))))))))))))) (by kernel_rfl)
theorem qd(c:Cf):(ciL c).length=c.s.m.length+c.s.st.length+10+8*c.b.length+c.r.length:=by
 unfold ciL;rw[aL,aL,aL,mL,eu];simp;omega
theorem ciC(c:Cf)(hb:c.b.length<1000000)(hm:c.s.m.length<1000000)(hst:c.s.st.length<1000000)(hr:c.r.length<1000000):pC_ 33 [.agg (cfA c)] (lR (ciL c)) []:=
 PureC.vc (cif c (fQ c.s) (ciK c c.b.length) (ciL c) _ rfl (L9 c.s hm hst) (B5 c hb hm hst) (by rw[eu];omega) (by rw[mL,eu];omega) hr)
theorem JW(a b:Cf)(A B:List Int)(x:Bool)(ha:pC_ 33 [.agg (cfA a)] (lR A) [])(hb:pC_ 33 [.agg (cfA b)] (lR B) [])(hs:pC_ 32 [lR A,lR B] (.bool x) []):Vc (vF_ 10 [.agg (cfA a),.agg (cfA b)] [.fv,.fv,.cl [.agg (cfA a)] (lR A) [],.cl [.agg (cfA b)] (lR B) [],.cl [lR A,lR B] (.bool x) []] [] (.bool x) []):=aj (cj (rf a.s.r0) (cj (rf a.s.r1) (cj (rf a.s.r2) (cj (rf a.s.r3) (cj (rf a.s.m.length) (cj (rr a.s.m.length 1 fun i j=>aI (List.getD a.s.m i 0)) (cj (rf a.s.st.length) (cj (rr a.s.st.length 1 fun i j=>aI (List.getD a.s.st i 0)) (cj (rf a.s.pc) (cj (rf a.b.length) (cj (rr a.b.length 8 fun i j=>ao enC a.b i j) (cj (rf a.r.length) (cj (rr a.r.length 1 fun i j=>aI (a.r.getD i 0)) (cj (rf a.e) (cj ha (cj (rf b.s.r0) (cj (rf b.s.r1) (cj (rf b.s.r2) (cj (rf b.s.r3) (cj (rf b.s.m.length) (cj (rr b.s.m.length 1 fun i j=>aI (List.getD b.s.m i 0)) (cj (rf b.s.st.length) (cj (rr b.s.st.length 1 fun i j=>aI (List.getD b.s.st i 0)) (cj (rf b.s.pc) (cj (rf b.b.length) (cj (rr b.b.length 8 fun i j=>ao enC b.b i j) (cj (rf b.r.length) (cj (rr b.r.length 1 fun i j=>aI (b.r.getD i 0)) (cj (rf b.e) (cj hb (cj (rf A.length) (cj (rr A.length 1 fun i j=>aI (A.getD i 0)) (cj (rf B.length) (cj (rr B.length 1 fun i j=>aI (B.getD i 0)) (cj hs (cj (rf x) trivial))))))))))))))))))))))))))))))))))))
theorem xv(a b:Cf)(hb:a.b.length<1000000)(hm:a.s.m.length<1000000)(hst:a.s.st.length<1000000)(hr:a.r.length<1000000)(hb':b.b.length<1000000)(hm':b.s.m.length<1000000)(hst':b.s.st.length<1000000)(hr':b.r.length<1000000):pC_ 10 [.agg (cfA a),.agg (cfA b)] (.bool (decide (ciL a=ciL b))) []:=
 PureC.vc (JW a b _ _ _ (ciC a hb hm hst hr) (ciC b hb' hm' hst' hr') (La _ _ (by rw[qd];omega)))
end
end Go.Proofs.YtlfldlnohmobmaaGreat.Px
