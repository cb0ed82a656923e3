import Derived.Test.YtlfldlnohmobmaaGreatMbH
import Derived.Test.YtlfldlnohmobmaaGreatMbD
import Derived.Test.YtlfldlnohmobmaaGreatMbG
import Derived.Test.YtlfldlnohmobmaaGreatMbF
set_option linter.unusedVariables false
set_option linter.unusedSimpArgs false
set_option maxRecDepth 100000
namespace Go.Proofs.YtlfldlnohmobmaaGreat.Px
section
open Go.RowKit Go.Proofs.YtlfldlnohmobmaaGreat.Rx
theorem eT(c:Cf){Z:Prop}(z:Z):(RR c.s.m.length 1 (fun i j=>aI (List.getD c.s.m i 0)) (RF c.s.st.length (RR c.s.st.length 1 (fun i j=>aI (List.getD c.s.st i 0)) (RF c.s.pc (RF c.b.length (RR c.b.length 8 (fun i j=>ao enC c.b i j) (RF c.r.length (RR c.r.length 1 (fun i j=>aI (c.r.getD i 0)) (RF c.e Z))))))))):=⟨fun _ _ _ _=>rfl,rfl,fun _ _ _ _=>rfl,rfl,rfl,fun _ _ _ _=>rfl,rfl,fun _ _ _ _=>rfl,rfl,z⟩
theorem eS(p:Pg)(c:Cf){Z:Prop}(z:Z):(RF p.ls.length (RR p.ls.length 2 (fun i j=>ao lbC p.ls i j) (RF p.is.length (RR p.is.length 9 (fun i j=>ao inC p.is i j) (RF c.s.r0 (RF c.s.r1 (RF c.s.r2 (RF c.s.r3 (RF c.s.m.length Z))))))))):=⟨rfl,fun _ _ _ _=>rfl,rfl,fun _ _ _ _=>rfl,rfl,rfl,rfl,rfl,rfl,z⟩
theorem eH(p:Pg){Z:Prop}(z:Z):(RF p.W (RF p.win (RF p.fuel (RF p.r0 (RF p.r1 (RF p.r2 (RF p.r3 (RF p.ms.length (RR p.ms.length 3 (fun i j=>ao mmC p.ms i j) Z))))))))):=⟨rfl,rfl,rfl,rfl,rfl,rfl,rfl,rfl,fun _ _ _ _=>rfl,z⟩
theorem I7(p:Pg)(c:Cf)(k:Nat)(va:Int)(h0:pC_ 53 [.agg (pgA p),.agg (cfA c), aI k] (.tup [aI va,.bool false]) []):Vc (vF_ 83 [.agg (pgA p),.agg (cfA c), aI k] [.fv,.fv,.cl [.agg (pgA p),.agg (cfA c), aI k] (.tup [aI va,.bool false]) []] [] (.bool false) []):=aj (eH p (eS p c (eT c (cj (rf (k:Int)) (cj h0 (cj (rf false) trivial))))))
theorem HX(p:Pg){Z:Prop}(z:Z):(RF p.W (RF p.r0 (RF p.r1 (RF p.r2 (RF p.r3 (RF p.ms.length (RR p.ms.length 3 (fun i j=>ao mmC p.ms i j) Z))))))):=⟨rfl,rfl,rfl,rfl,rfl,rfl,fun _ _ _ _=>rfl,z⟩
abbrev KO(p:Pg)(c:Cf)(k:Nat)(va:Int):Prop:=PureC Tryz.prog 53 [.agg (pgA p),.agg (cfA c),.int .i64 k] (.tup [.int .i64 va,.bool true]) []
abbrev KN(p:Pg):Prop:=PureC Tryz.prog 77 [.agg (bn p.W p.r0 p.r1 p.r2 p.r3 (bU p.ms))] (.int .i64 (aP p.ms)) []
abbrev K0(p:Pg):Orc:= .cl [.agg (bn p.W p.r0 p.r1 p.r2 p.r3 (bU p.ms))] (aI (aP p.ms)) []
theorem I5(p:Pg)(c:Cf)(k:Nat)(va:Int)(hm:((aP p.ms:Nat):Int)<=va)(h0:KO p c k va)(h1:KN p):Vc (vF_ 83 [.agg (pgA p),.agg (cfA c), aI k] [.fv,.fv,.cl [.agg (pgA p),.agg (cfA c), aI k] (.tup [aI va,.bool true]) [],K0 p,.bd true] [] (.bool true) []):=aj (eH p (eS p c (eT c (cj (rf (k:Int)) (cj h0 (HX p (cj h1 (cj (dt (va>=(↑(aP p.ms):Int))) (cj (rf true) trivial)))))))))
theorem I6(p:Pg)(c:Cf)(k:Nat)(va v fr:Int)(tl:Bool)(hm: ¬((aP p.ms:Nat):Int)<=va)(h0:KO p c k va)(h1:KN p)(h2:pC_ 90 [.agg (pgA p),lR c.s.m,enR c.b, aI k, aI va] (.tup [aI v, aI fr,.bool tl]) []):Vc (vF_ 83 [.agg (pgA p),.agg (cfA c), aI k] [.fv,.fv,.cl [.agg (pgA p),.agg (cfA c), aI k] (.tup [aI va,.bool true]) [],K0 p,.bd false,.cl [.agg (pgA p),lR c.s.m,enR c.b, aI k, aI va] (.tup [aI v, aI fr,.bool tl]) []] [] (.bool tl) []):=aj (eH p (eS p c (eT c (cj (rf (k:Int)) (cj h0 (HX p (cj h1 (cj (df (va>=(↑(aP p.ms):Int))) (eH p (cj (rf p.ls.length) (cj (rr p.ls.length 2 fun i j=>ao lbC p.ls i j) (cj (rf p.is.length) (cj (rr p.is.length 9 fun i j=>ao inC p.is i j) (cj (rf c.s.m.length) (cj (rr c.s.m.length 1 fun i j=>aI (List.getD c.s.m i 0)) (cj (rf c.b.length) (cj (rr c.b.length 8 fun i j=>ao enC c.b i j) (cj (rf (k:Int)) (cj (rf va) (cj h2 (cj (rf tl) trivial)))))))))))))))))))))
theorem zk(p:Pg)(hP:OkP p):pC_ 77 [.agg (bn p.W p.r0 p.r1 p.r2 p.r3 (bU p.ms))] (.int .i64 (aP p.ms)) []:=jg p.W p.r0 p.r1 p.r2 p.r3 p.ms (by have:=hP.ms;omega) hP.sum
theorem Nm(p:Pg)(c:Cf)(k:Nat)(hk:k<c.b.length)(hb:c.b.length<1000000)(hv:Sml p c)(hP:OkP p)(hm:c.s.m.length=aP p.ms):pC_ 83 [.agg (pgA p),.agg (cfA c),.int .i64 k] (.bool (tAB p c k (enX p c k)&&(decide ((c.s.m.length:Int)<=adV p c k (enX p c k))||(ldV p c.s.m c.b k (adV p c k (enX p c k))).2.2))) []:=by
 have h0:=Ac p c k hk hb hv
 have h1:=zk p hP
 have h2:=Lu p c.s.m c.b k (adV p c k (enX p c k)) hb
 cases ht:tAB p c k (enX p c k) with
 |false=>
  rw[ht] at h0
  exact PureC.vc (I7 p c k _ h0)
 |true=>
  rw[ht,aq rfl] at h0
  rw[ci]
  by_cases hq:(c.s.m.length:Int)<=adV p c k (enX p c k)
  ·rw[bB hq,jo];exact PureC.vc (I5 p c k _ (hm▸hq) h0 h1)
  ·rw[bK hq,dN];exact PureC.vc (I6 p c k _ _ _ _ (hm▸hq) h0 h1 h2)
theorem HW(p:Pg)(c:Cf)(k:Nat){Z:Prop}(z:Z):(RF (k:Int) (RF (2:Nat) (RR 2 2 (fun i j=>vlC [(enX p c k).a,(enX p c k).b] i j) Z))):=⟨rfl,rfl,fun _ _ _ _=>rfl,z⟩
abbrev KM(p:Pg)(c:Cf)(k:Nat)(ta:Bool):Prop:=PureC Tryz.prog 81 [.agg (pgA p),.agg (cfA c),.int .i64 k,.row 2 2 (vlC [(enX p c k).a,(enX p c k).b])] (.bool ta) []
abbrev oo(p:Pg)(c:Cf)(k:Nat):Prop:=PureC Tryz.prog 52 [.agg (pgA p),.agg (cfA c),.int .i64 k] (.agg (inA (enX p c k))) []
abbrev ow(p:Pg)(c:Cf)(k:Nat):Orc:= .cl [.agg (pgA p),.agg (cfA c), aI k] (.agg (inA (enX p c k))) []
theorem Nv(p:Pg)(c:Cf)(k:Nat)(ta:Bool)(h0:oo p c k)(h1:KM p c k ta)(k1:(enX p c k).kind=1):Vc (vF_ 51 [.agg (pgA p),.agg (cfA c), aI k] [.fv,.fv,ow p c k,.bd true,.fz,.cl [.agg (pgA p),.agg (cfA c), aI k,.row 2 2 (vlC [(enX p c k).a,(enX p c k).b])] (.bool ta) []] [] (.bool ta) []):=aj (eH p (eS p c (eT c (cj (rf (k:Int)) (cj h0 (cj (ay.2 k1) (eH p (eS p c (eT c (HW p c k (cj h1 (cj (rf ta) trivial))))))))))))
theorem Nr(p:Pg)(c:Cf)(k:Nat)(ta:Bool)(h0:oo p c k)(h1:KM p c k ta)(k1: ¬(enX p c k).kind=1)(k5:(enX p c k).kind=5):Vc (vF_ 51 [.agg (pgA p),.agg (cfA c), aI k] [.fv,.fv,ow p c k,.bd false,.bd true,.fz,.cl [.agg (pgA p),.agg (cfA c), aI k,.row 2 2 (vlC [(enX p c k).a,(enX p c k).b])] (.bool ta) []] [] (.bool ta) []):=aj (eH p (eS p c (eT c (cj (rf (k:Int)) (cj h0 (cj (ae.2 k1) (cj (ay.2 k5) (eH p (eS p c (eT c (HW p c k (cj h1 (cj (rf ta) trivial)))))))))))))
theorem Ns(p:Pg)(c:Cf)(k:Nat)(ta:Bool)(h0:oo p c k)(h1:pC_ 81 [.agg (pgA p),.agg (cfA c), aI k,.row 2 3 (vlC [(enX p c k).a,(enX p c k).b,(⟨true,(enX p c k).d⟩:Vl)])] (.bool ta) [])(k1: ¬(enX p c k).kind=1)(k5: ¬(enX p c k).kind=5)(k4:(enX p c k).kind=4):Vc (vF_ 51 [.agg (pgA p),.agg (cfA c), aI k] [.fv,.fv,ow p c k,.bd false,.bd false,.bd true,.cl [aI (enX p c k).d] (.agg (vlA ⟨true,(enX p c k).d⟩)) [],.fz,.cl [.agg (pgA p),.agg (cfA c), aI k,.row 2 3 (vlC [(enX p c k).a,(enX p c k).b,(⟨true,(enX p c k).d⟩:Vl)])] (.bool ta) []] [] (.bool ta) []):=aj (eH p (eS p c (eT c (cj (rf (k:Int)) (cj h0 (cj (ae.2 k1) (cj (ae.2 k5) (cj (ay.2 k4) (cj (rf ((enX p c k).d)) (cj (I8 (enX p c k).d) (eH p (eS p c (eT c (cj (rf (k:Int)) (cj (rf (3:Nat)) (cj (rr 3 2 fun i j=>vlC [(enX p c k).a,(enX p c k).b,Vl.mk true (enX p c k).d] i j) (cj h1 (cj (rf ta) trivial))))))))))))))))))
theorem Nt(p:Pg)(c:Cf)(k:Nat)(ta:Bool)(h0:oo p c k)(h1:pC_ 81 [.agg (pgA p),.agg (cfA c), aI k,.row 2 1 (vlC [(⟨true,(enX p c k).d⟩:Vl)])] (.bool ta) [])(k1: ¬(enX p c k).kind=1)(k5: ¬(enX p c k).kind=5)(k4: ¬(enX p c k).kind=4)(k2: ¬(enX p c k).kind=2)(k3:(enX p c k).kind=3):Vc (vF_ 51 [.agg (pgA p),.agg (cfA c), aI k] [.fv,.fv,ow p c k,.bd false,.bd false,.bd false,.bd false,.bd true,.cl [aI (enX p c k).d] (.agg (vlA ⟨true,(enX p c k).d⟩)) [],.fz,.cl [.agg (pgA p),.agg (cfA c), aI k,.row 2 1 (vlC [(⟨true,(enX p c k).d⟩:Vl)])] (.bool ta) []] [] (.bool ta) []):=aj (eH p (eS p c (eT c (cj (rf (k:Int)) (cj h0 (cj (ae.2 k1) (cj (ae.2 k5) (cj (ae.2 k4) (cj (ae.2 k2) (cj (ay.2 k3) (cj (rf ((enX p c k).d)) (cj (I8 (enX p c k).d) (eH p (eS p c (eT c (cj (rf (k:Int)) (cj (rf (1:Nat)) (cj (rr 1 2 fun i j=>vlC [Vl.mk true (enX p c k).d] i j) (cj h1 (cj (rf ta) trivial))))))))))))))))))))
theorem Nq(p:Pg)(c:Cf)(k:Nat)(ta:Bool)(h0:oo p c k)(h1:pC_ 81 [.agg (pgA p),.agg (cfA c), aI k,.row 2 1 (vlC [(enX p c k).a])] (.bool ta) [])(k1: ¬(enX p c k).kind=1)(k5: ¬(enX p c k).kind=5)(k4: ¬(enX p c k).kind=4)(k2: ¬(enX p c k).kind=2)(k3: ¬(enX p c k).kind=3)(k7:(enX p c k).kind=7):Vc (vF_ 51 [.agg (pgA p),.agg (cfA c), aI k] [.fv,.fv,ow p c k,.bd false,.bd false,.bd false,.bd false,.bd false,.bd true,.fz,.cl [.agg (pgA p),.agg (cfA c), aI k,.row 2 1 (vlC [(enX p c k).a])] (.bool ta) []] [] (.bool ta) []):=aj (eH p (eS p c (eT c (cj (rf (k:Int)) (cj h0 (cj (ae.2 k1) (cj (ae.2 k5) (cj (ae.2 k4) (cj (ae.2 k2) (cj (ae.2 k3) (cj (ay.2 k7) (eH p (eS p c (eT c (cj (rf (k:Int)) (cj (rf (1:Nat)) (cj (rr 1 2 fun i j=>vlC [(enX p c k).a] i j) (cj h1 (cj (rf ta) trivial)))))))))))))))))))
theorem Np(p:Pg)(c:Cf)(k:Nat)(h0:oo p c k)(k1: ¬(enX p c k).kind=1)(k5: ¬(enX p c k).kind=5)(k4: ¬(enX p c k).kind=4)(k2: ¬(enX p c k).kind=2)(k3: ¬(enX p c k).kind=3)(k7: ¬(enX p c k).kind=7)(k9:(enX p c k).kind=9):Vc (vF_ 51 [.agg (pgA p),.agg (cfA c), aI k] [.fv,.fv,ow p c k,.bd false,.bd false,.bd false,.bd false,.bd false,.bd false,.bd true] [] (.bool true) []):=aj (eH p (eS p c (eT c (cj (rf (k:Int)) (cj h0 (cj (ae.2 k1) (cj (ae.2 k5) (cj (ae.2 k4) (cj (ae.2 k2) (cj (ae.2 k3) (cj (ae.2 k7) (cj (ay.2 k9) (cj (rf true) trivial)))))))))))))
theorem Nn(p:Pg)(c:Cf)(k:Nat)(h0:oo p c k)(k1: ¬(enX p c k).kind=1)(k5: ¬(enX p c k).kind=5)(k4: ¬(enX p c k).kind=4)(k2: ¬(enX p c k).kind=2)(k3: ¬(enX p c k).kind=3)(k7: ¬(enX p c k).kind=7)(k9: ¬(enX p c k).kind=9):Vc (vF_ 51 [.agg (pgA p),.agg (cfA c), aI k] [.fv,.fv,ow p c k,.bd false,.bd false,.bd false,.bd false,.bd false,.bd false,.bd false] [] (.bool false) []):=aj (eH p (eS p c (eT c (cj (rf (k:Int)) (cj h0 (cj (ae.2 k1) (cj (ae.2 k5) (cj (ae.2 k4) (cj (ae.2 k2) (cj (ae.2 k3) (cj (ae.2 k7) (cj (ae.2 k9) (cj (rf false) trivial)))))))))))))
theorem Nu(p:Pg)(c:Cf)(k:Nat)(ta:Bool)(h0:oo p c k)(h1:pC_ 83 [.agg (pgA p),.agg (cfA c), aI k] (.bool ta) [])(k1: ¬(enX p c k).kind=1)(k5: ¬(enX p c k).kind=5)(k4: ¬(enX p c k).kind=4)(k2:(enX p c k).kind=2):Vc (vF_ 51 [.agg (pgA p),.agg (cfA c), aI k] [.fv,.fv,ow p c k,.bd false,.bd false,.bd false,.bd true,.cl [.agg (pgA p),.agg (cfA c), aI k] (.bool ta) []] [] (.bool ta) []):=aj (eH p (eS p c (eT c (cj (rf (k:Int)) (cj h0 (cj (ae.2 k1) (cj (ae.2 k5) (cj (ae.2 k4) (cj (ay.2 k2) (eH p (eS p c (eT c (cj (rf (k:Int)) (cj h1 (cj (rf ta) trivial)))))))))))))))
theorem xrC(p:Pg)(c:Cf)(k:Nat)(hk:k<c.b.length)(hb:c.b.length<1000000)(hv:Sml p c)(hP:OkP p)(hm:c.s.m.length=aP p.ms):pC_ 51 [.agg (pgA p),.agg (cfA c),.int .i64 k] (.bool (cnK p c k (enX p c k))) []:=by
 have h0:=oi p c k hk
 unfold cnK
 by_cases k1:(enX p c k).kind=1
 ·rw[aq k1];exact PureC.vc (Nv p c k _ h0 (Ef p c k hb (enX p c k).a (enX p c k).b) k1)
 rw[an k1]
 by_cases k5:(enX p c k).kind=5
 ·rw[aq k5];exact PureC.vc (Nr p c k _ h0 (Ef p c k hb (enX p c k).a (enX p c k).b) k1 k5)
 rw[an k5]
 by_cases k4:(enX p c k).kind=4
 ·rw[aq k4];exact PureC.vc (Ns p c k _ h0 (Nl p c k hb (enX p c k).a (enX p c k).b (⟨true,(enX p c k).d⟩:Vl)) k1 k5 k4)
 rw[an k4]
 by_cases k2:(enX p c k).kind=2
 ·rw[aq k2];exact PureC.vc (Nu p c k _ h0 (Nm p c k hk hb hv hP hm) k1 k5 k4 k2)
 rw[an k2]
 by_cases k3:(enX p c k).kind=3
 ·rw[aq k3];exact PureC.vc (Nt p c k _ h0 (I4 p c k hb (⟨true,(enX p c k).d⟩:Vl)) k1 k5 k4 k2 k3)
 rw[an k3]
 by_cases k7:(enX p c k).kind=7
 ·rw[aq k7];exact PureC.vc (Nq p c k _ h0 (I4 p c k hb (enX p c k).a) k1 k5 k4 k2 k3 k7)
 rw[an k7]
 by_cases k9:(enX p c k).kind=9
 ·rw[show((enX p c k).kind==9)=true from ay.2 k9];exact PureC.vc (Np p c k h0 k1 k5 k4 k2 k3 k7 k9)
 ·rw[show((enX p c k).kind==9)=false from ae.2 k9];exact PureC.vc (Nn p c k h0 k1 k5 k4 k2 k3 k7 k9)
theorem NG(p:Pg)(c:Cf)(i:Int)(hO:pC_ 50 [.agg (pgA p),.agg (cfA c), aI i] (.bool false) []):Vc (vF_ 17 [.agg (pgA p),.agg (cfA c), aI i] [.fv,.fv,.cl [.agg (pgA p),.agg (cfA c), aI i] (.bool false) []] [] (.bool false) []):=aj (eH p (eS p c (eT c (cj (rf i) (cj hO (cj (rf false) trivial))))))
abbrev xJ(p:Pg)(c:Cf)(k:Nat):Prop:=PureC Tryz.prog 50 [.agg (pgA p),.agg (cfA c),.int .i64 k] (.bool true) []
abbrev x0(p:Pg)(c:Cf)(k:Nat):Orc:= .cl [.agg (pgA p),.agg (cfA c), aI k] (.bool true) []
theorem NI(p:Pg)(c:Cf)(k:Nat)(hk:k<c.b.length)(hb:c.b.length<1000000)(hO:xJ p c k)(hd:(c.b.getD k default).dn=true):Vc (vF_ 17 [.agg (pgA p),.agg (cfA c), aI k] [.fv,.fv,x0 p c k,.lv (enR c.b),.lv (.bool true)] [] (.bool false) []):=aj (eH p (eS p c (eT c (cj (rf (k:Int)) (cj hO (cj (rf (Option.some (AV.row (nat_lit 8) c.b.length fun(a a_1:Nat)=>ao enC c.b a a_1))) (cj (bi k c.b.length) (cj (congrArg (fun b=>some (AV.bool b)) hd) (cj (rf false) trivial)))))))))
theorem NH(p:Pg)(c:Cf)(k:Nat)(hk:k<c.b.length)(hb:c.b.length<1000000)(hO:xJ p c k)(hd:(c.b.getD k default).dn=false)(ta:Bool)(h1:pC_ 51 [.agg (pgA p),.agg (cfA c), aI k] (.bool ta) []):Vc (vF_ 17 [.agg (pgA p),.agg (cfA c), aI k] [.fv,.fv,x0 p c k,.lv (enR c.b),.lv (.bool false),.cl [.agg (pgA p),.agg (cfA c), aI k] (.bool ta) []] [] (.bool ta) []):=aj (eH p (eS p c (eT c (cj (rf (k:Int)) (cj hO (cj (rf (Option.some (AV.row (nat_lit 8) c.b.length fun(a a_1:Nat)=>ao enC c.b a a_1))) (cj (bi k c.b.length) (cj (congrArg (fun b=>some (AV.bool b)) hd) (eH p (eS p c (eT c (cj (rf (k:Int)) (cj h1 (cj (rf ta) trivial))))))))))))))
theorem Jt(p:Pg)(c:Cf)(i:Int)(hb:c.b.length<1000000)(hv:Sml p c)(hP:OkP p)(hm:c.s.m.length=aP p.ms):pC_ 17 [.agg (pgA p),.agg (cfA c),.int .i64 i] (.bool (cnV p c i)) []:=by
 have hO:=Ja p c i hb
 cases ho:opV p c i with
 |false=>
  rw[ho] at hO
  have e:cnV p c i=false:=by unfold cnV;rw[ho];rfl
  rw[e]
  exact PureC.vc (NG p c i hO)
 |true=>
  rw[ho] at hO
  obtain⟨k,rfl,hk⟩:=kZ ho
  cases hd:(c.b.getD k default).dn with
  |true=>
   have e:cnV p c k=false:=by unfold cnV;rw[ho,aC,hd];rfl
   rw[e]
   exact PureC.vc (NI p c k hk hb hO hd)
  |false=>
   have e:cnV p c k=cnK p c k (enX p c k):=by unfold cnV;rw[ho,aC,hd];rfl
   rw[e]
   exact PureC.vc (NH p c k hk hb hO hd _ (xrC p c k hk hb hv hP hm))
theorem Nw(p:Pg)(c:Cf)(i:Int)(hO:pC_ 50 [.agg (pgA p),.agg (cfA c), aI i] (.bool false) []):Vc (vF_ 18 [.agg (pgA p),.agg (cfA c), aI i] [.fv,.fv,.cl [.agg (pgA p),.agg (cfA c), aI i] (.bool false) []] [] (.bool false) []):=aj (eH p (eS p c (eT c (cj (rf i) (cj hO (cj (rf false) trivial))))))
theorem Nz(p:Pg)(c:Cf)(k:Nat)(hk:k<c.b.length)(hb:c.b.length<1000000)(hO:xJ p c k)(hn:(c.b.getD k default).kn=true):Vc (vF_ 18 [.agg (pgA p),.agg (cfA c), aI k] [.fv,.fv,x0 p c k,.lv (enR c.b),.lv (.bool true)] [] (.bool false) []):=aj (eH p (eS p c (eT c (cj (rf (k:Int)) (cj hO (cj (rf (Option.some (AV.row (nat_lit 8) c.b.length fun(a a_1:Nat)=>ao enC c.b a a_1))) (cj (bi k c.b.length) (cj (congrArg (fun b=>some (AV.bool b)) hn) (cj (rf false) trivial)))))))))
theorem Ny(p:Pg)(c:Cf)(k:Nat)(hk:k<c.b.length)(hb:c.b.length<1000000)(hO:xJ p c k)(hn:(c.b.getD k default).kn=false)(h0:oo p c k)(k3: ¬(enX p c k).kind=3):Vc (vF_ 18 [.agg (pgA p),.agg (cfA c), aI k] [.fv,.fv,x0 p c k,.lv (enR c.b),.lv (.bool false),ow p c k,.bd true] [] (.bool false) []):=aj (eH p (eS p c (eT c (cj (rf (k:Int)) (cj hO (cj (rf (Option.some (AV.row (nat_lit 8) c.b.length fun(a a_1:Nat)=>ao enC c.b a a_1))) (cj (bi k c.b.length) (cj (congrArg (fun b=>some (AV.bool b)) hn) (eH p (eS p c (eT c (cj (rf (k:Int)) (cj h0 (cj (n1 ((enX p c k).kind) 3) (cj (rf false) trivial)))))))))))))))
theorem Nx(p:Pg)(c:Cf)(k:Nat)(hk:k<c.b.length)(hb:c.b.length<1000000)(hO:xJ p c k)(hn:(c.b.getD k default).kn=false)(h0:oo p c k)(va:Int)(ta:Bool)(h1:pC_ 53 [.agg (pgA p),.agg (cfA c), aI k] (.tup [aI va,.bool ta]) [])(k3:(enX p c k).kind=3):Vc (vF_ 18 [.agg (pgA p),.agg (cfA c), aI k] [.fv,.fv,x0 p c k,.lv (enR c.b),.lv (.bool false),ow p c k,.bd false,.cl [.agg (pgA p),.agg (cfA c), aI k] (.tup [aI va,.bool ta]) []] [] (.bool ta) []):=aj (eH p (eS p c (eT c (cj (rf (k:Int)) (cj hO (cj (rf (Option.some (AV.row (nat_lit 8) c.b.length fun(a a_1:Nat)=>ao enC c.b a a_1))) (cj (bi k c.b.length) (cj (congrArg (fun b=>some (AV.bool b)) hn) (eH p (eS p c (eT c (cj (rf (k:Int)) (cj h0 (cj (n0 ((enX p c k).kind) 3) (eH p (eS p c (eT c (cj (rf (k:Int)) (cj h1 (cj (rf ta) trivial))))))))))))))))))))
theorem Ju(p:Pg)(c:Cf)(i:Int)(hb:c.b.length<1000000)(hv:Sml p c):pC_ 18 [.agg (pgA p),.agg (cfA c),.int .i64 i] (.bool (caV p c i)) []:=by
 have hO:=Ja p c i hb
 cases ho:opV p c i with
 |false=>
  rw[ho] at hO
  have e:caV p c i=false:=by unfold caV;rw[ho];rfl
  rw[e]
  exact PureC.vc (Nw p c i hO)
 |true=>
  rw[ho] at hO
  obtain⟨k,rfl,hk⟩:=kZ ho
  cases hn:(c.b.getD k default).kn with
  |true=>
   have e:caV p c k=false:=by unfold caV;rw[ho,aC,hn];rfl
   rw[e]
   exact PureC.vc (Nz p c k hk hb hO hn)
  |false=>
   have e:caV p c k=((enX p c k).kind==3&&tAB p c k (enX p c k)):=by unfold caV;rw[ho,aC,hn];rfl
   rw[e]
   have h0:=oi p c k hk
   by_cases k3:(enX p c k).kind=3
   ·rw[show((enX p c k).kind==3)=true from ay.2 k3,ci]
    exact PureC.vc (Nx p c k hk hb hO hn h0 _ _ (Ac p c k hk hb hv) k3)
   ·rw[show((enX p c k).kind==3)=false from ae.2 k3];exact PureC.vc (Ny p c k hk hb hO hn h0 k3)
def aQ(W c len:Int)(i:In)(s:S8):S8×List Ob×Int:=
 if i.kind=1 then((s.set i.d (Wd.doV W i.op (vlV W s i.a) (vlV W s i.b))).go (s.pc+1),[],0)
 else if i.kind=4 then(if vlV W s i.a=0 then s.go (s.pc+1) else(s.set i.d (vlV W s i.b)).go (s.pc+1),[],0)
 else if i.kind=2 then(if Wd.maskV W (vlV W s i.a+vlV W s i.b)<c then((s.set i.d (s.m.getD (Wd.maskV W (vlV W s i.a+vlV W s i.b)).toNat 0)).go (s.pc+1),[⟨1,Wd.maskV W (vlV W s i.a+vlV W s i.b)⟩],0) else(s,[],2))
 else if i.kind=3 then(if Wd.maskV W (vlV W s i.a+vlV W s i.b)<c then({s with m:=s.m.set (Wd.maskV W (vlV W s i.a+vlV W s i.b)).toNat (s.reg i.d),pc:=s.pc+1},[⟨2,Wd.maskV W (vlV W s i.a+vlV W s i.b)⟩],0) else(s,[],2))
 else if i.kind=5 then(if Wd.doV W i.op (vlV W s i.a) (vlV W s i.b)=0 then(s.go (s.pc+1),[⟨3,s.pc+1⟩],0) else(s.go i.tg,[⟨3,i.tg⟩],0))
 else if i.kind=6 then(s.go i.tg,[],0)
 else if i.kind=7 then(s.go (if len<vlV W s i.a then len else vlV W s i.a),[⟨3,if len<vlV W s i.a then len else vlV W s i.a⟩],0)
 else if i.kind=8 then(if 4<=s.st.length then(s,[],2) else({s with st:=s.st++[s.pc+1],pc:=i.tg},[],0))
 else if i.kind=9 then(if s.st.length=0 then(s,[],2) else({s with st:=s.st.take (s.st.length-1),pc:=s.st.getD (s.st.length-1) 0},[⟨3,s.st.getD (s.st.length-1) 0⟩],0))
 else if i.kind=10 then(s.go (s.pc+1),[],0)
 else if i.kind=11 then(s,[],1)
 else(s,[],2)
def mcA(p:Pg)(c:Int)(s:S8)(am ak sn:AV):List AV:=pgA p++[.int .i64 c]++s8A s am ak++[sn]
def mcC(p:Pg)(c:Int)(s:S8)(am ak sn:AV)(q:Nat):AV:=(mcA p c s am ak sn).getD q .junk
def mcP(p:Pg)(c:Int)(s:S8)(am ak sn:AV):AV:= .rptr 19 (mcC p c s am ak sn) 0
theorem Fo(p:Pg)(c:Int)(s:S8)(r:Int)(h0:0<=r)(h1:r<4):Vc (vF_ 126 [(mcP p c s .junk .junk .junk), aI r] [.b true,.b true,.b true,.b false,.iz,.lv (aI (s.reg r))] [] (aI (s.reg r)) []):=aj (cj (dt ((0:Int)<=r)) (cj (dt ((0:Int)<=r)) (cj (dt ((0:Int)<=r)) (cj (pv ((!decide (r<4))=false)) (cj (bi r (4:Nat)) (cj (show ng Go.Proofs.Tryz.prog (3:Nat) (19:Nat) (mcC p c s AV.junk AV.junk AV.junk) ((11:Nat)+Int.toNat r*1)=Option.some (aI (s.reg r)) from by rcases jK h0 h1 with rfl |rfl |rfl |rfl<;>kernel_rfl) (cj (rf (s.reg r)) trivial)))))))
theorem Dx(p:Pg)(c:Int)(s:S8)(r:Int)(h0:0<=r)(h1:r<4):pC_ 126 [(mcP p c s .junk .junk .junk),.int .i64 r] (.int .i64 (s.reg r)) []:=PureC.vc (Fo p c s r h0 h1)
theorem qp(p:Pg)(c:Int)(s:S8){Z:Prop}(z:Z):(RF p.ls.length (RR p.ls.length 2 (fun i j=>ao lbC p.ls i j) (RF p.is.length (RR p.is.length 9 (fun i j=>ao inC p.is i j) (RF c (RF s.r0 (RF s.r1 (RF s.r2 (RF s.r3 Z))))))))):=⟨rfl,fun _ _ _ _=>rfl,rfl,fun _ _ _ _=>rfl,rfl,rfl,rfl,rfl,rfl,z⟩
theorem qo(p:Pg){Z:Prop}(z:Z):(RF p.W (RF p.win (RF p.fuel (RF p.r0 (RF p.r1 (RF p.r2 (RF p.r3 (RF p.ms.length (RR p.ms.length 3 (fun i j=>ao mmC p.ms i j) Z))))))))):=⟨rfl,rfl,rfl,rfl,rfl,rfl,rfl,rfl,fun _ _ _ _=>rfl,z⟩
theorem F2(p:Pg)(c:Int)(s:S8)(n:Int)(h0:0<=n)(h1:n<4):Vc (vF_ 114 [(mcP p c s .junk .junk .junk),.agg [.bool true, aI n]] [.fz,.cl [(mcP p c s .junk .junk .junk), aI n] (aI (s.reg n)) []] [] (aI (s.reg n)) []):=aj (qo p (qp p c s (cj (rf s.pc) (cj (rf n) (cj (Dx p c s n h0 h1) (cj (rf (s.reg n)) trivial))))))
theorem F3(p:Pg)(c:Int)(s:S8)(n:Int):Vc (vF_ 114 [(mcP p c s .junk .junk .junk),.agg [.bool false, aI n]] [.fz,.cl [aI p.W, aI n] (aI (Wd.maskV p.W n)) []] [] (aI (Wd.maskV p.W n)) []):=aj (cj (rf p.W) (cj (rf n) (cj (ca p.W n) (cj (rf (Wd.maskV p.W n)) trivial))))
theorem lS(p:Pg)(c:Int)(s:S8)(x:Vl)(hx:okV x):pC_ 114 [(mcP p c s .junk .junk .junk),.agg (vlA x)] (.int .i64 (vlV p.W s x)) []:=by
 obtain⟨b,n⟩:=x
 cases b with
 |true=>exact PureC.vc (F2 p c s n (hx rfl).1 (hx rfl).2)
 |false=>exact PureC.vc (F3 p c s n)
theorem Cv(s:S8)(i:In){Z:Prop}(z:Z):(RF s.pc (RF i.b.reg (RF i.b.n Z))):=⟨rfl,rfl,rfl,z⟩
theorem Cu(s:S8)(i:In){Z:Prop}(z:Z):(RF s.pc (RF i.a.reg (RF i.a.n Z))):=⟨rfl,rfl,rfl,z⟩
theorem F8(p:Pg)(c:Int)(s:S8)(i:In)(ha:okV i.a)(hb:okV i.b):Vc (vF_ 121 [(mcP p c s .junk .junk .junk),.agg (inA i)] [.fz,.cl [(mcP p c s .junk .junk .junk),.agg (vlA i.a)] (aI (vlV p.W s i.a)) [],.cl [(mcP p c s .junk .junk .junk),.agg (vlA i.b)] (aI (vlV p.W s i.b)) [],.cl [aI p.W, aI i.op, aI (vlV p.W s i.a), aI (vlV p.W s i.b)] (.tup [aI (Wd.doV p.W i.op (vlV p.W s i.a) (vlV p.W s i.b)),.bool (Wd.doB p.W i.op)]) []] [] (aI (Wd.doV p.W i.op (vlV p.W s i.a) (vlV p.W s i.b))) []):=aj (qo p (qp p c s (Cu s i (cj (lS p c s i.a ha) (qo p (qp p c s (Cv s i (cj (lS p c s i.b hb) (cj (rf p.W) (cj (rf i.op) (cj (rf (vlV p.W s i.a)) (cj (rf (vlV p.W s i.b)) (cj (NT p.W i.op (vlV p.W s i.a) (vlV p.W s i.b)) (cj (rf (Wd.doV p.W i.op (vlV p.W s i.a) (vlV p.W s i.b))) trivial))))))))))))))
theorem F9(p:Pg)(c:Int)(s:S8)(i:In)(ha:okV i.a)(hb:okV i.b):pC_ 121 [(mcP p c s .junk .junk .junk),.agg (inA i)] (.int .i64 (Wd.doV p.W i.op (vlV p.W s i.a) (vlV p.W s i.b))) []:=PureC.vc (F8 p c s i ha hb)
theorem Hm(p:Pg)(c:Int)(s:S8)(i:In)(ha:okV i.a)(hb:okV i.b)(hs:okR s):Vc (vF_ 122 [(mcP p c s .junk .junk .junk),.agg (inA i)] [.fz,.cl [(mcP p c s .junk .junk .junk),.agg (vlA i.a)] (aI (vlV p.W s i.a)) [],.cl [(mcP p c s .junk .junk .junk),.agg (vlA i.b)] (aI (vlV p.W s i.b)) [],.cl [aI p.W, aI ((vlV p.W s i.a)+(vlV p.W s i.b))] (aI (Wd.maskV p.W ((vlV p.W s i.a)+(vlV p.W s i.b)))) []] [] (.tup [aI (Wd.maskV p.W ((vlV p.W s i.a)+(vlV p.W s i.b))),.bool (decide ((Wd.maskV p.W ((vlV p.W s i.a)+(vlV p.W s i.b)))<c))]) []):=aj (qo p (qp p c s (Cu s i (cj (lS p c s i.a ha) (qo p (qp p c s (Cv s i (cj (lS p c s i.b hb) (cj (show inK IntKind.i64 (vlV p.W s i.a+vlV p.W s i.b) from(fB (by have:=px (W:=p.W) hs i.a;have:=px (W:=p.W) hs i.b;omega) (by have:=px (W:=p.W) hs i.a;have:=px (W:=p.W) hs i.b;omega))) (cj (rf p.W) (cj (rf (vlV p.W s i.a+vlV p.W s i.b)) (cj (ca p.W ((vlV p.W s i.a)+(vlV p.W s i.b))) (cj (rf (Wd.maskV p.W (vlV p.W s i.a+vlV p.W s i.b))) (cj (rf (decide (Wd.maskV p.W (vlV p.W s i.a+vlV p.W s i.b)<c))) trivial))))))))))))))
theorem t8(p:Pg)(c:Int)(s:S8)(i:In)(ha:okV i.a)(hb:okV i.b)(hs:okR s):pC_ 122 [(mcP p c s .junk .junk .junk),.agg (inA i)] (.tup [.int .i64 (Wd.maskV p.W ((vlV p.W s i.a)+(vlV p.W s i.b))),.bool (decide ((Wd.maskV p.W ((vlV p.W s i.a)+(vlV p.W s i.b)))<c))]) []:=PureC.vc (Hm p c s i ha hb hs)
theorem B6(p:Pg)(c:Int)(s:S8)(n:Int)(h0:0<=n)(h1:n<s.m.length):Vc (vF_ 124 [(mcP p c s (.row 1 s.m.length (cQ s.m)) .junk .junk), aI n] [.b false] [] (aI (s.m.getD n.toNat 0)) []):=aj (cj (df (n>=(↑s.m.length:Int))) (cj (bi n s.m.length) (cj (rf (s.m.getD (Int.toNat n) (0:Int))) trivial)))
theorem Ga(p:Pg)(c:Int)(s:S8)(n:Int)(h0:0<=n)(h1:n<s.m.length):pC_ 124 [(mcP p c s (.row 1 s.m.length (cQ s.m)) .junk .junk),.int .i64 n] (.int .i64 (s.m.getD n.toNat 0)) []:=PureC.vc (B6 p c s n h0 h1)
def obB(l:List Ob):Blk:=⟨0,false,87,.rows 2 l.length (ao obC l)⟩
def mcO(p:Pg)(c:Int)(s:S8)(sn:List Ob):List AV:=mcA p c s (.own 2 0 1 0 s.m.length) (.own 3 0 1 0 s.st.length) (.own 4 0 2 0 sn.length)
def cV(p:Pg)(c:Int)(s:S8)(sn:List Ob)(n done e:Int):Sm:=⟨[(2,.int .i64 n),(6,.bptr 0 0),(10,.bptr 1 0),(11,.int .i64 done),(12,.int .i64 e)],
 [(0,bx 31 (stZ .nils)),(1,bx 144 (mcO p c s sn)),(2,fw s.m),(3,fw s.st),(4,obB sn)],5⟩
theorem Ct(s:S8)(sn:List Ob)(n:Int)(done:Int){Z:Prop}(z:Z):(RF s.st.length (RR s.st.length 1 (fun i j=>aI (s.st.getD i 0)) (RF sn.length (RR sn.length 2 (fun i j=>ao obC sn i j) (RF n (RF (done+1) (RF (0:Int) Z))))))):=⟨rfl,fun _ _ _ _=>rfl,rfl,fun _ _ _ _=>rfl,rfl,rfl,rfl,z⟩
theorem Cs(s:S8)(sn:List Ob){Z:Prop}(z:Z):(RF (0:Nat) (RF s.m.length (RF (0:Nat) (RF s.st.length (RF (s.pc+1) (RF (0:Nat) (RF sn.length (RF s.m.length (RR s.m.length 1 (fun i j=>aI (s.m.getD i 0)) Z))))))))):=⟨rfl,rfl,rfl,rfl,rfl,rfl,rfl,rfl,fun _ _ _ _=>rfl,z⟩
theorem eG(p:Pg){Z:Prop}(z:Z):(RF p.r1 (RF p.r2 (RF p.r3 (RF p.ms.length (RR p.ms.length 3 (fun i j=>ao mmC p.ms i j) (RF p.ls.length (RR p.ls.length 2 (fun i j=>ao lbC p.ls i j) (RF p.is.length (RR p.is.length 9 (fun i j=>ao inC p.is i j) Z))))))))):=⟨rfl,rfl,rfl,rfl,fun _ _ _ _=>rfl,rfl,fun _ _ _ _=>rfl,rfl,fun _ _ _ _=>rfl,z⟩
theorem eF(p:Pg){Z:Prop}(z:Z):(RF (0:Int) (RF (0:Int) (RF (0:Int) (RF (0:Int) (RF (0:Int) (RF p.W (RF p.win (RF p.fuel (RF p.r0 Z))))))))):=⟨rfl,rfl,rfl,rfl,rfl,rfl,rfl,rfl,rfl,z⟩
theorem gj(p:Pg)(c:Int)(s:S8){Z:Prop}(z:Z):(RF p.ls.length (RR p.ls.length 2 (fun i j=>ao lbC p.ls i j) (RF p.is.length (RR p.is.length 9 (fun i j=>ao inC p.is i j) (RF c (RF s.r0 (RF s.r1 (RF s.r2 (RF s.r3 Z))))))))):=⟨rfl,fun _ _ _ _=>rfl,rfl,fun _ _ _ _=>rfl,rfl,rfl,rfl,rfl,rfl,z⟩
theorem cT(p:Pg){Z:Prop}(z:Z):(RF p.W (RF p.win (RF p.fuel (RF p.r0 (RF p.r1 (RF p.r2 (RF p.r3 (RF p.ms.length (RR p.ms.length 3 (fun i j=>ao mmC p.ms i j) Z))))))))):=⟨rfl,rfl,rfl,rfl,rfl,rfl,rfl,rfl,fun _ _ _ _=>rfl,z⟩
theorem eW(p:Pg)(s:S8){Z:Prop}(z:Z):(RF p.ls.length (RR p.ls.length 2 (fun i j=>ao lbC p.ls i j) (RF p.is.length (RR p.is.length 9 (fun i j=>ao inC p.is i j) (RF s.pc Z))))):=⟨rfl,fun _ _ _ _=>rfl,rfl,fun _ _ _ _=>rfl,rfl,z⟩
theorem EA(p:Pg)(c:Int)(s:S8)(sn:List Ob)(n done:Int)(op d tg:Int)(a b:Vl)(nm:ByteArray)(hn:done<n)(hn2:n<1000000)(hd0:0<=done)(hp0: -1<=s.pc)(hp1:s.pc<1000000)(hA:pC_ 84 [.agg (pgA p), aI s.pc] (.agg (inA (⟨1,op,d,a,b,nm,tg⟩:In))) [])(h0:0<=d)(h1:d<4)(ha:okV a)(hb:okV b):Vc (vC_ 88 0 (cV p c s sn n done 0) [.b true,.b true,.b true,.inl,.cl [.agg (pgA p), aI s.pc] (.agg (inA (⟨1,op,d,a,b,nm,tg⟩:In))) [],.fz,.cp [(mcP p c s .junk .junk .junk),.agg (inA (⟨1,op,d,a,b,nm,tg⟩:In))] (aI (Wd.doV p.W op (vlV p.W s a) (vlV p.W s b))),.b true,.b true,.b true,.b true,.iz,.sv (mcO p c (s.set d (Wd.doV p.W op (vlV p.W s a) (vlV p.W s b))) sn)] .nrm [(0,0),(1,1),(2,2),(3,3),(4,4)] (cV p c ((s.set d (Wd.doV p.W op (vlV p.W s a) (vlV p.W s b))).go (s.pc+1)) sn n (done+1) 0)):=aj (cj (dt (done<n)) (cj (dt (done<n)) (cj (dt (done<n)) (cT p (eW p s (cj hA (cT p (gj p c s (cj (rf s.pc) (cj (rf (1:Int)) (cj (rf op) (cj (rf d) (cj (rf a.reg) (cj (rf a.n) (cj (rf b.reg) (cj (rf b.n) (cj (rf nm) (cj (rf tg) (cj (F9 p c s (⟨1,op,d,a,b,nm,tg⟩:In) ha hb) (cj (dt ((0:Int)<=d)) (cj (dt ((0:Int)<=d)) (cj (dt ((0:Int)<=d)) (cj (dt (d<4)) (cj (bi d (4:Nat)) (cj (pv ((11:Nat)+Int.toNat d*1+1<=19)) (cj (show setR [aI p.W,aI p.win,aI p.fuel,aI p.r0,aI p.r1,aI p.r2,aI p.r3,AV.row (nat_lit 3) p.ms.length fun(a a_1:Nat)=>ao mmC p.ms a a_1,AV.row (nat_lit 2) p.ls.length fun(a a_1:Nat)=>ao lbC p.ls a a_1,AV.row (nat_lit 9) p.is.length fun(a a_1:Nat)=>ao inC p.is a a_1,aI c,aI s.r0,aI s.r1,aI s.r2,aI s.r3,AV.own (nat_lit 2) (nat_lit 0) (nat_lit 1) (nat_lit 0) s.m.length,AV.own (nat_lit 3) (nat_lit 0) (nat_lit 1) (nat_lit 0) s.st.length,aI s.pc,AV.own (nat_lit 4) (nat_lit 0) (nat_lit 2) (nat_lit 0) sn.length] ((11:Nat)+Int.toNat d*1) [aI (Wd.doV p.W op (vlV p.W s a) (vlV p.W s b))]=[aI p.W,aI p.win,aI p.fuel,aI p.r0,aI p.r1,aI p.r2,aI p.r3,AV.row (nat_lit 3) p.ms.length fun(a a_1:Nat)=>ao mmC p.ms a a_1,AV.row (nat_lit 2) p.ls.length fun(a a_1:Nat)=>ao lbC p.ls a a_1,AV.row (nat_lit 9) p.is.length fun(a a_1:Nat)=>ao inC p.is a a_1,aI c,aI (if d=0 then Wd.doV p.W op (vlV p.W s a) (vlV p.W s b) else s.r0),aI (if d=1 then Wd.doV p.W op (vlV p.W s a) (vlV p.W s b) else s.r1),aI (if d=2 then Wd.doV p.W op (vlV p.W s a) (vlV p.W s b) else s.r2),aI (if d=3 then Wd.doV p.W op (vlV p.W s a) (vlV p.W s b) else s.r3),AV.own (nat_lit 2) (nat_lit 0) (nat_lit 1) (nat_lit 0) s.m.length,AV.own (nat_lit 3) (nat_lit 0) (nat_lit 1) (nat_lit 0) s.st.length,aI s.pc,AV.own (nat_lit 4) (nat_lit 0) (nat_lit 2) (nat_lit 0) sn.length] from by rcases jK h0 h1 with rfl |rfl |rfl |rfl<;>rfl) (cj (i6 (s.pc+1)) (cj (i6 (done+1)) (eF p (eG p (cj (rf c) (cj (rf (if d=0 then Wd.doV p.W op (vlV p.W s a) (vlV p.W s b) else s.r0)) (cj (rf (if d=1 then Wd.doV p.W op (vlV p.W s a) (vlV p.W s b) else s.r1)) (cj (rf (if d=2 then Wd.doV p.W op (vlV p.W s a) (vlV p.W s b) else s.r2)) (cj (rf (if d=3 then Wd.doV p.W op (vlV p.W s a) (vlV p.W s b) else s.r3)) (Cs s sn (Ct s sn n done trivial)))))))))))))))))))))))))))))))))))))
theorem jp(n:Int)(done:Int){Z:Prop}(z:Z):(RF n (RF (done+1) (RF (0:Int) Z))):=⟨rfl,rfl,rfl,z⟩
theorem Cr(s:S8)(sn:List Ob){Z:Prop}(z:Z):(RF (s.pc+1) (RF (0:Nat) (RF sn.length (RF s.m.length (RR s.m.length 1 (fun i j=>aI (s.m.getD i 0)) (RF s.st.length (RR s.st.length 1 (fun i j=>aI (s.st.getD i 0)) (RF sn.length (RR sn.length 2 (fun i j=>ao obC sn i j) Z))))))))):=⟨rfl,rfl,rfl,rfl,fun _ _ _ _=>rfl,rfl,fun _ _ _ _=>rfl,rfl,fun _ _ _ _=>rfl,z⟩
theorem g7(c:Int)(s:S8){Z:Prop}(z:Z):(RF c (RF s.r0 (RF s.r1 (RF s.r2 (RF s.r3 (RF (0:Nat) (RF s.m.length (RF (0:Nat) (RF s.st.length Z))))))))):=⟨rfl,rfl,rfl,rfl,rfl,rfl,rfl,rfl,rfl,z⟩
theorem sd(s:S8)(n:Int)(a:Vl){Z:Prop}(z:Z):(RF s.pc (RF a.reg (RF a.n Z))):=⟨rfl,rfl,rfl,z⟩
abbrev xW(p:Pg)(c:Int)(s:S8)(a:Vl):Orc:= .cp [(mcP p c s .junk .junk .junk),.agg (vlA a)] (aI (vlV p.W s a))
theorem xb(p:Pg)(c:Int)(s:S8)(sn:List Ob)(n done:Int)(op d tg:Int)(a b:Vl)(nm:ByteArray)(hn:done<n)(hn2:n<1000000)(hd0:0<=done)(hp0: -1<=s.pc)(hp1:s.pc<1000000)(hA:pC_ 84 [.agg (pgA p), aI s.pc] (.agg (inA (⟨4,op,d,a,b,nm,tg⟩:In))) [])(ha:okV a)(hz:(vlV p.W s a)=0):Vc (vC_ 88 0 (cV p c s sn n done 0) [.b true,.b true,.b true,.inl,.cl [.agg (pgA p), aI s.pc] (.agg (inA (⟨4,op,d,a,b,nm,tg⟩:In))) [],.inl,.fz,xW p c s a,.b false] .nrm [(0,0),(1,1),(2,2),(3,3),(4,4)] (cV p c (s.go (s.pc+1)) sn n (done+1) 0)):=aj (cj (dt (done<n)) (cj (dt (done<n)) (cj (dt (done<n)) (cT p (eW p s (cj hA (cT p (gj p c s (sd s n a (cj (lS p c s a ha) (cj (show(vlV p.W s a !=(0:Int))=false from by rw[hz];rfl) (cj (i6 (s.pc+1)) (cj (i6 (done+1)) (eF p (eG p (g7 c s (Cr s sn (jp n done trivial))))))))))))))))))
theorem xa(p:Pg)(c:Int)(s:S8)(sn:List Ob)(n done:Int)(op d tg:Int)(a b:Vl)(nm:ByteArray)(hn:done<n)(hn2:n<1000000)(hd0:0<=done)(hp0: -1<=s.pc)(hp1:s.pc<1000000)(hA:pC_ 84 [.agg (pgA p), aI s.pc] (.agg (inA (⟨4,op,d,a,b,nm,tg⟩:In))) [])(ha:okV a)(hb:okV b)(hz: ¬(vlV p.W s a)=0)(h0:0<=d)(h1:d<4):Vc (vC_ 88 0 (cV p c s sn n done 0) [.b true,.b true,.b true,.inl,.cl [.agg (pgA p), aI s.pc] (.agg (inA (⟨4,op,d,a,b,nm,tg⟩:In))) [],.inl,.fz,xW p c s a,.b true,.cp [(mcP p c s .junk .junk .junk),.agg (vlA b)] (aI (vlV p.W s b)),.b true,.b true,.b true,.b true,.iz,.sv (mcO p c (s.set d (vlV p.W s b)) sn)] .nrm [(0,0),(1,1),(2,2),(3,3),(4,4)] (cV p c ((s.set d (vlV p.W s b)).go (s.pc+1)) sn n (done+1) 0)):=aj (cj (dt (done<n)) (cj (dt (done<n)) (cj (dt (done<n)) (cT p (eW p s (cj hA (cT p (gj p c s (sd s n a (cj (lS p c s a ha) (cj (cN.2 hz) (cT p (gj p c s (cj (rf s.pc) (cj (rf b.reg) (cj (rf b.n) (cj (lS p c s b hb) (cj (dt ((0:Int)<=d)) (cj (dt ((0:Int)<=d)) (cj (dt ((0:Int)<=d)) (cj (dt (d<4)) (cj (bi d (4:Nat)) (cj (pv ((11:Nat)+Int.toNat d*1+1<=19)) (cj (show setR [aI p.W,aI p.win,aI p.fuel,aI p.r0,aI p.r1,aI p.r2,aI p.r3,AV.row (nat_lit 3) p.ms.length fun(a a_1:Nat)=>ao mmC p.ms a a_1,AV.row (nat_lit 2) p.ls.length fun(a a_1:Nat)=>ao lbC p.ls a a_1,AV.row (nat_lit 9) p.is.length fun(a a_1:Nat)=>ao inC p.is a a_1,aI c,aI s.r0,aI s.r1,aI s.r2,aI s.r3,AV.own (nat_lit 2) (nat_lit 0) (nat_lit 1) (nat_lit 0) s.m.length,AV.own (nat_lit 3) (nat_lit 0) (nat_lit 1) (nat_lit 0) s.st.length,aI s.pc,AV.own (nat_lit 4) (nat_lit 0) (nat_lit 2) (nat_lit 0) sn.length] ((11:Nat)+Int.toNat d*1) [aI (vlV p.W s b)]=[aI p.W,aI p.win,aI p.fuel,aI p.r0,aI p.r1,aI p.r2,aI p.r3,AV.row (nat_lit 3) p.ms.length fun(a a_1:Nat)=>ao mmC p.ms a a_1,AV.row (nat_lit 2) p.ls.length fun(a a_1:Nat)=>ao lbC p.ls a a_1,AV.row (nat_lit 9) p.is.length fun(a a_1:Nat)=>ao inC p.is a a_1,aI c,aI (if d=0 then vlV p.W s b else s.r0),aI (if d=1 then vlV p.W s b else s.r1),aI (if d=2 then vlV p.W s b else s.r2),aI (if d=3 then vlV p.W s b else s.r3),AV.own (nat_lit 2) (nat_lit 0) (nat_lit 1) (nat_lit 0) s.m.length,AV.own (nat_lit 3) (nat_lit 0) (nat_lit 1) (nat_lit 0) s.st.length,aI s.pc,AV.own (nat_lit 4) (nat_lit 0) (nat_lit 2) (nat_lit 0) sn.length] from by rcases jK h0 h1 with rfl |rfl |rfl |rfl<;>rfl) (cj (i6 (s.pc+1)) (cj (i6 (done+1)) (eF p (eG p (cj (rf c) (cj (rf (if d=0 then vlV p.W s b else s.r0)) (cj (rf (if d=1 then vlV p.W s b else s.r1)) (cj (rf (if d=2 then vlV p.W s b else s.r2)) (cj (rf (if d=3 then vlV p.W s b else s.r3)) (Cs s sn (Ct s sn n done trivial)))))))))))))))))))))))))))))))))))
theorem JU{l:List Int}{x:Int}: ∀i,i<l.length+1-> ∀j,j<1->(bif Nat.blt i l.length then AV.int .i64 (l.getD i 0) else[AV.int .i64 x].getD ((i-l.length)*1+j) .junk)= .int .i64 ((l++[x]).getD i 0):=by
 intro i hi j hj
 obtain rfl:j=0:=by omega
 by_cases h:i<l.length
 ·have:Nat.blt i l.length=true:=by rw[bH];exact h
  rw[this]
  simp[List.getD,bu h]
 ·obtain rfl:i=l.length:=by omega
  have:Nat.blt l.length l.length=false:=by
   cases hb:Nat.blt l.length l.length with
   |false=>rfl
   |true=>rw[bH] at hb;omega
  rw[this]
  simp[List.getD]
theorem mO(n:Int)(done:Int){Z:Prop}(z:Z):(RF n (RF (done+1) (RF (2:Int) Z))):=⟨rfl,rfl,rfl,z⟩
theorem kO(s:S8)(sn:List Ob){Z:Prop}(z:Z):(RF s.pc (RF (0:Nat) (RF sn.length (RF s.m.length (RR s.m.length 1 (fun i j=>aI (s.m.getD i 0)) (RF s.st.length (RR s.st.length 1 (fun i j=>aI (s.st.getD i 0)) (RF sn.length (RR sn.length 2 (fun i j=>ao obC sn i j) Z))))))))):=⟨rfl,rfl,rfl,rfl,fun _ _ _ _=>rfl,rfl,fun _ _ _ _=>rfl,rfl,fun _ _ _ _=>rfl,z⟩
theorem vM(s:S8)(n:Int)(op:Int)(d:Int)(a:Vl)(b:Vl)(nm:ByteArray){Z:Prop}(z:Z):(RF s.pc (RF (2:Int) (RF op (RF d (RF a.reg (RF a.n (RF b.reg (RF b.n (RF nm Z))))))))):=⟨rfl,rfl,rfl,rfl,rfl,rfl,rfl,rfl,rfl,z⟩
abbrev Dq(p:Pg)(c:Int)(s:S8)(op:Int)(d:Int)(tg:Int)(a:Vl)(b:Vl)(nm:ByteArray):Orc:= .cp [(mcP p c s .junk .junk .junk),.agg (inA (⟨2,op,d,a,b,nm,tg⟩:In))] (.tup [aI (Wd.maskV p.W ((vlV p.W s a)+(vlV p.W s b))),.bool (decide ((Wd.maskV p.W ((vlV p.W s a)+(vlV p.W s b)))<c))])
theorem w7(p:Pg)(c:Int)(s:S8)(sn:List Ob)(n done:Int)(op d tg:Int)(a b:Vl)(nm:ByteArray)(hn:done<n)(hn2:n<1000000)(hd0:0<=done)(hp0: -1<=s.pc)(hp1:s.pc<1000000)(hA:pC_ 84 [.agg (pgA p), aI s.pc] (.agg (inA (⟨2,op,d,a,b,nm,tg⟩:In))) [])(ha:okV a)(hb:okV b)(hc:c=s.m.length)(hs:okR s)(hx: ¬(Wd.maskV p.W ((vlV p.W s a)+(vlV p.W s b)))<c):Vc (vC_ 88 0 (cV p c s sn n done 0) [.b true,.b true,.b true,.inl,.cl [.agg (pgA p), aI s.pc] (.agg (inA (⟨2,op,d,a,b,nm,tg⟩:In))) [],.inl,.fz,Dq p c s op d tg a b nm,.b true] .nrm [(0,0),(1,1),(2,2),(3,3),(4,4)] (cV p c s sn n (done+1) 2)):=aj (cj (dt (done<n)) (cj (dt (done<n)) (cj (dt (done<n)) (cT p (eW p s (cj hA (cT p (gj p c s (vM s n op d a b nm (cj (rf tg) (cj (t8 p c s (⟨2,op,d,a,b,nm,tg⟩:In) ha hb hs) (cj (show(!decide (Wd.maskV p.W (vlV p.W s a+vlV p.W s b)<c))=true from by rw[bK hx];rfl) (cj (i6 (done+1)) (eF p (eG p (g7 c s (kO s sn (mO n done trivial))))))))))))))))))
theorem vL(s:S8)(n:Int)(op:Int)(d:Int)(a:Vl)(b:Vl)(nm:ByteArray){Z:Prop}(z:Z):(RF s.pc (RF (3:Int) (RF op (RF d (RF a.reg (RF a.n (RF b.reg (RF b.n (RF nm Z))))))))):=⟨rfl,rfl,rfl,rfl,rfl,rfl,rfl,rfl,rfl,z⟩
abbrev Dp(p:Pg)(c:Int)(s:S8)(op:Int)(d:Int)(tg:Int)(a:Vl)(b:Vl)(nm:ByteArray):Orc:= .cp [(mcP p c s .junk .junk .junk),.agg (inA (⟨3,op,d,a,b,nm,tg⟩:In))] (.tup [aI (Wd.maskV p.W ((vlV p.W s a)+(vlV p.W s b))),.bool (decide ((Wd.maskV p.W ((vlV p.W s a)+(vlV p.W s b)))<c))])
theorem uN(p:Pg)(c:Int)(s:S8)(sn:List Ob)(n done:Int)(op d tg:Int)(a b:Vl)(nm:ByteArray)(hn:done<n)(hn2:n<1000000)(hd0:0<=done)(hp0: -1<=s.pc)(hp1:s.pc<1000000)(hA:pC_ 84 [.agg (pgA p), aI s.pc] (.agg (inA (⟨3,op,d,a,b,nm,tg⟩:In))) [])(ha:okV a)(hb:okV b)(hc:c=s.m.length)(hs:okR s)(hx: ¬(Wd.maskV p.W ((vlV p.W s a)+(vlV p.W s b)))<c):Vc (vC_ 88 0 (cV p c s sn n done 0) [.b true,.b true,.b true,.inl,.cl [.agg (pgA p), aI s.pc] (.agg (inA (⟨3,op,d,a,b,nm,tg⟩:In))) [],.inl,.fz,Dp p c s op d tg a b nm,.b true] .nrm [(0,0),(1,1),(2,2),(3,3),(4,4)] (cV p c s sn n (done+1) 2)):=aj (cj (dt (done<n)) (cj (dt (done<n)) (cj (dt (done<n)) (cT p (eW p s (cj hA (cT p (gj p c s (vL s n op d a b nm (cj (rf tg) (cj (t8 p c s (⟨3,op,d,a,b,nm,tg⟩:In) ha hb hs) (cj (show(!decide (Wd.maskV p.W (vlV p.W s a+vlV p.W s b)<c))=true from by rw[bK hx];rfl) (cj (i6 (done+1)) (eF p (eG p (g7 c s (kO s sn (mO n done trivial))))))))))))))))))
theorem mN(s:S8){Z:Prop}(z:Z):(RF s.m.length (RR s.m.length 1 (fun i j=>aI (s.m.getD i 0)) (RF s.st.length (RR s.st.length 1 (fun i j=>aI (s.st.getD i 0)) Z)))):=⟨rfl,fun _ _ _ _=>rfl,rfl,fun _ _ _ _=>rfl,z⟩
theorem w5(p:Pg)(c:Int)(s:S8)(sn:List Ob)(n done:Int)(op d tg:Int)(a b:Vl)(nm:ByteArray)(hn:done<n)(hn2:n<1000000)(hd0:0<=done)(hp0: -1<=s.pc)(hp1:s.pc<1000000)(hA:pC_ 84 [.agg (pgA p), aI s.pc] (.agg (inA (⟨2,op,d,a,b,nm,tg⟩:In))) [])(ha:okV a)(hb:okV b)(hc:c=s.m.length)(hs:okR s)(h0:0<=d)(h1:d<4)(hx:(Wd.maskV p.W ((vlV p.W s a)+(vlV p.W s b)))<c)(hl:sn.length<1000000):Vc (vC_ 88 0 (cV p c s sn n done 0) [.b true,.b true,.b true,.inl,.cl [.agg (pgA p), aI s.pc] (.agg (inA (⟨2,op,d,a,b,nm,tg⟩:In))) [],.inl,.fz,Dq p c s op d tg a b nm,.b false,.inl,.cp [(mcP p c s (.row 1 s.m.length (cQ s.m)) .junk .junk), aI (Wd.maskV p.W ((vlV p.W s a)+(vlV p.W s b)))] (aI (s.m.getD (Wd.maskV p.W ((vlV p.W s a)+(vlV p.W s b))).toNat 0)),.b true,.b true,.b true,.b true,.iz,.sv (mcA p c (s.set d (s.m.getD (Wd.maskV p.W ((vlV p.W s a)+(vlV p.W s b))).toNat 0)) (.own 2 0 1 0 s.m.length) (.own 3 0 1 0 s.st.length) (.own 4 1 2 0 (sn.length+1)))] .nrm [(0,0),(1,1),(2,2),(3,3),(4,4)] (cV p c ((s.set d (s.m.getD (Wd.maskV p.W ((vlV p.W s a)+(vlV p.W s b))).toNat 0)).go (s.pc+1)) (sn++[⟨1,(Wd.maskV p.W ((vlV p.W s a)+(vlV p.W s b)))⟩]) n (done+1) 0)):=aj (cj (dt (done<n)) (cj (dt (done<n)) (cj (dt (done<n)) (cT p (eW p s (cj hA (cT p (gj p c s (vM s n op d a b nm (cj (rf tg) (cj (t8 p c s (⟨2,op,d,a,b,nm,tg⟩:In) ha hb hs) (cj (show(!decide (Wd.maskV p.W (vlV p.W s a+vlV p.W s b)<c))=false from by rw[bB hx];rfl) (cj (ap sn.length 1 16) (cT p (gj p c s (cj (rf s.m.length) (cj (rr s.m.length 1 fun i j=>aI (s.m.getD i 0)) (cj (rf s.pc) (cj (rf (Wd.maskV p.W (vlV p.W s a+vlV p.W s b))) (cj (show pC_ 124 [(mcP p c s (.row 1 s.m.length (cQ s.m)) .junk .junk), aI (Wd.maskV p.W ((vlV p.W s a)+(vlV p.W s b)))] (aI (s.m.getD (Wd.maskV p.W ((vlV p.W s a)+(vlV p.W s b))).toNat 0)) [] from Ga p c s (Wd.maskV p.W ((vlV p.W s a)+(vlV p.W s b))) (Wd.maskV_bd _ _).1 (by rw[<-hc];exact hx)) (cj (dt ((0:Int)<=d)) (cj (dt ((0:Int)<=d)) (cj (dt ((0:Int)<=d)) (cj (dt (d<4)) (cj (bi d (4:Nat)) (cj (pv ((11:Nat)+Int.toNat d*1+1<=19)) (cj (show setR [aI p.W,aI p.win,aI p.fuel,aI p.r0,aI p.r1,aI p.r2,aI p.r3,AV.row (nat_lit 3) p.ms.length fun(a a_1:Nat)=>ao mmC p.ms a a_1,AV.row (nat_lit 2) p.ls.length fun(a a_1:Nat)=>ao lbC p.ls a a_1,AV.row (nat_lit 9) p.is.length fun(a a_1:Nat)=>ao inC p.is a a_1,aI c,aI s.r0,aI s.r1,aI s.r2,aI s.r3,AV.own (nat_lit 2) (nat_lit 0) (nat_lit 1) (nat_lit 0) s.m.length,AV.own (nat_lit 3) (nat_lit 0) (nat_lit 1) (nat_lit 0) s.st.length,aI s.pc,AV.own (nat_lit 4) (nat_lit 1) (nat_lit 2) (nat_lit 0) (sn.length+1)] ((11:Nat)+Int.toNat d*1) [aI (s.m.getD (Int.toNat (Wd.maskV p.W (vlV p.W s a+vlV p.W s b))) 0)]=[aI p.W,aI p.win,aI p.fuel,aI p.r0,aI p.r1,aI p.r2,aI p.r3,AV.row (nat_lit 3) p.ms.length fun(a a_1:Nat)=>ao mmC p.ms a a_1,AV.row (nat_lit 2) p.ls.length fun(a a_1:Nat)=>ao lbC p.ls a a_1,AV.row (nat_lit 9) p.is.length fun(a a_1:Nat)=>ao inC p.is a a_1,aI c,aI (if d=0 then s.m.getD (Int.toNat (Wd.maskV p.W (vlV p.W s a+vlV p.W s b))) (0:Int) else s.r0),aI (if d=1 then s.m.getD (Int.toNat (Wd.maskV p.W (vlV p.W s a+vlV p.W s b))) (0:Int) else s.r1),aI (if d=2 then s.m.getD (Int.toNat (Wd.maskV p.W (vlV p.W s a+vlV p.W s b))) (0:Int) else s.r2),aI (if d=3 then s.m.getD (Int.toNat (Wd.maskV p.W (vlV p.W s a+vlV p.W s b))) (0:Int) else s.r3),AV.own (nat_lit 2) (nat_lit 0) (nat_lit 1) (nat_lit 0) s.m.length,AV.own (nat_lit 3) (nat_lit 0) (nat_lit 1) (nat_lit 0) s.st.length,aI s.pc,AV.own (nat_lit 4) (nat_lit 1) (nat_lit 2) (nat_lit 0) (sn.length+1)] from by rcases jK h0 h1 with rfl |rfl |rfl |rfl<;>rfl) (cj (i6 (s.pc+1)) (cj (i6 (done+1)) (eF p (eG p (cj (rf c) (cj (rf (if d=0 then s.m.getD (Int.toNat (Wd.maskV p.W (vlV p.W s a+vlV p.W s b))) (0:Int) else s.r0)) (cj (rf (if d=1 then s.m.getD (Int.toNat (Wd.maskV p.W (vlV p.W s a+vlV p.W s b))) (0:Int) else s.r1)) (cj (rf (if d=2 then s.m.getD (Int.toNat (Wd.maskV p.W (vlV p.W s a+vlV p.W s b))) (0:Int) else s.r2)) (cj (rf (if d=3 then s.m.getD (Int.toNat (Wd.maskV p.W (vlV p.W s a+vlV p.W s b))) (0:Int) else s.r3)) (cj (rf (0:Nat)) (cj (rf s.m.length) (cj (rf (0:Nat)) (cj (rf s.st.length) (cj (rf (s.pc+1)) (cj (rf (0:Nat)) (cj (pv (sn.length+1=(sn++[Ob.mk (1:Int) (Wd.maskV p.W (vlV p.W s a+vlV p.W s b))]).length)) (mN s (cj (pv (sn.length+1=(sn++[Ob.mk (1:Int) (Wd.maskV p.W (vlV p.W s a+vlV p.W s b))]).length)) (cj (show ∀(i:Nat),i<sn.length+1-> ∀(j:Nat),j<2->(bif Nat.blt i sn.length then ao obC sn i j else List.getD [aI 1,aI (Wd.maskV p.W (vlV p.W s a+vlV p.W s b))] ((i-sn.length+0)*2+j) AV.junk)=ao obC (sn++[Ob.mk (1:Int) (Wd.maskV p.W (vlV p.W s a+vlV p.W s b))]) i j from(fun i hi j hj=>de (fun h=>(bW h).symm) (fun h=>by obtain rfl:i=_:=bm (bk.mp hi) (bt.mp h);rw[bX,bA];match j,hj with |0,_=>rfl |1,_=>rfl))) (jp n done trivial)))))))))))))))))))))))))))))))))))))))))))))))
theorem uM(p:Pg)(c:Int)(s:S8)(sn:List Ob)(n done:Int)(op d tg:Int)(a b:Vl)(nm:ByteArray)(hn:done<n)(hn2:n<1000000)(hd0:0<=done)(hp0: -1<=s.pc)(hp1:s.pc<1000000)(hA:pC_ 84 [.agg (pgA p), aI s.pc] (.agg (inA (⟨3,op,d,a,b,nm,tg⟩:In))) [])(ha:okV a)(hb:okV b)(hc:c=s.m.length)(hs:okR s)(h0:0<=d)(h1:d<4)(hx:(Wd.maskV p.W ((vlV p.W s a)+(vlV p.W s b)))<c)(hl:sn.length<1000000):Vc (vC_ 88 0 (cV p c s sn n done 0) [.b true,.b true,.b true,.inl,.cl [.agg (pgA p), aI s.pc] (.agg (inA (⟨3,op,d,a,b,nm,tg⟩:In))) [],.inl,.fz,Dp p c s op d tg a b nm,.b false,.inl,.cp [(mcP p c s .junk .junk .junk), aI d] (aI (s.reg d)),.b true] .nrm [(0,0),(1,1),(2,2),(3,3),(4,4)] (cV p c {s with m:=s.m.set (Wd.maskV p.W ((vlV p.W s a)+(vlV p.W s b))).toNat (s.reg d),pc:=s.pc+1} (sn++[⟨2,(Wd.maskV p.W ((vlV p.W s a)+(vlV p.W s b)))⟩]) n (done+1) 0)):=aj (cj (dt (done<n)) (cj (dt (done<n)) (cj (dt (done<n)) (cT p (eW p s (cj hA (cT p (gj p c s (vL s n op d a b nm (cj (rf tg) (cj (t8 p c s (⟨3,op,d,a,b,nm,tg⟩:In) ha hb hs) (cj (show(!decide (Wd.maskV p.W (vlV p.W s a+vlV p.W s b)<c))=false from by rw[bB hx];rfl) (cj (ap sn.length 1 16) (cT p (gj p c s (cj (rf s.pc) (cj (rf d) (cj (Dx p c s d h0 h1) (cj (show decide (Wd.maskV p.W (vlV p.W s a+vlV p.W s b)<(↑s.m.length:Int))=true from(bB (by rw[<-hc];exact hx))) (cj (show(0:Int)<=Wd.maskV p.W (vlV p.W s a+vlV p.W s b)∧Wd.maskV p.W (vlV p.W s a+vlV p.W s b)<(↑s.m.length:Int) from⟨(Wd.maskV_bd _ _).1,by rw[<-hc];exact hx⟩) (cj (show Int.toNat (Wd.maskV p.W (vlV p.W s a+vlV p.W s b))+0<s.m.length from by have:=(Wd.maskV_bd p.W ((vlV p.W s a)+(vlV p.W s b))).1;rw[hc] at hx;omega) (cj (i6 (s.pc+1)) (cj (i6 (done+1)) (eF p (eG p (cj (rf c) (cj (rf s.r0) (cj (rf s.r1) (cj (rf s.r2) (cj (rf s.r3) (cj (rf (0:Nat)) (cj (show s.m.length=(List.set s.m (Int.toNat (Wd.maskV p.W (vlV p.W s a+vlV p.W s b))) (s.reg d)).length from az.symm) (cj (rf (0:Nat)) (cj (rf s.st.length) (cj (rf (s.pc+1)) (cj (rf (0:Nat)) (cj (pv (sn.length+1=(sn++[Ob.mk (2:Int) (Wd.maskV p.W (vlV p.W s a+vlV p.W s b))]).length)) (cj (show s.m.length=(List.set s.m (Int.toNat (Wd.maskV p.W (vlV p.W s a+vlV p.W s b))) (s.reg d)).length from az.symm) (cj (show ∀(i:Nat),i<s.m.length-> ∀(j:Nat),j<1->(bif Nat.ble (0:Nat) j&&Nat.blt j (1:Nat)&&Nat.beq i (Int.toNat (Wd.maskV p.W (vlV p.W s a+vlV p.W s b))+0) then List.getD [aI (s.reg d)] (j-0) AV.junk else aI (s.m.getD i 0))=aI (List.getD (List.set s.m (Int.toNat (Wd.maskV p.W (vlV p.W s a+vlV p.W s b))) (s.reg d)) i 0) from(fun i hi j hj=>gI i hi j hj)) (cj (rf s.st.length) (cj (rr s.st.length 1 fun i j=>aI (s.st.getD i 0)) (cj (pv (sn.length+1=(sn++[Ob.mk (2:Int) (Wd.maskV p.W (vlV p.W s a+vlV p.W s b))]).length)) (cj (show ∀(i:Nat),i<sn.length+1-> ∀(j:Nat),j<2->(bif Nat.blt i sn.length then ao obC sn i j else List.getD [aI 2,aI (Wd.maskV p.W (vlV p.W s a+vlV p.W s b))] ((i-sn.length+0)*2+j) AV.junk)=ao obC (sn++[Ob.mk (2:Int) (Wd.maskV p.W (vlV p.W s a+vlV p.W s b))]) i j from(fun i hi j hj=>de (fun h=>(bW h).symm) (fun h=>by obtain rfl:i=_:=bm (bk.mp hi) (bt.mp h);rw[bX,bA];match j,hj with |0,_=>rfl |1,_=>rfl))) (jp n done trivial))))))))))))))))))))))))))))))))))))))))))))
theorem vK(s:S8)(n:Int)(op:Int)(d:Int)(a:Vl)(b:Vl)(nm:ByteArray){Z:Prop}(z:Z):(RF s.pc (RF (5:Int) (RF op (RF d (RF a.reg (RF a.n (RF b.reg (RF b.n (RF nm Z))))))))):=⟨rfl,rfl,rfl,rfl,rfl,rfl,rfl,rfl,rfl,z⟩
theorem Ez(p:Pg)(c:Int)(s:S8)(sn:List Ob)(n done:Int)(op d tg:Int)(a b:Vl)(nm:ByteArray)(hn:done<n)(hn2:n<1000000)(hd0:0<=done)(hp0: -1<=s.pc)(hp1:s.pc<1000000)(hA:pC_ 84 [.agg (pgA p), aI s.pc] (.agg (inA (⟨5,op,d,a,b,nm,tg⟩:In))) [])(ha:okV a)(hb:okV b)(hz:(Wd.doV p.W op (vlV p.W s a) (vlV p.W s b))=0)(hl:sn.length<1000000):Vc (vC_ 88 0 (cV p c s sn n done 0) [.b true,.b true,.b true,.inl,.cl [.agg (pgA p), aI s.pc] (.agg (inA (⟨5,op,d,a,b,nm,tg⟩:In))) [],.inl,.fz,.cp [(mcP p c s .junk .junk .junk),.agg (inA (⟨5,op,d,a,b,nm,tg⟩:In))] (aI (Wd.doV p.W op (vlV p.W s a) (vlV p.W s b))),.b false] .nrm [(0,0),(1,1),(2,2),(3,3),(4,4)] (cV p c (s.go (s.pc+1)) (sn++[⟨3,s.pc+1⟩]) n (done+1) 0)):=aj (cj (dt (done<n)) (cj (dt (done<n)) (cj (dt (done<n)) (cT p (eW p s (cj hA (cT p (gj p c s (vK s n op d a b nm (cj (rf tg) (cj (F9 p c s (⟨5,op,d,a,b,nm,tg⟩:In) ha hb) (cj (show(Wd.doV p.W op (vlV p.W s a) (vlV p.W s b) !=(0:Int))=false from by rw[hz];rfl) (cj (i6 (s.pc+1)) (cj (ap sn.length 1 16) (cj (i6 (done+1)) (eF p (eG p (g7 c s (cj (rf (s.pc+1)) (cj (rf (0:Nat)) (cj (pv (sn.length+1=(sn++[Ob.mk (3:Int) (s.pc+1)]).length)) (mN s (cj (pv (sn.length+1=(sn++[Ob.mk (3:Int) (s.pc+1)]).length)) (cj (show ∀(i:Nat),i<sn.length+1-> ∀(j:Nat),j<2->(bif Nat.blt i sn.length then ao obC sn i j else List.getD [aI 3,aI (s.pc+1)] ((i-sn.length+0)*2+j) AV.junk)=ao obC (sn++[Ob.mk (3:Int) (s.pc+1)]) i j from(fun i hi j hj=>de (fun h=>(bW h).symm) (fun h=>by obtain rfl:i=_:=bm (bk.mp hi) (bt.mp h);rw[bX,bA];match j,hj with |0,_=>rfl |1,_=>rfl))) (jp n done trivial)))))))))))))))))))))))))
theorem Ey(p:Pg)(c:Int)(s:S8)(sn:List Ob)(n done:Int)(op d tg:Int)(a b:Vl)(nm:ByteArray)(hn:done<n)(hn2:n<1000000)(hd0:0<=done)(hp0: -1<=s.pc)(hp1:s.pc<1000000)(hA:pC_ 84 [.agg (pgA p), aI s.pc] (.agg (inA (⟨5,op,d,a,b,nm,tg⟩:In))) [])(ha:okV a)(hb:okV b)(hz: ¬(Wd.doV p.W op (vlV p.W s a) (vlV p.W s b))=0)(hl:sn.length<1000000):Vc (vC_ 88 0 (cV p c s sn n done 0) [.b true,.b true,.b true,.inl,.cl [.agg (pgA p), aI s.pc] (.agg (inA (⟨5,op,d,a,b,nm,tg⟩:In))) [],.inl,.fz,.cp [(mcP p c s .junk .junk .junk),.agg (inA (⟨5,op,d,a,b,nm,tg⟩:In))] (aI (Wd.doV p.W op (vlV p.W s a) (vlV p.W s b))),.b true] .nrm [(0,0),(1,1),(2,2),(3,3),(4,4)] (cV p c (s.go tg) (sn++[⟨3,tg⟩]) n (done+1) 0)):=aj (cj (dt (done<n)) (cj (dt (done<n)) (cj (dt (done<n)) (cT p (eW p s (cj hA (cT p (gj p c s (vK s n op d a b nm (cj (rf tg) (cj (F9 p c s (⟨5,op,d,a,b,nm,tg⟩:In) ha hb) (cj (cN.2 hz) (cj (ap sn.length 1 16) (cj (i6 (done+1)) (eF p (eG p (g7 c s (cj (rf tg) (cj (rf (0:Nat)) (cj (pv (sn.length+1=(sn++[Ob.mk (3:Int) tg]).length)) (mN s (cj (pv (sn.length+1=(sn++[Ob.mk (3:Int) tg]).length)) (cj (show ∀(i:Nat),i<sn.length+1-> ∀(j:Nat),j<2->(bif Nat.blt i sn.length then ao obC sn i j else List.getD [aI 3,aI tg] ((i-sn.length+0)*2+j) AV.junk)=ao obC (sn++[Ob.mk (3:Int) tg]) i j from(fun i hi j hj=>de (fun h=>(bW h).symm) (fun h=>by obtain rfl:i=_:=bm (bk.mp hi) (bt.mp h);rw[bX,bA];match j,hj with |0,_=>rfl |1,_=>rfl))) (jp n done trivial))))))))))))))))))))))))
theorem Ew(p:Pg)(c:Int)(s:S8)(sn:List Ob)(n done:Int)(op d tg:Int)(a b:Vl)(nm:ByteArray)(hn:done<n)(hn2:n<1000000)(hd0:0<=done)(hp0: -1<=s.pc)(hp1:s.pc<1000000)(hA:pC_ 84 [.agg (pgA p), aI s.pc] (.agg (inA (⟨6,op,d,a,b,nm,tg⟩:In))) []):Vc (vC_ 88 0 (cV p c s sn n done 0) [.b true,.b true,.b true,.inl,.cl [.agg (pgA p), aI s.pc] (.agg (inA (⟨6,op,d,a,b,nm,tg⟩:In))) []] .nrm [(0,0),(1,1),(2,2),(3,3),(4,4)] (cV p c (s.go tg) sn n (done+1) 0)):=aj (cj (dt (done<n)) (cj (dt (done<n)) (cj (dt (done<n)) (cT p (eW p s (cj hA (cj (i6 (done+1)) (eF p (eG p (g7 c s (cj (rf tg) (cj (rf (0:Nat)) (cj (rf sn.length) (cj (rf s.m.length) (cj (rr s.m.length 1 fun i j=>aI (s.m.getD i 0)) (cj (rf s.st.length) (cj (rr s.st.length 1 fun i j=>aI (s.st.getD i 0)) (cj (rf sn.length) (cj (rr sn.length 2 fun i j=>ao obC sn i j) (jp n done trivial))))))))))))))))))))
theorem Ex(p:Pg)(c:Int)(s:S8)(sn:List Ob)(n done:Int)(op d tg:Int)(a b:Vl)(nm:ByteArray)(hn:done<n)(hn2:n<1000000)(hd0:0<=done)(hp0: -1<=s.pc)(hp1:s.pc<1000000)(hA:pC_ 84 [.agg (pgA p), aI s.pc] (.agg (inA (⟨7,op,d,a,b,nm,tg⟩:In))) [])(ha:okV a)(hl:sn.length<1000000):Vc (vC_ 88 0 (cV p c s sn n done 0) [.b true,.b true,.b true,.inl,.cl [.agg (pgA p), aI s.pc] (.agg (inA (⟨7,op,d,a,b,nm,tg⟩:In))) [],xW p c s a] .nrm [(0,0),(1,1),(2,2),(3,3),(4,4)] (cV p c (s.go (if(p.is.length:Int)<(vlV p.W s a) then(p.is.length:Int) else(vlV p.W s a))) (sn++[⟨3,(if(p.is.length:Int)<(vlV p.W s a) then(p.is.length:Int) else(vlV p.W s a))⟩]) n (done+1) 0)):=aj (cj (dt (done<n)) (cj (dt (done<n)) (cj (dt (done<n)) (cT p (eW p s (cj hA (cT p (gj p c s (sd s n a (cj (lS p c s a ha) (cj (ap sn.length 1 16) (cj (i6 (done+1)) (eF p (eG p (g7 c s (cj (rf (if(↑p.is.length:Int)<vlV p.W s a then(↑p.is.length:Int) else vlV p.W s a)) (cj (rf (0:Nat)) (cj (pv (sn.length+1=(sn++[Ob.mk (3:Int) (if(↑p.is.length:Int)<vlV p.W s a then(↑p.is.length:Int) else vlV p.W s a)]).length)) (mN s (cj (pv (sn.length+1=(sn++[Ob.mk (3:Int) (if(↑p.is.length:Int)<vlV p.W s a then(↑p.is.length:Int) else vlV p.W s a)]).length)) (cj (show ∀(i:Nat),i<sn.length+1-> ∀(j:Nat),j<2->(bif Nat.blt i sn.length then ao obC sn i j else List.getD [aI 3,aI (if(↑p.is.length:Int)<vlV p.W s a then(↑p.is.length:Int) else vlV p.W s a)] ((i-sn.length+0)*2+j) AV.junk)=ao obC (sn++[Ob.mk (3:Int) (if(↑p.is.length:Int)<vlV p.W s a then(↑p.is.length:Int) else vlV p.W s a)]) i j from(fun i hi j hj=>de (fun h=>(bW h).symm) (fun h=>by obtain rfl:i=_:=bm (bk.mp hi) (bt.mp h);rw[bX,bA];match j,hj with |0,_=>rfl |1,_=>rfl))) (jp n done trivial))))))))))))))))))))))
theorem xd(p:Pg)(c:Int)(s:S8)(sn:List Ob)(n done:Int)(op d tg:Int)(a b:Vl)(nm:ByteArray)(hn:done<n)(hn2:n<1000000)(hd0:0<=done)(hp0: -1<=s.pc)(hp1:s.pc<1000000)(hA:pC_ 84 [.agg (pgA p), aI s.pc] (.agg (inA (⟨8,op,d,a,b,nm,tg⟩:In))) [])(hk:4<=s.st.length)(hk2:s.st.length<1000):Vc (vC_ 88 0 (cV p c s sn n done 0) [.b true,.b true,.b true,.inl,.cl [.agg (pgA p), aI s.pc] (.agg (inA (⟨8,op,d,a,b,nm,tg⟩:In))) [],.fz,.b true] .nrm [(0,0),(1,1),(2,2),(3,3),(4,4)] (cV p c s sn n (done+1) 2)):=aj (cj (dt (done<n)) (cj (dt (done<n)) (cj (dt (done<n)) (cT p (eW p s (cj hA (cj (dt ((↑s.st.length:Int)>=4)) (cj (i6 (done+1)) (eF p (eG p (g7 c s (kO s sn (mO n done trivial)))))))))))))
theorem sc(c:Int)(s:S8){Z:Prop}(z:Z):(RF c (RF s.r0 (RF s.r1 (RF s.r2 (RF s.r3 (RF (0:Nat) (RF s.m.length (RF (0:Nat) Z)))))))):=⟨rfl,rfl,rfl,rfl,rfl,rfl,rfl,rfl,z⟩
theorem xc(p:Pg)(c:Int)(s:S8)(sn:List Ob)(n done:Int)(op d tg:Int)(a b:Vl)(nm:ByteArray)(hn:done<n)(hn2:n<1000000)(hd0:0<=done)(hp0: -1<=s.pc)(hp1:s.pc<1000000)(hA:pC_ 84 [.agg (pgA p), aI s.pc] (.agg (inA (⟨8,op,d,a,b,nm,tg⟩:In))) [])(hk: ¬4<=s.st.length):Vc (vC_ 88 0 (cV p c s sn n done 0) [.b true,.b true,.b true,.inl,.cl [.agg (pgA p), aI s.pc] (.agg (inA (⟨8,op,d,a,b,nm,tg⟩:In))) [],.fz,.b false] .nrm [(0,0),(1,1),(2,2),(3,3),(4,4)] (cV p c {s with st:=s.st++[s.pc+1],pc:=tg} sn n (done+1) 0)):=aj (cj (dt (done<n)) (cj (dt (done<n)) (cj (dt (done<n)) (cT p (eW p s (cj hA (cj (df ((↑s.st.length:Int)>=4)) (cj (i6 (s.pc+1)) (cj (ap s.st.length 1 8) (cj (i6 (done+1)) (eF p (eG p (sc c s (cj (pv (s.st.length+1=(s.st++[s.pc+1]).length)) (cj (rf tg) (cj (rf (0:Nat)) (cj (rf sn.length) (cj (rf s.m.length) (cj (rr s.m.length 1 fun i j=>aI (s.m.getD i 0)) (cj (pv (s.st.length+1=(s.st++[s.pc+1]).length)) (cj (show ∀(i:Nat),i<s.st.length+1-> ∀(j:Nat),j<1->(bif Nat.blt i s.st.length then aI (s.st.getD i 0) else List.getD [aI (s.pc+1)] ((i-s.st.length+0)*1+j) AV.junk)=aI (List.getD (s.st++[s.pc+1]) i (0:Int)) from JU) (cj (rf sn.length) (cj (rr sn.length 2 fun i j=>ao obC sn i j) (cj (rf n) (cj (rf (done+1)) (cj (rf (0:Int)) trivial))))))))))))))))))))))))))
theorem Al(p:Pg)(c:Int)(s:S8)(sn:List Ob)(n done:Int)(op d tg:Int)(a b:Vl)(nm:ByteArray)(hn:done<n)(hn2:n<1000000)(hd0:0<=done)(hp0: -1<=s.pc)(hp1:s.pc<1000000)(hA:pC_ 84 [.agg (pgA p), aI s.pc] (.agg (inA (⟨9,op,d,a,b,nm,tg⟩:In))) [])(hk:s.st.length=0):Vc (vC_ 88 0 (cV p c s sn n done 0) [.b true,.b true,.b true,.inl,.cl [.agg (pgA p), aI s.pc] (.agg (inA (⟨9,op,d,a,b,nm,tg⟩:In))) [],.inl,.b true] .nrm [(0,0),(1,1),(2,2),(3,3),(4,4)] (cV p c s sn n (done+1) 2)):=aj (cj (dt (done<n)) (cj (dt (done<n)) (cj (dt (done<n)) (cT p (eW p s (cj hA (cj (i6 (s.st.length-1)) (cj (dt ((↑s.st.length:Int)-1<0)) (cj (i6 (done+1)) (eF p (eG p (g7 c s (kO s sn (mO n done trivial))))))))))))))
theorem w8(p:Pg)(c:Int)(s:S8)(sn:List Ob)(n done:Int)(op d tg:Int)(a b:Vl)(nm:ByteArray)(hn:done<n)(hn2:n<1000000)(hd0:0<=done)(hp0: -1<=s.pc)(hp1:s.pc<1000000)(hA:pC_ 84 [.agg (pgA p), aI s.pc] (.agg (inA (⟨10,op,d,a,b,nm,tg⟩:In))) []):Vc (vC_ 88 0 (cV p c s sn n done 0) [.b true,.b true,.b true,.inl,.cl [.agg (pgA p), aI s.pc] (.agg (inA (⟨10,op,d,a,b,nm,tg⟩:In))) []] .nrm [(0,0),(1,1),(2,2),(3,3),(4,4)] (cV p c (s.go (s.pc+1)) sn n (done+1) 0)):=aj (cj (dt (done<n)) (cj (dt (done<n)) (cj (dt (done<n)) (cT p (eW p s (cj hA (cj (i6 (s.pc+1)) (cj (i6 (done+1)) (eF p (eG p (g7 c s (Cr s sn (jp n done trivial)))))))))))))
theorem Am(p:Pg)(c:Int)(s:S8)(sn:List Ob)(n done:Int)(op d tg:Int)(a b:Vl)(nm:ByteArray)(hn:done<n)(hn2:n<1000000)(hd0:0<=done)(hp0: -1<=s.pc)(hp1:s.pc<1000000)(hA:pC_ 84 [.agg (pgA p), aI s.pc] (.agg (inA (⟨11,op,d,a,b,nm,tg⟩:In))) []):Vc (vC_ 88 0 (cV p c s sn n done 0) [.b true,.b true,.b true,.inl,.cl [.agg (pgA p), aI s.pc] (.agg (inA (⟨11,op,d,a,b,nm,tg⟩:In))) []] .nrm [(0,0),(1,1),(2,2),(3,3),(4,4)] (cV p c s sn n (done+1) 1)):=aj (cj (dt (done<n)) (cj (dt (done<n)) (cj (dt (done<n)) (cT p (eW p s (cj hA (cj (i6 (done+1)) (eF p (eG p (g7 c s (kO s sn (cj (rf n) (cj (rf (done+1)) (cj (rf (1:Int)) trivial))))))))))))))
theorem w9(p:Pg)(c:Int)(s:S8)(sn:List Ob)(n done:Int)(op d tg:Int)(a b:Vl)(nm:ByteArray)(hn:done<n)(hn2:n<1000000)(hd0:0<=done)(hp0: -1<=s.pc)(hp1:s.pc<1000000)(hA:pC_ 84 [.agg (pgA p), aI s.pc] (.agg (inA (⟨12,op,d,a,b,nm,tg⟩:In))) []):Vc (vC_ 88 0 (cV p c s sn n done 0) [.b true,.b true,.b true,.inl,.cl [.agg (pgA p), aI s.pc] (.agg (inA (⟨12,op,d,a,b,nm,tg⟩:In))) []] .nrm [(0,0),(1,1),(2,2),(3,3),(4,4)] (cV p c s sn n (done+1) 2)):=aj (cj (dt (done<n)) (cj (dt (done<n)) (cj (dt (done<n)) (cT p (eW p s (cj hA (cj (i6 (done+1)) (eF p (eG p (g7 c s (kO s sn (mO n done trivial))))))))))))
def Kd(p:Pg)(c:Int)(s:S8)(L:Nat)(pc:Int)(sn:List Ob)(n done e:Int):Sm:=⟨[(2,.int .i64 n),(6,.bptr 0 0),(10,.bptr 1 0),(11,.int .i64 done),(12,.int .i64 e)],
 [(0,bx 31 (stZ .nils)),(1,bx 144 (mcA p c (s.go pc) (.own 2 0 1 0 s.m.length) (.own 3 0 1 0 L) (.own 4 0 2 0 sn.length))),(2,fw s.m),(3,fw s.st),(4,obB sn)],5⟩
theorem rC{l:List Int}:((l.length:Int)-1).toNat=l.length-1:=by omega
theorem JD{l:List Int}{n:Nat}: ∀i,i<n-> ∀j,j<1->cQ l i j=cQ (l.take n) i j:=by
 intro i hi j hj
 unfold cQ
 simp[List.getD,aZ,hi]
theorem wZ(p:Pg)(c:Int)(s:S8)(sn:List Ob)(n done:Int)(op d tg:Int)(a b:Vl)(nm:ByteArray)(hn:done<n)(hn2:n<1000000)(hd0:0<=done)(hp0: -1<=s.pc)(hp1:s.pc<1000000)(hA:pC_ 84 [.agg (pgA p), aI s.pc] (.agg (inA (⟨9,op,d,a,b,nm,tg⟩:In))) [])(hk: ¬s.st.length=0)(hk2:s.st.length<1000)(hl:sn.length<1000000):Vc (vC_ 88 0 (cV p c s sn n done 0) [.b true,.b true,.b true,.inl,.cl [.agg (pgA p), aI s.pc] (.agg (inA (⟨9,op,d,a,b,nm,tg⟩:In))) [],.inl,.b false] .nrm [(0,0),(1,1),(2,2),(3,3),(4,4)] (Kd p c s (s.st.length-1) (s.st.getD (s.st.length-1) 0) (sn++[⟨3,(s.st.getD (s.st.length-1) 0)⟩]) n (done+1) 0)):=aj (cj (dt (done<n)) (cj (dt (done<n)) (cj (dt (done<n)) (cT p (eW p s (cj hA (cj (i6 (s.st.length-1)) (cj (df ((↑s.st.length:Int)-1<0)) (cj (bi (s.st.length-1) s.st.length) (cj (pv (Int.toNat ((↑s.st.length:Int)-1)+0<s.st.length)) (cj (pv ((0:Int)<=s.st.length-1∧(↑s.st.length:Int)-1<=s.st.length)) (cj (ap sn.length 1 16) (cj (i6 (done+1)) (eF p (eG p (sc c s (cj (pv (Int.toNat ((↑s.st.length:Int)-1)=s.st.length-1)) (cj (show s.st.getD (Int.toNat ((↑s.st.length:Int)-1)+0) (0:Int)=s.st.getD (s.st.length-1) (0:Int) from by rw[rC];rfl) (cj (rf (0:Nat)) (cj (pv (sn.length+1=(sn++[Ob.mk (3:Int) (s.st.getD (s.st.length-1) (0:Int))]).length)) (mN s (cj (pv (sn.length+1=(sn++[Ob.mk (3:Int) (s.st.getD (s.st.length-1) (0:Int))]).length)) (cj (show ∀(i:Nat),i<sn.length+1-> ∀(j:Nat),j<2->(bif Nat.blt i sn.length then ao obC sn i j else List.getD [aI 3,aI (s.st.getD (Int.toNat (s.st.length-1)+0) 0)] ((i-sn.length+0)*2+j) AV.junk)=ao obC (sn++[Ob.mk (3:Int) (s.st.getD (s.st.length-1) (0:Int))]) i j from(fun i hi j hj=>de (fun h=>(bW h).symm) (fun h=>by obtain rfl:i=_:=bm (bk.mp hi) (bt.mp h);rw[bX,bA];match j,hj with |0,_=>rfl |1,_=>(show AV.int .i64 (s.st.getD (((s.st.length:Int)-1).toNat+0) 0)=_;rw[rC];rfl)))) (jp n done trivial))))))))))))))))))))))))
theorem wY(p:Pg)(c:Int)(s:S8)(sn:List Ob)(n done:Int)(hk: ¬s.st.length=0):Vc (tE 3 (s.st.length-1) (Kd p c s (s.st.length-1) (s.st.getD (s.st.length-1) 0) (sn++[⟨3,(s.st.getD (s.st.length-1) 0)⟩]) n (done+1) 0) [(0,0),(1,1),(2,2),(3,3),(4,4)] (cV p c {s with st:=s.st.take (s.st.length-1),pc:=(s.st.getD (s.st.length-1) 0)} (sn++[⟨3,(s.st.getD (s.st.length-1) 0)⟩]) n (done+1) 0)):=aj (cj (pv ((0:Nat)+(s.st.length-1)<=s.st.length-1)) (cj (pv (s.st.length-1<=s.st.length)) (eF p (eG p (sc c s (cj (pv (s.st.length-1=(List.take (s.st.length-1) s.st).length)) (cj (rf (s.st.getD (s.st.length-1) (0:Int))) (cj (rf (0:Nat)) (cj (rf ((sn++[Ob.mk (3:Int) (s.st.getD (s.st.length-1) (0:Int))]).length)) (cj (rf s.m.length) (cj (rr s.m.length 1 fun i j=>aI (s.m.getD i 0)) (cj (pv (s.st.length-1=(List.take (s.st.length-1) s.st).length)) (cj (show ∀(i:Nat),i<s.st.length-1-> ∀(j:Nat),j<1->aI (s.st.getD i 0)=aI (List.getD (List.take (s.st.length-1) s.st) i 0) from JD) (cj (rf ((sn++[Ob.mk (3:Int) (s.st.getD (s.st.length-1) (0:Int))]).length)) (cj (rr ((sn++[Ob.mk (3:Int) (s.st.getD (s.st.length-1) (0:Int))]).length) 2 fun i j=>ao obC (sn++[Ob.mk (3:Int) (s.st.getD (s.st.length-1) (0:Int))]) i j) (jp n done trivial))))))))))))))))
structure R8 where
 s:S8
 o:List Ob
 k:Nat
 e:Int
def jl(p:Pg)(c:Int)(s:S8):Nat->R8
 |0=>⟨s,[],0,0⟩
 |n+1=>if(jl p c s n).e=0 then⟨(aQ p.W c p.is.length (atI p (jl p c s n).s.pc) (jl p c s n).s).1,(jl p c s n).o++(aQ p.W c p.is.length (atI p (jl p c s n).s.pc) (jl p c s n).s).2.1,(jl p c s n).k+1,(aQ p.W c p.is.length (atI p (jl p c s n).s.pc) (jl p c s n).s).2.2⟩ else jl p c s n
structure OkZ (p:Pg) (c:Int) (s:S8):Prop where
 reg:okR s
 c:(atI p s.pc).kind=2∨(atI p s.pc).kind=3->c=s.m.length
 pc: -1<=s.pc∧s.pc<=p.is.length
 st:s.st.length<=100
theorem OkS.go{c len:Int}{s:S8}(h:OkS c len s){pc:Int}(hp: -1<=pc∧pc<=len):OkS c len (s.go pc):=⟨h.reg,h.mem,h.c,hp,h.st,h.stk⟩
theorem OkS.set{c len:Int}{s:S8}(h:OkS c len s)(n:Int){v:Int}(hv:0<=v∧v<65536):OkS c len (s.set n v):=⟨xj h.reg n hv,h.mem,h.c,h.pc,h.st,h.stk⟩
theorem Fh(p:Pg)(c:Int)(s:S8)(sn:List Ob)(n done:Int)(hP:OkP p)(hs:OkZ p c s)(hl:sn.length<1000000)(hn:done<n)(hn2:n<1000000)(hd0:0<=done):Ok Tryz.prog (bY Tryz.prog 88) (lpC Tryz.prog 88 0) (cV p c s sn n done 0).st .nrm (cV p c (aQ p.W c p.is.length (atI p s.pc) s).1 (sn++(aQ p.W c p.is.length (atI p s.pc) s).2.1) n (done+1) (aQ p.W c p.is.length (atI p s.pc) s).2.2).st:=by
 obtain⟨hi,hpc⟩:=iW hP s.pc
 have hA:=atC p s.pc
 have hcc:=hs.c
 generalize atI p s.pc=i at hi hpc hA hcc
 obtain⟨k,op,d,a,b,nm,tg⟩:=i
 obtain⟨hk,ha,hb,hd,ht⟩:=hi
 simp only at hk ha hb hd ht hpc
 have hp:=hs.pc
 have hlen:=hP.len
 have hp1:s.pc<1000000:=by omega
 have hst:=hs.st
 rcases (by omega:k=1∨k=2∨k=3∨k=4∨k=5∨k=6∨k=7∨k=8∨k=9∨k=10∨k=11∨k=12) with rfl |rfl |rfl |rfl |rfl |rfl |rfl |rfl |rfl |rfl |rfl |rfl
 ·have e:aQ p.W c p.is.length ⟨1,op,d,a,b,nm,tg⟩ s=((s.set d (Wd.doV p.W op (vlV p.W s a) (vlV p.W s b))).go (s.pc+1),[],0):=by simp[aQ]
  rw[e,bT]
  exact Ok.vc (EA p c s sn n done op d tg a b nm hn hn2 hd0 hp.1 hp1 hA hd.1 hd.2 ha hb)
 ·by_cases hx:Wd.maskV p.W (vlV p.W s a+vlV p.W s b)<c
  ·have e:aQ p.W c p.is.length ⟨2,op,d,a,b,nm,tg⟩ s=((s.set d (s.m.getD (Wd.maskV p.W (vlV p.W s a+vlV p.W s b)).toNat 0)).go (s.pc+1),[⟨1,Wd.maskV p.W (vlV p.W s a+vlV p.W s b)⟩],0):=by simp[aQ,hx]
   rw[e]
   exact Ok.vc (w5 p c s sn n done op d tg a b nm hn hn2 hd0 hp.1 hp1 hA ha hb (hcc (.inl rfl)) hs.reg hd.1 hd.2 hx hl)
  ·have e:aQ p.W c p.is.length ⟨2,op,d,a,b,nm,tg⟩ s=(s,[],2):=by simp[aQ,hx]
   rw[e,bT]
   exact Ok.vc (w7 p c s sn n done op d tg a b nm hn hn2 hd0 hp.1 hp1 hA ha hb (hcc (.inl rfl)) hs.reg hx)
 ·by_cases hx:Wd.maskV p.W (vlV p.W s a+vlV p.W s b)<c
  ·have e:aQ p.W c p.is.length ⟨3,op,d,a,b,nm,tg⟩ s=({s with m:=s.m.set (Wd.maskV p.W (vlV p.W s a+vlV p.W s b)).toNat (s.reg d),pc:=s.pc+1},[⟨2,Wd.maskV p.W (vlV p.W s a+vlV p.W s b)⟩],0):=by simp[aQ,hx]
   rw[e]
   exact Ok.vc (uM p c s sn n done op d tg a b nm hn hn2 hd0 hp.1 hp1 hA ha hb (hcc (.inr rfl)) hs.reg hd.1 hd.2 hx hl)
  ·have e:aQ p.W c p.is.length ⟨3,op,d,a,b,nm,tg⟩ s=(s,[],2):=by simp[aQ,hx]
   rw[e,bT]
   exact Ok.vc (uN p c s sn n done op d tg a b nm hn hn2 hd0 hp.1 hp1 hA ha hb (hcc (.inr rfl)) hs.reg hx)
 ·by_cases hz:vlV p.W s a=0
  ·have e:aQ p.W c p.is.length ⟨4,op,d,a,b,nm,tg⟩ s=(s.go (s.pc+1),[],0):=by simp[aQ,hz]
   rw[e,bT]
   exact Ok.vc (xb p c s sn n done op d tg a b nm hn hn2 hd0 hp.1 hp1 hA ha hz)
  ·have e:aQ p.W c p.is.length ⟨4,op,d,a,b,nm,tg⟩ s=((s.set d (vlV p.W s b)).go (s.pc+1),[],0):=by simp[aQ,hz]
   rw[e,bT]
   exact Ok.vc (xa p c s sn n done op d tg a b nm hn hn2 hd0 hp.1 hp1 hA ha hb hz hd.1 hd.2)
 ·by_cases hz:Wd.doV p.W op (vlV p.W s a) (vlV p.W s b)=0
  ·have e:aQ p.W c p.is.length ⟨5,op,d,a,b,nm,tg⟩ s=(s.go (s.pc+1),[⟨3,s.pc+1⟩],0):=by simp[aQ,hz]
   rw[e]
   exact Ok.vc (Ez p c s sn n done op d tg a b nm hn hn2 hd0 hp.1 hp1 hA ha hb hz hl)
  ·have e:aQ p.W c p.is.length ⟨5,op,d,a,b,nm,tg⟩ s=(s.go tg,[⟨3,tg⟩],0):=by simp[aQ,hz]
   rw[e]
   exact Ok.vc (Ey p c s sn n done op d tg a b nm hn hn2 hd0 hp.1 hp1 hA ha hb hz hl)
 ·have e:aQ p.W c p.is.length ⟨6,op,d,a,b,nm,tg⟩ s=(s.go tg,[],0):=by simp[aQ]
  rw[e,bT]
  exact Ok.vc (Ew p c s sn n done op d tg a b nm hn hn2 hd0 hp.1 hp1 hA)
 ·have e:aQ p.W c p.is.length ⟨7,op,d,a,b,nm,tg⟩ s=(s.go (if(p.is.length:Int)<vlV p.W s a then(p.is.length:Int) else vlV p.W s a),[⟨3,if(p.is.length:Int)<vlV p.W s a then(p.is.length:Int) else vlV p.W s a⟩],0):=by simp[aQ]
  rw[e]
  exact Ok.vc (Ex p c s sn n done op d tg a b nm hn hn2 hd0 hp.1 hp1 hA ha hl)
 ·by_cases hk:4<=s.st.length
  ·have e:aQ p.W c p.is.length ⟨8,op,d,a,b,nm,tg⟩ s=(s,[],2):=by simp[aQ,hk]
   rw[e,bT]
   exact Ok.vc (xd p c s sn n done op d tg a b nm hn hn2 hd0 hp.1 hp1 hA hk (by omega))
  ·have e:aQ p.W c p.is.length ⟨8,op,d,a,b,nm,tg⟩ s=({s with st:=s.st++[s.pc+1],pc:=tg},[],0):=by simp[aQ,hk]
   rw[e,bT]
   exact Ok.vc (xc p c s sn n done op d tg a b nm hn hn2 hd0 hp.1 hp1 hA hk)
 ·by_cases hk:s.st.length=0
  ·have e:aQ p.W c p.is.length ⟨9,op,d,a,b,nm,tg⟩ s=(s,[],2):=by simp[aQ,hk]
   rw[e,bT]
   exact Ok.vc (Al p c s sn n done op d tg a b nm hn hn2 hd0 hp.1 hp1 hA hk)
  ·have e:aQ p.W c p.is.length ⟨9,op,d,a,b,nm,tg⟩ s=({s with st:=s.st.take (s.st.length-1),pc:=s.st.getD (s.st.length-1) 0},[⟨3,s.st.getD (s.st.length-1) 0⟩],0):=by simp[aQ,hk]
   rw[e]
   exact Ok.shr (Ok.vc (wZ p c s sn n done op d tg a b nm hn hn2 hd0 hp.1 hp1 hA hk (by omega) hl)) (wY p c s sn n done hk)
 ·have e:aQ p.W c p.is.length ⟨10,op,d,a,b,nm,tg⟩ s=(s.go (s.pc+1),[],0):=by simp[aQ]
  rw[e,bT]
  exact Ok.vc (w8 p c s sn n done op d tg a b nm hn hn2 hd0 hp.1 hp1 hA)
 ·have e:aQ p.W c p.is.length ⟨11,op,d,a,b,nm,tg⟩ s=(s,[],1):=by simp[aQ]
  rw[e,bT]
  exact Ok.vc (Am p c s sn n done op d tg a b nm hn hn2 hd0 hp.1 hp1 hA)
 ·have e:aQ p.W c p.is.length ⟨12,op,d,a,b,nm,tg⟩ s=(s,[],2):=by simp[aQ]
  rw[e,bT]
  exact Ok.vc (w9 p c s sn n done op d tg a b nm hn hn2 hd0 hp.1 hp1 hA)
theorem HA(s:S8)(sn:List Ob){Z:Prop}(z:Z):(RF s.pc (RF (0:Nat) (RF sn.length (RF s.m.length (RR s.m.length 1 (fun i j=>aI (s.m.getD i 0)) (RF s.st.length (RR s.st.length 1 (fun i j=>aI (s.st.getD i 0)) (RF sn.length (RR sn.length 2 (fun i j=>ao obC sn i j) Z))))))))):=⟨rfl,rfl,rfl,rfl,fun _ _ _ _=>rfl,rfl,fun _ _ _ _=>rfl,rfl,fun _ _ _ _=>rfl,z⟩
theorem Hz(c:Int)(s:S8){Z:Prop}(z:Z):(RF c (RF s.r0 (RF s.r1 (RF s.r2 (RF s.r3 (RF (0:Nat) (RF s.m.length (RF (0:Nat) (RF s.st.length Z))))))))):=⟨rfl,rfl,rfl,rfl,rfl,rfl,rfl,rfl,rfl,z⟩
theorem Cq(p:Pg){Z:Prop}(z:Z):(RF p.r1 (RF p.r2 (RF p.r3 (RF p.ms.length (RR p.ms.length 3 (fun i j=>ao mmC p.ms i j) (RF p.ls.length (RR p.ls.length 2 (fun i j=>ao lbC p.ls i j) (RF p.is.length (RR p.is.length 9 (fun i j=>ao inC p.is i j) Z))))))))):=⟨rfl,rfl,rfl,rfl,fun _ _ _ _=>rfl,rfl,fun _ _ _ _=>rfl,rfl,fun _ _ _ _=>rfl,z⟩
theorem Cp(p:Pg){Z:Prop}(z:Z):(RF (0:Int) (RF (0:Int) (RF (0:Int) (RF (0:Int) (RF (0:Int) (RF p.W (RF p.win (RF p.fuel (RF p.r0 Z))))))))):=⟨rfl,rfl,rfl,rfl,rfl,rfl,rfl,rfl,rfl,z⟩
theorem AO(p:Pg)(c:Int)(s:S8)(sn:List Ob)(n done:Int)(hn: ¬done<n)(e:Int):Vc (vC_ 88 0 (cV p c s sn n done e) [.b false,.b false,.b false] (.ext 0) [(0,0),(1,1),(2,2),(3,3),(4,4)] (cV p c s sn n done e)):=aj (cj (df (done<n)) (cj (df (done<n)) (cj (df (done<n)) (Cp p (Cq p (Hz c s (HA s sn (cj (rf n) (cj (rf done) (cj (rf e) trivial))))))))))
theorem Hy(p:Pg)(s:S8){Z:Prop}(z:Z):(RF (↑(aP p.ms):Int) (RF s.r0 (RF s.r1 (RF s.r2 (RF s.r3 (RF (0:Nat) (RF s.m.length (RF (0:Nat) (RF s.st.length Z))))))))):=⟨rfl,rfl,rfl,rfl,rfl,rfl,rfl,rfl,rfl,z⟩
theorem Hx(p:Pg){Z:Prop}(z:Z):(RF p.W (RF p.r0 (RF p.r1 (RF p.r2 (RF p.r3 (RF p.ms.length (RR p.ms.length 3 (fun i j=>ao mmC p.ms i j) Z))))))):=⟨rfl,rfl,rfl,rfl,rfl,rfl,fun _ _ _ _=>rfl,z⟩
abbrev KX(p:Pg):Orc:= .cl [.agg (bn p.W p.r0 p.r1 p.r2 p.r3 (bU p.ms))] (aI (aP p.ms)) []
abbrev KY(s:S8):Orc:= .cl [.row 1 s.st.length (cQ s.st)] (.own 0 0 1 0 s.st.length) [fw s.st]
theorem uU(p:Pg)(s:S8)(hP:OkP p)(hs:OkZ p ((aP p.ms:Nat):Int) s):oL_ 88 0 (cV p ((aP p.ms:Nat):Int) s [] 1 0 0).st (.ext 0) (cV p ((aP p.ms:Nat):Int) (aQ p.W ((aP p.ms:Nat):Int) p.is.length (atI p s.pc) s).1 (aQ p.W ((aP p.ms:Nat):Int) p.is.length (atI p s.pc) s).2.1 1 1 (aQ p.W ((aP p.ms:Nat):Int) p.is.length (atI p s.pc) s).2.2).st:=
 Ok.loop (P:=Tryz.prog) (nt:=bY Tryz.prog 88) (c:=lpC Tryz.prog 88 0) (F:=fun k=>match k with |0=>cV p ((aP p.ms:Nat):Int) s [] 1 0 0 |_=>cV p ((aP p.ms:Nat):Int) (aQ p.W ((aP p.ms:Nat):Int) p.is.length (atI p s.pc) s).1 (aQ p.W ((aP p.ms:Nat):Int) p.is.length (atI p s.pc) s).2.1 1 1 (aQ p.W ((aP p.ms:Nat):Int) p.is.length (atI p s.pc) s).2.2) (m:=1) (x:= .ext 0) (J:=cV p ((aP p.ms:Nat):Int) (aQ p.W ((aP p.ms:Nat):Int) p.is.length (atI p s.pc) s).1 (aQ p.W ((aP p.ms:Nat):Int) p.is.length (atI p s.pc) s).2.1 1 1 (aQ p.W ((aP p.ms:Nat):Int) p.is.length (atI p s.pc) s).2.2) (fun k hk=>by
  obtain rfl:k=0:=by omega
  exact Fh p ((aP p.ms:Nat):Int) s [] 1 0 hP hs (by show(0:Nat)<1000000;decide) (by omega) (by omega) (by omega)) (Ok.vc (AO p ((aP p.ms:Nat):Int) _ _ 1 1 (by omega) _)) (by simp)
theorem Co(p:Pg)(s:S8){Z:Prop}(z:Z):(RF (((Prod.fst (aQ p.W (↑(aP p.ms):Int) (↑p.is.length:Int) (atI p s.pc) s)).m).length) (RR (((Prod.fst (aQ p.W (↑(aP p.ms):Int) (↑p.is.length:Int) (atI p s.pc) s)).m).length) 1 (fun i j=>aI (List.getD ((Prod.fst (aQ p.W (↑(aP p.ms):Int) p.is.length (atI p s.pc) s)).m) i 0)) (RF (((Prod.fst (aQ p.W (↑(aP p.ms):Int) (↑p.is.length:Int) (atI p s.pc) s)).st).length) (RR (((Prod.fst (aQ p.W (↑(aP p.ms):Int) (↑p.is.length:Int) (atI p s.pc) s)).st).length) 1 (fun i j=>aI (List.getD ((Prod.fst (aQ p.W (↑(aP p.ms):Int) p.is.length (atI p s.pc) s)).st) i 0)) (RF ((Prod.fst (Prod.snd (aQ p.W (↑(aP p.ms):Int) (↑p.is.length:Int) (atI p s.pc) s))).length) (RR ((Prod.fst (Prod.snd (aQ p.W (↑(aP p.ms):Int) (↑p.is.length:Int) (atI p s.pc) s))).length) 2 (fun i j=>ao obC (Prod.fst (Prod.snd (aQ p.W (↑(aP p.ms):Int) (↑p.is.length:Int) (atI p s.pc) s))) i j) (RF ((Prod.fst (aQ p.W (↑(aP p.ms):Int) (↑p.is.length:Int) (atI p s.pc) s)).r0) (RF ((Prod.fst (aQ p.W (↑(aP p.ms):Int) (↑p.is.length:Int) (atI p s.pc) s)).r1) (RF ((Prod.fst (aQ p.W (↑(aP p.ms):Int) (↑p.is.length:Int) (atI p s.pc) s)).r2) Z))))))))):=⟨rfl,fun _ _ _ _=>rfl,rfl,fun _ _ _ _=>rfl,rfl,fun _ _ _ _=>rfl,rfl,rfl,rfl,z⟩
theorem AG(p:Pg)(s:S8)(hP:OkP p)(hs:OkZ p ((aP p.ms:Nat):Int) s)(hm:s.m.length<=1000):Vc (vF_ 88 [.agg (pgA p),.agg (s8A s (.row 1 s.m.length (cQ s.m)) (.row 1 s.st.length (cQ s.st))), aI 1] [.fz,.cl [.row 1 s.m.length (cQ s.m)] (.own 0 0 1 0 s.m.length) [fw s.m],KY s,KX p,.lp [(0,2),(1,5),(2,3),(3,4)] (cV p ((aP p.ms:Nat):Int) s [] 1 0 0) (.ext 0) (cV p ((aP p.ms:Nat):Int) (aQ p.W ((aP p.ms:Nat):Int) p.is.length (atI p s.pc) s).1 (aQ p.W ((aP p.ms:Nat):Int) p.is.length (atI p s.pc) s).2.1 1 1 (aQ p.W ((aP p.ms:Nat):Int) p.is.length (atI p s.pc) s).2.2),.ll [1]] [(0,2),(1,3),(2,4)] (.tup [.agg (s8A (aQ p.W ((aP p.ms:Nat):Int) p.is.length (atI p s.pc) s).1 (.own 0 0 1 0 (aQ p.W ((aP p.ms:Nat):Int) p.is.length (atI p s.pc) s).1.m.length) (.own 1 0 1 0 (aQ p.W ((aP p.ms:Nat):Int) p.is.length (atI p s.pc) s).1.st.length)),.own 2 0 2 0 (aQ p.W ((aP p.ms:Nat):Int) p.is.length (atI p s.pc) s).2.1.length, aI 1, aI (aQ p.W ((aP p.ms:Nat):Int) p.is.length (atI p s.pc) s).2.2]) [fw (aQ p.W ((aP p.ms:Nat):Int) p.is.length (atI p s.pc) s).1.m,fw (aQ p.W ((aP p.ms:Nat):Int) p.is.length (atI p s.pc) s).1.st,obB (aQ p.W ((aP p.ms:Nat):Int) p.is.length (atI p s.pc) s).2.1]):=aj (cj (rf s.m.length) (cj (rr s.m.length 1 fun i j=>aI (s.m.getD i 0)) (cj (jR (.row s.m) (by omega)) (cj (rf s.st.length) (cj (rr s.st.length 1 fun i j=>aI (s.st.getD i 0)) (cj (jR (.row s.st) (by have:=hs.st;omega)) (Hx p (cj (jg p.W p.r0 p.r1 p.r2 p.r3 p.ms (by have:=hP.ms;omega) hP.sum) (Cp p (Cq p (Hy p s (cj (rf s.pc) (cj (rf (0:Nat)) (cj (rf (0:Nat)) (cj (rf s.m.length) (cj (rr s.m.length 1 fun i j=>aI (s.m.getD i 0)) (cj (rf s.st.length) (cj (rr s.st.length 1 fun i j=>aI (s.st.getD i 0)) (cj (rf (0:Nat)) (cj (rf (1:Int)) (cj (rf (0:Int)) (cj (rf (0:Int)) (cj (uU p s hP hs) (Co p s (cj (rf ((Prod.fst (aQ p.W (↑(aP p.ms):Int) (↑p.is.length:Int) (atI p s.pc) s)).r3)) (cj (rf (0:Nat)) (cj (rf (((Prod.fst (aQ p.W (↑(aP p.ms):Int) (↑p.is.length:Int) (atI p s.pc) s)).m).length)) (cj (rf (0:Nat)) (cj (rf (((Prod.fst (aQ p.W (↑(aP p.ms):Int) (↑p.is.length:Int) (atI p s.pc) s)).st).length)) (cj (rf ((Prod.fst (aQ p.W (↑(aP p.ms):Int) (↑p.is.length:Int) (atI p s.pc) s)).pc)) (cj (rf (0:Nat)) (cj (rf ((Prod.fst (Prod.snd (aQ p.W (↑(aP p.ms):Int) (↑p.is.length:Int) (atI p s.pc) s))).length)) (cj (rf (1:Int)) (cj (rf (Prod.snd (Prod.snd (aQ p.W (↑(aP p.ms):Int) (↑p.is.length:Int) (atI p s.pc) s)))) trivial))))))))))))))))))))))))))))))))))
theorem Ev(p:Pg)(s:S8)(hP:OkP p)(hs:OkZ p ((aP p.ms:Nat):Int) s)(hm:s.m.length<=1000):Vc (vF_ 60 [.agg (pgA p),.agg (s8A s (.row 1 s.m.length (cQ s.m)) (.row 1 s.st.length (cQ s.st)))] [.cl [.agg (pgA p),.agg (s8A s (.row 1 s.m.length (cQ s.m)) (.row 1 s.st.length (cQ s.st))), aI 1] (.tup [.agg (s8A (aQ p.W ((aP p.ms:Nat):Int) p.is.length (atI p s.pc) s).1 (.own 0 0 1 0 (aQ p.W ((aP p.ms:Nat):Int) p.is.length (atI p s.pc) s).1.m.length) (.own 1 0 1 0 (aQ p.W ((aP p.ms:Nat):Int) p.is.length (atI p s.pc) s).1.st.length)),.own 2 0 2 0 (aQ p.W ((aP p.ms:Nat):Int) p.is.length (atI p s.pc) s).2.1.length, aI 1, aI (aQ p.W ((aP p.ms:Nat):Int) p.is.length (atI p s.pc) s).2.2]) [fw (aQ p.W ((aP p.ms:Nat):Int) p.is.length (atI p s.pc) s).1.m,fw (aQ p.W ((aP p.ms:Nat):Int) p.is.length (atI p s.pc) s).1.st,obB (aQ p.W ((aP p.ms:Nat):Int) p.is.length (atI p s.pc) s).2.1]] [(0,3),(1,4),(2,5)] (.tup [.agg (s8A (aQ p.W ((aP p.ms:Nat):Int) p.is.length (atI p s.pc) s).1 (.own 0 0 1 0 (aQ p.W ((aP p.ms:Nat):Int) p.is.length (atI p s.pc) s).1.m.length) (.own 1 0 1 0 (aQ p.W ((aP p.ms:Nat):Int) p.is.length (atI p s.pc) s).1.st.length)),.own 2 0 2 0 (aQ p.W ((aP p.ms:Nat):Int) p.is.length (atI p s.pc) s).2.1.length, aI (aQ p.W ((aP p.ms:Nat):Int) p.is.length (atI p s.pc) s).2.2]) [fw (aQ p.W ((aP p.ms:Nat):Int) p.is.length (atI p s.pc) s).1.m,fw (aQ p.W ((aP p.ms:Nat):Int) p.is.length (atI p s.pc) s).1.st,obB (aQ p.W ((aP p.ms:Nat):Int) p.is.length (atI p s.pc) s).2.1]):=aj (cj (rf p.W) (cj (rf p.win) (cj (rf p.fuel) (cj (rf p.r0) (cj (rf p.r1) (cj (rf p.r2) (cj (rf p.r3) (cj (rf p.ms.length) (cj (rr p.ms.length 3 fun i j=>ao mmC p.ms i j) (cj (rf p.ls.length) (cj (rr p.ls.length 2 fun i j=>ao lbC p.ls i j) (cj (rf p.is.length) (cj (rr p.is.length 9 fun i j=>ao inC p.is i j) (cj (rf s.r0) (cj (rf s.r1) (cj (rf s.r2) (cj (rf s.r3) (cj (rf s.m.length) (cj (rr s.m.length 1 fun i j=>aI (s.m.getD i 0)) (cj (rf s.st.length) (cj (rr s.st.length 1 fun i j=>aI (s.st.getD i 0)) (cj (rf s.pc) (cj (rf (1:Int)) (cj (PureC.vc (AG p s hP hs hm)) (Co p s (cj (rf ((Prod.fst (aQ p.W (↑(aP p.ms):Int) (↑p.is.length:Int) (atI p s.pc) s)).r3)) (cj (rf (0:Nat)) (cj (rf (((Prod.fst (aQ p.W (↑(aP p.ms):Int) (↑p.is.length:Int) (atI p s.pc) s)).m).length)) (cj (rf (0:Nat)) (cj (rf (((Prod.fst (aQ p.W (↑(aP p.ms):Int) (↑p.is.length:Int) (atI p s.pc) s)).st).length)) (cj (rf ((Prod.fst (aQ p.W (↑(aP p.ms):Int) (↑p.is.length:Int) (atI p s.pc) s)).pc)) (cj (rf (0:Nat)) (cj (rf ((Prod.fst (Prod.snd (aQ p.W (↑(aP p.ms):Int) (↑p.is.length:Int) (atI p s.pc) s))).length)) (cj (rf (Prod.snd (Prod.snd (aQ p.W (↑(aP p.ms):Int) (↑p.is.length:Int) (atI p s.pc) s)))) trivial))))))))))))))))))))))))))))))))))
theorem wX(p:Pg)(s:S8)(hP:OkP p)(hs:OkZ p ((aP p.ms:Nat):Int) s)(hm:s.m.length<=1000):pC_ 60 [.agg (pgA p),.agg (s8R s)] (.tup [.agg (s8R (aQ p.W ((aP p.ms:Nat):Int) p.is.length (atI p s.pc) s).1),obR (aQ p.W ((aP p.ms:Nat):Int) p.is.length (atI p s.pc) s).2.1,.int .i64 (aQ p.W ((aP p.ms:Nat):Int) p.is.length (atI p s.pc) s).2.2]) []:=(PureC.vc (Ev p s hP hs hm)).frozenT
theorem Jg(s:S8):Vc (vF_ 62 [.agg (rgA s), aI 0] [.fv] [] (aI s.r0) []):=aj (cj (rf s.r0) trivial)
theorem Jf(s:S8):Vc (vF_ 62 [.agg (rgA s), aI 1] [.fv] [] (aI s.r1) []):=aj (cj (rf s.r1) trivial)
theorem Je(s:S8):Vc (vF_ 62 [.agg (rgA s), aI 2] [.fv] [] (aI s.r2) []):=aj (cj (rf s.r2) trivial)
theorem Jd(s:S8):Vc (vF_ 62 [.agg (rgA s), aI 3] [.fv] [] (aI s.r3) []):=aj (cj (rf s.r3) trivial)
theorem z8(s:S8)(d:Int)(h:0<=d∧d<4):pC_ 62 [.agg (rgA s),.int .i64 d] (.int .i64 (s.reg d)) []:=by
 obtain rfl |rfl |rfl |rfl:=jK h.1 h.2
 ·exact PureC.vc (Jg s)
 ·exact PureC.vc (Jf s)
 ·exact PureC.vc (Je s)
 ·exact PureC.vc (Jd s)
theorem zP(p:Pg)(c:Cf){Z:Prop}(z:Z):(RF p.ls.length (RR p.ls.length 2 (fun i j=>ao lbC p.ls i j) (RF p.is.length (RR p.is.length 9 (fun i j=>ao inC p.is i j) (RF c.s.r0 (RF c.s.r1 (RF c.s.r2 (RF c.s.r3 (RF c.b.length Z))))))))):=⟨rfl,fun _ _ _ _=>rfl,rfl,fun _ _ _ _=>rfl,rfl,rfl,rfl,rfl,rfl,z⟩
theorem mP(p:Pg){Z:Prop}(z:Z):(RF p.W (RF p.win (RF p.fuel (RF p.r0 (RF p.r1 (RF p.r2 (RF p.r3 (RF p.ms.length (RR p.ms.length 3 (fun i j=>ao mmC p.ms i j) Z))))))))):=⟨rfl,rfl,rfl,rfl,rfl,rfl,rfl,rfl,fun _ _ _ _=>rfl,z⟩
theorem Eg(p:Pg)(c:Cf)(k:Nat)(r00 r10 r20 r30:Int)(t00 t10 t20 t30:Bool)(h0:pC_ 89 [.agg (pgA p),.agg (rgA c.s),enR c.b, aI k, aI 0] (.tup [aI r00,.bool t00]) [])(h1:pC_ 89 [.agg (pgA p),.agg (rgA c.s),enR c.b, aI k, aI 1] (.tup [aI r10,.bool t10]) [])(h2:pC_ 89 [.agg (pgA p),.agg (rgA c.s),enR c.b, aI k, aI 2] (.tup [aI r20,.bool t20]) [])(h3:pC_ 89 [.agg (pgA p),.agg (rgA c.s),enR c.b, aI k, aI 3] (.tup [aI r30,.bool t30]) []):Vc (vF_ 61 [.agg (pgA p),.agg (cfA c), aI k] [.fv,.fv,.it 5,.cl [.agg (pgA p),.agg (rgA c.s),enR c.b, aI k, aI 0] (.tup [aI r00,.bool t00]) [],.cl [.agg (pgA p),.agg (rgA c.s),enR c.b, aI k, aI 1] (.tup [aI r10,.bool t10]) [],.cl [.agg (pgA p),.agg (rgA c.s),enR c.b, aI k, aI 2] (.tup [aI r20,.bool t20]) [],.cl [.agg (pgA p),.agg (rgA c.s),enR c.b, aI k, aI 3] (.tup [aI r30,.bool t30]) []] [] (.agg [aI r00, aI r10, aI r20, aI r30]) []):=aj (mP p (zP p c (cj (rr c.b.length 8 fun i j=>ao enC c.b i j) (cj (rf (k:Int)) (cj (rf (0:Int)) (cj h0 (cj (i6 (0+1)) (mP p (zP p c (cj (rr c.b.length 8 fun i j=>ao enC c.b i j) (cj (rf (k:Int)) (cj (rf ((0:Int)+1)) (cj h1 (cj (i6 (0+1+1)) (mP p (zP p c (cj (rr c.b.length 8 fun i j=>ao enC c.b i j) (cj (rf (k:Int)) (cj (rf ((0:Int)+1+1)) (cj h2 (cj (i6 (0+1+1+1)) (mP p (zP p c (cj (rr c.b.length 8 fun i j=>ao enC c.b i j) (cj (rf (k:Int)) (cj (rf ((0:Int)+1+1+1)) (cj h3 (cj (i6 (0+1+1+1+1)) (cj (rf r00) (cj (rf r10) (cj (rf r20) (cj (rf r30) trivial))))))))))))))))))))))))))))))))
def cL(p:Pg)(c:Cf)(k:Nat):S8:=⟨(cC p c.s c.b k 0).1,(cC p c.s c.b k 1).1,(cC p c.s c.b k 2).1,(cC p c.s c.b k 3).1,[],[],(c.b.getD k default).pc⟩
theorem wy(p:Pg)(c:Cf)(k:Nat)(hb:c.b.length<1000000):pC_ 61 [.agg (pgA p),.agg (cfA c),.int .i64 k] (.agg (rgA (cL p c k))) []:=PureC.vc (Eg p c k _ _ _ _ _ _ _ _ (rq p c.s c.b k 0 hb) (rq p c.s c.b k 1 hb) (rq p c.s c.b k 2 hb) (rq p c.s c.b k 3 hb))
theorem Ei(kd va:Int):Vc (vF_ 47 [aI kd, aI va] [] [] (obR [⟨kd,va⟩]) []):=aj (cj (rf (1:Nat)) (cj (show ∀(i:Nat),i<1-> ∀(j:Nat),j<2->List.getD [aI kd,aI va] ((i+0)*2+j) AV.junk=ao obC [Ob.mk kd va] i j from(fun i hi j hj=>match i,hi,j,hj with |0,_,0,_=>rfl |0,_,1,_=>rfl)) trivial))
theorem Ej(kd va:Int):pC_ 47 [.int .i64 kd,.int .i64 va] (obR [⟨kd,va⟩]) []:=PureC.vc (Ei kd va)
theorem HV(p:Pg){Z:Prop}(z:Z):(RF p.W (RF p.r0 (RF p.r1 (RF p.r2 (RF p.r3 (RF p.ms.length (RR p.ms.length 3 (fun i j=>ao mmC p.ms i j) Z))))))):=⟨rfl,rfl,rfl,rfl,rfl,rfl,fun _ _ _ _=>rfl,z⟩
theorem zO(c:Cf){Z:Prop}(z:Z):(RR c.s.m.length 1 (fun i j=>aI (List.getD c.s.m i 0)) (RF c.s.st.length (RR c.s.st.length 1 (fun i j=>aI (List.getD c.s.st i 0)) (RF c.s.pc (RF c.b.length (RR c.b.length 8 (fun i j=>ao enC c.b i j) (RF c.r.length (RR c.r.length 1 (fun i j=>aI (c.r.getD i 0)) (RF c.e Z))))))))):=⟨fun _ _ _ _=>rfl,rfl,fun _ _ _ _=>rfl,rfl,rfl,fun _ _ _ _=>rfl,rfl,fun _ _ _ _=>rfl,rfl,z⟩
theorem zN(p:Pg)(c:Cf){Z:Prop}(z:Z):(RF p.ls.length (RR p.ls.length 2 (fun i j=>ao lbC p.ls i j) (RF p.is.length (RR p.is.length 9 (fun i j=>ao inC p.is i j) (RF c.s.r0 (RF c.s.r1 (RF c.s.r2 (RF c.s.r3 (RF c.s.m.length Z))))))))):=⟨rfl,fun _ _ _ _=>rfl,rfl,fun _ _ _ _=>rfl,rfl,rfl,rfl,rfl,rfl,z⟩
abbrev KL(p:Pg):Prop:=PureC Tryz.prog 77 [.agg (bn p.W p.r0 p.r1 p.r2 p.r3 (bU p.ms))] (.int .i64 (aP p.ms)) []
abbrev KZ(p:Pg):Orc:= .cl [.agg (bn p.W p.r0 p.r1 p.r2 p.r3 (bU p.ms))] (aI (aP p.ms)) []
theorem CY(p:Pg)(c:Cf)(k:Nat)(hk:k<c.b.length)(va:Int)(ta:Bool)(hm:va<((aP p.ms:Nat):Int))(h0:pC_ 53 [.agg (pgA p),.agg (cfA c), aI k] (.tup [aI va,.bool ta]) [])(h1:KL p):Vc (vF_ 45 [.agg (pgA p),.agg (cfA c), aI k] [.fv,.fv,.cl [.agg (pgA p),.agg (cfA c), aI k] (.tup [aI va,.bool ta]) [],KZ p,.bd true] [] (.tup [.agg (enA ⟨(c.b.getD k default).pc,(c.b.getD k default).val,va,(c.b.getD k default).frm,(c.b.getD k default).nxt,(c.b.getD k default).dn,true,(c.b.getD k default).ft⟩),.bool true]) []):=aj (cj (bi k c.b.length) (mP p (zN p c (zO c (cj (rf (k:Int)) (cj h0 (HV p (cj h1 (cj (dt (va<(↑(aP p.ms):Int))) (cj (rf ((c.b.getD k default).pc)) (cj (rf ((c.b.getD k default).val)) (cj (rf va) (cj (rf ((c.b.getD k default).frm)) (cj (rf ((c.b.getD k default).nxt)) (cj (rf ((c.b.getD k default).dn)) (cj (rf true) (cj (rf ((c.b.getD k default).ft)) (cj (rf true) trivial))))))))))))))))))
theorem CZ(p:Pg)(c:Cf)(k:Nat)(hk:k<c.b.length)(va:Int)(ta:Bool)(hm: ¬va<((aP p.ms:Nat):Int))(h0:pC_ 53 [.agg (pgA p),.agg (cfA c), aI k] (.tup [aI va,.bool ta]) [])(h1:KL p):Vc (vF_ 45 [.agg (pgA p),.agg (cfA c), aI k] [.fv,.fv,.cl [.agg (pgA p),.agg (cfA c), aI k] (.tup [aI va,.bool ta]) [],KZ p,.bd false] [] (.tup [.agg (enA ⟨(c.b.getD k default).pc,(c.b.getD k default).val,va,(c.b.getD k default).frm,(c.b.getD k default).nxt,(c.b.getD k default).dn,true,true⟩),.bool false]) []):=aj (cj (bi k c.b.length) (mP p (zN p c (zO c (cj (rf (k:Int)) (cj h0 (HV p (cj h1 (cj (df (va<(↑(aP p.ms):Int))) (cj (rf ((c.b.getD k default).pc)) (cj (rf ((c.b.getD k default).val)) (cj (rf va) (cj (rf ((c.b.getD k default).frm)) (cj (rf ((c.b.getD k default).nxt)) (cj (rf ((c.b.getD k default).dn)) (cj (rf true) (cj (rf true) (cj (rf false) trivial))))))))))))))))))
theorem Jc(p:Pg)(c:Cf)(k:Nat)(e:En)(h0:pC_ 45 [.agg (pgA p),.agg (cfA c), aI k] (.tup [.agg (enA e),.bool false]) []):Vc (vF_ 63 [.agg (pgA p),.agg (cfA c), aI k] [.fv,.fv,.cl [.agg (pgA p),.agg (cfA c), aI k] (.tup [.agg (enA e),.bool false]) []] [] (.tup [.agg (enA ⟨e.pc,0,e.adr, -1,e.nxt,true,e.kn,e.ft⟩),.nils]) []):=aj (mP p (zN p c (zO c (cj (rf (k:Int)) (cj h0 (cj (rf e.pc) (cj (rf (0:Int)) (cj (rf e.adr) (cj (rf (-1:Int)) (cj (rf e.nxt) (cj (rf true) (cj (rf e.kn) (cj (rf e.ft) trivial)))))))))))))
theorem Jb(p:Pg)(c:Cf)(k:Nat)(e:En)(v fr:Int)(tl:Bool)(h0:pC_ 45 [.agg (pgA p),.agg (cfA c), aI k] (.tup [.agg (enA e),.bool true]) [])(h1:pC_ 90 [.agg (pgA p),lR c.s.m,enR c.b, aI k, aI e.adr] (.tup [aI v, aI fr,.bool tl]) []):Vc (vF_ 63 [.agg (pgA p),.agg (cfA c), aI k] [.fv,.fv,.cl [.agg (pgA p),.agg (cfA c), aI k] (.tup [.agg (enA e),.bool true]) [],.cl [.agg (pgA p),lR c.s.m,enR c.b, aI k, aI e.adr] (.tup [aI v, aI fr,.bool tl]) [],.cl [aI 1, aI e.adr] (obR [⟨1,e.adr⟩]) []] [] (.tup [.agg (enA ⟨e.pc,v,e.adr,fr,e.nxt,true,e.kn,e.ft⟩),(obR [⟨1,e.adr⟩])]) []):=aj (mP p (zN p c (zO c (cj (rf (k:Int)) (cj h0 (mP p (cj (rf p.ls.length) (cj (rr p.ls.length 2 fun i j=>ao lbC p.ls i j) (cj (rf p.is.length) (cj (rr p.is.length 9 fun i j=>ao inC p.is i j) (cj (rf c.s.m.length) (cj (rr c.s.m.length 1 fun i j=>aI (List.getD c.s.m i 0)) (cj (rf c.b.length) (cj (rr c.b.length 8 fun i j=>ao enC c.b i j) (cj (rf (k:Int)) (cj (rf e.adr) (cj h1 (cj (rf (1:Int)) (cj (rf e.adr) (cj (Ej 1 e.adr) (cj (rf e.pc) (cj (rf v) (cj (rf e.adr) (cj (rf fr) (cj (rf e.nxt) (cj (rf true) (cj (rf e.kn) (cj (rf e.ft) (cj (rf (1:Nat)) (cj (rr 1 2 fun i j=>ao obC [Ob.mk (1:Int) e.adr] i j) trivial))))))))))))))))))))))))))))))
theorem HU(s:S8){Z:Prop}(z:Z):(RR s.m.length 1 (fun i j=>aI (s.m.getD i 0)) (RF s.st.length (RR s.st.length 1 (fun i j=>aI (s.st.getD i 0)) (RF s.pc Z)))):=⟨fun _ _ _ _=>rfl,rfl,fun _ _ _ _=>rfl,rfl,z⟩
theorem HT(p:Pg)(s:S8){Z:Prop}(z:Z):(RF p.ls.length (RR p.ls.length 2 (fun i j=>ao lbC p.ls i j) (RF p.is.length (RR p.is.length 9 (fun i j=>ao inC p.is i j) (RF s.r0 (RF s.r1 (RF s.r2 (RF s.r3 (RF s.m.length Z))))))))):=⟨rfl,fun _ _ _ _=>rfl,rfl,fun _ _ _ _=>rfl,rfl,rfl,rfl,rfl,rfl,z⟩
theorem C0(p:Pg)(e:En)(s s2:S8)(o:List Ob)(en:Int)(hen: ¬en=0)(h1:pC_ 60 [.agg (pgA p),.agg (s8R s)] (.tup [.agg (s8R s2),obR o, aI en]) []):Vc (vF_ 64 [.agg (pgA p),.agg (enA e),.agg (s8R s)] [.fv,.cl [.agg (pgA p),.agg (s8R s)] (.tup [.agg (s8R s2),obR o, aI en]) [],.bd true] [] (.tup [.agg (enA e.flt),.nils]) []):=aj (mP p (HT p s (HU s (cj h1 (cj (n1 en 0) (cj (rf e.pc) (cj (rf e.val) (cj (rf e.adr) (cj (rf e.frm) (cj (rf e.nxt) (cj (rf e.dn) (cj (rf e.kn) (cj (rf true) trivial)))))))))))))
theorem wz(p:Pg)(e:En)(s s2:S8)(o:List Ob)(h1:pC_ 60 [.agg (pgA p),.agg (s8R s)] (.tup [.agg (s8R s2),obR o, aI 0]) []):Vc (vF_ 64 [.agg (pgA p),.agg (enA e),.agg (s8R s)] [.fv,.cl [.agg (pgA p),.agg (s8R s)] (.tup [.agg (s8R s2),obR o, aI 0]) [],.bd false] [] (.tup [.agg (enA (e.to s2.pc)),(obR o)]) []):=aj (mP p (HT p s (HU s (cj h1 (cj (n0 (0:Int) 0) (cj (rf e.pc) (cj (rf e.val) (cj (rf e.adr) (cj (rf e.frm) (cj (rf s2.pc) (cj (rf e.dn) (cj (rf e.kn) (cj (rf e.ft) (cj (rf o.length) (cj (rr o.length 2 fun i j=>ao obC o i j) trivial)))))))))))))))
def ouV(p:Pg)(c:Cf)(k:Nat):En×Option Int×List Ob:=
 if(enX p c k).kind=1 then((c.b.getD k default).done.vl (Wd.doV p.W (enX p c k).op (tA p c k (enX p c k)).1 (tB p c k (enX p c k)).1),none,[])
 else if(enX p c k).kind=4 then((c.b.getD k default).done.vl (if(tA p c k (enX p c k)).1=0 then(tD p c k (enX p c k)).1 else(tB p c k (enX p c k)).1),none,[])
 else if(enX p c k).kind=3 then((c.b.getD k default).done.vl (tD p c k (enX p c k)).1,none,[])
 else if(enX p c k).kind=2 then(if(c.s.m.length:Int)<=adV p c k (enX p c k) then(((c.b.getD k default).done.ad (adV p c k (enX p c k))).flt,none,[])
  else(((c.b.getD k default).done.ad (adV p c k (enX p c k))).ld (ldV p c.s.m c.b k (adV p c k (enX p c k))).1 (ldV p c.s.m c.b k (adV p c k (enX p c k))).2.1,none,[⟨1,adV p c k (enX p c k)⟩]))
 else if(enX p c k).kind=5 then((c.b.getD k default).done,some (if Wd.doV p.W (enX p c k).op (tA p c k (enX p c k)).1 (tB p c k (enX p c k)).1=0 then(c.b.getD k default).pc+1 else(enX p c k).tg),[⟨3,if Wd.doV p.W (enX p c k).op (tA p c k (enX p c k)).1 (tB p c k (enX p c k)).1=0 then(c.b.getD k default).pc+1 else(enX p c k).tg⟩])
 else if(enX p c k).kind=7 then((c.b.getD k default).done,some (c9 p (tA p c k (enX p c k)).1),[⟨3,c9 p (tA p c k (enX p c k)).1⟩])
 else match reV p c.s.st c.b k with
  |none=>((c.b.getD k default).done.flt,none,[])
  |some L=>if L.length=0 then((c.b.getD k default).done.flt,none,[]) else((c.b.getD k default).done,some (bE L),[⟨3,bE L⟩])
def apl(c:Cf)(k:Nat)(e:En)(t:Option Int):Cf:=match t with
 |none=>⟨c.s,c.b.set k e,c.r,c.e⟩
 |some t=>goV ⟨c.s,c.b.set k e,c.r,c.e⟩ k t
structure Alk (p:Pg) (c d:Cf) (k:Nat):Prop where
 lc:k<c.b.length
 ld:k<d.b.length
 m:d.s.m=c.s.m
 e:d.e=c.e
 en:d.b.getD k default=c.b.getD k default
 rg: ∀r,(cC p c.s c.b k r).2=true->cC p d.s d.b k r=cC p c.s c.b k r
 lo:(enX p c k).kind=2-> ¬(c.s.m.length:Int)<=adV p c k (enX p c k)->(ldV p c.s.m c.b k (adV p c k (enX p c k))).2.2=true->ldV p d.s.m d.b k (adV p c k (enX p c k))=ldV p c.s.m c.b k (adV p c k (enX p c k))
 re:reV p d.s.st d.b k=reV p c.s.st c.b k
 bl:lC p d.b k=lC p c.b k
theorem kq(p:Pg){l l':List En}(r:Int): ∀k,(∀j,j<k->l'.getD j default=l.getD j default)->gr p l' r k=gr p l r k
 |0,_=>rfl
 |k+1,h=>by
  unfold gr enI
  rw[h k (by omega),kq p r k fun j hj=>h j (by omega)]
theorem pR(p:Pg){l l':List En}(a:Int): ∀k,(∀j,j<k->l'.getD j default=l.getD j default)->ldF p l' a k=ldF p l a k
 |0,_=>rfl
 |k+1,h=>by
  unfold ldF enI
  rw[h k (by omega),pR p a k fun j hj=>h j (by omega)]
theorem qg(p:Pg){l l':List En}: ∀j k,(∀i,k<=i->i<k+j->(l'.getD i default).pc=(l.getD i default).pc)->jT p l' k j=jT p l k j
 |0,_,_=>rfl
 |j+1,k,h=>by
  unfold jT enI
  rw[h k (by omega) (by omega),qg p j (k+1) fun i h1 h2=>h i (by omega) (by omega)]
theorem dM(l:List En)(k j:Nat)(e:En)(hk:k<l.length):(l.set k e).getD j default=if k=j then e else l.getD j default:=by
 by_cases h:k=j
 ·subst h
  rw[aq rfl];simp[List.getD,hk]
 ·rw[an h];simp[List.getD,b9,h]
theorem oR(p:Pg){l:List En}(r:Int){k:Nat}{e:En}(hk:k<l.length)(hp:e.pc=(l.getD k default).pc)(hd:(l.getD k default).dn=false): ∀i,(∀x,gr p l r i=some x->x.2=true)->gr p (l.set k e) r i=gr p l r i
 |0,_=>rfl
 |i+1,h=>by
  unfold gr at h ⊢
  have e1:enI p (l.set k e) i=enI p l i:=by
   unfold enI
   rw[dM l k i e hk]
   split
   ·rename_i h1;subst h1;rw[hp]
   ·rfl
  rw[e1]
  by_cases hc:dR (enI p l i)=true∧(enI p l i).d=r
  ·rw[aq hc] at h ⊢
   rw[aq hc,dM l k i e hk]
   split
   ·rename_i h1
    subst h1
    rw[hd] at h
    cases h _ rfl
   ·rfl
  ·rw[an hc] at h ⊢
   rw[an hc]
   exact oR p r hk hp hd i h
theorem nv(p:Pg){l:List En}(a:Int){k:Nat}{e:En}(hk:k<l.length)(hp:e.pc=(l.getD k default).pc)(hd:(l.getD k default).dn=false)(h3:(enI p l k).kind=3->e.kn=(l.getD k default).kn∧e.adr=(l.getD k default).adr): ∀i,(∀x,ldF p l a i=some x->x.2.2=true)->ldF p (l.set k e) a i=ldF p l a i
 |0,_=>rfl
 |i+1,h=>by
  unfold ldF at h ⊢
  by_cases h1:k=i
  ·subst h1
   have e1:enI p (l.set k e) k=enI p l k:=by unfold enI;rw[dM l k k e hk,aq rfl,hp]
   have e2:(l.set k e).getD k default=e:=by rw[dM l k k e hk,aq rfl]
   rw[e1,e2]
   by_cases hc:(enI p l k).kind=3∧(l.getD k default).kn=true∧(l.getD k default).adr=a
   ·rw[aq hc,hd] at h
    cases h _ rfl
   ·rw[an hc] at h ⊢
    rw[an (fun q=>hc ⟨q.1,by rw[<-(h3 q.1).1];exact q.2.1,by rw[<-(h3 q.1).2];exact q.2.2⟩)]
    exact nv p a hk hp hd h3 k h
  ·have e2:(l.set k e).getD i default=l.getD i default:=by rw[dM l k i e hk,an h1]
   have e1:enI p (l.set k e) i=enI p l i:=by unfold enI;rw[e2]
   rw[e1,e2]
   split
   ·rfl
   ·rename_i hc
    rw[an hc] at h
    exact nv p a hk hp hd h3 i h
theorem Ai(p:Pg)(s:S8)(l:List En)(e:En)(k:Nat)(hk:k<l.length)(v:Vl):cH p s (l.set k e) k v=cH p s l k v:=by
 unfold cH cC
 rw[az,dC (by omega),kq p (l:=l) (l':=l.set k e) v.n k fun j hj=>by rw[dM l k j e hk,an (by omega)]]
theorem AR(p:Pg)(s:S8)(l:List En)(e:En)(k:Nat)(hk:k<l.length)(r:Int):cC p s (l.set k e) k r=cC p s l k r:=by
 unfold cC
 rw[az,dC (by omega),kq p (l:=l) (l':=l.set k e) r k fun j hj=>by rw[dM l k j e hk,an (by omega)]]
theorem Gz(p:Pg)(m:List Int)(l:List En)(e:En)(k:Nat)(hk:k<l.length)(a:Int):ldV p m (l.set k e) k a=ldV p m l k a:=by
 unfold ldV
 rw[az,dC (by omega),pR p (l:=l) (l':=l.set k e) a k fun j hj=>by rw[dM l k j e hk,an (by omega)]]
theorem Fu(p:Pg)(st:List Int)(l:List En)(e:En)(k:Nat)(hk:k<l.length):reV p st (l.set k e) k=reV p st l k:=by
 unfold reV
 rw[az,dC (by omega)]
 exact fE p _ _ _ _ _ _ fun i hi=>by rw[dM l k _ e hk,an (by omega)]
theorem y8(p:Pg)(c:Cf)(k:Nat)(hk:k<c.b.length):dmV p c k=(apl c k (ouV p c k).1 (ouV p c k).2.1,(ouV p c k).2.2):=by
 have hA: ∀v,cH p (upE c k En.done).s (upE c k En.done).b k v=cH p c.s c.b k v:=fun v=>Ai p c.s c.b _ k hk v
 have hD: ∀r,cC p (upE c k En.done).s (upE c k En.done).b k r=cC p c.s c.b k r:=fun r=>AR p c.s c.b _ k hk r
 have hL: ∀(g:En->En) a,ldV p c.s.m (upE c k g).b k a=ldV p c.s.m c.b k a:=fun g a=>Gz p c.s.m c.b _ k hk a
 have hR:reV p c.s.st (upE c k En.done).b k=reV p c.s.st c.b k:=Fu p c.s.st c.b _ k hk
 unfold dmV ouV adV tA tB tD
 simp only[hA,hD,hL,hR]
 by_cases k1:(enX p c k).kind=1
 ·simp only[aq k1];rfl
 simp only[an k1]
 by_cases k4:(enX p c k).kind=4
 ·simp only[aq k4];rfl
 simp only[an k4]
 by_cases k3:(enX p c k).kind=3
 ·simp only[aq k3];rfl
 simp only[an k3]
 by_cases k2:(enX p c k).kind=2
 ·simp only[aq k2]
  split<;>rfl
 simp only[an k2]
 by_cases k5:(enX p c k).kind=5
 ·simp only[aq k5];rfl
 simp only[an k5]
 by_cases k7:(enX p c k).kind=7
 ·simp only[aq k7];rfl
 simp only[an k7]
 cases reV p c.s.st c.b k with
 |none=>rfl
 |some L=>
  show(if L.length=0 then _ else _)=_
  by_cases h0:L.length=0
  ·simp only[aq h0];rfl
  ·simp only[an h0];rfl
theorem Dn(p:Pg)(c:Cf)(k:Nat):(ouV p c k).1.pc=(c.b.getD k default).pc∧(ouV p c k).1.dn=true∧(ouV p c k).1.nxt=(c.b.getD k default).nxt∧((enX p c k).kind=3->(ouV p c k).1.kn=(c.b.getD k default).kn∧(ouV p c k).1.adr=(c.b.getD k default).adr):=by
 unfold ouV
 by_cases k1:(enX p c k).kind=1
 ·rw[aq k1];exact⟨rfl,rfl,rfl,fun _=>⟨rfl,rfl⟩⟩
 rw[an k1]
 by_cases k4:(enX p c k).kind=4
 ·rw[aq k4];exact⟨rfl,rfl,rfl,fun _=>⟨rfl,rfl⟩⟩
 rw[an k4]
 by_cases k3:(enX p c k).kind=3
 ·rw[aq k3];exact⟨rfl,rfl,rfl,fun _=>⟨rfl,rfl⟩⟩
 rw[an k3]
 repeat' split
 all_goals exact⟨rfl,rfl,rfl,fun h=>absurd h k3⟩
theorem Alk.val{p:Pg}{c d:Cf}{k:Nat}(h:Alk p c d k)(v:Vl)(ht:(cH p c.s c.b k v).2=true):cH p d.s d.b k v=cH p c.s c.b k v:=by
 unfold cH at ht ⊢
 split
 ·rename_i hv
  rw[aq hv] at ht
  exact h.rg _ ht
 ·rfl
theorem nZ{a b:Bool}(h:(a&&b)=true):a=true∧b=true:=by
 cases a with
 |true=>exact⟨rfl,h⟩
 |false=>cases h
theorem Alk.ouK{p:Pg}{c d:Cf}{k:Nat}(h:Alk p c d k)(hK:cnK p c k (enX p c k)=true):cnK p d k (enX p d k)=true∧ouV p d k=ouV p c k:=by
 have hx:enX p d k=enX p c k:=by unfold enX;rw[h.en]
 rw[hx]
 have hV:=h.val
 have hlo:=h.lo
 unfold cnK at hK ⊢
 unfold ouV
 rw[hx,h.en]
 unfold tAB adV tA tB tD at*
 by_cases k1:(enX p c k).kind=1
 ·simp only[aq k1] at hK ⊢
  obtain⟨h1,h2⟩:=nZ hK
  rw[hV _ h1,hV _ h2,h1,h2]
  exact⟨rfl,rfl⟩
 simp only[an k1] at hK ⊢
 by_cases k5:(enX p c k).kind=5
 ·have k4: ¬(enX p c k).kind=4:=by omega
  have k3: ¬(enX p c k).kind=3:=by omega
  have k2: ¬(enX p c k).kind=2:=by omega
  simp only[aq k5,an k4,an k3,an k2] at hK ⊢
  obtain⟨h1,h2⟩:=nZ hK
  rw[hV _ h1,hV _ h2,h1,h2]
  exact⟨rfl,rfl⟩
 simp only[an k5] at hK ⊢
 by_cases k4:(enX p c k).kind=4
 ·simp only[aq k4] at hK ⊢
  obtain⟨h0,h3⟩:=nZ hK
  obtain⟨h1,h2⟩:=nZ h0
  rw[hV _ h1,hV _ h2,h.rg _ h3,h1,h2,h3]
  exact⟨rfl,rfl⟩
 simp only[an k4] at hK ⊢
 by_cases k2:(enX p c k).kind=2
 ·have k3: ¬(enX p c k).kind=3:=by omega
  simp only[aq k2,an k3] at hK ⊢
  obtain⟨h0,h3⟩:=nZ hK
  obtain⟨h1,h2⟩:=nZ h0
  rw[hV _ h1,hV _ h2,h1,h2,h.m]
  by_cases hm:(c.s.m.length:Int)<=Wd.maskV p.W ((cH p c.s c.b k (enX p c k).a).1+(cH p c.s c.b k (enX p c k).b).1)
  ·simp only[aq hm,bB hm]
   exact⟨by simp,trivial⟩
  ·rw[bK hm,dN] at h3
   have h4:=hlo k2 hm h3
   rw[h.m] at h4
   simp only[an hm,bK hm]
   rw[h4,h3]
   exact⟨rfl,rfl⟩
 simp only[an k2] at hK ⊢
 by_cases k3:(enX p c k).kind=3
 ·simp only[aq k3] at hK ⊢
  rw[h.rg _ hK]
  exact⟨hK,rfl⟩
 simp only[an k3] at hK ⊢
 by_cases k7:(enX p c k).kind=7
 ·simp only[aq k7] at hK ⊢
  rw[hV _ hK]
  exact⟨hK,rfl⟩
 simp only[an k7] at hK ⊢
 rw[h.re]
 exact⟨hK,rfl⟩
theorem Alk.ou{p:Pg}{c d:Cf}{k:Nat}(h:Alk p c d k)(hc:cnV p c k=true):cnV p d k=true∧ouV p d k=ouV p c k:=by
 obtain⟨q,hq,hk,hd,hK⟩:=jQ hc
 obtain rfl:k=q:=by omega
 have hop:opV p c k=true:=(nZ hc).1
 have ho:opV p d k=true:=by
  unfold opV at hop ⊢
  rw[h.e,h.bl]
  split at hop
  ·rename_i h1
   rw[aq ⟨h1.1,h1.2.1,by have:=h.ld;omega⟩]
   exact hop
  ·cases hop
 have hn:cnV p d k=(opV p d k&&(!(d.b.getD k default).dn&&cnK p d k (enX p d k))):=by unfold cnV;rw[aC]
 have h1:=h.ouK hK
 rw[hn,ho,h.en,hd,h1.1]
 exact⟨rfl,h1.2⟩
theorem Alk.do_{p:Pg}{c d x:Cf}{k:Nat}{o:List Ob}(h:Alk p c d k)(e:doO p c k=some (x,o)):doO p d k=some (apl d k (ouV p c k).1 (ouV p c k).2.1,(ouV p c k).2.2):=by
 unfold doO at e
 split at e
 ·rename_i hc
  have h1:=h.ou hc
  unfold doO
  rw[aq h1.1,aC,y8 p d k h.ld,h1.2]
 ·cases e
theorem DD{p:Pg}{c x:Cf}{k:Nat}{o:List Ob}(e:doO p c k=some (x,o)):k<c.b.length∧(c.b.getD k default).dn=false∧cnV p c k=true∧x=apl c k (ouV p c k).1 (ouV p c k).2.1∧o=(ouV p c k).2.2:=by
 unfold doO at e
 split at e
 ·rename_i hc
  obtain⟨q,hq,hk,hd,_⟩:=jQ hc
  obtain rfl:k=q:=by omega
  rw[aC,y8 p c k hk,ai,Prod.mk.injEq] at e
  exact⟨hk,hd,hc,e.1.symm,e.2.symm⟩
 ·cases e
theorem Alk.loc{p:Pg}{c d:Cf}{k:Nat}(lc:k<c.b.length)(ld:k<d.b.length)(hr: ∀n,d.s.reg n=c.s.reg n)(hm:d.s.m=c.s.m)(hst:d.s.st=c.s.st)(he:d.e=c.e)(hb: ∀j,j<k+1->d.b.getD j default=c.b.getD j default):Alk p c d k:=by
 refine⟨lc,ld,hm,he,hb k (by omega),fun r _=> ?_,fun _ _ _=> ?_, ?_, ?_⟩
 ·unfold cC
  rw[dC (by omega),dC (by omega),kq p (l:=c.b) (l':=d.b) r k fun j hj=>hb j (by omega),hr]
 ·unfold ldV
  rw[dC (by omega),dC (by omega),pR p (l:=c.b) (l':=d.b) _ k fun j hj=>hb j (by omega),hm]
 ·unfold reV
  rw[dC (by omega),dC (by omega),hst]
  exact fE p _ _ _ _ _ _ fun i hi=>by rw[hb _ (by omega)]
 ·unfold lC
  rw[dC (by omega),dC (by omega)]
  exact qg p _ _ fun i _ hi=>by rw[hb i (by omega)]
theorem Alk.stab{p:Pg}{c:Cf}{k i:Nat}(hki:k<i)(hi:i<c.b.length){e:En}(hp:e.pc=(c.b.getD k default).pc)(hd:(c.b.getD k default).dn=false)(h3:(enX p c k).kind=3->e.kn=(c.b.getD k default).kn∧e.adr=(c.b.getD k default).adr):Alk p c ⟨c.s,c.b.set k e,c.r,c.e⟩ i:=by
 have hk:k<c.b.length:=by omega
 have hpc: ∀j,((c.b.set k e).getD j default).pc=(c.b.getD j default).pc:=fun j=>by
  rw[dM c.b k j e hk]
  split
  ·rename_i h1;subst h1;exact hp
  ·rfl
 refine⟨hi,by rw[az];exact hi,rfl,rfl,by rw[dM c.b k i e hk,an (by omega)],fun r ht=> ?_,fun _ _ ht=> ?_, ?_, ?_⟩
 ·unfold cC at ht ⊢
  rw[az]
  rw[dC (by omega)] at ht ⊢
  split
  ·rename_i hr
   rw[aq hr] at ht
   rw[oR p r hk hp hd i fun x hx=>by rw[hx] at ht;exact ht]
  ·rfl
 ·unfold ldV at ht ⊢
  rw[az]
  rw[dC (by omega)] at ht ⊢
  rw[nv p _ hk hp hd h3 i fun x hx=>by rw[hx] at ht;exact ht]
 ·unfold reV
  rw[az]
  exact fE p _ _ _ _ _ _ fun j _=>hpc _
 ·unfold lC
  rw[az]
  exact qg p _ _ fun j _ _=>hpc j
theorem sJ(s:S8)(t:Int)(n:Int):(s.go t).reg n=s.reg n:=rfl
theorem B3{p:Pg}{c a b:Cf}{oa ob:List Ob}{i k:Nat}(hki:k<i)(ea:doO p c i=some (a,oa))(eb:doO p c k=some (b,ob))(hb:i<b.b.length): ∃x o1 o2,doO p a k=some (x,o1)∧doO p b i=some (x,o2):=by
 obtain⟨hi,hdi,hci,ra,_⟩:=DD ea
 obtain⟨hk,hdk,hck,rb,_⟩:=DD eb
 obtain⟨hp1,hd1,hn1,h31⟩:=Dn p c k
 generalize hE1:(ouV p c k).1=e1 at*
 generalize hT1:(ouV p c k).2.1=t1 at*
 generalize hE2:(ouV p c i).1=e2 at*
 generalize hT2:(ouV p c i).2.1=t2 at*
 have hs1:(c.b.set k e1).getD k default=e1:=by rw[dM c.b k k e1 hk,aq rfl]
 have hbb:b=⟨c.s,c.b.set k e1,c.r,c.e⟩∧(t1=none∨t1=some e1.nxt):=by
  cases t1 with
  |none=>exact⟨rb,.inl rfl⟩
  |some t=>
   have rb2:b=if((c.b.set k e1).getD k default).nxt=t then(⟨c.s,c.b.set k e1,c.r,c.e⟩:Cf) else⟨c.s.go t,((c.b.set k e1).set k (((c.b.set k e1).getD k default).to t)).take (k+1),c.r,c.e⟩:=rb
   rw[hs1] at rb2
   by_cases h0:e1.nxt=t
   ·rw[aq h0] at rb2
    exact⟨rb2,.inr (by rw[h0])⟩
   ·rw[an h0] at rb2
    rw[rb2] at hb
    have:(((c.b.set k e1).set k (e1.to t)).take (k+1)).length<=k+1:=List.length_take_le _ _
    have hb2:i<(((c.b.set k e1).set k (e1.to t)).take (k+1)).length:=hb
    omega
 obtain⟨rfl,ht1⟩:=hbb
 have hB:=(Alk.stab (p:=p) hki hi (e:=e1) hp1 hdk h31).do_ ea
 rw[hE2,hT2] at hB
 have hfin: ∀d:Cf,(∀n,d.s.reg n=c.s.reg n)->d.s.m=c.s.m->d.s.st=c.s.st->d.e=c.e->i<d.b.length->(∀j,j<i->d.b.getD j default=c.b.getD j default)-> ∃o1,doO p d k=some (⟨d.s,d.b.set k e1,d.r,d.e⟩,o1):=fun d h1 h2 h3 h4 h5 h6=>by
  have hA:=(Alk.loc (p:=p) hk (by omega) h1 h2 h3 h4 fun j hj=>h6 j (by omega)).do_ eb
  rw[hE1,hT1] at hA
  have e0:apl d k e1 t1=⟨d.s,d.b.set k e1,d.r,d.e⟩:=by
   rcases ht1 with rfl |rfl
   ·rfl
   ·have h7:(d.b.set k e1).getD k default=e1:=by rw[dM d.b k k e1 (by omega),aq rfl]
    show(if((d.b.set k e1).getD k default).nxt=e1.nxt then(⟨d.s,d.b.set k e1,d.r,d.e⟩:Cf) else _)=_
    rw[h7,aq rfl]
  rw[e0] at hA
  exact⟨_,hA⟩
 have hne: ¬i=k:=by omega
 have hcm:(c.b.set i e2).set k e1=(c.b.set k e1).set i e2:=List.set_comm _ _ hne
 have hj2: ∀j,j<i->(c.b.set i e2).getD j default=c.b.getD j default:=fun j hj=>by rw[dM c.b i j e2 hi,an (by omega)]
 have hl2:i<(c.b.set i e2).length:=by rw[az];exact hi
 have plain: ∃o1,doO p ⟨c.s,c.b.set i e2,c.r,c.e⟩ k=some (⟨c.s,(c.b.set k e1).set i e2,c.r,c.e⟩,o1):=by
  obtain⟨o1,h1⟩:=hfin ⟨c.s,c.b.set i e2,c.r,c.e⟩ (fun _=>rfl) rfl rfl rfl hl2 hj2
  refine⟨o1, ?_⟩
  rw[h1]
  show some ((⟨c.s,(c.b.set i e2).set k e1,c.r,c.e⟩:Cf),o1)=_
  rw[hcm]
 cases t2 with
 |none=>
  obtain⟨o1,h1⟩:=plain
  rw[ra]
  exact⟨_,_,_,h1,hB⟩
 |some t=>
  have h8:(c.b.set i e2).getD i default=e2:=by rw[dM c.b i i e2 hi,aq rfl]
  have h9:((c.b.set k e1).set i e2).getD i default=e2:=by rw[dM _ i i e2 (by rw[az];exact hi),aq rfl]
  have ra2:a=if((c.b.set i e2).getD i default).nxt=t then(⟨c.s,c.b.set i e2,c.r,c.e⟩:Cf) else⟨c.s.go t,((c.b.set i e2).set i (((c.b.set i e2).getD i default).to t)).take (i+1),c.r,c.e⟩:=ra
  have hB2:apl (⟨c.s,c.b.set k e1,c.r,c.e⟩:Cf) i e2 (some t)=if(((c.b.set k e1).set i e2).getD i default).nxt=t then(⟨c.s,(c.b.set k e1).set i e2,c.r,c.e⟩:Cf) else⟨c.s.go t,(((c.b.set k e1).set i e2).set i ((((c.b.set k e1).set i e2).getD i default).to t)).take (i+1),c.r,c.e⟩:=rfl
  rw[hB2,h9] at hB
  rw[h8] at ra2
  by_cases h0:e2.nxt=t
  ·rw[aq h0] at ra2 hB
   obtain⟨o1,h1⟩:=plain
   rw[ra2]
   exact⟨_,_,_,h1,hB⟩
  ·rw[an h0] at ra2 hB
   have hl3:i<(((c.b.set i e2).set i (e2.to t)).take (i+1)).length:=by rw[aM,az,az];omega
   obtain⟨o1,h1⟩:=hfin ⟨c.s.go t,((c.b.set i e2).set i (e2.to t)).take (i+1),c.r,c.e⟩ (fun _=>rfl) rfl rfl rfl hl3 (fun j hj=>by
    rw[au,aZ,aq (by omega), <-au,n9,dM c.b i j _ hi,an (by omega)])
   rw[ra2]
   have h5:(((c.b.set k e1).set i e2).set i (e2.to t)).take (i+1)=(((c.b.set i e2).set i (e2.to t)).take (i+1)).set k e1:=by
    rw[n9,n9, <-List.take_set,List.set_comm _ _ hne]
   rw[h5] at hB
   exact⟨_,_,_,h1,hB⟩
theorem PureC.obs2{P:Program}{f:FuncId}{args:List AV}{a:AV}{o:List Ob}(h:PureC P f args (.tup [a,obX o]) []):PureC P f args (.tup [a,obR o]) []:=by
 cases o with
 |cons x r=>exact h
 |nil=>
  intro w R vs hR hl ha
  refine(h w R vs hR hl ha).mono ?_
  rintro e w' ⟨z,cx,rfl,rfl,k1,k2,k3,k4,k5,k6,k7⟩
  refine⟨z,cx,rfl,rfl,k1,k2,k3,k4,k5,k6, ?_⟩
  have nr: ∀{u:Value},RepP cx.w cx.R .nils u->RepP cx.w cx.R (obR []) u:=fun hu=>by
   cases hu
   exact .row none 0 (fun _ _=> .bool false) (aB _) (bb _) (fun h=>absurd h (cA _)) (fun i h=>absurd h (cA _)) (fun i h=>absurd h (cA _))
  have nr2: ∀{u:Value},Rep cx .nils u->Rep cx (obR []) u:=fun hu=>by
   cases hu with
   |pure h=>exact .pure (nr h)
  cases k7 with
  |pure h=>cases h with
   |tup hl h=>exact .pure (.tup hl fun j x v hx hv=>match j,hx with
    |0,hx=>h 0 x v hx hv
    |1,hx=>by
     simp only[cc,bj,ai] at hx
     subst hx
     exact nr (h 1 _ v rfl hv)
    |j+2,hx=>by simp at hx)
  |tup hl h=>exact .tup hl fun j x v hx hv=>match j,hx with
    |0,hx=>h 0 x v hx hv
    |1,hx=>by
     simp only[cc,bj,ai] at hx
     subst hx
     exact nr2 (h 1 _ v rfl hv)
    |j+2,hx=>by simp at hx
theorem DL(e1:En){Z:Prop}(z:Z):(RF e1.pc (RF e1.val (RF e1.adr (RF e1.frm (RF e1.nxt (RF e1.dn (RF e1.kn (RF e1.ft Z)))))))):=⟨rfl,rfl,rfl,rfl,rfl,rfl,rfl,rfl,z⟩
theorem iq(c:Cf){Z:Prop}(z:Z):(RR c.s.m.length 1 (fun i j=>aI (List.getD c.s.m i 0)) (RF c.s.st.length (RR c.s.st.length 1 (fun i j=>aI (List.getD c.s.st i 0)) (RF c.s.pc (RF c.b.length (RR c.b.length 8 (fun i j=>ao enC c.b i j) (RF c.r.length (RR c.r.length 1 (fun i j=>aI (c.r.getD i 0)) (RF c.e Z))))))))):=⟨fun _ _ _ _=>rfl,rfl,fun _ _ _ _=>rfl,rfl,rfl,fun _ _ _ _=>rfl,rfl,fun _ _ _ _=>rfl,rfl,z⟩
theorem ip(p:Pg)(c:Cf){Z:Prop}(z:Z):(RF p.ls.length (RR p.ls.length 2 (fun i j=>ao lbC p.ls i j) (RF p.is.length (RR p.is.length 9 (fun i j=>ao inC p.is i j) (RF c.s.r0 (RF c.s.r1 (RF c.s.r2 (RF c.s.r3 (RF c.s.m.length Z))))))))):=⟨rfl,fun _ _ _ _=>rfl,rfl,fun _ _ _ _=>rfl,rfl,rfl,rfl,rfl,rfl,z⟩
theorem eY(p:Pg){Z:Prop}(z:Z):(RF p.W (RF p.win (RF p.fuel (RF p.r0 (RF p.r1 (RF p.r2 (RF p.r3 (RF p.ms.length (RR p.ms.length 3 (fun i j=>ao mmC p.ms i j) Z))))))))):=⟨rfl,rfl,rfl,rfl,rfl,rfl,rfl,rfl,fun _ _ _ _=>rfl,z⟩
abbrev om(p:Pg)(c:Cf)(k:Nat):Prop:=PureC Tryz.prog 52 [.agg (pgA p),.agg (cfA c),.int .i64 k] (.agg (inA (enX p c k))) []
abbrev ot(p:Pg)(c:Cf)(k:Nat):Orc:= .cl [.agg (pgA p),.agg (cfA c), aI k] (.agg (inA (enX p c k))) []
theorem Em(p:Pg)(c:Cf)(k:Nat)(hk:k<c.b.length)(h0:om p c k)(e1:En)(h1:pC_ 63 [.agg (pgA p),.agg (cfA c), aI k] (.tup [.agg (enA e1),.nils]) [])(k1: ¬(enX p c k).kind=1)(k4: ¬(enX p c k).kind=4)(k2:(enX p c k).kind=2):Vc (vF_ 29 [.agg (pgA p),.agg (cfA c), aI k] [.fv,.fv,ot p c k,.bd false,.bd false,.bd true,.cl [.agg (pgA p),.agg (cfA c), aI k] (.tup [.agg (enA e1),.nils]) []] [] (.tup [.agg (enA e1),.nils]) []):=aj (cj (bi k c.b.length) (eY p (ip p c (iq c (cj (rf (k:Int)) (cj h0 (cj (ae.2 k1) (cj (ae.2 k4) (cj (ay.2 k2) (eY p (ip p c (iq c (cj (rf (k:Int)) (cj h1 (DL e1 trivial)))))))))))))))
theorem zM(e1:En)(o:List Ob){Z:Prop}(z:Z):(RF e1.pc (RF e1.val (RF e1.adr (RF e1.frm (RF e1.nxt (RF e1.dn (RF e1.kn (RF e1.ft (RF o.length Z))))))))):=⟨rfl,rfl,rfl,rfl,rfl,rfl,rfl,rfl,rfl,z⟩
theorem El(p:Pg)(c:Cf)(k:Nat)(hk:k<c.b.length)(h0:om p c k)(e1:En)(o:List Ob)(h1:pC_ 63 [.agg (pgA p),.agg (cfA c), aI k] (.tup [.agg (enA e1),(obR o)]) [])(k1: ¬(enX p c k).kind=1)(k4: ¬(enX p c k).kind=4)(k2:(enX p c k).kind=2):Vc (vF_ 29 [.agg (pgA p),.agg (cfA c), aI k] [.fv,.fv,ot p c k,.bd false,.bd false,.bd true,.cl [.agg (pgA p),.agg (cfA c), aI k] (.tup [.agg (enA e1),(obR o)]) []] [] (.tup [.agg (enA e1),(obR o)]) []):=aj (cj (bi k c.b.length) (eY p (ip p c (iq c (cj (rf (k:Int)) (cj h0 (cj (ae.2 k1) (cj (ae.2 k4) (cj (ay.2 k2) (eY p (ip p c (iq c (cj (rf (k:Int)) (cj h1 (zM e1 o (cj (rr o.length 2 fun i j=>ao obC o i j) trivial))))))))))))))))
theorem DK(c:Cf)(k:Nat)(vd:Int){Z:Prop}(z:Z):(RF ((c.b.getD k default).pc) (RF vd (RF ((c.b.getD k default).adr) (RF ((c.b.getD k default).frm) (RF ((c.b.getD k default).nxt) (RF true (RF ((c.b.getD k default).kn) (RF ((c.b.getD k default).ft) Z)))))))):=⟨rfl,rfl,rfl,rfl,rfl,rfl,rfl,rfl,z⟩
abbrev xI(p:Pg)(c:Cf)(k:Nat):Prop:=PureC Tryz.prog 61 [.agg (pgA p),.agg (cfA c),.int .i64 k] (.agg (rgA (cL p c k))) []
abbrev xZ(p:Pg)(c:Cf)(k:Nat):Orc:= .cl [.agg (pgA p),.agg (cfA c), aI k] (.agg (rgA (cL p c k))) []
theorem Jk(p:Pg)(c:Cf)(k:Nat)(hk:k<c.b.length)(h0:om p c k)(vd:Int)(h1:xI p c k)(h2:pC_ 62 [.agg (rgA (cL p c k)), aI (enX p c k).d] (aI vd) [])(k1: ¬(enX p c k).kind=1)(k4: ¬(enX p c k).kind=4)(k2: ¬(enX p c k).kind=2)(k3:(enX p c k).kind=3):Vc (vF_ 29 [.agg (pgA p),.agg (cfA c), aI k] [.fv,.fv,ot p c k,.bd false,.bd false,.bd false,.bd true,xZ p c k,.cl [.agg (rgA (cL p c k)), aI (enX p c k).d] (aI vd) []] [] (.tup [.agg (enA ((c.b.getD k default).done.vl vd)),.nils]) []):=aj (cj (bi k c.b.length) (eY p (ip p c (iq c (cj (rf (k:Int)) (cj h0 (cj (ae.2 k1) (cj (ae.2 k4) (cj (ae.2 k2) (cj (ay.2 k3) (eY p (ip p c (iq c (cj (rf (k:Int)) (cj h1 (cj (rf (Prod.fst (cC p c.s c.b (k:Int) 0))) (cj (rf (Prod.fst (cC p c.s c.b (k:Int) 1))) (cj (rf (Prod.fst (cC p c.s c.b (k:Int) 2))) (cj (rf (Prod.fst (cC p c.s c.b (k:Int) 3))) (cj (rf ((enX p c k).d)) (cj h2 (DK c k vd trivial))))))))))))))))))))))
theorem HR(p:Pg)(c:Cf)(k:Nat)(s2:S8){Z:Prop}(z:Z):(RF s2.r0 (RF s2.r1 (RF s2.r2 (RF s2.r3 (RF ((enX p c k).d) Z))))):=⟨rfl,rfl,rfl,rfl,rfl,z⟩
theorem HQ(p:Pg)(c:Cf)(k:Nat){Z:Prop}(z:Z):(RF p.ls.length (RR p.ls.length 2 (fun i j=>ao lbC p.ls i j) (RF p.is.length (RR p.is.length 9 (fun i j=>ao inC p.is i j) (RF (Prod.fst (cC p c.s c.b (k:Int) (0:Int))) (RF (Prod.fst (cC p c.s c.b (k:Int) (1:Int))) (RF (Prod.fst (cC p c.s c.b (k:Int) (2:Int))) (RF (Prod.fst (cC p c.s c.b (k:Int) (3:Int))) (RF (0:Nat) Z))))))))):=⟨rfl,fun _ _ _ _=>rfl,rfl,fun _ _ _ _=>rfl,rfl,rfl,rfl,rfl,rfl,z⟩
theorem Jl(p:Pg)(c:Cf)(k:Nat)(hk:k<c.b.length)(h0:om p c k)(s2:S8)(o:List Ob)(en vd:Int)(h1:xI p c k)(h2:pC_ 60 [.agg (pgA p),.agg (s8R (cL p c k))] (.tup [.agg (s8R s2),obR o, aI en]) [])(h3:pC_ 62 [.agg (rgA s2), aI (enX p c k).d] (aI vd) [])(k1:(enX p c k).kind=1):Vc (vF_ 29 [.agg (pgA p),.agg (cfA c), aI k] [.fv,.fv,ot p c k,.bd true,xZ p c k,.cl [.agg (pgA p),.agg (s8R (cL p c k))] (.tup [.agg (s8R s2),obR o, aI en]) [],.cl [.agg (rgA s2), aI (enX p c k).d] (aI vd) []] [] (.tup [.agg (enA ((c.b.getD k default).done.vl vd)),.nils]) []):=aj (cj (bi k c.b.length) (eY p (ip p c (iq c (cj (rf (k:Int)) (cj h0 (cj (ay.2 k1) (eY p (ip p c (iq c (cj (rf (k:Int)) (cj h1 (eY p (HQ p c k (cj (rf (0:Nat)) (cj (rf ((c.b.getD k default).pc)) (cj h2 (HR p c k s2 (cj h3 (DK c k vd trivial))))))))))))))))))))
theorem C1(p:Pg)(c:Cf)(k:Nat)(hk:k<c.b.length)(h0:om p c k)(s2:S8)(o:List Ob)(en vd:Int)(h1:xI p c k)(h2:pC_ 60 [.agg (pgA p),.agg (s8R (cL p c k))] (.tup [.agg (s8R s2),obR o, aI en]) [])(h3:pC_ 62 [.agg (rgA s2), aI (enX p c k).d] (aI vd) [])(k1: ¬(enX p c k).kind=1)(k4:(enX p c k).kind=4):Vc (vF_ 29 [.agg (pgA p),.agg (cfA c), aI k] [.fv,.fv,ot p c k,.bd false,.bd true,xZ p c k,.cl [.agg (pgA p),.agg (s8R (cL p c k))] (.tup [.agg (s8R s2),obR o, aI en]) [],.cl [.agg (rgA s2), aI (enX p c k).d] (aI vd) []] [] (.tup [.agg (enA ((c.b.getD k default).done.vl vd)),.nils]) []):=aj (cj (bi k c.b.length) (eY p (ip p c (iq c (cj (rf (k:Int)) (cj h0 (cj (ae.2 k1) (cj (ay.2 k4) (eY p (ip p c (iq c (cj (rf (k:Int)) (cj h1 (eY p (HQ p c k (cj (rf (0:Nat)) (cj (rf ((c.b.getD k default).pc)) (cj h2 (HR p c k s2 (cj h3 (DK c k vd trivial)))))))))))))))))))))
theorem HO(p:Pg)(c:Cf)(k:Nat){Z:Prop}(z:Z):(RF true (RF ((c.b.getD k default).kn) (RF ((c.b.getD k default).ft) (RF (Prod.fst (cC p c.s c.b (k:Int) (0:Int))) (RF (Prod.fst (cC p c.s c.b (k:Int) (1:Int))) (RF (Prod.fst (cC p c.s c.b (k:Int) (2:Int))) (RF (Prod.fst (cC p c.s c.b (k:Int) (3:Int))) (RF (0:Nat) (RF (0:Nat) Z))))))))):=⟨rfl,rfl,rfl,rfl,rfl,rfl,rfl,rfl,rfl,z⟩
theorem vT(p:Pg)(c:Cf)(k:Nat){Z:Prop}(z:Z):(RF p.ls.length (RR p.ls.length 2 (fun i j=>ao lbC p.ls i j) (RF p.is.length (RR p.is.length 9 (fun i j=>ao inC p.is i j) (RF ((c.b.getD k default).pc) (RF ((c.b.getD k default).val) (RF ((c.b.getD k default).adr) (RF ((c.b.getD k default).frm) (RF ((c.b.getD k default).nxt) Z))))))))):=⟨rfl,fun _ _ _ _=>rfl,rfl,fun _ _ _ _=>rfl,rfl,rfl,rfl,rfl,rfl,z⟩
abbrev KK(p:Pg)(c:Cf)(k:Nat)(e1:En)(o:List Ob):Prop:=PureC Tryz.prog 64 [.agg (pgA p),.agg (enA (c.b.getD k default).done),.agg (s8R (cL p c k))] (.tup [.agg (enA e1),(obR o)]) []
theorem Jj(p:Pg)(c:Cf)(k:Nat)(hk:k<c.b.length)(h0:om p c k)(e1:En)(o:List Ob)(h1:xI p c k)(h2:KK p c k e1 o)(k1: ¬(enX p c k).kind=1)(k4: ¬(enX p c k).kind=4)(k2: ¬(enX p c k).kind=2)(k3: ¬(enX p c k).kind=3)(k5:(enX p c k).kind=5):Vc (vF_ 29 [.agg (pgA p),.agg (cfA c), aI k] [.fv,.fv,ot p c k,.bd false,.bd false,.bd false,.bd false,.bd true,xZ p c k,.cl [.agg (pgA p),.agg (enA (c.b.getD k default).done),.agg (s8R (cL p c k))] (.tup [.agg (enA e1),(obR o)]) []] [] (.tup [.agg (enA e1),(obR o)]) []):=aj (cj (bi k c.b.length) (eY p (ip p c (iq c (cj (rf (k:Int)) (cj h0 (cj (ae.2 k1) (cj (ae.2 k4) (cj (ae.2 k2) (cj (ae.2 k3) (cj (ay.2 k5) (eY p (ip p c (iq c (cj (rf (k:Int)) (cj h1 (eY p (vT p c k (HO p c k (cj (rf ((c.b.getD k default).pc)) (cj h2 (zM e1 o (cj (rr o.length 2 fun i j=>ao obC o i j) trivial)))))))))))))))))))))))
theorem Ji(p:Pg)(c:Cf)(k:Nat)(hk:k<c.b.length)(h0:om p c k)(e1:En)(o:List Ob)(h1:xI p c k)(h2:KK p c k e1 o)(k1: ¬(enX p c k).kind=1)(k4: ¬(enX p c k).kind=4)(k2: ¬(enX p c k).kind=2)(k3: ¬(enX p c k).kind=3)(k5: ¬(enX p c k).kind=5)(k7:(enX p c k).kind=7):Vc (vF_ 29 [.agg (pgA p),.agg (cfA c), aI k] [.fv,.fv,ot p c k,.bd false,.bd false,.bd false,.bd false,.bd false,.bd true,xZ p c k,.cl [.agg (pgA p),.agg (enA (c.b.getD k default).done),.agg (s8R (cL p c k))] (.tup [.agg (enA e1),(obR o)]) []] [] (.tup [.agg (enA e1),(obR o)]) []):=aj (cj (bi k c.b.length) (eY p (ip p c (iq c (cj (rf (k:Int)) (cj h0 (cj (ae.2 k1) (cj (ae.2 k4) (cj (ae.2 k2) (cj (ae.2 k3) (cj (ae.2 k5) (cj (ay.2 k7) (eY p (ip p c (iq c (cj (rf (k:Int)) (cj h1 (eY p (vT p c k (HO p c k (cj (rf ((c.b.getD k default).pc)) (cj h2 (zM e1 o (cj (rr o.length 2 fun i j=>ao obC o i j) trivial))))))))))))))))))))))))
theorem Cy(c:Cf)(k:Nat)(L:List Int){Z:Prop}(z:Z):(RF true (RF ((c.b.getD k default).kn) (RF ((c.b.getD k default).ft) (RF (0:Int) (RF (0:Int) (RF (0:Int) (RF (0:Int) (RF (0:Nat) (RF L.length Z))))))))):=⟨rfl,rfl,rfl,rfl,rfl,rfl,rfl,rfl,rfl,z⟩
theorem vU(p:Pg)(c:Cf)(k:Nat){Z:Prop}(z:Z):(RF p.ls.length (RR p.ls.length 2 (fun i j=>ao lbC p.ls i j) (RF p.is.length (RR p.is.length 9 (fun i j=>ao inC p.is i j) (RF c.s.st.length (RR c.s.st.length 1 (fun i j=>aI (List.getD c.s.st i 0)) (RF c.b.length (RR c.b.length 8 (fun i j=>ao enC c.b i j) (RF (k:Int) Z))))))))):=⟨rfl,fun _ _ _ _=>rfl,rfl,fun _ _ _ _=>rfl,rfl,fun _ _ _ _=>rfl,rfl,fun _ _ _ _=>rfl,rfl,z⟩
abbrev KJ(p:Pg)(c:Cf)(k:Nat)(L:List Int):Prop:=PureC Tryz.prog 65 [.agg (pgA p),lR c.s.st,enR c.b,.int .i64 k] (.tup [(lR L),.bool true]) []
theorem Aa(p:Pg)(c:Cf)(k:Nat)(hk:k<c.b.length)(h0:om p c k)(e1:En)(L:List Int)(h1:KJ p c k L)(h2:pC_ 64 [.agg (pgA p),.agg (enA (c.b.getD k default).done),.agg (s8R ⟨0,0,0,0,[],L,(c.b.getD k default).pc⟩)] (.tup [.agg (enA e1),.nils]) [])(k1: ¬(enX p c k).kind=1)(k4: ¬(enX p c k).kind=4)(k2: ¬(enX p c k).kind=2)(k3: ¬(enX p c k).kind=3)(k5: ¬(enX p c k).kind=5)(k7: ¬(enX p c k).kind=7)(k9:(enX p c k).kind=9):Vc (vF_ 29 [.agg (pgA p),.agg (cfA c), aI k] [.fv,.fv,ot p c k,.bd false,.bd false,.bd false,.bd false,.bd false,.bd false,.bd true,.cl [.agg (pgA p),lR c.s.st,enR c.b, aI k] (.tup [(lR L),.bool true]) [],.cl [.agg (pgA p),.agg (enA (c.b.getD k default).done),.agg (s8R ⟨0,0,0,0,[],L,(c.b.getD k default).pc⟩)] (.tup [.agg (enA e1),.nils]) []] [] (.tup [.agg (enA e1),.nils]) []):=aj (cj (bi k c.b.length) (eY p (ip p c (iq c (cj (rf (k:Int)) (cj h0 (cj (ae.2 k1) (cj (ae.2 k4) (cj (ae.2 k2) (cj (ae.2 k3) (cj (ae.2 k5) (cj (ae.2 k7) (cj (ay.2 k9) (eY p (vU p c k (cj h1 (eY p (vT p c k (Cy c k L (cj (rr L.length 1 fun i j=>aI (L.getD i 0)) (cj (rf ((c.b.getD k default).pc)) (cj h2 (DL e1 trivial)))))))))))))))))))))))
theorem z9(p:Pg)(c:Cf)(k:Nat)(hk:k<c.b.length)(h0:om p c k)(e1:En)(L:List Int)(o:List Ob)(h1:KJ p c k L)(h2:pC_ 64 [.agg (pgA p),.agg (enA (c.b.getD k default).done),.agg (s8R ⟨0,0,0,0,[],L,(c.b.getD k default).pc⟩)] (.tup [.agg (enA e1),(obR o)]) [])(k1: ¬(enX p c k).kind=1)(k4: ¬(enX p c k).kind=4)(k2: ¬(enX p c k).kind=2)(k3: ¬(enX p c k).kind=3)(k5: ¬(enX p c k).kind=5)(k7: ¬(enX p c k).kind=7)(k9:(enX p c k).kind=9):Vc (vF_ 29 [.agg (pgA p),.agg (cfA c), aI k] [.fv,.fv,ot p c k,.bd false,.bd false,.bd false,.bd false,.bd false,.bd false,.bd true,.cl [.agg (pgA p),lR c.s.st,enR c.b, aI k] (.tup [(lR L),.bool true]) [],.cl [.agg (pgA p),.agg (enA (c.b.getD k default).done),.agg (s8R ⟨0,0,0,0,[],L,(c.b.getD k default).pc⟩)] (.tup [.agg (enA e1),(obR o)]) []] [] (.tup [.agg (enA e1),(obR o)]) []):=aj (cj (bi k c.b.length) (eY p (ip p c (iq c (cj (rf (k:Int)) (cj h0 (cj (ae.2 k1) (cj (ae.2 k4) (cj (ae.2 k2) (cj (ae.2 k3) (cj (ae.2 k5) (cj (ae.2 k7) (cj (ay.2 k9) (eY p (vU p c k (cj h1 (eY p (vT p c k (Cy c k L (cj (rr L.length 1 fun i j=>aI (L.getD i 0)) (cj (rf ((c.b.getD k default).pc)) (cj h2 (zM e1 o (cj (rr o.length 2 fun i j=>ao obC o i j) trivial))))))))))))))))))))))))
theorem HS(c:Cf)(k:Nat){Z:Prop}(z:Z):(RF true (RF ((c.b.getD k default).kn) (RF ((c.b.getD k default).ft) (RF (0:Int) (RF (0:Int) (RF (0:Int) (RF (0:Int) (RF (0:Nat) (RF (0:Nat) Z))))))))):=⟨rfl,rfl,rfl,rfl,rfl,rfl,rfl,rfl,rfl,z⟩
abbrev Od(p:Pg)(c:Cf)(k:Nat):Prop:=PureC Tryz.prog 65 [.agg (pgA p),lR c.s.st,enR c.b,.int .i64 k] (.tup [.nils,.bool false]) []
theorem Ab(p:Pg)(c:Cf)(k:Nat)(hk:k<c.b.length)(h0:om p c k)(e1:En)(h1:Od p c k)(h2:pC_ 64 [.agg (pgA p),.agg (enA (c.b.getD k default).done),.agg (s8R ⟨0,0,0,0,[],[],(c.b.getD k default).pc⟩)] (.tup [.agg (enA e1),.nils]) [])(k1: ¬(enX p c k).kind=1)(k4: ¬(enX p c k).kind=4)(k2: ¬(enX p c k).kind=2)(k3: ¬(enX p c k).kind=3)(k5: ¬(enX p c k).kind=5)(k7: ¬(enX p c k).kind=7)(k9:(enX p c k).kind=9):Vc (vF_ 29 [.agg (pgA p),.agg (cfA c), aI k] [.fv,.fv,ot p c k,.bd false,.bd false,.bd false,.bd false,.bd false,.bd false,.bd true,.cl [.agg (pgA p),lR c.s.st,enR c.b, aI k] (.tup [.nils,.bool false]) [],.cl [.agg (pgA p),.agg (enA (c.b.getD k default).done),.agg (s8R ⟨0,0,0,0,[],[],(c.b.getD k default).pc⟩)] (.tup [.agg (enA e1),.nils]) []] [] (.tup [.agg (enA e1),.nils]) []):=aj (cj (bi k c.b.length) (eY p (ip p c (iq c (cj (rf (k:Int)) (cj h0 (cj (ae.2 k1) (cj (ae.2 k4) (cj (ae.2 k2) (cj (ae.2 k3) (cj (ae.2 k5) (cj (ae.2 k7) (cj (ay.2 k9) (eY p (vU p c k (cj h1 (eY p (vT p c k (HS c k (cj (rf ((c.b.getD k default).pc)) (cj h2 (DL e1 trivial))))))))))))))))))))))
def dS(p:Pg)(c:Cf)(k:Nat):En×List Ob:=((match (ouV p c k).2.1 with |none=>(ouV p c k).1 |some t=>(ouV p c k).1.to t),(ouV p c k).2.2)
theorem i8(p:Pg)(c:Cf)(k:Nat){n:Int}(h:0<=n∧n<4):(cL p c k).reg n=(cC p c.s c.b k n).1:=by
 obtain rfl |rfl |rfl |rfl:=jK h.1 h.2<;>rfl
theorem iQ(p:Pg)(c:Cf)(k:Nat)(v:Vl)(h:okV v):vlV p.W (cL p c k) v=(cH p c.s c.b k v).1:=by
 unfold vlV cH
 cases hv:v.reg with
 |true=>rw[aq rfl,aq rfl];exact i8 p c k (h hv)
 |false=>rfl
theorem Gx{e:En}(hv:e.val=0)(hf:e.frm= -1)(a:Int):(⟨e.pc,0,a, -1,e.nxt,true,true,true⟩:En)=(e.done.ad a).flt:=by
 cases e;cases hv;cases hf;rfl
theorem Jr(p:Pg)(c:Cf)(k:Nat)(hP:OkP p)(hI:Inv p c)(hF:Frs p c)(hM:MOk p c)(hb:c.b.length<=90)(hk:k<c.b.length)(hd:(c.b.getD k default).dn=false)(hK:cnK p c k (enX p c k)=true)(k2:(enX p c k).kind=2):pC_ 29 [.agg (pgA p),.agg (cfA c),.int .i64 k] (.tup [.agg (enA (dS p c k).1),obR (dS p c k).2]) []:=by
 have hb':c.b.length<1000000:=by omega
 have hml:=hI.ml
 have h0:=oi p c k hk
 have hA:=Ac p c k hk hb' hM.sm
 have ht:tAB p c k (enX p c k)=true:=by
  unfold cnK at hK
  rw[an (by omega),an (by omega),an (by omega),aq k2,av] at hK
  exact hK.1
 rw[ht,aq rfl] at hA
 obtain⟨f1,f2⟩:=(hF _ (cM hk)).d hd
 by_cases ho:(c.s.m.length:Int)<=adV p c k (enX p c k)
 ·have e:dS p c k=(((c.b.getD k default).done.ad (adV p c k (enX p c k))).flt,[]):=by unfold dS ouV;rw[an (by omega),an (by omega),an (by omega),aq k2,aq ho]
  rw[e, <-Gx (e:=(c.b.getD k default)) f1 f2]
  exact PureC.obs2 (o:=[]) (PureC.vc (Em p c k hk h0 _ (PureC.vc (Jc p c k ⟨(c.b.getD k default).pc,(c.b.getD k default).val,adV p c k (enX p c k),(c.b.getD k default).frm,(c.b.getD k default).nxt,(c.b.getD k default).dn,true,true⟩ (PureC.vc (CZ p c k hk _ _ (by omega) hA (zk p hP))))) (by omega) (by omega) k2))
 ·have e:dS p c k=(((c.b.getD k default).done.ad (adV p c k (enX p c k))).ld (ldV p c.s.m c.b k (adV p c k (enX p c k))).1 (ldV p c.s.m c.b k (adV p c k (enX p c k))).2.1,[⟨1,adV p c k (enX p c k)⟩]):=by unfold dS ouV;rw[an (by omega),an (by omega),an (by omega),aq k2,an ho]
  rw[e]
  exact PureC.vc (El p c k hk h0 _ _ (PureC.vc (Jb p c k ⟨(c.b.getD k default).pc,(c.b.getD k default).val,adV p c k (enX p c k),(c.b.getD k default).frm,(c.b.getD k default).nxt,(c.b.getD k default).dn,true,(c.b.getD k default).ft⟩ _ _ _ (PureC.vc (CY p c k hk _ _ (by omega) hA (zk p hP))) (Lu p c.s.m c.b k _ hb'))) (by omega) (by omega) k2)
theorem Jq(p:Pg)(c:Cf)(k:Nat)(hP:OkP p)(hI:Inv p c)(hF:Frs p c)(hM:MOk p c)(hb:c.b.length<=90)(hk:k<c.b.length)(hd:(c.b.getD k default).dn=false)(hK:cnK p c k (enX p c k)=true)(k3:(enX p c k).kind=3):pC_ 29 [.agg (pgA p),.agg (cfA c),.int .i64 k] (.tup [.agg (enA (dS p c k).1),obR (dS p c k).2]) []:=by
 have hb':c.b.length<1000000:=by omega
 have hml:=hI.ml
 have h0:=oi p c k hk
 have k2: ¬(enX p c k).kind=2:=by omega
 have hR:=wy p c k hb'
 obtain⟨⟨hkd,hxa,hxb,hxd,htg⟩,hpc⟩:=gY hP c k
 have e:dS p c k=((c.b.getD k default).done.vl (tD p c k (enX p c k)).1,[]):=by unfold dS ouV;rw[an (by omega),an (by omega),aq k3]
 rw[e]
 have h2:=z8 (cL p c k) (enX p c k).d hxd
 rw[i8 p c k hxd] at h2
 exact PureC.obs2 (o:=[]) (PureC.vc (Jk p c k hk h0 _ hR h2 (by omega) (by omega) k2 k3))
theorem Js(p:Pg)(c:Cf)(k:Nat)(hP:OkP p)(hI:Inv p c)(hF:Frs p c)(hM:MOk p c)(hb:c.b.length<=90)(hk:k<c.b.length)(hd:(c.b.getD k default).dn=false)(hK:cnK p c k (enX p c k)=true)(k1:(enX p c k).kind=1):pC_ 29 [.agg (pgA p),.agg (cfA c),.int .i64 k] (.tup [.agg (enA (dS p c k).1),obR (dS p c k).2]) []:=by
 have hb':c.b.length<1000000:=by omega
 have hml:=hI.ml
 have h0:=oi p c k hk
 have k2: ¬(enX p c k).kind=2:=by omega
 have k3: ¬(enX p c k).kind=3:=by omega
 have hR:=wy p c k hb'
 obtain⟨⟨hkd,hxa,hxb,hxd,htg⟩,hpc⟩:=gY hP c k
 have hpc0:=(hI.be _ (cM hk)).pc
 have hrg:=fun j=>gM (p:=p) hI.reg (fun e he=>(hI.be e he).val) k j
 have hS:=wX p (cL p c k) hP ⟨⟨hrg 0,hrg 1,hrg 2,hrg 3⟩,fun h=>(h:(enX p c k).kind=2∨(enX p c k).kind=3).elim (fun h=>absurd h k2) fun h=>absurd h k3,⟨by show -1<=(c.b.getD k default).pc;omega,hpc0.2⟩,bb _⟩ (bb _)
 have va:=iQ p c k (enX p c k).a hxa
 have vb:=iQ p c k (enX p c k).b hxb
 have vd:=i8 p c k hxd
 have rs: ∀v,((cL p c k).set (enX p c k).d v).reg (enX p c k).d=v:=fun v=>by
  obtain h |h |h |h:=jK hxd.1 hxd.2<;>rw[h]<;>rfl
 have hz: ∀(s2:S8) (o:List Ob) (n:Int),(aQ p.W ((aP p.ms:Nat):Int) p.is.length (enX p c k) (cL p c k))=(s2,o,n)->pC_ 60 [.agg (pgA p),.agg (s8R (cL p c k))] (.tup [.agg (s8R s2),obR o,.int .i64 n]) []:=fun s2 o n he=>by
  have:=hS
  rw[show(atI p (cL p c k).pc)=(enX p c k) from rfl,he] at this
  exact this
 have e:dS p c k=((c.b.getD k default).done.vl (Wd.doV p.W (enX p c k).op (tA p c k (enX p c k)).1 (tB p c k (enX p c k)).1),[]):=by unfold dS ouV;rw[aq k1]
 rw[e]
 have q:(aQ p.W ((aP p.ms:Nat):Int) p.is.length (enX p c k) (cL p c k))=(((cL p c k).set (enX p c k).d (Wd.doV p.W (enX p c k).op (tA p c k (enX p c k)).1 (tB p c k (enX p c k)).1)).go ((c.b.getD k default).pc+1),[],0):=by unfold aQ;rw[aq k1,va,vb];rfl
 have h3:=z8 (((cL p c k).set (enX p c k).d (Wd.doV p.W (enX p c k).op (tA p c k (enX p c k)).1 (tB p c k (enX p c k)).1)).go ((c.b.getD k default).pc+1)) (enX p c k).d hxd
 rw[sJ,rs] at h3
 exact PureC.obs2 (o:=[]) (PureC.vc (Jl p c k hk h0 _ _ _ _ hR (hz _ _ _ q) h3 k1))
theorem Jp(p:Pg)(c:Cf)(k:Nat)(hP:OkP p)(hI:Inv p c)(hF:Frs p c)(hM:MOk p c)(hb:c.b.length<=90)(hk:k<c.b.length)(hd:(c.b.getD k default).dn=false)(hK:cnK p c k (enX p c k)=true)(k4:(enX p c k).kind=4):pC_ 29 [.agg (pgA p),.agg (cfA c),.int .i64 k] (.tup [.agg (enA (dS p c k).1),obR (dS p c k).2]) []:=by
 have hb':c.b.length<1000000:=by omega
 have hml:=hI.ml
 have h0:=oi p c k hk
 have k2: ¬(enX p c k).kind=2:=by omega
 have k3: ¬(enX p c k).kind=3:=by omega
 have k1: ¬(enX p c k).kind=1:=by omega
 have hR:=wy p c k hb'
 obtain⟨⟨hkd,hxa,hxb,hxd,htg⟩,hpc⟩:=gY hP c k
 have hpc0:=(hI.be _ (cM hk)).pc
 have hrg:=fun j=>gM (p:=p) hI.reg (fun e he=>(hI.be e he).val) k j
 have hS:=wX p (cL p c k) hP ⟨⟨hrg 0,hrg 1,hrg 2,hrg 3⟩,fun h=>(h:(enX p c k).kind=2∨(enX p c k).kind=3).elim (fun h=>absurd h k2) fun h=>absurd h k3,⟨by show -1<=(c.b.getD k default).pc;omega,hpc0.2⟩,bb _⟩ (bb _)
 have va:=iQ p c k (enX p c k).a hxa
 have vb:=iQ p c k (enX p c k).b hxb
 have vd:=i8 p c k hxd
 have rs: ∀v,((cL p c k).set (enX p c k).d v).reg (enX p c k).d=v:=fun v=>by
  obtain h |h |h |h:=jK hxd.1 hxd.2<;>rw[h]<;>rfl
 have hz: ∀(s2:S8) (o:List Ob) (n:Int),(aQ p.W ((aP p.ms:Nat):Int) p.is.length (enX p c k) (cL p c k))=(s2,o,n)->pC_ 60 [.agg (pgA p),.agg (s8R (cL p c k))] (.tup [.agg (s8R s2),obR o,.int .i64 n]) []:=fun s2 o n he=>by
  have:=hS
  rw[show(atI p (cL p c k).pc)=(enX p c k) from rfl,he] at this
  exact this
 have e:dS p c k=((c.b.getD k default).done.vl (if(tA p c k (enX p c k)).1=0 then(tD p c k (enX p c k)).1 else(tB p c k (enX p c k)).1),[]):=by unfold dS ouV;rw[an k1,aq k4]
 rw[e]
 by_cases hz0:(tA p c k (enX p c k)).1=0
 ·rw[aq hz0]
  have q:(aQ p.W ((aP p.ms:Nat):Int) p.is.length (enX p c k) (cL p c k))=((cL p c k).go ((c.b.getD k default).pc+1),[],0):=by unfold aQ;rw[an k1,aq k4,va,aq (show(cH p c.s c.b k (enX p c k).a).1=0 from hz0)];rfl
  have h3:=z8 ((cL p c k).go ((c.b.getD k default).pc+1)) (enX p c k).d hxd
  rw[sJ,vd] at h3
  exact PureC.obs2 (o:=[]) (PureC.vc (C1 p c k hk h0 _ _ _ _ hR (hz _ _ _ q) h3 k1 k4))
 ·rw[an hz0]
  have q:(aQ p.W ((aP p.ms:Nat):Int) p.is.length (enX p c k) (cL p c k))=(((cL p c k).set (enX p c k).d (tB p c k (enX p c k)).1).go ((c.b.getD k default).pc+1),[],0):=by unfold aQ;rw[an k1,aq k4,va,an (show ¬(cH p c.s c.b k (enX p c k).a).1=0 from hz0),vb];rfl
  have h3:=z8 (((cL p c k).set (enX p c k).d (tB p c k (enX p c k)).1).go ((c.b.getD k default).pc+1)) (enX p c k).d hxd
  rw[sJ,rs] at h3
  exact PureC.obs2 (o:=[]) (PureC.vc (C1 p c k hk h0 _ _ _ _ hR (hz _ _ _ q) h3 k1 k4))
theorem Jo(p:Pg)(c:Cf)(k:Nat)(hP:OkP p)(hI:Inv p c)(hF:Frs p c)(hM:MOk p c)(hb:c.b.length<=90)(hk:k<c.b.length)(hd:(c.b.getD k default).dn=false)(hK:cnK p c k (enX p c k)=true)(k5:(enX p c k).kind=5):pC_ 29 [.agg (pgA p),.agg (cfA c),.int .i64 k] (.tup [.agg (enA (dS p c k).1),obR (dS p c k).2]) []:=by
 have hb':c.b.length<1000000:=by omega
 have hml:=hI.ml
 have h0:=oi p c k hk
 have k2: ¬(enX p c k).kind=2:=by omega
 have k3: ¬(enX p c k).kind=3:=by omega
 have k1: ¬(enX p c k).kind=1:=by omega
 have k4: ¬(enX p c k).kind=4:=by omega
 have hR:=wy p c k hb'
 obtain⟨⟨hkd,hxa,hxb,hxd,htg⟩,hpc⟩:=gY hP c k
 have hpc0:=(hI.be _ (cM hk)).pc
 have hrg:=fun j=>gM (p:=p) hI.reg (fun e he=>(hI.be e he).val) k j
 have hS:=wX p (cL p c k) hP ⟨⟨hrg 0,hrg 1,hrg 2,hrg 3⟩,fun h=>(h:(enX p c k).kind=2∨(enX p c k).kind=3).elim (fun h=>absurd h k2) fun h=>absurd h k3,⟨by show -1<=(c.b.getD k default).pc;omega,hpc0.2⟩,bb _⟩ (bb _)
 have va:=iQ p c k (enX p c k).a hxa
 have vb:=iQ p c k (enX p c k).b hxb
 have vd:=i8 p c k hxd
 have rs: ∀v,((cL p c k).set (enX p c k).d v).reg (enX p c k).d=v:=fun v=>by
  obtain h |h |h |h:=jK hxd.1 hxd.2<;>rw[h]<;>rfl
 have hz: ∀(s2:S8) (o:List Ob) (n:Int),(aQ p.W ((aP p.ms:Nat):Int) p.is.length (enX p c k) (cL p c k))=(s2,o,n)->pC_ 60 [.agg (pgA p),.agg (s8R (cL p c k))] (.tup [.agg (s8R s2),obR o,.int .i64 n]) []:=fun s2 o n he=>by
  have:=hS
  rw[show(atI p (cL p c k).pc)=(enX p c k) from rfl,he] at this
  exact this
 have hgo:=fun(s2:S8) (o:List Ob) (q:(aQ p.W ((aP p.ms:Nat):Int) p.is.length (enX p c k) (cL p c k))=(s2,o,0))=>PureC.vc (wz p (c.b.getD k default).done (cL p c k) s2 o (hz _ _ _ q))
 have e:dS p c k=((c.b.getD k default).done.to (if Wd.doV p.W (enX p c k).op (tA p c k (enX p c k)).1 (tB p c k (enX p c k)).1=0 then(c.b.getD k default).pc+1 else(enX p c k).tg),[⟨3,if Wd.doV p.W (enX p c k).op (tA p c k (enX p c k)).1 (tB p c k (enX p c k)).1=0 then(c.b.getD k default).pc+1 else(enX p c k).tg⟩]):=by
  unfold dS ouV;rw[an k1,an k4,an k3,an k2,aq k5]
 have q:(aQ p.W ((aP p.ms:Nat):Int) p.is.length (enX p c k) (cL p c k))=((cL p c k).go (if Wd.doV p.W (enX p c k).op (tA p c k (enX p c k)).1 (tB p c k (enX p c k)).1=0 then(c.b.getD k default).pc+1 else(enX p c k).tg),[⟨3,if Wd.doV p.W (enX p c k).op (tA p c k (enX p c k)).1 (tB p c k (enX p c k)).1=0 then(c.b.getD k default).pc+1 else(enX p c k).tg⟩],0):=by
  unfold aQ tA tB
  rw[an k1,an k4,an k2,an k3,aq k5,va,vb]
  split<;>rfl
 rw[e]
 exact PureC.vc (Jj p c k hk h0 _ _ hR (hgo _ _ q) k1 k4 k2 k3 k5)
theorem Jn(p:Pg)(c:Cf)(k:Nat)(hP:OkP p)(hI:Inv p c)(hF:Frs p c)(hM:MOk p c)(hb:c.b.length<=90)(hk:k<c.b.length)(hd:(c.b.getD k default).dn=false)(hK:cnK p c k (enX p c k)=true)(k7:(enX p c k).kind=7):pC_ 29 [.agg (pgA p),.agg (cfA c),.int .i64 k] (.tup [.agg (enA (dS p c k).1),obR (dS p c k).2]) []:=by
 have hb':c.b.length<1000000:=by omega
 have hml:=hI.ml
 have h0:=oi p c k hk
 have k2: ¬(enX p c k).kind=2:=by omega
 have k3: ¬(enX p c k).kind=3:=by omega
 have k1: ¬(enX p c k).kind=1:=by omega
 have k4: ¬(enX p c k).kind=4:=by omega
 have k5: ¬(enX p c k).kind=5:=by omega
 have hR:=wy p c k hb'
 obtain⟨⟨hkd,hxa,hxb,hxd,htg⟩,hpc⟩:=gY hP c k
 have hpc0:=(hI.be _ (cM hk)).pc
 have hrg:=fun j=>gM (p:=p) hI.reg (fun e he=>(hI.be e he).val) k j
 have hS:=wX p (cL p c k) hP ⟨⟨hrg 0,hrg 1,hrg 2,hrg 3⟩,fun h=>(h:(enX p c k).kind=2∨(enX p c k).kind=3).elim (fun h=>absurd h k2) fun h=>absurd h k3,⟨by show -1<=(c.b.getD k default).pc;omega,hpc0.2⟩,bb _⟩ (bb _)
 have va:=iQ p c k (enX p c k).a hxa
 have vb:=iQ p c k (enX p c k).b hxb
 have vd:=i8 p c k hxd
 have rs: ∀v,((cL p c k).set (enX p c k).d v).reg (enX p c k).d=v:=fun v=>by
  obtain h |h |h |h:=jK hxd.1 hxd.2<;>rw[h]<;>rfl
 have hz: ∀(s2:S8) (o:List Ob) (n:Int),(aQ p.W ((aP p.ms:Nat):Int) p.is.length (enX p c k) (cL p c k))=(s2,o,n)->pC_ 60 [.agg (pgA p),.agg (s8R (cL p c k))] (.tup [.agg (s8R s2),obR o,.int .i64 n]) []:=fun s2 o n he=>by
  have:=hS
  rw[show(atI p (cL p c k).pc)=(enX p c k) from rfl,he] at this
  exact this
 have hgo:=fun(s2:S8) (o:List Ob) (q:(aQ p.W ((aP p.ms:Nat):Int) p.is.length (enX p c k) (cL p c k))=(s2,o,0))=>PureC.vc (wz p (c.b.getD k default).done (cL p c k) s2 o (hz _ _ _ q))
 have e:dS p c k=((c.b.getD k default).done.to (c9 p (tA p c k (enX p c k)).1),[⟨3,c9 p (tA p c k (enX p c k)).1⟩]):=by
  unfold dS ouV;rw[an k1,an k4,an k3,an k2,an k5,aq k7]
 have j:(if(p.is.length:Int)<(cH p c.s c.b k (enX p c k).a).1 then(p.is.length:Int) else(cH p c.s c.b k (enX p c k).a).1)=c9 p (tA p c k (enX p c k)).1:=by unfold c9 tA;omega
 have q:(aQ p.W ((aP p.ms:Nat):Int) p.is.length (enX p c k) (cL p c k))=((cL p c k).go (c9 p (tA p c k (enX p c k)).1),[⟨3,c9 p (tA p c k (enX p c k)).1⟩],0):=by
  unfold aQ
  rw[an k1,an k4,an k2,an k3,an k5,an (by omega),aq k7,va,j]
 rw[e]
 exact PureC.vc (Ji p c k hk h0 _ _ hR (hgo _ _ q) k1 k4 k2 k3 k5 k7)
theorem Jm(p:Pg)(c:Cf)(k:Nat)(hP:OkP p)(hI:Inv p c)(hF:Frs p c)(hM:MOk p c)(hb:c.b.length<=90)(hk:k<c.b.length)(hd:(c.b.getD k default).dn=false)(hK:cnK p c k (enX p c k)=true)(k9:(enX p c k).kind=9):pC_ 29 [.agg (pgA p),.agg (cfA c),.int .i64 k] (.tup [.agg (enA (dS p c k).1),obR (dS p c k).2]) []:=by
 have hb':c.b.length<1000000:=by omega
 have hml:=hI.ml
 have h0:=oi p c k hk
 have k2: ¬(enX p c k).kind=2:=by omega
 have k3: ¬(enX p c k).kind=3:=by omega
 have k1: ¬(enX p c k).kind=1:=by omega
 have k4: ¬(enX p c k).kind=4:=by omega
 have k5: ¬(enX p c k).kind=5:=by omega
 have k7: ¬(enX p c k).kind=7:=by omega
 obtain⟨⟨hkd,hxa,hxb,hxd,htg⟩,hpc⟩:=gY hP c k
 have hpc0:=(hI.be _ (cM hk)).pc
 have hst:=hI.st
 have hpcs: ∀e∈c.b, -1<=e.pc∧e.pc<=1000000:=fun e he=>by have:=(hI.be e he).pc;have:=hP.len;omega
 have hg9: ∀L:List Int,L.length<=4+k-> ∀(s2:S8) (o:List Ob) (n:Int),(aQ p.W ((aP p.ms:Nat):Int) p.is.length (enX p c k) ⟨0,0,0,0,[],L,(c.b.getD k default).pc⟩)=(s2,o,n)->pC_ 60 [.agg (pgA p),.agg (s8R ⟨0,0,0,0,[],L,(c.b.getD k default).pc⟩)] (.tup [.agg (s8R s2),obR o,.int .i64 n]) []:=fun L hL s2 o n he=>by
  have z:(0:Int)<=0∧(0:Int)<65536:=by decide
  have h:=wX p ⟨0,0,0,0,[],L,(c.b.getD k default).pc⟩ hP ⟨⟨z,z,z,z⟩,fun h=>(h:(enX p c k).kind=2∨(enX p c k).kind=3).elim (fun h=>absurd h k2) fun h=>absurd h k3,⟨by show -1<=(c.b.getD k default).pc;omega,hpc0.2⟩,by show L.length<=100;omega⟩ (bb _)
  rw[show(atI p (⟨0,0,0,0,[],L,(c.b.getD k default).pc⟩:S8).pc)=(enX p c k) from rfl,he] at h
  exact h
 have hflt: ∀L:List Int,L.length=0->(aQ p.W ((aP p.ms:Nat):Int) p.is.length (enX p c k) ⟨0,0,0,0,[],L,(c.b.getD k default).pc⟩)=(⟨0,0,0,0,[],L,(c.b.getD k default).pc⟩,[],2):=fun L h0=>by
  unfold aQ
  rw[an k1,an k4,an k2,an k3,an k5,an (by omega),an k7,an (by omega),aq k9,aq h0]
 have e: ∀R:En×Option Int×List Ob,ouV p c k=R->dS p c k=(match R with | (e,none,o)=>(e,o)| (e,some t,o)=>(e.to t,o)):=by
  rintro⟨e,t,o⟩ h
  unfold dS
  rw[h]
  cases t<;>rfl
 have h9:ouV p c k=(match reV p c.s.st c.b k with |none=>((c.b.getD k default).done.flt,none,[])|some L=>if L.length=0 then((c.b.getD k default).done.flt,none,[]) else((c.b.getD k default).done,some (bE L),[⟨3,bE L⟩])):=by
  unfold ouV
  rw[an k1,an k4,an k3,an k2,an k5,an k7]
  all_goals (cases reV p c.s.st c.b k<;>rfl)
 cases hv:reV p c.s.st c.b k with
 |none=>
  rw[hv] at h9
  rw[e _ h9]
  exact PureC.obs2 (o:=[]) (PureC.vc (Ab p c k hk h0 _ (yo p c.s.st c.b k hP (by omega) (by omega) hpcs hv) (PureC.vc (C0 p (c.b.getD k default).done ⟨0,0,0,0,[],[],(c.b.getD k default).pc⟩ _ _ 2 (by decide) (hg9 [] (bb _) _ _ _ (hflt [] rfl)))) k1 k4 k2 k3 k5 k7 k9))
 |some L=>
  rw[hv] at h9
  have hr:=Gl p c.s.st c.b k L hP (by omega) (by omega) hpcs hv
  have hL:L.length<=4+k:=by
   rw[mA p c.s.st c.b (Nat.le_of_lt hk)] at hv
   have:=kt p c.b k 0 _ L hv
   omega
  by_cases hz1:L.length=0
  ·rw[e _ (h9.trans (aq hz1))]
   exact PureC.obs2 (o:=[]) (PureC.vc (Aa p c k hk h0 _ L hr (PureC.vc (C0 p (c.b.getD k default).done ⟨0,0,0,0,[],L,(c.b.getD k default).pc⟩ _ _ 2 (by decide) (hg9 L hL _ _ _ (hflt L hz1)))) k1 k4 k2 k3 k5 k7 k9))
  ·rw[e _ (h9.trans (an hz1))]
   have q:(aQ p.W ((aP p.ms:Nat):Int) p.is.length (enX p c k) ⟨0,0,0,0,[],L,(c.b.getD k default).pc⟩)=(⟨0,0,0,0,[],L.take (L.length-1),bE L⟩,[⟨3,bE L⟩],0):=by
    unfold aQ bE
    rw[an k1,an k4,an k2,an k3,an k5,an (by omega),an k7,an (by omega),aq k9,an hz1,show((L.length:Int)-1).toNat=L.length-1 by omega]
   exact PureC.vc (z9 p c k hk h0 _ L _ hr (PureC.vc (wz p (c.b.getD k default).done ⟨0,0,0,0,[],L,(c.b.getD k default).pc⟩ _ _ (hg9 L hL _ _ _ q))) k1 k4 k2 k3 k5 k7 k9)
theorem NF(p:Pg)(c:Cf)(k:Nat)(hP:OkP p)(hI:Inv p c)(hF:Frs p c)(hM:MOk p c)(hb:c.b.length<=90)(hk:k<c.b.length)(hd:(c.b.getD k default).dn=false)(hK:cnK p c k (enX p c k)=true):pC_ 29 [.agg (pgA p),.agg (cfA c),.int .i64 k] (.tup [.agg (enA (dS p c k).1),obR (dS p c k).2]) []:=by
 by_cases k2:(enX p c k).kind=2
 ·exact Jr p c k hP hI hF hM hb hk hd hK k2
 by_cases k3:(enX p c k).kind=3
 ·exact Jq p c k hP hI hF hM hb hk hd hK k3
 by_cases k1:(enX p c k).kind=1
 ·exact Js p c k hP hI hF hM hb hk hd hK k1
 by_cases k4:(enX p c k).kind=4
 ·exact Jp p c k hP hI hF hM hb hk hd hK k4
 by_cases k5:(enX p c k).kind=5
 ·exact Jo p c k hP hI hF hM hb hk hd hK k5
 by_cases k7:(enX p c k).kind=7
 ·exact Jn p c k hP hI hF hM hb hk hd hK k7
 have k9:(enX p c k).kind=9:=by
  unfold cnK at hK
  rw[an k1,an k5,an k4,an k2,an k3,an k7] at hK
  exact ay.1 hK
 exact Jm p c k hP hI hF hM hb hk hd hK k9
theorem FO{a b:Nat}(h:a<b):Nat.blt a b=true:=by rw[bH];exact h
theorem xl{l:List En}{e:En}{k:Nat}(hk:k<l.length)(i j:Nat)(hj:j<8):(bif Nat.ble 0 j&&Nat.blt j (0+8)&&Nat.beq i (k+0) then(enA e).getD (j-0) .junk else ao enC l i j)=ao enC (l.set k e) i j:=by
 show(bif Nat.ble 0 j&&Nat.blt j 8&&Nat.beq i k then(enA e).getD j .junk else ao enC l i j)=_
 cases hq:Nat.beq i k with
 |true=>
  obtain rfl:=ar hq
  rw[dz hk,FO hj]
  rfl
 |false=>rw[fM (i:=i) (k:=k) hq,Bool.and_false];rfl
theorem Gm(l:List En)(e:En)(k:Nat)(hk:k<l.length)(hb:l.length<1000000):Vc (vF_ 67 [enR l, aI k,.agg (enA e)] [.fz,.bd false,.bd false] [(0,1)] (.tup [.own 0 0 8 0 (l.set k e).length,.bool true]) [enB (l.set k e)]):=aj (cj (df ((k:Int)<0)) (cj (df ((k:Int)>=l.length)) (cj (pv (l.length*48<=140737488355328∧l.length<=140737488355328)) (cj (bi k l.length) (cj (pv (k+0<l.length)) (cj (show l.length=(List.set l k e).length from by rw[az]) (cj (show ∀(i:Nat),i<l.length-> ∀(j:Nat),j<8->(bif Nat.ble (0:Nat) j&&Nat.blt j (8:Nat)&&Nat.beq i (k+0) then List.getD [aI e.pc,aI e.val,aI e.adr,aI e.frm,aI e.nxt,AV.bool e.dn,AV.bool e.kn,AV.bool e.ft] (j-0) AV.junk else ao enC l i j)=ao enC (List.set l k e) i j from(fun i hi j hj=>xl hk i j hj)) (cj (rf (0:Nat)) (cj (show l.length=(List.set l k e).length from by rw[az]) (cj (rf true) trivial))))))))))
theorem Lr(l:List En)(e:En)(k:Nat)(hk:k<l.length)(hb:l.length<1000000):pC_ 67 [enR l,.int .i64 k,.agg (enA e)] (.tup [.own 0 0 8 0 (l.set k e).length,.bool true]) [enB (l.set k e)]:=PureC.vc (Gm l e k hk hb)
theorem Ls(l:List En)(e:En)(k:Nat)(hk:k<l.length)(hb:l.length<1000000):pC_ 67 [enR l,.int .i64 k,.agg (enA e)] (.tup [enR (l.set k e),.bool true]) []:=(Lr l e k hk hb).frozenT
theorem l9(c:Cf){Z:Prop}(z:Z):(RF c.s.r0 (RF c.s.r1 (RF c.s.r2 (RF c.s.r3 (RF c.s.m.length (RR c.s.m.length 1 (fun i j=>aI (List.getD c.s.m i 0)) (RF c.s.st.length (RR c.s.st.length 1 (fun i j=>aI (List.getD c.s.st i 0)) (RF c.s.pc Z))))))))):=⟨rfl,rfl,rfl,rfl,rfl,fun _ _ _ _=>rfl,rfl,fun _ _ _ _=>rfl,rfl,z⟩
theorem D5(c:Cf)(k:Nat)(e:En)(h1:pC_ 66 [.agg (s8R c.s)] (.agg (cfA ⟨c.s,[],[],0⟩)) [])(h2:pC_ 67 [enR c.b, aI k,.agg (enA e)] (.tup [enR (c.b.set k e),.bool true]) [])(h3:pC_ 68 [lR c.r] (lR c.r) []):Vc (vF_ 30 [.agg (cfA c), aI k,.agg (enA e)] [.fv,.fv,.cl [.agg (s8R c.s)] (.agg (cfA ⟨c.s,[],[],0⟩)) [],.cl [enR c.b, aI k,.agg (enA e)] (.tup [enR (c.b.set k e),.bool true]) [],.cl [lR c.r] (lR c.r) []] [] (.agg (cfA ⟨c.s,c.b.set k e,c.r,0⟩)) []):=aj (l9 c (cj h1 (cj (rf c.b.length) (cj (rr c.b.length 8 fun i j=>ao enC c.b i j) (cj (rf (k:Int)) (cj (rf e.pc) (cj (rf e.val) (cj (rf e.adr) (cj (rf e.frm) (cj (rf e.nxt) (cj (rf e.dn) (cj (rf e.kn) (cj (rf e.ft) (cj h2 (cj (rf c.r.length) (cj (rr c.r.length 1 fun i j=>aI (c.r.getD i 0)) (cj h3 (l9 c (cj (rf ((List.set c.b k e).length)) (cj (rr ((List.set c.b k e).length) 8 fun i j=>ao enC (List.set c.b k e) i j) (cj (rf c.r.length) (cj (rr c.r.length 1 fun i j=>aI (c.r.getD i 0)) (cj (rf (0:Int)) trivial)))))))))))))))))))))))
theorem I3(c:Cf)(k:Nat)(e:En)(hk:k<c.b.length)(hb:c.b.length<1000000)(hm:c.s.m.length<=1000000)(hs:c.s.st.length<=1000000)(hr:c.r.length<=1000000):pC_ 30 [.agg (cfA c),.int .i64 k,.agg (enA e)] (.agg (cfA ⟨c.s,c.b.set k e,c.r,0⟩)) []:=PureC.vc (D5 c k e (LK c.s hm hs) (Ls c.b e k hk hb) (nQ c.r hr))
theorem wC(c:Cf)(n pc:Int)(b2:List En)(h1:pC_ 69 [enR c.b, aI n] (enR b2) []):Vc (vF_ 31 [.agg (cfA c), aI n, aI pc] [.cl [enR c.b, aI n] (enR b2) []] [] (.agg (cfA ⟨c.s.go pc,b2,c.r,c.e⟩)) []):=aj (cj (rf c.b.length) (cj (rr c.b.length 8 fun i j=>ao enC c.b i j) (cj (rf n) (cj h1 (cj (rf c.s.r0) (cj (rf c.s.r1) (cj (rf c.s.r2) (cj (rf c.s.r3) (cj (rf c.s.m.length) (cj (rr c.s.m.length 1 fun i j=>aI (List.getD c.s.m i 0)) (cj (rf c.s.st.length) (cj (rr c.s.st.length 1 fun i j=>aI (List.getD c.s.st i 0)) (cj (rf pc) (cj (rf b2.length) (cj (rr b2.length 8 fun i j=>ao enC b2 i j) (cj (rf c.r.length) (cj (rr c.r.length 1 fun i j=>aI (c.r.getD i 0)) (cj (rf c.e) trivial))))))))))))))))))
theorem HN{Z:Prop}(z:Z):(RF (0:Int) (RF (0:Int) (RF (0:Int) (RF (0:Int) (RF (0:Nat) (RF (0:Nat) (RF (0:Int) (RF (0:Nat) (RF (0:Nat) Z))))))))):=⟨rfl,rfl,rfl,rfl,rfl,rfl,rfl,rfl,rfl,z⟩
theorem l8(c:Cf){Z:Prop}(z:Z):(RR c.s.m.length 1 (fun i j=>aI (List.getD c.s.m i 0)) (RF c.s.st.length (RR c.s.st.length 1 (fun i j=>aI (List.getD c.s.st i 0)) (RF c.s.pc (RF c.b.length (RR c.b.length 8 (fun i j=>ao enC c.b i j) (RF c.r.length (RR c.r.length 1 (fun i j=>aI (c.r.getD i 0)) (RF c.e Z))))))))):=⟨fun _ _ _ _=>rfl,rfl,fun _ _ _ _=>rfl,rfl,rfl,fun _ _ _ _=>rfl,rfl,fun _ _ _ _=>rfl,rfl,z⟩
theorem l7(p:Pg)(c:Cf){Z:Prop}(z:Z):(RF p.ls.length (RR p.ls.length 2 (fun i j=>ao lbC p.ls i j) (RF p.is.length (RR p.is.length 9 (fun i j=>ao inC p.is i j) (RF c.s.r0 (RF c.s.r1 (RF c.s.r2 (RF c.s.r3 (RF c.s.m.length Z))))))))):=⟨rfl,fun _ _ _ _=>rfl,rfl,fun _ _ _ _=>rfl,rfl,rfl,rfl,rfl,rfl,z⟩
theorem jW(p:Pg){Z:Prop}(z:Z):(RF p.W (RF p.win (RF p.fuel (RF p.r0 (RF p.r1 (RF p.r2 (RF p.r3 (RF p.ms.length (RR p.ms.length 3 (fun i j=>ao mmC p.ms i j) Z))))))))):=⟨rfl,rfl,rfl,rfl,rfl,rfl,rfl,rfl,fun _ _ _ _=>rfl,z⟩
theorem Jh(p:Pg)(c:Cf)(i:Int)(h:pC_ 17 [.agg (pgA p),.agg (cfA c), aI i] (.bool false) []):Vc (vF_ 9 [.agg (pgA p),.agg (cfA c), aI i] [.fv,.fv,.cl [.agg (pgA p),.agg (cfA c), aI i] (.bool false) []] [] (.tup [.agg (cfA Cf0),.nils,.bool false]) []):=aj (jW p (l7 p c (l8 c (cj (rf i) (cj h (HN (cj (rf (0:Int)) (cj (rf false) trivial))))))))
theorem Nk(c:Cf)(k:Nat)(e1:En){Z:Prop}(z:Z):(RF ((List.set c.b k e1).length) (RR ((List.set c.b k e1).length) 8 (fun i j=>ao enC (List.set c.b k e1) i j) (RF c.r.length (RR c.r.length 1 (fun i j=>aI (c.r.getD i 0)) (RF (0:Int) (RF true Z)))))):=⟨rfl,fun _ _ _ _=>rfl,rfl,fun _ _ _ _=>rfl,rfl,rfl,z⟩
theorem vS(e1:En){Z:Prop}(z:Z):(RF e1.frm (RF e1.nxt (RF e1.dn (RF e1.kn (RF e1.ft Z))))):=⟨rfl,rfl,rfl,rfl,rfl,z⟩
theorem vR(c:Cf)(k:Nat)(e1:En){Z:Prop}(z:Z):(RF c.b.length (RR c.b.length 8 (fun i j=>ao enC c.b i j) (RF c.r.length (RR c.r.length 1 (fun i j=>aI (c.r.getD i 0)) (RF c.e (RF (k:Int) (RF e1.pc (RF e1.val (RF e1.adr Z))))))))):=⟨rfl,fun _ _ _ _=>rfl,rfl,fun _ _ _ _=>rfl,rfl,rfl,rfl,rfl,rfl,z⟩
abbrev xH(c:Cf)(k:Nat)(e1:En):Prop:=PureC Tryz.prog 30 [.agg (cfA c),.int .i64 k,.agg (enA e1)] (.agg (cfA ⟨c.s,c.b.set k e1,c.r,0⟩)) []
abbrev KI(p:Pg)(c:Cf)(k:Nat):Prop:=PureC Tryz.prog 17 [.agg (pgA p),.agg (cfA c),.int .i64 k] (.bool true) []
abbrev xX(c:Cf)(k:Nat)(e1:En):Orc:= .cl [.agg (cfA c), aI k,.agg (enA e1)] (.agg (cfA ⟨c.s,c.b.set k e1,c.r,0⟩)) []
abbrev xY(p:Pg)(c:Cf)(k:Nat):Orc:= .cl [.agg (pgA p),.agg (cfA c), aI k] (.bool true) []
theorem Nj(c:Cf)(e1:En){Z:Prop}(z:Z):(RF c.s.r0 (RF c.s.r1 (RF c.s.r2 (RF c.s.r3 (RF c.s.m.length (RR c.s.m.length 1 (fun i j=>aI (List.getD c.s.m i 0)) (RF c.s.st.length (RR c.s.st.length 1 (fun i j=>aI (List.getD c.s.st i 0)) (RF e1.nxt Z))))))))):=⟨rfl,rfl,rfl,rfl,rfl,fun _ _ _ _=>rfl,rfl,fun _ _ _ _=>rfl,rfl,z⟩
theorem Ni(c:Cf)(k:Nat)(e1:En){Z:Prop}(z:Z):(RF ((List.set c.b k e1).length) (RR ((List.set c.b k e1).length) 8 (fun i j=>ao enC (List.set c.b k e1) i j) (RF c.r.length (RR c.r.length 1 (fun i j=>aI (c.r.getD i 0)) (RF (0:Int) (RF ((k:Int)+1) (RF e1.nxt Z))))))):=⟨rfl,fun _ _ _ _=>rfl,rfl,fun _ _ _ _=>rfl,rfl,rfl,rfl,z⟩
abbrev Oc(c:Cf)(k:Nat)(e1:En):Prop:=PureC Tryz.prog 31 [.agg (cfA (⟨c.s,c.b.set k e1,c.r,0⟩:Cf)),.int .i64 ((k:Int)+1),.int .i64 e1.nxt] (.agg (cfA ⟨(⟨c.s,c.b.set k e1,c.r,0⟩:Cf).s.go e1.nxt,((c.b.set k e1).take (k+1)),(⟨c.s,c.b.set k e1,c.r,0⟩:Cf).r,(⟨c.s,c.b.set k e1,c.r,0⟩:Cf).e⟩)) []
abbrev Ol(c:Cf)(k:Nat)(e1:En):Orc:= .cl [.agg (cfA (⟨c.s,c.b.set k e1,c.r,0⟩:Cf)), aI (k+1), aI e1.nxt] (.agg (cfA ⟨(⟨c.s,c.b.set k e1,c.r,0⟩:Cf).s.go e1.nxt,((c.b.set k e1).take (k+1)),(⟨c.s,c.b.set k e1,c.r,0⟩:Cf).r,(⟨c.s,c.b.set k e1,c.r,0⟩:Cf).e⟩)) []
theorem wA(p:Pg)(c:Cf)(k:Nat)(hk:k<c.b.length)(hb:c.b.length<1000000)(e1:En)(o:List Ob)(h1:KI p c k)(h2:pC_ 29 [.agg (pgA p),.agg (cfA c), aI k] (.tup [.agg (enA e1),(obR o)]) [])(h3:xH c k e1)(hx:e1.nxt=(c.b.getD k default).nxt):Vc (vF_ 9 [.agg (pgA p),.agg (cfA c), aI k] [.fv,.fv,xY p c k,.cl [.agg (pgA p),.agg (cfA c), aI k] (.tup [.agg (enA e1),(obR o)]) [],xX c k e1,.bd false] [] (.tup [.agg (cfA ⟨c.s,c.b.set k e1,c.r,0⟩),(obR o),.bool true]) []):=aj (jW p (l7 p c (l8 c (cj (rf (k:Int)) (cj h1 (jW p (l7 p c (l8 c (cj (rf (k:Int)) (cj h2 (l9 c (vR c k e1 (vS e1 (cj h3 (cj (bi (k:Int) (↑c.b.length:Int)) (cj (bq ((e1.nxt !=(c.b.getD k default).nxt)=false)) (l9 c (cj (rf ((List.set c.b k e1).length)) (cj (rr ((List.set c.b k e1).length) 8 fun i j=>ao enC (List.set c.b k e1) i j) (cj (rf c.r.length) (cj (rr c.r.length 1 fun i j=>aI (c.r.getD i 0)) (cj (rf (0:Int)) (cj (rf o.length) (cj (rr o.length 2 fun i j=>ao obC o i j) (cj (rf true) trivial)))))))))))))))))))))))))
theorem Ek(p:Pg)(c:Cf)(k:Nat)(hk:k<c.b.length)(hb:c.b.length<1000000)(e1:En)(o:List Ob)(h1:KI p c k)(h2:pC_ 29 [.agg (pgA p),.agg (cfA c), aI k] (.tup [.agg (enA e1),(obR o)]) [])(h3:xH c k e1)(hx: ¬e1.nxt=(c.b.getD k default).nxt)(h4:Oc c k e1):Vc (vF_ 9 [.agg (pgA p),.agg (cfA c), aI k] [.fv,.fv,xY p c k,.cl [.agg (pgA p),.agg (cfA c), aI k] (.tup [.agg (enA e1),(obR o)]) [],xX c k e1,.bd true,Ol c k e1] [] (.tup [.agg (cfA ⟨c.s.go e1.nxt,(c.b.set k e1).take (k+1),c.r,0⟩),(obR o),.bool true]) []):=aj (jW p (l7 p c (l8 c (cj (rf (k:Int)) (cj h1 (jW p (l7 p c (l8 c (cj (rf (k:Int)) (cj h2 (l9 c (vR c k e1 (vS e1 (cj h3 (cj (bi (k:Int) (↑c.b.length:Int)) (cj (bq ((e1.nxt !=(c.b.getD k default).nxt)=true)) (cj (i6 ((k:Int)+1)) (l9 c (Ni c k e1 (cj h4 (Nj c e1 (cj (rf ((List.take (k+1) (List.set c.b k e1)).length)) (cj (rr ((List.take (k+1) (List.set c.b k e1)).length) 8 fun i j=>ao enC (List.take (k+1) (List.set c.b k e1)) i j) (cj (rf c.r.length) (cj (rr c.r.length 1 fun i j=>aI (c.r.getD i 0)) (cj (rf (0:Int)) (cj (rf o.length) (cj (rr o.length 2 fun i j=>ao obC o i j) (cj (rf true) trivial)))))))))))))))))))))))))))))
theorem NJ(p:Pg)(c:Cf)(i:Int)(h:pC_ 18 [.agg (pgA p),.agg (cfA c), aI i] (.bool false) []):Vc (vF_ 14 [.agg (pgA p),.agg (cfA c), aI i] [.fv,.fv,.cl [.agg (pgA p),.agg (cfA c), aI i] (.bool false) []] [] (.tup [.agg (cfA Cf0),.nils,.bool false]) []):=aj (jW p (l7 p c (l8 c (cj (rf i) (cj h (HN (cj (rf (0:Int)) (cj (rf false) trivial))))))))
abbrev Fz(p:Pg)(c:Cf)(k:Nat):Prop:=PureC Tryz.prog 18 [.agg (pgA p),.agg (cfA c),.int .i64 k] (.bool true) []
theorem NM(p:Pg)(c:Cf)(k:Nat)(e1:En)(hk:k<c.b.length)(hb:c.b.length<1000000)(h1:Fz p c k)(h2:pC_ 45 [.agg (pgA p),.agg (cfA c), aI k] (.tup [.agg (enA e1),.bool false]) [])(h3:xH c k e1):Vc (vF_ 14 [.agg (pgA p),.agg (cfA c), aI k] [.fv,.fv,xY p c k,.cl [.agg (pgA p),.agg (cfA c), aI k] (.tup [.agg (enA e1),.bool false]) [],xX c k e1] [] (.tup [.agg (cfA ⟨c.s,c.b.set k e1,c.r,0⟩),.nils,.bool true]) []):=aj (jW p (l7 p c (l8 c (cj (rf (k:Int)) (cj h1 (jW p (l7 p c (l8 c (cj (rf (k:Int)) (cj h2 (l9 c (vR c k e1 (vS e1 (cj h3 (l9 c (Nk c k e1 trivial))))))))))))))))
theorem Cw(p:Pg)(c:Cf)(k:Nat)(e1:En){Z:Prop}(z:Z):(RF p.ls.length (RR p.ls.length 2 (fun i j=>ao lbC p.ls i j) (RF p.is.length (RR p.is.length 9 (fun i j=>ao inC p.is i j) (RF c.b.length (RR c.b.length 8 (fun i j=>ao enC c.b i j) (RF (k:Int) (RF e1.adr Z)))))))):=⟨rfl,fun _ _ _ _=>rfl,rfl,fun _ _ _ _=>rfl,rfl,fun _ _ _ _=>rfl,rfl,rfl,z⟩
abbrev KH(p:Pg)(c:Cf)(k:Nat)(e1:En):Prop:=PureC Tryz.prog 45 [.agg (pgA p),.agg (cfA c),.int .i64 k] (.tup [.agg (enA e1),.bool true]) []
theorem NK(p:Pg)(c:Cf)(k:Nat)(e1:En)(hk:k<c.b.length)(hb:c.b.length<1000000)(h1:Fz p c k)(h2:KH p c k e1)(h3:xH c k e1)(h:Int)(h4:pC_ 46 [.agg (pgA p),enR c.b, aI k, aI e1.adr] (.tup [aI h,.bool false]) []):Vc (vF_ 14 [.agg (pgA p),.agg (cfA c), aI k] [.fv,.fv,xY p c k,.cl [.agg (pgA p),.agg (cfA c), aI k] (.tup [.agg (enA e1),.bool true]) [],xX c k e1,.cl [.agg (pgA p),enR c.b, aI k, aI e1.adr] (.tup [aI h,.bool false]) [],.cl [aI 2, aI e1.adr] (obR [⟨2,e1.adr⟩]) []] [] (.tup [.agg (cfA ⟨c.s,c.b.set k e1,c.r,0⟩),(obR [⟨2,e1.adr⟩]),.bool true]) []):=aj (jW p (l7 p c (l8 c (cj (rf (k:Int)) (cj h1 (jW p (l7 p c (l8 c (cj (rf (k:Int)) (cj h2 (l9 c (vR c k e1 (vS e1 (cj h3 (jW p (Cw p c k e1 (cj h4 (cj (rf (2:Int)) (cj (rf e1.adr) (cj (Ej 2 e1.adr) (l9 c (cj (rf ((List.set c.b k e1).length)) (cj (rr ((List.set c.b k e1).length) 8 fun i j=>ao enC (List.set c.b k e1) i j) (cj (rf c.r.length) (cj (rr c.r.length 1 fun i j=>aI (c.r.getD i 0)) (cj (rf (0:Int)) (cj (rf (1:Nat)) (cj (rr 1 2 fun i j=>ao obC [Ob.mk (2:Int) e1.adr] i j) (cj (rf true) trivial)))))))))))))))))))))))))))))
theorem NL(p:Pg)(c:Cf)(k:Nat)(e1:En)(hk:k<c.b.length)(hb:c.b.length<1000000)(h1:Fz p c k)(h2:KH p c k e1)(h3:xH c k e1)(q:Nat)(hq:q<c.b.length)(h4:pC_ 46 [.agg (pgA p),enR c.b, aI k, aI e1.adr] (.tup [aI q,.bool true]) [])(h5:pC_ 31 [.agg (cfA (⟨c.s,c.b.set k e1,c.r,0⟩:Cf)), aI q, aI (c.b.getD q default).pc] (.agg (cfA ⟨(⟨c.s,c.b.set k e1,c.r,0⟩:Cf).s.go (c.b.getD q default).pc,((c.b.set k e1).take q),(⟨c.s,c.b.set k e1,c.r,0⟩:Cf).r,(⟨c.s,c.b.set k e1,c.r,0⟩:Cf).e⟩)) []):Vc (vF_ 14 [.agg (pgA p),.agg (cfA c), aI k] [.fv,.fv,xY p c k,.cl [.agg (pgA p),.agg (cfA c), aI k] (.tup [.agg (enA e1),.bool true]) [],xX c k e1,.cl [.agg (pgA p),enR c.b, aI k, aI e1.adr] (.tup [aI q,.bool true]) [],.cl [.agg (cfA (⟨c.s,c.b.set k e1,c.r,0⟩:Cf)), aI q, aI (c.b.getD q default).pc] (.agg (cfA ⟨(⟨c.s,c.b.set k e1,c.r,0⟩:Cf).s.go (c.b.getD q default).pc,((c.b.set k e1).take q),(⟨c.s,c.b.set k e1,c.r,0⟩:Cf).r,(⟨c.s,c.b.set k e1,c.r,0⟩:Cf).e⟩)) [],.cl [aI 2, aI e1.adr] (obR [⟨2,e1.adr⟩]) []] [] (.tup [.agg (cfA ⟨c.s.go (c.b.getD q default).pc,(c.b.set k e1).take q,c.r,0⟩),(obR [⟨2,e1.adr⟩]),.bool true]) []):=aj (jW p (l7 p c (l8 c (cj (rf (k:Int)) (cj h1 (jW p (l7 p c (l8 c (cj (rf (k:Int)) (cj h2 (l9 c (vR c k e1 (vS e1 (cj h3 (jW p (Cw p c k e1 (cj h4 (cj (bi (q:Int) (↑c.b.length:Int)) (l9 c (cj (rf ((List.set c.b k e1).length)) (cj (rr ((List.set c.b k e1).length) 8 fun i j=>ao enC (List.set c.b k e1) i j) (cj (rf c.r.length) (cj (rr c.r.length 1 fun i j=>aI (c.r.getD i 0)) (cj (rf (0:Int)) (cj (rf (q:Int)) (cj (rf ((c.b.getD q default).pc)) (cj h5 (cj (rf (2:Int)) (cj (rf e1.adr) (cj (Ej 2 e1.adr) (cj (rf c.s.r0) (cj (rf c.s.r1) (cj (rf c.s.r2) (cj (rf c.s.r3) (cj (rf c.s.m.length) (cj (rr c.s.m.length 1 fun i j=>aI (List.getD c.s.m i (0:Int))) (cj (rf c.s.st.length) (cj (rr c.s.st.length 1 fun i j=>aI (List.getD c.s.st i (0:Int))) (cj (rf ((c.b.getD q default).pc)) (cj (rf ((List.take q (List.set c.b k e1)).length)) (cj (rr ((List.take q (List.set c.b k e1)).length) 8 fun i j=>ao enC (List.take q (List.set c.b k e1)) i j) (cj (rf c.r.length) (cj (rr c.r.length 1 fun i j=>aI (c.r.getD i 0)) (cj (rf (0:Int)) (cj (rf (1:Nat)) (cj (rr 1 2 fun i j=>ao obC [Ob.mk (2:Int) e1.adr] i j) (cj (rf true) trivial)))))))))))))))))))))))))))))))))))))))))))))))
theorem o9(p:Pg)(l l':List En)(i a:Int): ∀j k,(∀q,k<=q->l.getD q default=l'.getD q default)->hzG p l i a k j=hzG p l' i a k j
 |0,_,_=>rfl
 |j+1,k,h=>by
  have e:=h k (aB _)
  have e2:hzB p l i a k↔hzB p l' i a k:=by unfold hzB enI;rw[e]
  unfold hzG
  simp only[e2,o9 p l l' i a j (k+1) fun q hq=>h q (by omega)]
theorem BP(p:Pg)(l:List En)(k:Nat)(e:En)(a:Int)(hk:k<l.length):hzV p (l.set k e) k a=hzV p l k a:=by
 unfold hzV
 rw[az,o9 p (l.set k e) l k a _ (hz0 k l.length) fun q hq=> ?_]
 rw[jc hk,an]
 unfold hz0 at hq
 omega
theorem xaC(p:Pg)(c:Cf)(i:Int)(hP:OkP p)(hI:Inv p c)(hM:MOk p c):pC_ 14 [.agg (pgA p),.agg (cfA c),.int .i64 i] (dmA (adrO p c i)) []:=by
 have hb:c.b.length<1000000:=by have:=hM.bl;omega
 have hC:=Ju p c i hb hM.sm
 unfold adrO
 cases hc:caV p c i with
 |false=>rw[hc] at hC;exact PureC.vc (NJ p c i hC)
 |true=>
  rw[hc] at hC
  have he:=zo hc
  have ht: ∀k:Nat,i=k->tAB p c k (enX p c k)=true:=fun k hk=>by
   subst hk
   unfold caV at hc
   simp only[aC,av] at hc
   exact hc.2.2.2
  obtain⟨k,rfl,hk,hn,hK⟩:=nU hc
  replace ht:=ht k rfl
  have key: ∀(s_:S8) (b_:List En) (r_:List Int) (o:AV),pC_ 14 [.agg (pgA p),.agg (cfA c),.int .i64 k] (.tup [.agg (cfA ⟨s_,b_,r_,0⟩),o,.bool true]) []->pC_ 14 [.agg (pgA p),.agg (cfA c),.int .i64 k] (.tup [.agg (cfA ⟨s_,b_,r_,c.e⟩),o,.bool true]) []:=fun _ _ _ _ h=>by rw[he];exact h
  rw[aq rfl,aC]
  have hA:=Ac p c k hk hb hM.sm
  rw[ht,aq rfl] at hA
  have hml:=hI.ml
  have hst:=hM.st
  have hrl:=hM.rl
  have hmm:=hM.ml
  have hW:=fun e=>I3 c k e hk hb (by omega) (by omega) (by omega)
  unfold qi
  by_cases ho:(c.s.m.length:Int)<=adV p c k (enX p c k)
  ·rw[aq ho]
   have hL:=PureC.vc (CZ p c k hk _ _ (by omega) hA (zk p hP))
   have:=PureC.vc (NM p c k ⟨(c.b.getD k default).pc,(c.b.getD k default).val,adV p c k (enX p c k),(c.b.getD k default).frm,(c.b.getD k default).nxt,(c.b.getD k default).dn,true,true⟩ hk hb hC hL (hW _))
   exact key _ _ _ _ this
  ·rw[an ho]
   have hL:=PureC.vc (CY p c k hk _ _ (by omega) hA (zk p hP))
   have hH:=Oy p c.b k (adV p c k (enX p c k)) hb
   unfold upE
   rw[BP p c.b k _ _ hk]
   cases hz:hzV p c.b k (adV p c k (enX p c k)) with
   |mk h y=>
    rw[hz] at hH
    cases y with
    |false=>
     have:=PureC.vc (NK p c k ⟨(c.b.getD k default).pc,(c.b.getD k default).val,adV p c k (enX p c k),(c.b.getD k default).frm,(c.b.getD k default).nxt,(c.b.getD k default).dn,true,(c.b.getD k default).ft⟩ hk hb hC hL (hW _) h hH)
     exact key _ _ _ _ this
    |true=>
     obtain⟨q,rfl,hq⟩:=nE hz
     have hl:(c.b.set k ⟨(c.b.getD k default).pc,(c.b.getD k default).val,adV p c k (enX p c k),(c.b.getD k default).frm,(c.b.getD k default).nxt,(c.b.getD k default).dn,true,(c.b.getD k default).ft⟩).length=c.b.length:=az ..
     have hc4:=s6 (c.b.set k ⟨(c.b.getD k default).pc,(c.b.getD k default).val,adV p c k (enX p c k),(c.b.getD k default).frm,(c.b.getD k default).nxt,(c.b.getD k default).dn,true,(c.b.getD k default).ft⟩) q q (by rw[hl];omega) (by rw[hl];exact hb)
     have:=PureC.vc (NL p c k ⟨(c.b.getD k default).pc,(c.b.getD k default).val,adV p c k (enX p c k),(c.b.getD k default).frm,(c.b.getD k default).nxt,(c.b.getD k default).dn,true,(c.b.getD k default).ft⟩ hk hb hC hL (hW _) q hq hH (PureC.vc (wC ⟨c.s,c.b.set k ⟨(c.b.getD k default).pc,(c.b.getD k default).val,adV p c k (enX p c k),(c.b.getD k default).frm,(c.b.getD k default).nxt,(c.b.getD k default).dn,true,(c.b.getD k default).ft⟩,c.r,0⟩ q _ _ hc4)))
     have e1:((c.b.set k ((c.b.getD k default).ad (adV p c k (enX p c k)))).getD q default).pc=(c.b.getD q default).pc:=kY (l:=c.b) (k:=k) (g:=fun e=>e.ad (adV p c k (enX p c k))) (fun _=>rfl) q
     show PureC _ _ _ (dmA (some (⟨c.s.go ((c.b.set k ((c.b.getD k default).ad _)).getD q default).pc,_,c.r,c.e⟩,_))) []
     rw[e1]
     exact key _ _ _ _ this
theorem xdC(p:Pg)(c:Cf)(i:Int)(hP:OkP p)(hI:Inv p c)(hF:Frs p c)(hM:MOk p c)(hb:c.b.length<=90):pC_ 9 [.agg (pgA p),.agg (cfA c),.int .i64 i] (.tup [.agg (cfA (dmT (doO p c i)).1),obR (dmT (doO p c i)).2.1,.bool (dmT (doO p c i)).2.2]) []:=by
 have hC:=Jt p c i (by omega) hM.sm hP hI.ml
 cases hc:cnV p c i with
 |false=>
  have e:doO p c i=none:=by unfold doO;rw[an (by rw[hc];decide)]
  rw[hc] at hC
  rw[e]
  exact PureC.obs (o:=[]) (PureC.vc (Jh p c i hC))
 |true=>
  have he:=zh hc
  obtain⟨k,rfl,hk,hd,hK⟩:=jQ hc
  have e:doO p c k=some (apl c k (ouV p c k).1 (ouV p c k).2.1,(ouV p c k).2.2):=by unfold doO;rw[aq hc,aC,y8 p c k hk]
  rw[hc] at hC
  rw[e]
  have hst:=hM.st
  have hml:=hM.ml
  have hrl:=hM.rl
  have h2:=NF p c k hP hI hF hM hb hk hd hK
  have h3:=I3 c k (dS p c k).1 hk (by omega) (by omega) (by omega) (by omega)
  obtain⟨s,b,r,q⟩:=c
  obtain rfl:q=0:=he
  obtain⟨u1,u2,u3,u4⟩:=Dn p ⟨s,b,r,0⟩ k
  generalize hu:ouV p ⟨s,b,r,0⟩ k=R at u1 u2 u3 u4
  unfold dS at h2 h3
  rw[hu] at h2 h3
  obtain⟨e1,t,o⟩:=R
  replace hk:k<b.length:=hk
  replace hb:b.length<=90:=hb
  have hg:(b.set k e1).getD k default=e1:=by rw[jc hk,aq rfl]
  cases t with
  |none=>exact PureC.vc (wA p ⟨s,b,r,0⟩ k hk (by show b.length<_;omega) _ o hC h2 h3 u3)
  |some t=>
   unfold apl goV
   by_cases hx:((b.set k e1).getD k default).nxt=t
   ·have ht:e1.to t=e1:=by rw[hg] at hx;cases e1;cases hx;rfl
    have:=wA p ⟨s,b,r,0⟩ k hk (by show b.length<_;omega) (e1.to t) o hC h2 h3 (by show t=_;rw[<-hx,hg];exact u3)
    show PureC _ _ _ (.tup [.agg (cfA (if((b.set k e1).getD k default).nxt=t then _ else _)),_,_]) []
    rw[aq hx]
    rw[ht] at this
    exact PureC.vc this
   ·have h4:=s6 (b.set k (e1.to t)) ((k:Int)+1) (k+1) (by rw[az];omega) (by rw[az];omega)
    have:=Ek p ⟨s,b,r,0⟩ k hk (by show b.length<_;omega) (e1.to t) o hC h2 h3 (by show ¬t=_;rw[hg] at hx;intro h;exact hx (by rw[h];exact u3)) (PureC.vc (wC ⟨s,b.set k (e1.to t),r,0⟩ ((k:Int)+1) t _ h4))
    show PureC _ _ _ (.tup [.agg (cfA (if((b.set k e1).getD k default).nxt=t then _ else _)),_,_]) []
    rw[an hx,hg,n9]
    exact PureC.vc this
theorem Kb(p:Pg)(c:Cf)(i:Int)(hk:BOk p c):pC_ 13 [.agg (pgA p),.agg (cfA c),.int .i64 i] (.tup [.agg (cfA (dmT (doO p c i)).1),obR (dmT (doO p c i)).2.1,.bool (dmT (doO p c i)).2.2]) []:=PureC.dmT (Kz p c i hk.m.bl hk.m.ml hk.m.sm hk.m.sm' hk.m.st hk.m.bp)
theorem Kc(p:Pg)(c:Cf)(i:Int)(hk:BOk p c):pC_ 15 [.agg (pgA p),.agg (cfA c),.int .i64 i] (.tup [.agg (cfA (dmT (adrO p c i)).1),obR (dmT (adrO p c i)).2.1,.bool (dmT (adrO p c i)).2.2]) []:=PureC.dmT (KG p c i hk.m.bl hk.m.ml hk.m.sm)
theorem MY(p:Pg)(c:Cf)(i:Int):cnV p c i=(dmT (doO p c i)).2.2:=by
 unfold doO
 cases cnV p c i<;>rfl
theorem M6(p:Pg)(c:Cf)(i:Int):caV p c i=(dmT (adrO p c i)).2.2:=by
 unfold adrO
 cases caV p c i<;>rfl
theorem nl(p:Pg)(c:Cf)(i:Int)(hk:BOk p c):pC_ 9 [.agg (pgA p),.agg (cfA c),.int .i64 i] (.tup [.agg (cfA (dmT (doO p c i)).1),obR (dmT (doO p c i)).2.1,.bool (dmT (doO p c i)).2.2]) []:=xdC p c i hk.P hk.x.I hk.x.F hk.m hk.bl
theorem Bn(p:Pg)(c:Cf)(i:Int)(hk:BOk p c):pC_ 14 [.agg (pgA p),.agg (cfA c),.int .i64 i] (.tup [.agg (cfA (dmT (adrO p c i)).1),obR (dmT (adrO p c i)).2.1,.bool (dmT (adrO p c i)).2.2]) []:=PureC.dmT (xaC p c i hk.P hk.x.I hk.m)
theorem Gi(p:Pg)(c:Cf)(i:Int)(hk:BOk p c):pC_ 17 [.agg (pgA p),.agg (cfA c),.int .i64 i] (.bool (dmT (doO p c i)).2.2) []:=by
 rw[<-MY]
 exact Jt p c i (by have:=hk.bl;omega) hk.m.sm hk.P hk.x.I.ml
theorem Gh(p:Pg)(c:Cf)(i:Int)(hk:BOk p c):pC_ 18 [.agg (pgA p),.agg (cfA c),.int .i64 i] (.bool (dmT (adrO p c i)).2.2) []:=by
 rw[<-M6]
 exact Ju p c i (by have:=hk.bl;omega) hk.m.sm
def KV(p:Pg):Bool:=p.is.all (fun i=>decide ((1<=i.kind∧i.kind<=12)∧(i.a.reg=true->0<=i.a.n∧i.a.n<4)∧(i.b.reg=true->0<=i.b.n∧i.b.n<4)∧(0<=i.d∧i.d<4)∧(0<=i.tg∧i.tg<=p.is.length)))&&decide (p.is.length<1000)&&decide (p.ms.length<1000)&&decide (aP p.ms<=16)
def KU(s:S8)(n:Int)(p:Pg):Bool:=decide ((0<=s.r0∧s.r0<65536)∧(0<=s.r1∧s.r1<65536)∧(0<=s.r2∧s.r2<65536)∧(0<=s.r3∧s.r3<65536))&&s.m.all (fun x=>decide (0<=x∧x<65536))&&decide (-1<=s.pc∧s.pc<=n)&&decide (s.st.length<=4)&&s.st.all (fun x=>decide (0<=x∧x<=n))&&decide (s.m.length=aP p.ms)
def vQ(n:Int):Vl:=⟨false,n⟩
theorem KW{p:Pg}(h:KV p=true):OkP p:=by
 unfold KV at h
 simp only[av,aN,decide_eq_true_eq] at h
 obtain⟨⟨⟨h1,h2⟩,h3⟩,h4⟩:=h
 refine⟨fun i hi=> ?_,h2,h3,h4⟩
 obtain⟨hk,ha,hb,hd,ht⟩:=h1 i hi
 exact⟨hk,ha,hb,hd,ht⟩
theorem L8{p:Pg}{s:S8}(h:KU s p.is.length p=true):Inv p ⟨s,[],[],0⟩:=by
 unfold KU at h
 simp only[av,aN,decide_eq_true_eq] at h
 obtain⟨⟨⟨⟨⟨h1,h2⟩,h3⟩,h4⟩,h5⟩,h6⟩:=h
 exact Inv.begin ⟨h1,h2,rfl,h3,by omega,fun x hx=>by have:=h5 x hx;omega⟩ h6 h4 h5
theorem rfE{p:Pg}{c x:Cf}{g:Int}(hok:MOk p c)(e:ftO p c g=some x):pC_ 34 [.agg (pgA p),.agg (cfA c),.int .i64 g] (.tup [.agg (cfA x),.bool true]) []:=by
 have h:=Ko p c g hok.il hok.bl hok.pc hok.rl hok.st hok.bp
 rw[e] at h
 exact h
theorem sm0:pC_ 10 [.agg (cfA Cf0),.agg (cfA Cf0)] (.bool true) []:=by
 have h:=xv Cf0 Cf0 (by decide) (by decide) (by decide) (by decide) (by decide) (by decide) (by decide) (by decide)
 rw[bB rfl] at h
 exact h
end
end Go.Proofs.YtlfldlnohmobmaaGreat.Px
