import Derived.Test.YtlfldlnohmobmaaMaE
import Derived.Test.YtlfldlnohmobmaaMaD
import Derived.Test.YtlfldlnohmobmaaMaF
set_option linter.unusedVariables false
set_option linter.unusedSimpArgs false
set_option maxRecDepth 100000
namespace Go.Proofs.Ytlfldlnohmobmaa.Px
section
open Go.RowKit Go.Proofs.Ytlfldlnohmobmaa.Rx
theorem wR{a b:Nat}(h:a<b):Nat.blt a b=true:=by rw[bc];exact h
theorem qM{l:List En}{e:En}{k:Nat}(hk:k<l.length)(i j:Nat)(hj:j<8):(bif Nat.ble 0 j&&Nat.blt j (0+8)&&Nat.beq i (k+0) then(enA e).getD (j-0) .junk else au enC l i j)=au enC (l.set k e) i j:=by
 show(bif Nat.ble 0 j&&Nat.blt j 8&&Nat.beq i k then(enA e).getD j .junk else au enC l i j)=_
 cases hq:Nat.beq i k with
 |true=>
  obtain rfl:=ai hq
  rw[tR hk,wR hj]
  rfl
 |false=>rw[zV (i:=i) (k:=k) hq,Bool.and_false];rfl
theorem xc(l:List En)(e:En)(k:Nat)(hk:k<l.length)(hb:l.length<1000000):Vc (vF_ 34 [enR l, aI k,.agg (enA e)] [.fz,.bd false,.bd false] [(0,1)] (.tup [.own 0 0 8 0 (l.set k e).length,.bool true]) [enB (l.set k e)]):=ar (cj (df ((k:Int)<0)) (cj (df ((k:Int)>=l.length)) (cj (pv (l.length*48<=140737488355328∧l.length<=140737488355328)) (cj (bi k l.length) (cj (pv (k+0<l.length)) (cj (show l.length=(List.set l k e).length from by rw[aN]) (cj (show ∀(i:Nat),i<l.length-> ∀(j:Nat),j<8->(bif Nat.ble (0:Nat) j&&Nat.blt j (8:Nat)&&Nat.beq i (k+0) then List.getD [aI e.pc,aI e.val,aI e.adr,aI e.frm,aI e.nxt,AV.bool e.dn,AV.bool e.kn,AV.bool e.ft] (j-0) AV.junk else au enC l i j)=au enC (List.set l k e) i j from(fun i hi j hj=>qM hk i j hj)) (cj (rf (0:Nat)) (cj (show l.length=(List.set l k e).length from by rw[aN]) (cj (rf true) trivial))))))))))
theorem A4(l:List En)(e:En)(k:Nat)(hk:k<l.length)(hb:l.length<1000000):pC_ 34 [enR l,.int .i64 k,.agg (enA e)] (.tup [.own 0 0 8 0 (l.set k e).length,.bool true]) [enB (l.set k e)]:=PureC.vc (xc l e k hk hb)
theorem A5(l:List En)(e:En)(k:Nat)(hk:k<l.length)(hb:l.length<1000000):pC_ 34 [enR l,.int .i64 k,.agg (enA e)] (.tup [enR (l.set k e),.bool true]) []:=(A4 l e k hk hb).frozenT
theorem iZ(c:Cf){Z:Prop}(z:Z):(RF c.s.r0 (RF c.s.r1 (RF c.s.r2 (RF c.s.r3 (RF c.s.m.length (RR c.s.m.length 1 (fun i j=>aI (List.getD c.s.m i 0)) (RF c.s.st.length (RR c.s.st.length 1 (fun i j=>aI (List.getD c.s.st i 0)) (RF c.s.pc Z))))))))):=⟨rfl,rfl,rfl,rfl,rfl,fun _ _ _ _=>rfl,rfl,fun _ _ _ _=>rfl,rfl,z⟩
theorem vX(c:Cf)(k:Nat)(e:En)(h1:pC_ 33 [.agg (s8R c.s)] (.agg (cfA ⟨c.s,[],[],0⟩)) [])(h2:pC_ 34 [enR c.b, aI k,.agg (enA e)] (.tup [enR (c.b.set k e),.bool true]) [])(h3:pC_ 35 [lR c.r] (lR c.r) []):Vc (vF_ 17 [.agg (cfA c), aI k,.agg (enA e)] [.fv,.fv,.cl [.agg (s8R c.s)] (.agg (cfA ⟨c.s,[],[],0⟩)) [],.cl [enR c.b, aI k,.agg (enA e)] (.tup [enR (c.b.set k e),.bool true]) [],.cl [lR c.r] (lR c.r) []] [] (.agg (cfA ⟨c.s,c.b.set k e,c.r,0⟩)) []):=ar (iZ c (cj h1 (cj (rf c.b.length) (cj (rr c.b.length 8 fun i j=>au enC c.b i j) (cj (rf (k:Int)) (cj (rf e.pc) (cj (rf e.val) (cj (rf e.adr) (cj (rf e.frm) (cj (rf e.nxt) (cj (rf e.dn) (cj (rf e.kn) (cj (rf e.ft) (cj h2 (cj (rf c.r.length) (cj (rr c.r.length 1 fun i j=>aI (c.r.getD i 0)) (cj h3 (iZ c (cj (rf ((List.set c.b k e).length)) (cj (rr ((List.set c.b k e).length) 8 fun i j=>au enC (List.set c.b k e) i j) (cj (rf c.r.length) (cj (rr c.r.length 1 fun i j=>aI (c.r.getD i 0)) (cj (rf (0:Int)) trivial)))))))))))))))))))))))
theorem y8(c:Cf)(k:Nat)(e:En)(hk:k<c.b.length)(hb:c.b.length<1000000)(hm:c.s.m.length<=1000000)(hs:c.s.st.length<=1000000)(hr:c.r.length<=1000000):pC_ 17 [.agg (cfA c),.int .i64 k,.agg (enA e)] (.agg (cfA ⟨c.s,c.b.set k e,c.r,0⟩)) []:=PureC.vc (vX c k e (Bj c.s hm hs) (A5 c.b e k hk hb) (kw c.r hr))
theorem qn(c:Cf)(n pc:Int)(b2:List En)(h1:pC_ 36 [enR c.b, aI n] (enR b2) []):Vc (vF_ 18 [.agg (cfA c), aI n, aI pc] [.cl [enR c.b, aI n] (enR b2) []] [] (.agg (cfA ⟨c.s.go pc,b2,c.r,c.e⟩)) []):=ar (cj (rf c.b.length) (cj (rr c.b.length 8 fun i j=>au enC c.b i j) (cj (rf n) (cj h1 (cj (rf c.s.r0) (cj (rf c.s.r1) (cj (rf c.s.r2) (cj (rf c.s.r3) (cj (rf c.s.m.length) (cj (rr c.s.m.length 1 fun i j=>aI (List.getD c.s.m i 0)) (cj (rf c.s.st.length) (cj (rr c.s.st.length 1 fun i j=>aI (List.getD c.s.st i 0)) (cj (rf pc) (cj (rf b2.length) (cj (rr b2.length 8 fun i j=>au enC b2 i j) (cj (rf c.r.length) (cj (rr c.r.length 1 fun i j=>aI (c.r.getD i 0)) (cj (rf c.e) trivial))))))))))))))))))
theorem yj{Z:Prop}(z:Z):(RF (0:Int) (RF (0:Int) (RF (0:Int) (RF (0:Int) (RF (0:Nat) (RF (0:Nat) (RF (0:Int) (RF (0:Nat) (RF (0:Nat) Z))))))))):=⟨rfl,rfl,rfl,rfl,rfl,rfl,rfl,rfl,rfl,z⟩
theorem iY(c:Cf){Z:Prop}(z:Z):(RR c.s.m.length 1 (fun i j=>aI (List.getD c.s.m i 0)) (RF c.s.st.length (RR c.s.st.length 1 (fun i j=>aI (List.getD c.s.st i 0)) (RF c.s.pc (RF c.b.length (RR c.b.length 8 (fun i j=>au enC c.b i j) (RF c.r.length (RR c.r.length 1 (fun i j=>aI (c.r.getD i 0)) (RF c.e Z))))))))):=⟨fun _ _ _ _=>rfl,rfl,fun _ _ _ _=>rfl,rfl,rfl,fun _ _ _ _=>rfl,rfl,fun _ _ _ _=>rfl,rfl,z⟩
theorem iX(p:Pg)(c:Cf){Z:Prop}(z:Z):(RF p.ls.length (RR p.ls.length 2 (fun i j=>au lbC p.ls i j) (RF p.is.length (RR p.is.length 9 (fun i j=>au inC p.is i j) (RF c.s.r0 (RF c.s.r1 (RF c.s.r2 (RF c.s.r3 (RF c.s.m.length Z))))))))):=⟨rfl,fun _ _ _ _=>rfl,rfl,fun _ _ _ _=>rfl,rfl,rfl,rfl,rfl,rfl,z⟩
theorem gG(p:Pg){Z:Prop}(z:Z):(RF p.W (RF p.win (RF p.fuel (RF p.r0 (RF p.r1 (RF p.r2 (RF p.r3 (RF p.ms.length (RR p.ms.length 3 (fun i j=>au mmC p.ms i j) Z))))))))):=⟨rfl,rfl,rfl,rfl,rfl,rfl,rfl,rfl,fun _ _ _ _=>rfl,z⟩
theorem zo(p:Pg)(c:Cf)(i:Int)(h:pC_ 11 [.agg (pgA p),.agg (cfA c), aI i] (.bool false) []):Vc (vF_ 8 [.agg (pgA p),.agg (cfA c), aI i] [.fv,.fv,.cl [.agg (pgA p),.agg (cfA c), aI i] (.bool false) []] [] (.tup [.agg (cfA Cf0),.nils,.bool false]) []):=ar (gG p (iX p c (iY c (cj (rf i) (cj h (yj (cj (rf (0:Int)) (cj (rf false) trivial))))))))
theorem B8(c:Cf)(k:Nat)(e1:En){Z:Prop}(z:Z):(RF ((List.set c.b k e1).length) (RR ((List.set c.b k e1).length) 8 (fun i j=>au enC (List.set c.b k e1) i j) (RF c.r.length (RR c.r.length 1 (fun i j=>aI (c.r.getD i 0)) (RF (0:Int) (RF true Z)))))):=⟨rfl,fun _ _ _ _=>rfl,rfl,fun _ _ _ _=>rfl,rfl,rfl,z⟩
theorem p9(e1:En){Z:Prop}(z:Z):(RF e1.frm (RF e1.nxt (RF e1.dn (RF e1.kn (RF e1.ft Z))))):=⟨rfl,rfl,rfl,rfl,rfl,z⟩
theorem pZ(c:Cf)(k:Nat)(e1:En){Z:Prop}(z:Z):(RF c.b.length (RR c.b.length 8 (fun i j=>au enC c.b i j) (RF c.r.length (RR c.r.length 1 (fun i j=>aI (c.r.getD i 0)) (RF c.e (RF (k:Int) (RF e1.pc (RF e1.val (RF e1.adr Z))))))))):=⟨rfl,fun _ _ _ _=>rfl,rfl,fun _ _ _ _=>rfl,rfl,rfl,rfl,rfl,rfl,z⟩
abbrev qY(c:Cf)(k:Nat)(e1:En):Prop:=PureC Try.prog 17 [.agg (cfA c),.int .i64 k,.agg (enA e1)] (.agg (cfA ⟨c.s,c.b.set k e1,c.r,0⟩)) []
abbrev Ad(p:Pg)(c:Cf)(k:Nat):Prop:=PureC Try.prog 11 [.agg (pgA p),.agg (cfA c),.int .i64 k] (.bool true) []
abbrev rx(c:Cf)(k:Nat)(e1:En):Orc:= .cl [.agg (cfA c), aI k,.agg (enA e1)] (.agg (cfA ⟨c.s,c.b.set k e1,c.r,0⟩)) []
abbrev ry(p:Pg)(c:Cf)(k:Nat):Orc:= .cl [.agg (pgA p),.agg (cfA c), aI k] (.bool true) []
theorem B7(c:Cf)(e1:En){Z:Prop}(z:Z):(RF c.s.r0 (RF c.s.r1 (RF c.s.r2 (RF c.s.r3 (RF c.s.m.length (RR c.s.m.length 1 (fun i j=>aI (List.getD c.s.m i 0)) (RF c.s.st.length (RR c.s.st.length 1 (fun i j=>aI (List.getD c.s.st i 0)) (RF e1.nxt Z))))))))):=⟨rfl,rfl,rfl,rfl,rfl,fun _ _ _ _=>rfl,rfl,fun _ _ _ _=>rfl,rfl,z⟩
theorem B6(c:Cf)(k:Nat)(e1:En){Z:Prop}(z:Z):(RF ((List.set c.b k e1).length) (RR ((List.set c.b k e1).length) 8 (fun i j=>au enC (List.set c.b k e1) i j) (RF c.r.length (RR c.r.length 1 (fun i j=>aI (c.r.getD i 0)) (RF (0:Int) (RF ((k:Int)+1) (RF e1.nxt Z))))))):=⟨rfl,fun _ _ _ _=>rfl,rfl,fun _ _ _ _=>rfl,rfl,rfl,rfl,z⟩
abbrev CJ(c:Cf)(k:Nat)(e1:En):Prop:=PureC Try.prog 18 [.agg (cfA (⟨c.s,c.b.set k e1,c.r,0⟩:Cf)),.int .i64 ((k:Int)+1),.int .i64 e1.nxt] (.agg (cfA ⟨(⟨c.s,c.b.set k e1,c.r,0⟩:Cf).s.go e1.nxt,((c.b.set k e1).take (k+1)),(⟨c.s,c.b.set k e1,c.r,0⟩:Cf).r,(⟨c.s,c.b.set k e1,c.r,0⟩:Cf).e⟩)) []
abbrev CL(c:Cf)(k:Nat)(e1:En):Orc:= .cl [.agg (cfA (⟨c.s,c.b.set k e1,c.r,0⟩:Cf)), aI (k+1), aI e1.nxt] (.agg (cfA ⟨(⟨c.s,c.b.set k e1,c.r,0⟩:Cf).s.go e1.nxt,((c.b.set k e1).take (k+1)),(⟨c.s,c.b.set k e1,c.r,0⟩:Cf).r,(⟨c.s,c.b.set k e1,c.r,0⟩:Cf).e⟩)) []
theorem qm(p:Pg)(c:Cf)(k:Nat)(hk:k<c.b.length)(hb:c.b.length<1000000)(e1:En)(o:List Ob)(h1:Ad p c k)(h2:pC_ 16 [.agg (pgA p),.agg (cfA c), aI k] (.tup [.agg (enA e1),(obR o)]) [])(h3:qY c k e1)(hx:e1.nxt=(c.b.getD k default).nxt):Vc (vF_ 8 [.agg (pgA p),.agg (cfA c), aI k] [.fv,.fv,ry p c k,.cl [.agg (pgA p),.agg (cfA c), aI k] (.tup [.agg (enA e1),(obR o)]) [],rx c k e1,.bd false] [] (.tup [.agg (cfA ⟨c.s,c.b.set k e1,c.r,0⟩),(obR o),.bool true]) []):=ar (gG p (iX p c (iY c (cj (rf (k:Int)) (cj h1 (gG p (iX p c (iY c (cj (rf (k:Int)) (cj h2 (iZ c (pZ c k e1 (p9 e1 (cj h3 (cj (bi (k:Int) (↑c.b.length:Int)) (cj (bq ((e1.nxt !=(c.b.getD k default).nxt)=false)) (iZ c (cj (rf ((List.set c.b k e1).length)) (cj (rr ((List.set c.b k e1).length) 8 fun i j=>au enC (List.set c.b k e1) i j) (cj (rf c.r.length) (cj (rr c.r.length 1 fun i j=>aI (c.r.getD i 0)) (cj (rf (0:Int)) (cj (rf o.length) (cj (rr o.length 2 fun i j=>au obC o i j) (cj (rf true) trivial)))))))))))))))))))))))))
theorem wh(p:Pg)(c:Cf)(k:Nat)(hk:k<c.b.length)(hb:c.b.length<1000000)(e1:En)(o:List Ob)(h1:Ad p c k)(h2:pC_ 16 [.agg (pgA p),.agg (cfA c), aI k] (.tup [.agg (enA e1),(obR o)]) [])(h3:qY c k e1)(hx: ¬e1.nxt=(c.b.getD k default).nxt)(h4:CJ c k e1):Vc (vF_ 8 [.agg (pgA p),.agg (cfA c), aI k] [.fv,.fv,ry p c k,.cl [.agg (pgA p),.agg (cfA c), aI k] (.tup [.agg (enA e1),(obR o)]) [],rx c k e1,.bd true,CL c k e1] [] (.tup [.agg (cfA ⟨c.s.go e1.nxt,(c.b.set k e1).take (k+1),c.r,0⟩),(obR o),.bool true]) []):=ar (gG p (iX p c (iY c (cj (rf (k:Int)) (cj h1 (gG p (iX p c (iY c (cj (rf (k:Int)) (cj h2 (iZ c (pZ c k e1 (p9 e1 (cj h3 (cj (bi (k:Int) (↑c.b.length:Int)) (cj (bq ((e1.nxt !=(c.b.getD k default).nxt)=true)) (cj (i6 ((k:Int)+1)) (iZ c (B6 c k e1 (cj h4 (B7 c e1 (cj (rf ((List.take (k+1) (List.set c.b k e1)).length)) (cj (rr ((List.take (k+1) (List.set c.b k e1)).length) 8 fun i j=>au enC (List.take (k+1) (List.set c.b k e1)) i j) (cj (rf c.r.length) (cj (rr c.r.length 1 fun i j=>aI (c.r.getD i 0)) (cj (rf (0:Int)) (cj (rf o.length) (cj (rr o.length 2 fun i j=>au obC o i j) (cj (rf true) trivial)))))))))))))))))))))))))))))
theorem Cz(p:Pg)(c:Cf)(i:Int)(h:pC_ 19 [.agg (pgA p),.agg (cfA c), aI i] (.bool false) []):Vc (vF_ 9 [.agg (pgA p),.agg (cfA c), aI i] [.fv,.fv,.cl [.agg (pgA p),.agg (cfA c), aI i] (.bool false) []] [] (.tup [.agg (cfA Cf0),.nils,.bool false]) []):=ar (gG p (iX p c (iY c (cj (rf i) (cj h (yj (cj (rf (0:Int)) (cj (rf false) trivial))))))))
abbrev wK(p:Pg)(c:Cf)(k:Nat):Prop:=PureC Try.prog 19 [.agg (pgA p),.agg (cfA c),.int .i64 k] (.bool true) []
theorem CC(p:Pg)(c:Cf)(k:Nat)(e1:En)(hk:k<c.b.length)(hb:c.b.length<1000000)(h1:wK p c k)(h2:pC_ 20 [.agg (pgA p),.agg (cfA c), aI k] (.tup [.agg (enA e1),.bool false]) [])(h3:qY c k e1):Vc (vF_ 9 [.agg (pgA p),.agg (cfA c), aI k] [.fv,.fv,ry p c k,.cl [.agg (pgA p),.agg (cfA c), aI k] (.tup [.agg (enA e1),.bool false]) [],rx c k e1] [] (.tup [.agg (cfA ⟨c.s,c.b.set k e1,c.r,0⟩),.nils,.bool true]) []):=ar (gG p (iX p c (iY c (cj (rf (k:Int)) (cj h1 (gG p (iX p c (iY c (cj (rf (k:Int)) (cj h2 (iZ c (pZ c k e1 (p9 e1 (cj h3 (iZ c (B8 c k e1 trivial))))))))))))))))
theorem u9(p:Pg)(c:Cf)(k:Nat)(e1:En){Z:Prop}(z:Z):(RF p.ls.length (RR p.ls.length 2 (fun i j=>au lbC p.ls i j) (RF p.is.length (RR p.is.length 9 (fun i j=>au inC p.is i j) (RF c.b.length (RR c.b.length 8 (fun i j=>au enC c.b i j) (RF (k:Int) (RF e1.adr Z)))))))):=⟨rfl,fun _ _ _ _=>rfl,rfl,fun _ _ _ _=>rfl,rfl,fun _ _ _ _=>rfl,rfl,rfl,z⟩
abbrev Ac(p:Pg)(c:Cf)(k:Nat)(e1:En):Prop:=PureC Try.prog 20 [.agg (pgA p),.agg (cfA c),.int .i64 k] (.tup [.agg (enA e1),.bool true]) []
theorem CA(p:Pg)(c:Cf)(k:Nat)(e1:En)(hk:k<c.b.length)(hb:c.b.length<1000000)(h1:wK p c k)(h2:Ac p c k e1)(h3:qY c k e1)(h:Int)(h4:pC_ 21 [.agg (pgA p),enR c.b, aI k, aI e1.adr] (.tup [aI h,.bool false]) []):Vc (vF_ 9 [.agg (pgA p),.agg (cfA c), aI k] [.fv,.fv,ry p c k,.cl [.agg (pgA p),.agg (cfA c), aI k] (.tup [.agg (enA e1),.bool true]) [],rx c k e1,.cl [.agg (pgA p),enR c.b, aI k, aI e1.adr] (.tup [aI h,.bool false]) [],.cl [aI 2, aI e1.adr] (obR [⟨2,e1.adr⟩]) []] [] (.tup [.agg (cfA ⟨c.s,c.b.set k e1,c.r,0⟩),(obR [⟨2,e1.adr⟩]),.bool true]) []):=ar (gG p (iX p c (iY c (cj (rf (k:Int)) (cj h1 (gG p (iX p c (iY c (cj (rf (k:Int)) (cj h2 (iZ c (pZ c k e1 (p9 e1 (cj h3 (gG p (u9 p c k e1 (cj h4 (cj (rf (2:Int)) (cj (rf e1.adr) (cj (wg 2 e1.adr) (iZ c (cj (rf ((List.set c.b k e1).length)) (cj (rr ((List.set c.b k e1).length) 8 fun i j=>au enC (List.set c.b k e1) i j) (cj (rf c.r.length) (cj (rr c.r.length 1 fun i j=>aI (c.r.getD i 0)) (cj (rf (0:Int)) (cj (rf (1:Nat)) (cj (rr 1 2 fun i j=>au obC [Ob.mk (2:Int) e1.adr] i j) (cj (rf true) trivial)))))))))))))))))))))))))))))
theorem CB(p:Pg)(c:Cf)(k:Nat)(e1:En)(hk:k<c.b.length)(hb:c.b.length<1000000)(h1:wK p c k)(h2:Ac p c k e1)(h3:qY c k e1)(q:Nat)(hq:q<c.b.length)(h4:pC_ 21 [.agg (pgA p),enR c.b, aI k, aI e1.adr] (.tup [aI q,.bool true]) [])(h5:pC_ 18 [.agg (cfA (⟨c.s,c.b.set k e1,c.r,0⟩:Cf)), aI q, aI (c.b.getD q default).pc] (.agg (cfA ⟨(⟨c.s,c.b.set k e1,c.r,0⟩:Cf).s.go (c.b.getD q default).pc,((c.b.set k e1).take q),(⟨c.s,c.b.set k e1,c.r,0⟩:Cf).r,(⟨c.s,c.b.set k e1,c.r,0⟩:Cf).e⟩)) []):Vc (vF_ 9 [.agg (pgA p),.agg (cfA c), aI k] [.fv,.fv,ry p c k,.cl [.agg (pgA p),.agg (cfA c), aI k] (.tup [.agg (enA e1),.bool true]) [],rx c k e1,.cl [.agg (pgA p),enR c.b, aI k, aI e1.adr] (.tup [aI q,.bool true]) [],.cl [.agg (cfA (⟨c.s,c.b.set k e1,c.r,0⟩:Cf)), aI q, aI (c.b.getD q default).pc] (.agg (cfA ⟨(⟨c.s,c.b.set k e1,c.r,0⟩:Cf).s.go (c.b.getD q default).pc,((c.b.set k e1).take q),(⟨c.s,c.b.set k e1,c.r,0⟩:Cf).r,(⟨c.s,c.b.set k e1,c.r,0⟩:Cf).e⟩)) [],.cl [aI 2, aI e1.adr] (obR [⟨2,e1.adr⟩]) []] [] (.tup [.agg (cfA ⟨c.s.go (c.b.getD q default).pc,(c.b.set k e1).take q,c.r,0⟩),(obR [⟨2,e1.adr⟩]),.bool true]) []):=ar (gG p (iX p c (iY c (cj (rf (k:Int)) (cj h1 (gG p (iX p c (iY c (cj (rf (k:Int)) (cj h2 (iZ c (pZ c k e1 (p9 e1 (cj h3 (gG p (u9 p c k e1 (cj h4 (cj (bi (q:Int) (↑c.b.length:Int)) (iZ c (cj (rf ((List.set c.b k e1).length)) (cj (rr ((List.set c.b k e1).length) 8 fun i j=>au enC (List.set c.b k e1) i j) (cj (rf c.r.length) (cj (rr c.r.length 1 fun i j=>aI (c.r.getD i 0)) (cj (rf (0:Int)) (cj (rf (q:Int)) (cj (rf ((c.b.getD q default).pc)) (cj h5 (cj (rf (2:Int)) (cj (rf e1.adr) (cj (wg 2 e1.adr) (cj (rf c.s.r0) (cj (rf c.s.r1) (cj (rf c.s.r2) (cj (rf c.s.r3) (cj (rf c.s.m.length) (cj (rr c.s.m.length 1 fun i j=>aI (List.getD c.s.m i (0:Int))) (cj (rf c.s.st.length) (cj (rr c.s.st.length 1 fun i j=>aI (List.getD c.s.st i (0:Int))) (cj (rf ((c.b.getD q default).pc)) (cj (rf ((List.take q (List.set c.b k e1)).length)) (cj (rr ((List.take q (List.set c.b k e1)).length) 8 fun i j=>au enC (List.take q (List.set c.b k e1)) i j) (cj (rf c.r.length) (cj (rr c.r.length 1 fun i j=>aI (c.r.getD i 0)) (cj (rf (0:Int)) (cj (rf (1:Nat)) (cj (rr 1 2 fun i j=>au obC [Ob.mk (2:Int) e1.adr] i j) (cj (rf true) trivial)))))))))))))))))))))))))))))))))))))))))))))))
theorem lm(p:Pg)(l l':List En)(i a:Int): ∀j k,(∀q,k<=q->l.getD q default=l'.getD q default)->hzG p l i a k j=hzG p l' i a k j
 |0,_,_=>rfl
 |j+1,k,h=>by
  have e:=h k (ax _)
  have e2:hzB p l i a k↔hzB p l' i a k:=by unfold hzB enI;rw[e]
  unfold hzG
  simp only[e2,lm p l l' i a j (k+1) fun q hq=>h q (by omega)]
theorem uF(p:Pg)(l:List En)(k:Nat)(e:En)(a:Int)(hk:k<l.length):hzV p (l.set k e) k a=hzV p l k a:=by
 unfold hzV
 rw[aN,lm p (l.set k e) l k a _ (hz0 k l.length) fun q hq=> ?_]
 rw[fV hk,aj]
 unfold hz0 at hq
 omega
theorem xaC(p:Pg)(c:Cf)(i:Int)(hP:OkP p)(hI:Inv p c)(hM:MOk p c):pC_ 9 [.agg (pgA p),.agg (cfA c),.int .i64 i] (dmA (adrO p c i)) []:=by
 have hb:c.b.length<1000000:=by have:=hM.bl;omega
 have hC:=zD p c i hb hM.sm
 unfold adrO
 cases hc:caV p c i with
 |false=>rw[hc] at hC;exact PureC.vc (Cz p c i hC)
 |true=>
  rw[hc] at hC
  have he:=vM hc
  have ht: ∀k:Nat,i=k->tAB p c k (enX p c k)=true:=fun k hk=>by
   subst hk
   unfold caV at hc
   simp only[aE,al] at hc
   exact hc.2.2.2
  obtain⟨k,rfl,hk,hn,hK⟩:=mf hc
  replace ht:=ht k rfl
  have key: ∀(s_:S8) (b_:List En) (r_:List Int) (o:AV),pC_ 9 [.agg (pgA p),.agg (cfA c),.int .i64 k] (.tup [.agg (cfA ⟨s_,b_,r_,0⟩),o,.bool true]) []->pC_ 9 [.agg (pgA p),.agg (cfA c),.int .i64 k] (.tup [.agg (cfA ⟨s_,b_,r_,c.e⟩),o,.bool true]) []:=fun _ _ _ _ h=>by rw[he];exact h
  rw[ao rfl,aE]
  have hA:=tq p c k hk hb hM.sm
  rw[ht,ao rfl] at hA
  have hml:=hI.ml
  have hst:=hM.st
  have hrl:=hM.rl
  have hmm:=hM.ml
  have hW:=fun e=>y8 c k e hk hb (by omega) (by omega) (by omega)
  unfold sT
  by_cases ho:(c.s.m.length:Int)<=adV p c k (enX p c k)
  ·rw[ao ho]
   have hL:=PureC.vc (vk p c k hk _ _ (by omega) hA (sA p hP))
   have:=PureC.vc (CC p c k ⟨(c.b.getD k default).pc,(c.b.getD k default).val,adV p c k (enX p c k),(c.b.getD k default).frm,(c.b.getD k default).nxt,(c.b.getD k default).dn,true,true⟩ hk hb hC hL (hW _))
   exact key _ _ _ _ this
  ·rw[aj ho]
   have hL:=PureC.vc (vj p c k hk _ _ (by omega) hA (sA p hP))
   have hH:=CU p c.b k (adV p c k (enX p c k)) hb
   unfold upE
   rw[uF p c.b k _ _ hk]
   cases hz:hzV p c.b k (adV p c k (enX p c k)) with
   |mk h y=>
    rw[hz] at hH
    cases y with
    |false=>
     have:=PureC.vc (CA p c k ⟨(c.b.getD k default).pc,(c.b.getD k default).val,adV p c k (enX p c k),(c.b.getD k default).frm,(c.b.getD k default).nxt,(c.b.getD k default).dn,true,(c.b.getD k default).ft⟩ hk hb hC hL (hW _) h hH)
     exact key _ _ _ _ this
    |true=>
     obtain⟨q,rfl,hq⟩:=od hz
     have hl:(c.b.set k ⟨(c.b.getD k default).pc,(c.b.getD k default).val,adV p c k (enX p c k),(c.b.getD k default).frm,(c.b.getD k default).nxt,(c.b.getD k default).dn,true,(c.b.getD k default).ft⟩).length=c.b.length:=aN ..
     have hc4:=om (c.b.set k ⟨(c.b.getD k default).pc,(c.b.getD k default).val,adV p c k (enX p c k),(c.b.getD k default).frm,(c.b.getD k default).nxt,(c.b.getD k default).dn,true,(c.b.getD k default).ft⟩) q q (by rw[hl];omega) (by rw[hl];exact hb)
     have:=PureC.vc (CB p c k ⟨(c.b.getD k default).pc,(c.b.getD k default).val,adV p c k (enX p c k),(c.b.getD k default).frm,(c.b.getD k default).nxt,(c.b.getD k default).dn,true,(c.b.getD k default).ft⟩ hk hb hC hL (hW _) q hq hH (PureC.vc (qn ⟨c.s,c.b.set k ⟨(c.b.getD k default).pc,(c.b.getD k default).val,adV p c k (enX p c k),(c.b.getD k default).frm,(c.b.getD k default).nxt,(c.b.getD k default).dn,true,(c.b.getD k default).ft⟩,c.r,0⟩ q _ _ hc4)))
     have e1:((c.b.set k ((c.b.getD k default).ad (adV p c k (enX p c k)))).getD q default).pc=(c.b.getD q default).pc:=lP (l:=c.b) (k:=k) (g:=fun e=>e.ad (adV p c k (enX p c k))) (fun _=>rfl) q
     show PureC _ _ _ (dmA (some (⟨c.s.go ((c.b.set k ((c.b.getD k default).ad _)).getD q default).pc,_,c.r,c.e⟩,_))) []
     rw[e1]
     exact key _ _ _ _ this
theorem xdC(p:Pg)(c:Cf)(i:Int)(hP:OkP p)(hI:Inv p c)(hF:Frs p c)(hM:MOk p c)(hb:c.b.length<=90):pC_ 8 [.agg (pgA p),.agg (cfA c),.int .i64 i] (.tup [.agg (cfA (dmT (doO p c i)).1),obR (dmT (doO p c i)).2.1,.bool (dmT (doO p c i)).2.2]) []:=by
 have hC:=zC p c i (by omega) hM.sm hP hI.ml
 cases hc:cnV p c i with
 |false=>
  have e:doO p c i=none:=by unfold doO;rw[aj (by rw[hc];decide)]
  rw[hc] at hC
  rw[e]
  exact PureC.obs (o:=[]) (PureC.vc (zo p c i hC))
 |true=>
  have he:=vJ hc
  obtain⟨k,rfl,hk,hd,hK⟩:=mc hc
  have e:doO p c k=some (apl c k (ouV p c k).1 (ouV p c k).2.1,(ouV p c k).2.2):=by unfold doO;rw[ao hc,aE,BM p c k hk]
  rw[hc] at hC
  rw[e]
  have hst:=hM.st
  have hml:=hM.ml
  have hrl:=hM.rl
  have h2:=Cu p c k hP hI hF hM hb hk hd hK
  have h3:=y8 c k (cK p c k).1 hk (by omega) (by omega) (by omega) (by omega)
  obtain⟨s,b,r,q⟩:=c
  obtain rfl:q=0:=he
  obtain⟨u1,u2,u3,u4⟩:=AB p ⟨s,b,r,0⟩ k
  generalize hu:ouV p ⟨s,b,r,0⟩ k=R at u1 u2 u3 u4
  unfold cK at h2 h3
  rw[hu] at h2 h3
  obtain⟨e1,t,o⟩:=R
  replace hk:k<b.length:=hk
  replace hb:b.length<=90:=hb
  have hg:(b.set k e1).getD k default=e1:=by rw[fV hk,ao rfl]
  cases t with
  |none=>exact PureC.vc (qm p ⟨s,b,r,0⟩ k hk (by show b.length<_;omega) _ o hC h2 h3 u3)
  |some t=>
   unfold apl goV
   by_cases hx:((b.set k e1).getD k default).nxt=t
   ·have ht:e1.to t=e1:=by rw[hg] at hx;cases e1;cases hx;rfl
    have:=qm p ⟨s,b,r,0⟩ k hk (by show b.length<_;omega) (e1.to t) o hC h2 h3 (by show t=_;rw[<-hx,hg];exact u3)
    show PureC _ _ _ (.tup [.agg (cfA (if((b.set k e1).getD k default).nxt=t then _ else _)),_,_]) []
    rw[ao hx]
    rw[ht] at this
    exact PureC.vc this
   ·have h4:=om (b.set k (e1.to t)) ((k:Int)+1) (k+1) (by rw[aN];omega) (by rw[aN];omega)
    have:=wh p ⟨s,b,r,0⟩ k hk (by show b.length<_;omega) (e1.to t) o hC h2 h3 (by show ¬t=_;rw[hg] at hx;intro h;exact hx (by rw[h];exact u3)) (PureC.vc (qn ⟨s,b.set k (e1.to t),r,0⟩ ((k:Int)+1) t _ h4))
    show PureC _ _ _ (.tup [.agg (cfA (if((b.set k e1).getD k default).nxt=t then _ else _)),_,_]) []
    rw[aj hx,hg,List.set_set]
    exact PureC.vc this
theorem BP(p:Pg)(c:Cf)(i:Int):cnV p c i=(dmT (doO p c i)).2.2:=by
 unfold doO
 cases cnV p c i<;>rfl
theorem BS(p:Pg)(c:Cf)(i:Int):caV p c i=(dmT (adrO p c i)).2.2:=by
 unfold adrO
 cases caV p c i<;>rfl
theorem CO(p:Pg)(c:Cf)(i:Int)(hk:BOk p c):pC_ 8 [.agg (pgA p),.agg (cfA c),.int .i64 i] (.tup [.agg (cfA (dmT (doO p c i)).1),obR (dmT (doO p c i)).2.1,.bool (dmT (doO p c i)).2.2]) []:=xdC p c i hk.P hk.x.I hk.x.F hk.m hk.bl
theorem CQ(p:Pg)(c:Cf)(i:Int)(hk:BOk p c):pC_ 9 [.agg (pgA p),.agg (cfA c),.int .i64 i] (.tup [.agg (cfA (dmT (adrO p c i)).1),obR (dmT (adrO p c i)).2.1,.bool (dmT (adrO p c i)).2.2]) []:=PureC.dmT (xaC p c i hk.P hk.x.I hk.m)
theorem CP(p:Pg)(c:Cf)(i:Int)(hk:BOk p c):pC_ 11 [.agg (pgA p),.agg (cfA c),.int .i64 i] (.bool (dmT (doO p c i)).2.2) []:=by
 rw[<-BP]
 exact zC p c i (by have:=hk.bl;omega) hk.m.sm hk.P hk.x.I.ml
theorem CN(p:Pg)(c:Cf)(i:Int)(hk:BOk p c):pC_ 19 [.agg (pgA p),.agg (cfA c),.int .i64 i] (.bool (dmT (adrO p c i)).2.2) []:=by
 rw[<-BS]
 exact zD p c i (by have:=hk.bl;omega) hk.m.sm
def AE(p:Pg):Bool:=p.is.all (fun i=>decide ((1<=i.kind∧i.kind<=12)∧(i.a.reg=true->0<=i.a.n∧i.a.n<4)∧(i.b.reg=true->0<=i.b.n∧i.b.n<4)∧(0<=i.d∧i.d<4)∧(0<=i.tg∧i.tg<=p.is.length)))&&decide (p.is.length<1000)&&decide (p.ms.length<1000)&&decide (aQ p.ms<=16)
def AD(s:S8)(n:Int)(p:Pg):Bool:=decide ((0<=s.r0∧s.r0<65536)∧(0<=s.r1∧s.r1<65536)∧(0<=s.r2∧s.r2<65536)∧(0<=s.r3∧s.r3<65536))&&s.m.all (fun x=>decide (0<=x∧x<65536))&&decide (-1<=s.pc∧s.pc<=n)&&decide (s.st.length<=4)&&s.st.all (fun x=>decide (0<=x∧x<=n))&&decide (s.m.length=aQ p.ms)
def vQ(n:Int):Vl:=⟨false,n⟩
theorem mU{p:Pg}(h:AE p=true):OkP p:=by
 unfold AE at h
 simp only[al,aC,decide_eq_true_eq] at h
 obtain⟨⟨⟨h1,h2⟩,h3⟩,h4⟩:=h
 refine⟨fun i hi=> ?_,h2,h3,h4⟩
 obtain⟨hk,ha,hb,hd,ht⟩:=h1 i hi
 exact⟨hk,ha,hb,hd,ht⟩
theorem vE{p:Pg}{s:S8}(h:AD s p.is.length p=true):Inv p ⟨s,[],[],0⟩:=by
 unfold AD at h
 simp only[al,aC,decide_eq_true_eq] at h
 obtain⟨⟨⟨⟨⟨h1,h2⟩,h3⟩,h4⟩,h5⟩,h6⟩:=h
 exact Inv.begin ⟨h1,h2,rfl,h3,by omega,fun x hx=>by have:=h5 x hx;omega⟩ h6 h4 h5
theorem rfE{p:Pg}{c x:Cf}{g:Int}(hok:MOk p c)(e:ftO p c g=some x):pC_ 7 [.agg (pgA p),.agg (cfA c),.int .i64 g] (.tup [.agg (cfA x),.bool true]) []:=by
 have h:=CF p c g hok.il hok.bl hok.pc hok.rl hok.st hok.bp
 rw[e] at h
 exact h
def p15:Pg:=⟨2,4,0,0,0,0,0,[⟨⟨#[109]⟩,false,2⟩],[],[⟨3,0,1,⟨true,0⟩,vQ 0,⟨#[]⟩,0⟩,⟨2,0,2,vQ 0,vQ 0,⟨#[]⟩,0⟩,⟨11,0,0,vQ 0,vQ 0,⟨#[]⟩,0⟩]⟩
def s15(pc:Int):S8:=⟨0,3,0,0,[1,2],[],pc⟩
def e15(pc v nx:Int)(dn kn:Bool):En:=⟨pc,v,0, -1,nx,dn,kn,false⟩
def c15:Nat->Cf
 |0=>⟨s15 0,[],[],0⟩
 |1=>⟨s15 1,[e15 0 0 1 false false],[],0⟩
 |2=>⟨s15 2,[e15 0 0 1 false false,e15 1 0 2 false false],[],0⟩
 |3=>⟨s15 (-1),[e15 0 0 1 false false,e15 1 0 2 false false,e15 2 0 (-1) true false],[],0⟩
 |4=>⟨s15 (-1),[e15 0 0 1 false false,e15 1 1 2 true true,e15 2 0 (-1) true false],[],0⟩
 |_=>⟨s15 1,[e15 0 0 1 false true],[],0⟩
theorem lJ: ∀(i:Nat),i<1-> ∀(j:Nat),j<3->List.getD [AV.str (ByteArray.mk (Array.mk [(109:UInt8)])),AV.bool false,aI 2] ((i+0)*3+j) AV.junk=au mmC [Mm.mk (ByteArray.mk (Array.mk [(109:UInt8)])) false (2:Nat)] i j:=(fun i hi j hj=>match i,hi,j,hj with |0,_,0,_=>rfl |0,_,1,_=>rfl |0,_,2,_=>rfl)
theorem lI: ∀(i:Nat),i<3-> ∀(j:Nat),j<9->List.getD [aI 3,aI 0,aI 1,AV.bool true,aI 0,AV.bool false,aI 0,AV.str (ByteArray.mk (Array.mk [])),aI 0,aI 2,aI 0,aI 2,AV.bool false,aI 0,AV.bool false,aI 0,AV.str (ByteArray.mk (Array.mk [])),aI 0,aI 11,aI 0,aI 0,AV.bool false,aI 0,AV.bool false,aI 0,AV.str (ByteArray.mk (Array.mk [])),aI 0] ((i+0)*9+j) AV.junk=au inC [In.mk (3:Int) (0:Int) (1:Int) (Vl.mk true (0:Int)) (vQ (0:Int)) (ByteArray.mk (Array.mk [])) (0:Int),In.mk (2:Int) (0:Int) (2:Int) (vQ (0:Int)) (vQ (0:Int)) (ByteArray.mk (Array.mk [])) (0:Int),In.mk (11:Int) (0:Int) (0:Int) (vQ (0:Int)) (vQ (0:Int)) (ByteArray.mk (Array.mk [])) (0:Int)] i j:=(fun i hi j hj=>match i,hi,j,hj with |0,_,0,_=>rfl |0,_,1,_=>rfl |0,_,2,_=>rfl |0,_,3,_=>rfl |0,_,4,_=>rfl |0,_,5,_=>rfl |0,_,6,_=>rfl |0,_,7,_=>rfl |0,_,8,_=>rfl |1,_,0,_=>rfl |1,_,1,_=>rfl |1,_,2,_=>rfl |1,_,3,_=>rfl |1,_,4,_=>rfl |1,_,5,_=>rfl |1,_,6,_=>rfl |1,_,7,_=>rfl |1,_,8,_=>rfl |2,_,0,_=>rfl |2,_,1,_=>rfl |2,_,2,_=>rfl |2,_,3,_=>rfl |2,_,4,_=>rfl |2,_,5,_=>rfl |2,_,6,_=>rfl |2,_,7,_=>rfl |2,_,8,_=>rfl)
theorem qj{Z:Prop}(z:Z):(RF (0:Nat) (RR 0 1 (fun i j=>aI (List.getD [] i (0:Int))) (RF (0:Int) (RF (0:Int) Z)))):=⟨rfl,fun _ _ _ _=>rfl,rfl,rfl,z⟩
theorem y6{Z:Prop}(z:Z):(RF (0:Int) (RF (3:Int) (RF (0:Int) (RF (0:Int) (RF (2:Nat) (RR 2 1 (fun i j=>aI (List.getD [(1:Int),(2:Int)] i (0:Int))) (RF (0:Nat) (RR 0 1 (fun i j=>aI (List.getD [] i (0:Int))) (RF (1:Int) Z))))))))):=⟨rfl,rfl,rfl,rfl,rfl,fun _ _ _ _=>rfl,rfl,fun _ _ _ _=>rfl,rfl,z⟩
theorem lE{Z:Prop}(z:Z):(RF (2:Int) (RF (4:Int) (RF (0:Int) (RF (0:Int) (RF (0:Int) (RF (0:Int) (RF (0:Int) (RF (1:Nat) Z)))))))):=⟨rfl,rfl,rfl,rfl,rfl,rfl,rfl,rfl,z⟩
theorem y5{Z:Prop}(z:Z):(RF (3:Nat) (RR 3 8 (fun i j=>au enC [e15 (0:Int) (0:Int) (1:Int) false false,e15 (1:Int) (0:Int) (2:Int) false false,e15 (2:Int) (0:Int) (-1:Int) true false] i j) (RF (0:Nat) (RR 0 1 (fun i j=>aI (List.getD [] i (0:Int))) (RF (0:Int) (RF (0:Int) Z)))))):=⟨rfl,fun _ _ _ _=>rfl,rfl,fun _ _ _ _=>rfl,rfl,rfl,z⟩
theorem qi{Z:Prop}(z:Z):(RF (0:Int) (RF (3:Int) (RF (0:Int) (RF (0:Int) (RF (2:Nat) (RR 2 1 (fun i j=>aI (List.getD [(1:Int),(2:Int)] i (0:Int))) (RF (0:Nat) (RR 0 1 (fun i j=>aI (List.getD [] i (0:Int))) (RF (-1:Int) Z))))))))):=⟨rfl,rfl,rfl,rfl,rfl,fun _ _ _ _=>rfl,rfl,fun _ _ _ _=>rfl,rfl,z⟩
abbrev AU:Orc:= .cl [.agg (pgA p15),.agg (cfA (c15 3)), aI 0] (.bool true) []
theorem sP(h0:pC_ 6 [.agg (s8R (s15 0))] (.agg (cfA (c15 0))) [])(h1:pC_ 7 [.agg (pgA p15),.agg (cfA (c15 0)), aI 0] (.tup [.agg (cfA (c15 1)),.bool true]) [])(h2:pC_ 7 [.agg (pgA p15),.agg (cfA (c15 1)), aI 0] (.tup [.agg (cfA (c15 2)),.bool true]) [])(h3:pC_ 7 [.agg (pgA p15),.agg (cfA (c15 2)), aI 0] (.tup [.agg (cfA (c15 3)),.bool true]) [])(h4:pC_ 8 [.agg (pgA p15),.agg (cfA (c15 3)), aI 1] (.tup [.agg (cfA (c15 4)),obR [⟨1,0⟩],.bool true]) [])(h5:pC_ 9 [.agg (pgA p15),.agg (cfA (c15 4)), aI 0] (.tup [.agg (cfA (c15 5)),obR [⟨2,0⟩],.bool true]) [])(h6:pC_ 8 [.agg (pgA p15),.agg (cfA (c15 3)), aI 2] (.tup [.agg (cfA Cf0),obR [],.bool false]) [])(h7:pC_ 23 [obR [⟨1,0⟩],obR [⟨1,0⟩]] (.bool true) [])(h8:pC_ 23 [obR [⟨2,0⟩],obR [⟨2,0⟩]] (.bool true) [])(h9:pC_ 11 [.agg (pgA p15),.agg (cfA (c15 3)), aI 0] (.bool true) [])(ha:pC_ 19 [.agg (pgA p15),.agg (cfA (c15 3)), aI 0] (.bool true) [])(hb:pC_ 19 [.agg (pgA p15),.agg (cfA (c15 5)), aI 0] (.bool false) []):Vc (vF_ 10 [] [.cl [.agg (s8R (s15 0))] (.agg (cfA (c15 0))) [],.it 4,.b true,.cl [.agg (pgA p15),.agg (cfA (c15 0)), aI 0] (.tup [.agg (cfA (c15 1)),.bool true]) [],.b true,.cl [.agg (pgA p15),.agg (cfA (c15 1)), aI 0] (.tup [.agg (cfA (c15 2)),.bool true]) [],.b true,.cl [.agg (pgA p15),.agg (cfA (c15 2)), aI 0] (.tup [.agg (cfA (c15 3)),.bool true]) [],.b false,.cl [.agg (pgA p15),.agg (cfA (c15 3)), aI 1] (.tup [.agg (cfA (c15 4)),obR [⟨1,0⟩],.bool true]) [],.cl [.agg (pgA p15),.agg (cfA (c15 4)), aI 0] (.tup [.agg (cfA (c15 5)),obR [⟨2,0⟩],.bool true]) [],.cl [.agg (pgA p15),.agg (cfA (c15 3)), aI 2] (.tup [.agg (cfA Cf0),obR [],.bool false]) [],.cl [obR [⟨1,0⟩],obR [⟨1,0⟩]] (.bool true) [],.cl [obR [⟨2,0⟩],obR [⟨2,0⟩]] (.bool true) [],AU,AU,.cl [.agg (pgA p15),.agg (cfA (c15 5)), aI 0] (.bool false) []] [] (.bool true) []):=ar (cj (rf (0:Int)) (cj (rf (3:Int)) (cj (rf (0:Int)) (cj (rf (0:Int)) (cj (rf (2:Nat)) (cj (show ∀(i:Nat),i<2-> ∀(j:Nat),j<1->List.getD [aI 1,aI 2] ((i+0)*1+j) AV.junk=aI (List.getD [(1:Int),(2:Int)] i (0:Int)) from(fun i hi j hj=>match i,hi,j,hj with |0,_,0,_=>rfl |1,_,0,_=>rfl)) (cj (rf (0:Nat)) (cj (rf (0:Int)) (cj h0 (cj (dt ((0:Int)<3)) (lE (cj (lJ) (cj (rf (0:Nat)) (cj (rf (3:Nat)) (cj (lI) (cj (rf (0:Int)) (cj (rf (3:Int)) (cj (rf (0:Int)) (cj (rf (0:Int)) (cj (rf (2:Nat)) (cj (rr 2 1 fun i j=>aI (List.getD [(1:Int),(2:Int)] i (0:Int))) (cj (rf (0:Nat)) (cj (rr 0 1 fun i j=>aI (List.getD [] i (0:Int))) (cj (rf (0:Int)) (cj (rf (0:Nat)) (cj (rr 0 8 fun i j=>au enC [] i j) (qj (cj h1 (cj (i6 (0+1)) (cj (dt ((0:Int)+1<3)) (lE (cj (lJ) (cj (rf (0:Nat)) (cj (rf (3:Nat)) (cj (lI) (y6 (cj (rf (1:Nat)) (cj (rr 1 8 fun i j=>au enC [e15 (0:Int) (0:Int) (1:Int) false false] i j) (qj (cj h2 (cj (i6 (0+1+1)) (cj (dt ((0:Int)+1+1<3)) (lE (cj (lJ) (cj (rf (0:Nat)) (cj (rf (3:Nat)) (cj (lI) (cj (rf (0:Int)) (cj (rf (3:Int)) (cj (rf (0:Int)) (cj (rf (0:Int)) (cj (rf (2:Nat)) (cj (rr 2 1 fun i j=>aI (List.getD [(1:Int),(2:Int)] i (0:Int))) (cj (rf (0:Nat)) (cj (rr 0 1 fun i j=>aI (List.getD [] i (0:Int))) (cj (rf (2:Int)) (cj (rf (2:Nat)) (cj (rr 2 8 fun i j=>au enC [e15 (0:Int) (0:Int) (1:Int) false false,e15 (1:Int) (0:Int) (2:Int) false false] i j) (qj (cj h3 (cj (i6 (0+1+1+1)) (cj (df ((0:Int)+1+1+1<3)) (lE (cj (lJ) (cj (rf (0:Nat)) (cj (rf (3:Nat)) (cj (lI) (qi (cj (rf (3:Nat)) (cj (rr 3 8 fun i j=>au enC [e15 (0:Int) (0:Int) (1:Int) false false,e15 (1:Int) (0:Int) (2:Int) false false,e15 (2:Int) (0:Int) (-1:Int) true false] i j) (cj (rf (0:Nat)) (cj (rr 0 1 fun i j=>aI (List.getD [] i (0:Int))) (cj (rf (0:Int)) (cj (rf (1:Int)) (cj h4 (lE (cj (lJ) (cj (rf (0:Nat)) (cj (rf (3:Nat)) (cj (lI) (qi (cj (rf (3:Nat)) (cj (rr 3 8 fun i j=>au enC [e15 (0:Int) (0:Int) (1:Int) false false,e15 (1:Int) (1:Int) (2:Int) true true,e15 (2:Int) (0:Int) (-1:Int) true false] i j) (qj (cj h5 (lE (cj (lJ) (cj (rf (0:Nat)) (cj (rf (3:Nat)) (cj (lI) (qi (cj (rf (3:Nat)) (cj (rr 3 8 fun i j=>au enC [e15 (0:Int) (0:Int) (1:Int) false false,e15 (1:Int) (0:Int) (2:Int) false false,e15 (2:Int) (0:Int) (-1:Int) true false] i j) (cj (rf (0:Nat)) (cj (rr 0 1 fun i j=>aI (List.getD [] i (0:Int))) (cj (rf (0:Int)) (cj (rf (2:Int)) (cj h6 (cj (pv ((0:Int)<=1∧(1:Int)<(3:Nat))) (cj (pv ((0:Int)<=1∧(1:Int)<(3:Nat))) (cj (rf (1:Nat)) (cj (rr 1 2 fun i j=>au obC [Ob.mk (1:Int) (0:Int)] i j) (cj (rf (1:Nat)) (cj (show ∀(i:Nat),i<1-> ∀(j:Nat),j<2->List.getD [aI 1,aI 0] ((i+0)*2+j) AV.junk=au obC [Ob.mk (1:Int) (0:Int)] i j from(fun i hi j hj=>match i,hi,j,hj with |0,_,0,_=>rfl |0,_,1,_=>rfl)) (cj h7 (cj (rf (1:Nat)) (cj (rr 1 2 fun i j=>au obC [Ob.mk (2:Int) (0:Int)] i j) (cj (rf (1:Nat)) (cj (show ∀(i:Nat),i<1-> ∀(j:Nat),j<2->List.getD [aI 2,aI 0] ((i+0)*2+j) AV.junk=au obC [Ob.mk (2:Int) (0:Int)] i j from(fun i hi j hj=>match i,hi,j,hj with |0,_,0,_=>rfl |0,_,1,_=>rfl)) (cj h8 (lE (cj (lJ) (cj (rf (0:Nat)) (cj (rf (3:Nat)) (cj (lI) (qi (y5 (cj h9 (lE (cj (lJ) (cj (rf (0:Nat)) (cj (rf (3:Nat)) (cj (lI) (qi (y5 (cj ha (lE (cj (lJ) (cj (rf (0:Nat)) (cj (rf (3:Nat)) (cj (lI) (y6 (cj (rf (1:Nat)) (cj (rr 1 8 fun i j=>au enC [e15 (0:Int) (0:Int) (1:Int) false true] i j) (qj (cj hb (cj (rf true) trivial)))))))))))))))))))))))))))))))))))))))))))))))))))))))))))))))))))))))))))))))))))))))))))))))))))))))))))))))))))))))))))))))))))))))))
theorem bQ{o:Option (Cf×List Ob)}{x:Cf}{q:List Ob}(e:o=some (x,q)):dmT o=(x,q,true):=by rw[e];rfl
theorem ja{p:Pg}{c x:Cf}{o:List Ob}{b:Bool}{i:Int}(hk:BOk p c)(e:dmT (doO p c i)=(x,o,b)):pC_ 8 [.agg (pgA p),.agg (cfA c),.int .i64 i] (.tup [.agg (cfA x),obR o,.bool b]) []:=by
 have h:=CO p c i hk
 rw[e] at h
 exact h
theorem rM{p:Pg}{c x:Cf}{o:List Ob}{b:Bool}{i:Int}(hk:BOk p c)(e:dmT (adrO p c i)=(x,o,b)):pC_ 9 [.agg (pgA p),.agg (cfA c),.int .i64 i] (.tup [.agg (cfA x),obR o,.bool b]) []:=by
 have h:=CQ p c i hk
 rw[e] at h
 exact h
theorem A2{p:Pg}{c:Cf}{b:Bool}{i:Int}(hk:BOk p c)(e:(dmT (doO p c i)).2.2=b):pC_ 11 [.agg (pgA p),.agg (cfA c),.int .i64 i] (.bool b) []:=by
 have h:=CP p c i hk
 rw[e] at h
 exact h
theorem A1{p:Pg}{c:Cf}{b:Bool}{i:Int}(hk:BOk p c)(e:(dmT (adrO p c i)).2.2=b):pC_ 19 [.agg (pgA p),.agg (cfA c),.int .i64 i] (.bool b) []:=by
 have h:=CN p c i hk
 rw[e] at h
 exact h
theorem cS:pC_ 10 [] (.bool true) []:=by
 have hP:OkP p15:=mU (by kernel_rfl)
 have hw:p15.win<=90:=by decide
 have i0:XOk p15 (c15 0):= .beg (vE (by kernel_rfl)) rfl
 have e1:ftO p15 (c15 0) 0=some (c15 1):=by kernel_rfl
 have i1:=XOk.ftO hP i0 e1
 have e2:ftO p15 (c15 1) 0=some (c15 2):=by kernel_rfl
 have i2:=XOk.ftO hP i1 e2
 have e3:ftO p15 (c15 2) 0=some (c15 3):=by kernel_rfl
 have i3:=XOk.ftO hP i2 e3
 have e4:doO p15 (c15 3) 1=some (c15 4,[⟨1,0⟩]):=by kernel_rfl
 have i4:=XOk.doO hP hw i3 e4
 have e5:adrO p15 (c15 4) 0=some (c15 5,[⟨2,0⟩]):=by kernel_rfl
 have i5:=XOk.adrO hP i4 e5
 exact PureC.vc (sP (gh (s15 0)) (rfE (i0.ok hP hw).m e1) (rfE (i1.ok hP hw).m e2) (rfE (i2.ok hP hw).m e3) (ja (i3.ok hP hw) (bQ e4)) (rM (i4.ok hP hw) (bQ e5)) (ja (i3.ok hP hw) (by kernel_rfl)) (soC _ (by decide)) (soC _ (by decide)) (A2 (i3.ok hP hw) (by kernel_rfl)) (A1 (i3.ok hP hw) (by kernel_rfl)) (A1 (i5.ok hP hw) (by kernel_rfl)))
def pF(k a:Int):Pg:=⟨4,2,0,0,0,0,0,[⟨⟨#[109]⟩,false,5⟩],[],[⟨k,0,1,vQ a,vQ 0,⟨#[]⟩,0⟩,⟨11,0,0,vQ 0,vQ 0,⟨#[]⟩,0⟩]⟩
def sF(pc:Int):S8:=⟨0,0,0,0,[3,3,3,3,3],[],pc⟩
def cF0:Cf:=⟨sF 0,[],[],0⟩
def cF1:Cf:=⟨sF 1,[e15 0 0 1 false false],[],0⟩
def cF2:Cf:=⟨sF (-1),[e15 0 0 1 false false,e15 1 0 (-1) true false],[],0⟩
def xFl(v a:Int)(dn kn ft:Bool):Cf:=⟨sF (-1),[⟨0,v,a, -1,1,dn,kn,ft⟩,e15 1 0 (-1) true false],[],0⟩
theorem tO: ∀(i:Nat),i<5-> ∀(j:Nat),j<1->List.getD [aI 3,aI 3,aI 3,aI 3,aI 3] (i*1+j) AV.junk=aI (List.getD [(3:Int),(3:Int),(3:Int),(3:Int),(3:Int)] i (0:Int)):=(fun i hi j hj=>match i,hi,j,hj with |0,_,0,_=>rfl |1,_,0,_=>rfl |2,_,0,_=>rfl |3,_,0,_=>rfl |4,_,0,_=>rfl)
theorem gN: ∀(i:Nat),i<1-> ∀(j:Nat),j<3->List.getD [AV.str (ByteArray.mk (Array.mk [(109:UInt8)])),AV.bool false,aI 5] (i*3+j) AV.junk=au mmC [Mm.mk (ByteArray.mk (Array.mk [(109:UInt8)])) false (5:Nat)] i j:=(fun i hi j hj=>match i,hi,j,hj with |0,_,0,_=>rfl |0,_,1,_=>rfl |0,_,2,_=>rfl)
theorem pg(n:Int): ∀(i:Nat),i<2-> ∀(j:Nat),j<9->List.getD [aI 2,aI 0,aI 1,AV.bool false,aI (Go.bits Go.BinOp.and IntKind.i64 n 15),AV.bool false,aI 0,AV.str (ByteArray.mk (Array.mk [])),aI 0,aI 11,aI 0,aI 0,AV.bool false,aI 0,AV.bool false,aI 0,AV.str (ByteArray.mk (Array.mk [])),aI 0] (i*9+j) AV.junk=au inC [In.mk (2:Int) (0:Int) (1:Int) (vQ (Go.bits Go.BinOp.and IntKind.i64 n (15:Int))) (vQ (0:Int)) (ByteArray.mk (Array.mk [])) (0:Int),In.mk (11:Int) (0:Int) (0:Int) (vQ (0:Int)) (vQ (0:Int)) (ByteArray.mk (Array.mk [])) (0:Int)] i j:=(fun i hi j hj=>match i,hi,j,hj with |0,_,0,_=>rfl |0,_,1,_=>rfl |0,_,2,_=>rfl |0,_,3,_=>rfl |0,_,4,_=>rfl |0,_,5,_=>rfl |0,_,6,_=>rfl |0,_,7,_=>rfl |0,_,8,_=>rfl |1,_,0,_=>rfl |1,_,1,_=>rfl |1,_,2,_=>rfl |1,_,3,_=>rfl |1,_,4,_=>rfl |1,_,5,_=>rfl |1,_,6,_=>rfl |1,_,7,_=>rfl |1,_,8,_=>rfl)
theorem o6{Z:Prop}(z:Z):(RF (2:Nat) (RR 2 8 (fun i j=>au enC [e15 (0:Int) (0:Int) (1:Int) false false,e15 (1:Int) (0:Int) (-1:Int) true false] i j) (RF (0:Nat) (RR 0 1 (fun i j=>aI (List.getD [] i (0:Int))) (RF (0:Int) (RF (0:Int) Z)))))):=⟨rfl,fun _ _ _ _=>rfl,rfl,fun _ _ _ _=>rfl,rfl,rfl,z⟩
theorem o5{Z:Prop}(z:Z):(RF (0:Int) (RF (0:Int) (RF (0:Int) (RF (0:Int) (RF (5:Nat) (RR 5 1 (fun i j=>aI (List.getD [(3:Int),(3:Int),(3:Int),(3:Int),(3:Int)] i (0:Int))) (RF (0:Nat) (RR 0 1 (fun i j=>aI (List.getD [] i (0:Int))) (RF (-1:Int) Z))))))))):=⟨rfl,rfl,rfl,rfl,rfl,fun _ _ _ _=>rfl,rfl,fun _ _ _ _=>rfl,rfl,z⟩
theorem gI{Z:Prop}(z:Z):(RF (4:Int) (RF (2:Int) (RF (0:Int) (RF (0:Int) (RF (0:Int) (RF (0:Int) (RF (0:Int) (RF (1:Nat) Z)))))))):=⟨rfl,rfl,rfl,rfl,rfl,rfl,rfl,rfl,z⟩
theorem tj{Z:Prop}(z:Z):(RF (1:Nat) (RR 1 8 (fun i j=>au enC [e15 (0:Int) (0:Int) (1:Int) false false] i j) (RF (0:Nat) (RR 0 1 (fun i j=>aI (List.getD [] i (0:Int))) (RF (0:Int) (RF (0:Int) Z)))))):=⟨rfl,fun _ _ _ _=>rfl,rfl,fun _ _ _ _=>rfl,rfl,rfl,z⟩
theorem ti{Z:Prop}(z:Z):(RF (0:Int) (RF (0:Int) (RF (0:Int) (RF (0:Int) (RF (5:Nat) (RR 5 1 (fun i j=>aI (List.getD [(3:Int),(3:Int),(3:Int),(3:Int),(3:Int)] i (0:Int))) (RF (0:Nat) (RR 0 1 (fun i j=>aI (List.getD [] i (0:Int))) (RF (1:Int) Z))))))))):=⟨rfl,rfl,rfl,rfl,rfl,fun _ _ _ _=>rfl,rfl,fun _ _ _ _=>rfl,rfl,z⟩
theorem th{Z:Prop}(z:Z):(RF (0:Nat) (RR 0 8 (fun i j=>au enC [] i j) (RF (0:Nat) (RR 0 1 (fun i j=>aI (List.getD [] i (0:Int))) (RF (0:Int) (RF (0:Int) Z)))))):=⟨rfl,fun _ _ _ _=>rfl,rfl,fun _ _ _ _=>rfl,rfl,rfl,z⟩
theorem tf{Z:Prop}(z:Z):(RF (0:Int) (RF (0:Int) (RF (0:Int) (RF (0:Int) (RF (5:Nat) (RR 5 1 (fun i j=>aI (List.getD [(3:Int),(3:Int),(3:Int),(3:Int),(3:Int)] i (0:Int))) (RF (0:Nat) (RR 0 1 (fun i j=>aI (List.getD [] i (0:Int))) (RF (0:Int) Z))))))))):=⟨rfl,rfl,rfl,rfl,rfl,fun _ _ _ _=>rfl,rfl,fun _ _ _ _=>rfl,rfl,z⟩
theorem te{Z:Prop}(z:Z):(RF (0:Int) (RF (0:Int) (RF (0:Int) (RF (0:Int) (RF (5:Nat) Z))))):=⟨rfl,rfl,rfl,rfl,rfl,z⟩
abbrev Az(n:Int):Prop:=PureC Try.prog 7 [.agg (pgA (pF 2 (bits .and .i64 n 15))),.agg (cfA cF1),.int .i64 0] (.tup [.agg (cfA cF2),.bool true]) []
abbrev AA(n:Int):Prop:=PureC Try.prog 7 [.agg (pgA (pF 2 (bits .and .i64 n 15))),.agg (cfA cF0),.int .i64 0] (.tup [.agg (cfA cF1),.bool true]) []
abbrev t7:Prop:=PureC Try.prog 6 [.agg (s8R (sF 0))] (.agg (cfA cF0)) []
abbrev t6:Prop:=PureC Try.prog 10 [] (.bool true) []
abbrev AS(n:Int):Orc:= .cl [.agg (pgA (pF 2 (bits .and .i64 n 15))),.agg (cfA cF0), aI 0] (.tup [.agg (cfA cF1),.bool true]) []
abbrev AR(n:Int):Orc:= .cl [.agg (pgA (pF 2 (bits .and .i64 n 15))),.agg (cfA cF1), aI 0] (.tup [.agg (cfA cF2),.bool true]) []
abbrev uj:Orc:= .cl [.agg (s8R (sF 0))] (.agg (cfA cF0)) []
theorem BK(n:Int)(h0:0<=(bits .and .i64 n 15))(h16:(bits .and .i64 n 15)<16)(h5: ¬5<=(bits .and .i64 n 15))(g0:t7)(g1:AA n)(g2:Az n)(g3:pC_ 8 [.agg (pgA (pF 2 (bits .and .i64 n 15))),.agg (cfA cF2), aI 0] (.tup [.agg (cfA (xFl 3 (bits .and .i64 n 15) true true false)),obR [⟨1,(bits .and .i64 n 15)⟩],.bool true]) [])(g4:t6):Vc (vF_ 4 [aI n,.bool false] [.fz,.fz,.fz,uj,AS n,AR n,.cl [.agg (pgA (pF 2 (bits .and .i64 n 15))),.agg (cfA cF2), aI 0] (.tup [.agg (cfA (xFl 3 (bits .and .i64 n 15) true true false)),obR [⟨1,(bits .and .i64 n 15)⟩],.bool true]) [],.bd false,.bd false,.bd false,.bd false,.bd false,.bd false,.bd false,.bd false,.bd true,.bd true,.bd true,.bd true,.cl [] (.bool true) []] [] (.bool true) []):=ar (te (cj (tO) (cj (rf (0:Nat)) (cj (rf (0:Int)) (cj g0 (gI (cj (gN) (cj (rf (0:Nat)) (cj (rf (2:Nat)) (cj (pg n) (tf (th (cj g1 (gI (cj (gN) (cj (rf (0:Nat)) (cj (rf (2:Nat)) (cj (pg n) (ti (tj (cj g2 (gI (cj (gN) (cj (rf (0:Nat)) (cj (rf (2:Nat)) (cj (pg n) (o5 (o6 (cj g3 (cj (n0 ((2:Nat):Int) 2) (cj (pv ((0:Int)<=0∧(0:Int)<(2:Nat))) (cj (df (Go.bits Go.BinOp.and IntKind.i64 n (15:Int)>=5)) (cj (rf false) (cj (pv ((0:Int)<=0∧(0:Int)<(2:Nat))) (cj (pv ((0:Int)<=0∧(0:Int)<(2:Nat))) (cj (bq ((Go.bits Go.BinOp.and IntKind.i64 n (15:Int) !=Go.bits Go.BinOp.and IntKind.i64 n (15:Int))=false)) (cj (e0 (1:Nat) 0) (cj (df (Go.bits Go.BinOp.and IntKind.i64 n (15:Int)>=5)) (cj (rf false) (cj (df (Go.bits Go.BinOp.and IntKind.i64 n (15:Int)>=5)) (cj (pv ((0:Int)<=0∧(0:Int)<(2:Nat))) (cj (e1 3 3) (cj (pv ((0:Int)<=0∧(0:Int)<(2:Nat))) (cj (rf true) (cj (pv ((0:Int)<=0∧(0:Int)<(2:Nat))) (cj (e1 (-1:Int) (-1)) (cj (e1 (-1:Int) (-1)) (cj g4 (cj (rf true) trivial)))))))))))))))))))))))))))))))))))))))))))))))))
theorem BJ(n:Int)(h0:0<=(bits .and .i64 n 15))(h16:(bits .and .i64 n 15)<16)(h5:5<=(bits .and .i64 n 15))(g0:t7)(g1:AA n)(g2:Az n)(g3:pC_ 8 [.agg (pgA (pF 2 (bits .and .i64 n 15))),.agg (cfA cF2), aI 0] (.tup [.agg (cfA (xFl 0 (bits .and .i64 n 15) true true true)),obR [],.bool true]) [])(g4:t6):Vc (vF_ 4 [aI n,.bool false] [.fz,.fz,.fz,uj,AS n,AR n,.cl [.agg (pgA (pF 2 (bits .and .i64 n 15))),.agg (cfA cF2), aI 0] (.tup [.agg (cfA (xFl 0 (bits .and .i64 n 15) true true true)),obR [],.bool true]) [],.bd false,.bd true,.bd false,.bd false,.bd true,.bd true,.bd false,.bd true,.bd true,.bd true,.bd true,.bd true,.cl [] (.bool true) []] [] (.bool true) []):=ar (te (cj (tO) (cj (rf (0:Nat)) (cj (rf (0:Int)) (cj g0 (gI (cj (gN) (cj (rf (0:Nat)) (cj (rf (2:Nat)) (cj (pg n) (tf (th (cj g1 (gI (cj (gN) (cj (rf (0:Nat)) (cj (rf (2:Nat)) (cj (pg n) (ti (tj (cj g2 (gI (cj (gN) (cj (rf (0:Nat)) (cj (rf (2:Nat)) (cj (pg n) (o5 (o6 (cj g3 (cj (n0 ((2:Nat):Int) 2) (cj (pv ((0:Int)<=0∧(0:Int)<(2:Nat))) (cj (dt (Go.bits Go.BinOp.and IntKind.i64 n (15:Int)>=5)) (cj (rf false) (cj (pv ((0:Int)<=0∧(0:Int)<(2:Nat))) (cj (pv ((0:Int)<=0∧(0:Int)<(2:Nat))) (cj (bq ((Go.bits Go.BinOp.and IntKind.i64 n (15:Int) !=Go.bits Go.BinOp.and IntKind.i64 n (15:Int))=false)) (cj (e1 (0:Nat) 0) (cj (dt (Go.bits Go.BinOp.and IntKind.i64 n (15:Int)>=5)) (cj (rf false) (cj (dt (Go.bits Go.BinOp.and IntKind.i64 n (15:Int)>=5)) (cj (pv ((0:Int)<=0∧(0:Int)<(2:Nat))) (cj (e1 0 0) (cj (pv ((0:Int)<=0∧(0:Int)<(2:Nat))) (cj (rf true) (cj (pv ((0:Int)<=0∧(0:Int)<(2:Nat))) (cj (e1 (-1:Int) (-1)) (cj (e1 (-1:Int) (-1)) (cj g4 (cj (rf true) trivial)))))))))))))))))))))))))))))))))))))))))))))))))
theorem mH(n:Int): ∀(i:Nat),i<2-> ∀(j:Nat),j<9->List.getD [aI 3,aI 0,aI 1,AV.bool false,aI (Go.bits Go.BinOp.and IntKind.i64 n 15),AV.bool false,aI 0,AV.str (ByteArray.mk (Array.mk [])),aI 0,aI 11,aI 0,aI 0,AV.bool false,aI 0,AV.bool false,aI 0,AV.str (ByteArray.mk (Array.mk [])),aI 0] (i*9+j) AV.junk=au inC [In.mk (3:Int) (0:Int) (1:Int) (vQ (Go.bits Go.BinOp.and IntKind.i64 n (15:Int))) (vQ (0:Int)) (ByteArray.mk (Array.mk [])) (0:Int),In.mk (11:Int) (0:Int) (0:Int) (vQ (0:Int)) (vQ (0:Int)) (ByteArray.mk (Array.mk [])) (0:Int)] i j:=(fun i hi j hj=>match i,hi,j,hj with |0,_,0,_=>rfl |0,_,1,_=>rfl |0,_,2,_=>rfl |0,_,3,_=>rfl |0,_,4,_=>rfl |0,_,5,_=>rfl |0,_,6,_=>rfl |0,_,7,_=>rfl |0,_,8,_=>rfl |1,_,0,_=>rfl |1,_,1,_=>rfl |1,_,2,_=>rfl |1,_,3,_=>rfl |1,_,4,_=>rfl |1,_,5,_=>rfl |1,_,6,_=>rfl |1,_,7,_=>rfl |1,_,8,_=>rfl)
abbrev Aw(n:Int):Prop:=PureC Try.prog 8 [.agg (pgA (pF 3 (bits .and .i64 n 15))),.agg (cfA cF2),.int .i64 0] (.tup [.agg (cfA (xFl 0 0 true false false)),obR [],.bool true]) []
abbrev Ay(n:Int):Prop:=PureC Try.prog 7 [.agg (pgA (pF 3 (bits .and .i64 n 15))),.agg (cfA cF0),.int .i64 0] (.tup [.agg (cfA cF1),.bool true]) []
abbrev Ax(n:Int):Prop:=PureC Try.prog 7 [.agg (pgA (pF 3 (bits .and .i64 n 15))),.agg (cfA cF1),.int .i64 0] (.tup [.agg (cfA cF2),.bool true]) []
abbrev vx(n:Int):Orc:= .cl [.agg (pgA (pF 3 (bits .and .i64 n 15))),.agg (cfA cF2), aI 0] (.tup [.agg (cfA (xFl 0 0 true false false)),obR [],.bool true]) []
abbrev vy(n:Int):Orc:= .cl [.agg (pgA (pF 3 (bits .and .i64 n 15))),.agg (cfA cF1), aI 0] (.tup [.agg (cfA cF2),.bool true]) []
abbrev vz(n:Int):Orc:= .cl [.agg (pgA (pF 3 (bits .and .i64 n 15))),.agg (cfA cF0), aI 0] (.tup [.agg (cfA cF1),.bool true]) []
theorem BI(n:Int)(h0:0<=(bits .and .i64 n 15))(h16:(bits .and .i64 n 15)<16)(h5: ¬5<=(bits .and .i64 n 15))(g0:t7)(g1:Ay n)(g2:Ax n)(g3:Aw n)(g4:pC_ 9 [.agg (pgA (pF 3 (bits .and .i64 n 15))),.agg (cfA cF2), aI 0] (.tup [.agg (cfA (xFl 0 (bits .and .i64 n 15) false true false)),obR [⟨2,(bits .and .i64 n 15)⟩],.bool true]) [])(g5:t6):Vc (vF_ 4 [aI n,.bool true] [.fz,.fz,.fz,uj,vz n,vy n,vx n,.cl [.agg (pgA (pF 3 (bits .and .i64 n 15))),.agg (cfA cF2), aI 0] (.tup [.agg (cfA (xFl 0 (bits .and .i64 n 15) false true false)),obR [⟨2,(bits .and .i64 n 15)⟩],.bool true]) [],.bd false,.bd false,.bd false,.bd false,.bd false,.bd false,.bd false,.bd true,.bd true,.bd true,.bd true,.cl [] (.bool true) []] [] (.bool true) []):=ar (te (cj (tO) (cj (rf (0:Nat)) (cj (rf (0:Int)) (cj g0 (gI (cj (gN) (cj (rf (0:Nat)) (cj (rf (2:Nat)) (cj (mH n) (tf (th (cj g1 (gI (cj (gN) (cj (rf (0:Nat)) (cj (rf (2:Nat)) (cj (mH n) (ti (tj (cj g2 (gI (cj (gN) (cj (rf (0:Nat)) (cj (rf (2:Nat)) (cj (mH n) (o5 (o6 (cj g3 (gI (cj (gN) (cj (rf (0:Nat)) (cj (rf (2:Nat)) (cj (mH n) (o5 (o6 (cj g4 (cj (n0 ((2:Nat):Int) 2) (cj (pv ((0:Int)<=0∧(0:Int)<(2:Nat))) (cj (df (Go.bits Go.BinOp.and IntKind.i64 n (15:Int)>=5)) (cj (rf false) (cj (pv ((0:Int)<=0∧(0:Int)<(2:Nat))) (cj (pv ((0:Int)<=0∧(0:Int)<(2:Nat))) (cj (bq ((Go.bits Go.BinOp.and IntKind.i64 n (15:Int) !=Go.bits Go.BinOp.and IntKind.i64 n (15:Int))=false)) (cj (e0 (1:Nat) 0) (cj (df (Go.bits Go.BinOp.and IntKind.i64 n (15:Int)>=5)) (cj (rf false) (cj (pv ((0:Int)<=0∧(0:Int)<(2:Nat))) (cj (e1 0 0) (cj (pv ((0:Int)<=0∧(0:Int)<(2:Nat))) (cj (rf true) (cj (pv ((0:Int)<=0∧(0:Int)<(2:Nat))) (cj (e1 (-1:Int) (-1)) (cj (e1 (-1:Int) (-1)) (cj g5 (cj (rf true) trivial))))))))))))))))))))))))))))))))))))))))))))))))))))))))
theorem BH(n:Int)(h0:0<=(bits .and .i64 n 15))(h16:(bits .and .i64 n 15)<16)(h5:5<=(bits .and .i64 n 15))(g0:t7)(g1:Ay n)(g2:Ax n)(g3:Aw n)(g4:pC_ 9 [.agg (pgA (pF 3 (bits .and .i64 n 15))),.agg (cfA cF2), aI 0] (.tup [.agg (cfA (xFl 0 (bits .and .i64 n 15) false true true)),obR [],.bool true]) [])(g5:t6):Vc (vF_ 4 [aI n,.bool true] [.fz,.fz,.fz,uj,vz n,vy n,vx n,.cl [.agg (pgA (pF 3 (bits .and .i64 n 15))),.agg (cfA cF2), aI 0] (.tup [.agg (cfA (xFl 0 (bits .and .i64 n 15) false true true)),obR [],.bool true]) [],.bd false,.bd true,.bd false,.bd false,.bd true,.bd true,.bd false,.bd true,.bd true,.bd true,.bd true,.cl [] (.bool true) []] [] (.bool true) []):=ar (te (cj (tO) (cj (rf (0:Nat)) (cj (rf (0:Int)) (cj g0 (gI (cj (gN) (cj (rf (0:Nat)) (cj (rf (2:Nat)) (cj (mH n) (tf (th (cj g1 (gI (cj (gN) (cj (rf (0:Nat)) (cj (rf (2:Nat)) (cj (mH n) (ti (tj (cj g2 (gI (cj (gN) (cj (rf (0:Nat)) (cj (rf (2:Nat)) (cj (mH n) (o5 (o6 (cj g3 (gI (cj (gN) (cj (rf (0:Nat)) (cj (rf (2:Nat)) (cj (mH n) (o5 (o6 (cj g4 (cj (n0 ((2:Nat):Int) 2) (cj (pv ((0:Int)<=0∧(0:Int)<(2:Nat))) (cj (dt (Go.bits Go.BinOp.and IntKind.i64 n (15:Int)>=5)) (cj (rf false) (cj (pv ((0:Int)<=0∧(0:Int)<(2:Nat))) (cj (pv ((0:Int)<=0∧(0:Int)<(2:Nat))) (cj (bq ((Go.bits Go.BinOp.and IntKind.i64 n (15:Int) !=Go.bits Go.BinOp.and IntKind.i64 n (15:Int))=false)) (cj (e1 (0:Nat) 0) (cj (dt (Go.bits Go.BinOp.and IntKind.i64 n (15:Int)>=5)) (cj (rf false) (cj (pv ((0:Int)<=0∧(0:Int)<(2:Nat))) (cj (e1 0 0) (cj (pv ((0:Int)<=0∧(0:Int)<(2:Nat))) (cj (rf true) (cj (pv ((0:Int)<=0∧(0:Int)<(2:Nat))) (cj (e1 (-1:Int) (-1)) (cj (e1 (-1:Int) (-1)) (cj g5 (cj (rf true) trivial))))))))))))))))))))))))))))))))))))))))))))))))))))))))
theorem vH{a:Int}(h0:0<=a)(h: ¬5<=a):a=0∨a=1∨a=2∨a=3∨a=4:=by omega
theorem BL{a:Int}(h:5<=a)(h16:a<16):a=5∨a=6∨a=7∨a=8∨a=9∨a=10∨a=11∨a=12∨a=13∨a=14∨a=15:=by omega
theorem BG{a:Int}(h0:0<=a)(h: ¬5<=a):doO (pF 2 a) cF2 0=some (xFl 3 a true true false,[⟨1,a⟩]):=by
 rcases vH h0 h with rfl |rfl |rfl |rfl |rfl<;>kernel_rfl
theorem BF{a:Int}(h:5<=a)(h16:a<16):doO (pF 2 a) cF2 0=some (xFl 0 a true true true,[]):=by
 rcases BL h h16 with rfl |rfl |rfl |rfl |rfl |rfl |rfl |rfl |rfl |rfl |rfl<;>kernel_rfl
theorem BD(a:Int):doO (pF 3 a) cF2 0=some (xFl 0 0 true false false,[]):=by kernel_rfl
theorem BE{a:Int}(h0:0<=a)(h: ¬5<=a):adrO (pF 3 a) cF2 0=some (xFl 0 a false true false,[⟨2,a⟩]):=by
 rcases vH h0 h with rfl |rfl |rfl |rfl |rfl<;>kernel_rfl
theorem BB{a:Int}(h:5<=a)(h16:a<16):adrO (pF 3 a) cF2 0=some (xFl 0 a false true true,[]):=by
 rcases BL h h16 with rfl |rfl |rfl |rfl |rfl |rfl |rfl |rfl |rfl |rfl |rfl<;>kernel_rfl
theorem no(n:Int)(st:Bool):pC_ 4 [.int .i64 n,.bool st] (.bool true) []:=by
 have h2:bits .and .i64 n 15=n%16:=Wd.bits_mask n 4 (by omega)
 have h0:0<=bits .and .i64 n 15:=by omega
 have h16:bits .and .i64 n 15<16:=by omega
 clear h2
 have hw: ∀k a,(pF k a).win<=90:=fun k a=>by show(2:Int)<=90;decide
 have hi0: ∀k a,XOk (pF k a) cF0:=fun k a=> .beg (vE (by kernel_rfl)) rfl
 have e1: ∀a,ftO (pF 2 a) cF0 0=some cF1:=fun a=>by kernel_rfl
 have e2: ∀a,ftO (pF 2 a) cF1 0=some cF2:=fun a=>by kernel_rfl
 have e3: ∀a,ftO (pF 3 a) cF0 0=some cF1:=fun a=>by kernel_rfl
 have e4: ∀a,ftO (pF 3 a) cF1 0=some cF2:=fun a=>by kernel_rfl
 have p2:OkP (pF 2 (bits .and .i64 n 15)):=mU (by kernel_rfl)
 have p3:OkP (pF 3 (bits .and .i64 n 15)):=mU (by kernel_rfl)
 have i1:=XOk.ftO p2 (hi0 2 _) (e1 _)
 have i2:=XOk.ftO p2 i1 (e2 _)
 have j1:=XOk.ftO p3 (hi0 3 _) (e3 _)
 have j2:=XOk.ftO p3 j1 (e4 _)
 cases st with
 |false=>
  have r1:=rfE ((hi0 2 _).ok p2 (hw _ _)).m (e1 _)
  have r2:=rfE (i1.ok p2 (hw _ _)).m (e2 _)
  by_cases h5:5<=bits .and .i64 n 15
  ·exact PureC.vc (BJ n h0 h16 h5 (gh _) r1 r2 (ja (i2.ok p2 (hw _ _)) (bQ (BF h5 h16))) cS)
  ·exact PureC.vc (BK n h0 h16 h5 (gh _) r1 r2 (ja (i2.ok p2 (hw _ _)) (bQ (BG h0 h5))) cS)
 |true=>
  have r1:=rfE ((hi0 3 _).ok p3 (hw _ _)).m (e3 _)
  have r2:=rfE (j1.ok p3 (hw _ _)).m (e4 _)
  have d1:=ja (j2.ok p3 (hw _ _)) (bQ (BD _))
  by_cases h5:5<=bits .and .i64 n 15
  ·exact PureC.vc (BH n h0 h16 h5 (gh _) r1 r2 d1 (rM (j2.ok p3 (hw _ _)) (bQ (BB h5 h16))) cS)
  ·exact PureC.vc (BI n h0 h16 h5 (gh _) r1 r2 d1 (rM (j2.ok p3 (hw _ _)) (bQ (BE h0 h5))) cS)
theorem walk_ExecFaults(a0:Int)(a1:Bool)(W:World):Calls Try.prog 4 #[.int .i64 a0,.bool a1] W (RetB (.bool true) W):=
 (no a0 a1).lawB (R:=fun g=>g<W.heap.size) (fun _ h=>h) rfl (fun j x v hx hv=>match j,hx,hv with
  |0,rfl,rfl=> .int _ _
  |1,rfl,rfl=> .bool _)
def iC(k tg:Int):In:=⟨k,0,0,vQ 0,vQ 0,⟨#[]⟩,tg⟩
def lC:List In:=[iC 8 1,iC 9 0,iC 11 0,iC 11 0]
def pC:Pg:=⟨2,3,0,0,0,0,0,[],[],lC⟩
def sC(s:List Int)(pc:Int):S8:=⟨0,0,0,0,[],s,pc⟩
def bC(s:List Int)(pc:Int)(b:List En)(r:List Int):Cf:=⟨sC s pc,b,r,0⟩
def sK(zs:List Int):Nat->List Int
 |0=>[]
 |k+1=>sK zs k++[bits .and .i64 (zs.getD k 0) 3]
def clS(zs:List Int)(b:Bool)(gs:Int)(s:List Int)(k:Nat):Sm:=⟨[(6,.bool false),(0,lR zs),(1,.bool b),(2,.int .i64 gs),(7,.bptr 0 0),(8,.own 2 0 1 0 s.length),(9,.int .i64 k)],
 [(0,⟨0,false,33,.box [.int .i64 2,.int .i64 3,.int .i64 0,.int .i64 0,.int .i64 0,.int .i64 0,.int .i64 0,.nils,.nils,.own 1 0 9 0 4]⟩),(1,⟨0,false,28,.rows 9 4 (au inC lC)⟩),(2,gd s)],3⟩
theorem nP{Z:Prop}(z:Z):(RF (2:Int) (RF (3:Int) (RF (0:Int) (RF (0:Int) (RF (0:Int) (RF (0:Int) (RF (0:Int) (RF (0:Nat) (RF (4:Nat) Z))))))))):=⟨rfl,rfl,rfl,rfl,rfl,rfl,rfl,rfl,rfl,z⟩
theorem Dd(zs s:List Int)(b:Bool)(gs:Int)(k:Nat)(hk:k<zs.length)(h3:k<3)(hs:s.length=k):Vc (vC_ 5 0 (clS zs b gs s k) [.bd true,.bd true] .nrm [(0,0),(1,1),(2,2)] (clS zs b gs (s++[(bits .and .i64 (zs.getD k 0) 3)]) (k+1))):=ar (cj (dt ((k:Int)<zs.length)) (cj (dt ((k:Int)<3)) (cj (bi k zs.length) (cj (ap s.length 1 8) (cj (i6 (k+1)) (nP (cj (rf (4:Nat)) (cj (rr 4 9 fun i j=>au inC [iC (8:Int) (1:Int),iC (9:Int) (0:Int),iC (11:Int) (0:Int),iC (11:Int) (0:Int)] i j) (cj (pv (s.length+1=(s++[Go.bits Go.BinOp.and IntKind.i64 (zs.getD k 0) (3:Int)]).length)) (cj (show ∀(i:Nat),i<s.length+1-> ∀(j:Nat),j<1->(bif Nat.blt i s.length then aI (s.getD i 0) else List.getD [aI (Go.bits Go.BinOp.and IntKind.i64 (zs.getD k 0) 3)] ((i-s.length+0)*1+j) AV.junk)=aI (List.getD (s++[Go.bits Go.BinOp.and IntKind.i64 (zs.getD k 0) (3:Int)]) i (0:Int)) from(fun i hi j hj=>by obtain rfl:j=0:=(by omega);exact gO (g:=fun a b=>[AV.int .i64 (bits .and .i64 (zs.getD k 0) 3)].getD (a*1+b) .junk) rfl i (by omega) _ fun _=>rfl)) (cj (rf false) (cj (rf zs.length) (cj (rr zs.length 1 fun i j=>aI (zs.getD i 0)) (cj (rf b) (cj (rf gs) (cj (rf (0:Nat)) (cj (pv (s.length+1=(s++[Go.bits Go.BinOp.and IntKind.i64 (zs.getD k 0) (3:Int)]).length)) (cj (rf ((k:Int)+1)) trivial))))))))))))))))))
theorem y4(s:List Int)(k:Nat){Z:Prop}(z:Z):(RF (0:Nat) (RF s.length (RF (k:Int) Z))):=⟨rfl,rfl,rfl,z⟩
theorem y0(zs:List Int)(s:List Int)(b:Bool)(gs:Int){Z:Prop}(z:Z):(RF (4:Nat) (RR 4 9 (fun i j=>au inC [iC (8:Int) (1:Int),iC (9:Int) (0:Int),iC (11:Int) (0:Int),iC (11:Int) (0:Int)] i j) (RF s.length (RR s.length 1 (fun i j=>aI (s.getD i 0)) (RF false (RF zs.length (RR zs.length 1 (fun i j=>aI (zs.getD i 0)) (RF b (RF gs Z))))))))):=⟨rfl,fun _ _ _ _=>rfl,rfl,fun _ _ _ _=>rfl,rfl,rfl,fun _ _ _ _=>rfl,rfl,rfl,z⟩
theorem De(zs s:List Int)(b:Bool)(gs:Int)(k:Nat)(hk: ¬k<zs.length):Vc (vC_ 5 0 (clS zs b gs s k) [.bd false] (.ext 0) [(0,0),(1,1),(2,2)] (clS zs b gs s k)):=ar (cj (df ((k:Int)<zs.length)) (nP (y0 zs s b gs (y4 s k trivial))))
theorem Di(zs s:List Int)(b:Bool)(gs:Int)(k:Nat)(hk:k<zs.length)(h3: ¬k<3):Vc (vC_ 5 0 (clS zs b gs s k) [.bd true,.bd false] (.ext 0) [(0,0),(1,1),(2,2)] (clS zs b gs s k)):=ar (cj (dt ((k:Int)<zs.length)) (cj (df ((k:Int)<3)) (nP (y0 zs s b gs (y4 s k trivial)))))
theorem tN: ∀(i:Nat),i<4-> ∀(j:Nat),j<9->List.getD [aI 8,aI 0,aI 0,AV.bool false,aI 0,AV.bool false,aI 0,AV.str (ByteArray.mk (Array.mk [])),aI 1,aI 9,aI 0,aI 0,AV.bool false,aI 0,AV.bool false,aI 0,AV.str (ByteArray.mk (Array.mk [])),aI 0,aI 11,aI 0,aI 0,AV.bool false,aI 0,AV.bool false,aI 0,AV.str (ByteArray.mk (Array.mk [])),aI 0,aI 11,aI 0,aI 0,AV.bool false,aI 0,AV.bool false,aI 0,AV.str (ByteArray.mk (Array.mk [])),aI 0] (i*9+j) AV.junk=au inC [iC (8:Int) (1:Int),iC (9:Int) (0:Int),iC (11:Int) (0:Int),iC (11:Int) (0:Int)] i j:=(fun i hi j hj=>match i,hi,j,hj with |0,_,0,_=>rfl |0,_,1,_=>rfl |0,_,2,_=>rfl |0,_,3,_=>rfl |0,_,4,_=>rfl |0,_,5,_=>rfl |0,_,6,_=>rfl |0,_,7,_=>rfl |0,_,8,_=>rfl |1,_,0,_=>rfl |1,_,1,_=>rfl |1,_,2,_=>rfl |1,_,3,_=>rfl |1,_,4,_=>rfl |1,_,5,_=>rfl |1,_,6,_=>rfl |1,_,7,_=>rfl |1,_,8,_=>rfl |2,_,0,_=>rfl |2,_,1,_=>rfl |2,_,2,_=>rfl |2,_,3,_=>rfl |2,_,4,_=>rfl |2,_,5,_=>rfl |2,_,6,_=>rfl |2,_,7,_=>rfl |2,_,8,_=>rfl |3,_,0,_=>rfl |3,_,1,_=>rfl |3,_,2,_=>rfl |3,_,3,_=>rfl |3,_,4,_=>rfl |3,_,5,_=>rfl |3,_,6,_=>rfl |3,_,7,_=>rfl |3,_,8,_=>rfl)
theorem yZ{Z:Prop}(z:Z):(RF (4:Nat) (RR 4 9 (fun i j=>au inC [iC (8:Int) (1:Int),iC (9:Int) (0:Int),iC (11:Int) (0:Int),iC (11:Int) (0:Int)] i j) (RF (0:Int) (RF (0:Int) (RF (0:Int) (RF (0:Int) (RF (0:Nat) (RR 0 1 (fun i j=>aI (List.getD [] i (0:Int))) (RF (0:Nat) Z))))))))):=⟨rfl,fun _ _ _ _=>rfl,rfl,rfl,rfl,rfl,rfl,fun _ _ _ _=>rfl,rfl,z⟩
theorem kK{Z:Prop}(z:Z):(RF (2:Int) (RF (3:Int) (RF (0:Int) (RF (0:Int) (RF (0:Int) (RF (0:Int) (RF (0:Int) (RF (0:Nat) (RF (0:Nat) Z))))))))):=⟨rfl,rfl,rfl,rfl,rfl,rfl,rfl,rfl,rfl,z⟩
theorem yY(zs:List Int)(gs:Int){Z:Prop}(z:Z):(RF (0:Nat) (RF false (RF zs.length (RR zs.length 1 (fun i j=>aI (zs.getD i 0)) (RF false (RF gs (RF (0:Nat) (RF (0:Nat) (RF (0:Int) Z))))))))):=⟨rfl,rfl,rfl,fun _ _ _ _=>rfl,rfl,rfl,rfl,rfl,rfl,z⟩
abbrev t5:Prop:=PureC Try.prog 10 [] (.bool true) []
theorem Dh(zs s:List Int)(gs:Int)(k:Nat)(h1:oL_ 5 0 (clS zs false gs [] 0).st (.ext 0) (clS zs false gs [] k).st)(g0:0<=(Int.tmod (bits .and .i64 gs 255) 5)∧(Int.tmod (bits .and .i64 gs 255) 5)<5)(f0:pC_ 6 [.agg (s8R (sC [] 0))] (.agg (cfA (bC [] 0 [] []))) [])(f1:pC_ 7 [.agg (pgA pC),.agg (cfA (bC [] 1 [] [])), aI (Int.tmod (bits .and .i64 gs 255) 5)] (.tup [.agg (cfA (bC [] (Int.tmod (bits .and .i64 gs 255) 5) [e15 1 0 (Int.tmod (bits .and .i64 gs 255) 5) false false] [])),.bool true]) [])(f2:pC_ 8 [.agg (pgA pC),.agg (cfA (bC [] (Int.tmod (bits .and .i64 gs 255) 5) [e15 1 0 (Int.tmod (bits .and .i64 gs 255) 5) false false] [])), aI 0] (.tup [.agg (cfA (bC [] (Int.tmod (bits .and .i64 gs 255) 5) [⟨1,0,0, -1,(Int.tmod (bits .and .i64 gs 255) 5),true,false,true⟩] [])),obR [],.bool true]) [])(f3:t5):Vc (vF_ 5 [lR zs,.bool false, aI gs] [.lp [(0,1),(1,0)] (clS zs false gs [] 0) (.ext 0) (clS zs false gs [] k),.cl [.agg (s8R (sC [] 0))] (.agg (cfA (bC [] 0 [] []))) [],.bd false,.cl [.agg (pgA pC),.agg (cfA (bC [] 1 [] [])), aI (Int.tmod (bits .and .i64 gs 255) 5)] (.tup [.agg (cfA (bC [] (Int.tmod (bits .and .i64 gs 255) 5) [e15 1 0 (Int.tmod (bits .and .i64 gs 255) 5) false false] [])),.bool true]) [],.cl [.agg (pgA pC),.agg (cfA (bC [] (Int.tmod (bits .and .i64 gs 255) 5) [e15 1 0 (Int.tmod (bits .and .i64 gs 255) 5) false false] [])), aI 0] (.tup [.agg (cfA (bC [] (Int.tmod (bits .and .i64 gs 255) 5) [⟨1,0,0, -1,(Int.tmod (bits .and .i64 gs 255) 5),true,false,true⟩] [])),obR [],.bool true]) [],.bd false,.bd false,.bd true,.bd true,.cl [] (.bool true) []] [] (.bool true) []):=ar (nP (cj (rf (4:Nat)) (cj (tN) (yY zs gs (cj h1 (cj (rf (0:Int)) (cj (rf (0:Int)) (cj (rf (0:Int)) (cj (rf (0:Int)) (cj (rf (0:Nat)) (cj (rf (0:Nat)) (cj (rr 0 1 fun i j=>aI (List.getD [] i (0:Int))) (cj (rf (0:Int)) (cj f0 (cj (df (((0:Nat):Int)>0)) (cj (pv ((5:Int)≠0)) (kK (yZ (cj (rr 0 1 fun i j=>aI (List.getD [] i (0:Int))) (cj (rf (1:Int)) (cj (rf (0:Nat)) (cj (rr 0 8 fun i j=>au enC [] i j) (cj (rf (0:Nat)) (cj (rr 0 1 fun i j=>aI (List.getD [] i (0:Int))) (cj (rf (0:Int)) (cj (rf (Int.tmod (Go.bits Go.BinOp.and IntKind.i64 gs (255:Int)) 5)) (cj f1 (kK (yZ (cj (rr 0 1 fun i j=>aI (List.getD [] i (0:Int))) (cj (rf (Int.tmod (Go.bits Go.BinOp.and IntKind.i64 gs (255:Int)) 5)) (cj (rf (1:Nat)) (cj (rr 1 8 fun i j=>au enC [e15 (1:Int) (0:Int) (Int.tmod (Go.bits Go.BinOp.and IntKind.i64 gs (255:Int)) (5:Int)) false false] i j) (cj (rf (0:Nat)) (cj (rr 0 1 fun i j=>aI (List.getD [] i (0:Int))) (cj (rf (0:Int)) (cj (rf (0:Int)) (cj f2 (cj (i6 (0+1)) (cj (bq ((((1:Nat):Int) !=(0:Int)+1)=false)) (cj (pv ((0:Int)<=0∧(0:Int)<(1:Nat))) (cj (pv ((0:Int)<=0∧(0:Int)<(1:Nat))) (cj (rf false) (cj (e1 (0:Nat) 0) (cj (bq ((Int.tmod (Go.bits Go.BinOp.and IntKind.i64 gs (255:Int)) (5:Int)==Int.tmod (Go.bits Go.BinOp.and IntKind.i64 gs (255:Int)) (5:Int))=true)) (cj f3 (cj (rf true) trivial)))))))))))))))))))))))))))))))))))))))))))))))
theorem zT(s:List Int):(bo s==s.getD (Int.toNat ((s.length:Int)-1)+0) (0:Int))=true:=(aG.2 rfl)
theorem mv(s:List Int){Z:Prop}(z:Z):(RF (4:Nat) (RR 4 9 (fun i j=>au inC [iC (8:Int) (1:Int),iC (9:Int) (0:Int),iC (11:Int) (0:Int),iC (11:Int) (0:Int)] i j) (RF (0:Int) (RF (0:Int) (RF (0:Int) (RF (0:Int) (RF (0:Nat) (RR 0 1 (fun i j=>aI (List.getD [] i (0:Int))) (RF s.length Z))))))))):=⟨rfl,fun _ _ _ _=>rfl,rfl,rfl,rfl,rfl,rfl,fun _ _ _ _=>rfl,rfl,z⟩
theorem vW(s:List Int){Z:Prop}(z:Z):(RF (0:Int) (RF (0:Int) (RF (0:Int) (RF (0:Int) (RF (0:Nat) (RF s.length (RR s.length 1 (fun i j=>aI (s.getD i 0)) (RF (0:Int) Z)))))))):=⟨rfl,rfl,rfl,rfl,rfl,rfl,fun _ _ _ _=>rfl,rfl,z⟩
abbrev wN(s:List Int):Prop:=PureC Try.prog 6 [.agg (s8R (sC s 0))] (.agg (cfA (bC s 0 [] []))) []
abbrev wX(s:List Int):Orc:= .cl [.agg (s8R (sC s 0))] (.agg (cfA (bC s 0 [] []))) []
theorem Dg(zs s:List Int)(gs:Int)(k:Nat)(h1:oL_ 5 0 (clS zs false gs [] 0).st (.ext 0) (clS zs false gs s k).st)(g0:0<=(Int.tmod (bits .and .i64 gs 255) 5)∧(Int.tmod (bits .and .i64 gs 255) 5)<5)(hs:0<s.length∧s.length<=3)(f0:wN s)(f1:pC_ 7 [.agg (pgA pC),.agg (cfA (bC s 1 [] [])), aI (Int.tmod (bits .and .i64 gs 255) 5)] (.tup [.agg (cfA (bC s (Int.tmod (bits .and .i64 gs 255) 5) [e15 1 0 (Int.tmod (bits .and .i64 gs 255) 5) false false] [])),.bool true]) [])(f2:pC_ 8 [.agg (pgA pC),.agg (cfA (bC s (Int.tmod (bits .and .i64 gs 255) 5) [e15 1 0 (Int.tmod (bits .and .i64 gs 255) 5) false false] [])), aI 0] (.tup [.agg (cfA (bC s (bo s) [⟨1,0,0, -1,(bo s),true,false,false⟩] [])),obR [⟨3,(bo s)⟩],.bool true]) [])(f3:t5):Vc (vF_ 5 [lR zs,.bool false, aI gs] [.lp [(0,1),(1,0)] (clS zs false gs [] 0) (.ext 0) (clS zs false gs s k),wX s,.bd true,.cl [.agg (pgA pC),.agg (cfA (bC s 1 [] [])), aI (Int.tmod (bits .and .i64 gs 255) 5)] (.tup [.agg (cfA (bC s (Int.tmod (bits .and .i64 gs 255) 5) [e15 1 0 (Int.tmod (bits .and .i64 gs 255) 5) false false] [])),.bool true]) [],.cl [.agg (pgA pC),.agg (cfA (bC s (Int.tmod (bits .and .i64 gs 255) 5) [e15 1 0 (Int.tmod (bits .and .i64 gs 255) 5) false false] [])), aI 0] (.tup [.agg (cfA (bC s (bo s) [⟨1,0,0, -1,(bo s),true,false,false⟩] [])),obR [⟨3,(bo s)⟩],.bool true]) [],.bd false,.bd false,.bd true,.bd true,.bd true,.bd true,.cl [] (.bool true) []] [] (.bool true) []):=ar (nP (cj (rf (4:Nat)) (cj (tN) (yY zs gs (cj h1 (vW s (cj f0 (cj (dt ((s.length:Int)>0)) (cj (i6 (s.length-1)) (cj (bi (s.length-1) s.length) (cj (pv (Int.toNat ((s.length:Int)-1)+0<s.length)) (cj (pv ((5:Int)≠0)) (kK (mv s (cj (rr s.length 1 fun i j=>aI (s.getD i 0)) (cj (rf (1:Int)) (cj (rf (0:Nat)) (cj (rr 0 8 fun i j=>au enC [] i j) (cj (rf (0:Nat)) (cj (rr 0 1 fun i j=>aI (List.getD [] i (0:Int))) (cj (rf (0:Int)) (cj (rf (Int.tmod (Go.bits Go.BinOp.and IntKind.i64 gs (255:Int)) 5)) (cj f1 (kK (mv s (cj (rr s.length 1 fun i j=>aI (s.getD i 0)) (cj (rf (Int.tmod (Go.bits Go.BinOp.and IntKind.i64 gs (255:Int)) 5)) (cj (rf (1:Nat)) (cj (rr 1 8 fun i j=>au enC [e15 (1:Int) (0:Int) (Int.tmod (Go.bits Go.BinOp.and IntKind.i64 gs (255:Int)) (5:Int)) false false] i j) (cj (rf (0:Nat)) (cj (rr 0 1 fun i j=>aI (List.getD [] i (0:Int))) (cj (rf (0:Int)) (cj (rf (0:Int)) (cj f2 (cj (i6 (0+1)) (cj (bq ((((1:Nat):Int) !=(0:Int)+1)=false)) (cj (pv ((0:Int)<=0∧(0:Int)<(1:Nat))) (cj (pv ((0:Int)<=0∧(0:Int)<(1:Nat))) (cj (rf false) (cj (e1 (1:Nat) 1) (cj (pv ((0:Int)<=0∧(0:Int)<(1:Nat))) (cj (show(bif (3:Int)==(3:Int) then bif bo s==s.getD (Int.toNat ((s.length:Int)-1)+0) (0:Int) then true else false else false)=true from by show(bif bo s==bo s then true else false)=true;rw[beq_self_eq_true];rfl) (cj (zT s) (cj (pv ((0:Int)<=0∧(0:Int)<(1:Nat))) (cj (zT s) (cj f3 (cj (rf true) trivial)))))))))))))))))))))))))))))))))))))))))))))))
theorem yX(s:List Int)(gs:Int){Z:Prop}(z:Z):(RR s.length 1 (fun i j=>aI (s.getD i 0)) (RF (Int.tmod (Go.bits Go.BinOp.and IntKind.i64 gs (255:Int)) (5:Int)) (RF (2:Nat) (RR 2 8 (fun i j=>au enC [En.mk (0:Int) (0:Int) (0:Int) (-1:Int) (1:Int) true false false,e15 (1:Int) (0:Int) (Int.tmod (Go.bits Go.BinOp.and IntKind.i64 gs (255:Int)) (5:Int)) false false] i j) (RF (0:Nat) (RR 0 1 (fun i j=>aI (List.getD [] i (0:Int))) (RF (0:Int) (RF (1:Int) Z)))))))):=⟨fun _ _ _ _=>rfl,rfl,rfl,fun _ _ _ _=>rfl,rfl,fun _ _ _ _=>rfl,rfl,rfl,z⟩
theorem yW(s:List Int)(gs:Int){Z:Prop}(z:Z):(RR s.length 1 (fun i j=>aI (s.getD i 0)) (RF (1:Int) (RF (1:Nat) (RR 1 8 (fun i j=>au enC [En.mk (0:Int) (0:Int) (0:Int) (-1:Int) (1:Int) true false false] i j) (RF (0:Nat) (RF (0:Int) (RF (Int.tmod (Go.bits Go.BinOp.and IntKind.i64 gs (255:Int)) (5:Int)) Z))))))):=⟨fun _ _ _ _=>rfl,rfl,rfl,fun _ _ _ _=>rfl,rfl,rfl,rfl,z⟩
theorem vi(s:List Int){Z:Prop}(z:Z):(RR s.length 1 (fun i j=>aI (s.getD i 0)) (RF (0:Int) (RF (0:Nat) (RR 0 8 (fun i j=>au enC [] i j) (RF (0:Nat) (RR 0 1 (fun i j=>aI (List.getD [] i (0:Int))) (RF (0:Int) (RF (0:Int) Z)))))))):=⟨fun _ _ _ _=>rfl,rfl,rfl,fun _ _ _ _=>rfl,rfl,fun _ _ _ _=>rfl,rfl,rfl,z⟩
theorem vh(zs:List Int)(gs:Int){Z:Prop}(z:Z):(RF (0:Nat) (RF false (RF zs.length (RR zs.length 1 (fun i j=>aI (zs.getD i 0)) (RF true (RF gs (RF (0:Nat) (RF (0:Nat) (RF (0:Int) Z))))))))):=⟨rfl,rfl,rfl,fun _ _ _ _=>rfl,rfl,rfl,rfl,rfl,rfl,z⟩
abbrev As(s:List Int)(gs:Int):Prop:=PureC Try.prog 8 [.agg (pgA pC),.agg (cfA (bC s (Int.tmod (bits .and .i64 gs 255) 5) [⟨0,0,0, -1,1,true,false,false⟩,e15 1 0 (Int.tmod (bits .and .i64 gs 255) 5) false false] [])),.int .i64 1] (.tup [.agg (cfA (bC s 1 [⟨0,0,0, -1,1,true,false,false⟩,⟨1,0,0, -1,1,true,false,false⟩] [])),obR [⟨3,1⟩],.bool true]) []
abbrev At(s:List Int)(gs:Int):Prop:=PureC Try.prog 7 [.agg (pgA pC),.agg (cfA (bC s 1 [⟨0,0,0, -1,1,true,false,false⟩] [])),.int .i64 (Int.tmod (bits .and .i64 gs 255) 5)] (.tup [.agg (cfA (bC s (Int.tmod (bits .and .i64 gs 255) 5) [⟨0,0,0, -1,1,true,false,false⟩,e15 1 0 (Int.tmod (bits .and .i64 gs 255) 5) false false] [])),.bool true]) []
abbrev Au(s:List Int):Prop:=PureC Try.prog 7 [.agg (pgA pC),.agg (cfA (bC s 0 [] [])),.int .i64 0] (.tup [.agg (cfA (bC s 1 [⟨0,0,0, -1,1,true,false,false⟩] [1])),.bool true]) []
abbrev Av(zs:List Int)(s:List Int)(gs:Int)(k:Nat):Prop:=Ok Try.prog (cF Try.prog 5) (.loop (lpC Try.prog 5 0)) (clS zs true gs [] 0).st (.ext 0) (clS zs true gs s k).st
abbrev AO(s:List Int)(gs:Int):Orc:= .cl [.agg (pgA pC),.agg (cfA (bC s (Int.tmod (bits .and .i64 gs 255) 5) [⟨0,0,0, -1,1,true,false,false⟩,e15 1 0 (Int.tmod (bits .and .i64 gs 255) 5) false false] [])), aI 1] (.tup [.agg (cfA (bC s 1 [⟨0,0,0, -1,1,true,false,false⟩,⟨1,0,0, -1,1,true,false,false⟩] [])),obR [⟨3,1⟩],.bool true]) []
abbrev AP(s:List Int)(gs:Int):Orc:= .cl [.agg (pgA pC),.agg (cfA (bC s 1 [⟨0,0,0, -1,1,true,false,false⟩] [])), aI (Int.tmod (bits .and .i64 gs 255) 5)] (.tup [.agg (cfA (bC s (Int.tmod (bits .and .i64 gs 255) 5) [⟨0,0,0, -1,1,true,false,false⟩,e15 1 0 (Int.tmod (bits .and .i64 gs 255) 5) false false] [])),.bool true]) []
abbrev AQ(s:List Int):Orc:= .cl [.agg (pgA pC),.agg (cfA (bC s 0 [] [])), aI 0] (.tup [.agg (cfA (bC s 1 [⟨0,0,0, -1,1,true,false,false⟩] [1])),.bool true]) []
theorem BQ(zs s:List Int)(gs:Int)(k:Nat)(h1:Av zs s gs k)(g0:0<=(Int.tmod (bits .and .i64 gs 255) 5)∧(Int.tmod (bits .and .i64 gs 255) 5)<5)(hs:s.length=0)(f0:wN s)(f1:Au s)(f2:At s gs)(f3:As s gs)(f4:t5):Vc (vF_ 5 [lR zs,.bool true, aI gs] [.lp [(0,1),(1,0)] (clS zs true gs [] 0) (.ext 0) (clS zs true gs s k),wX s,.bd false,AQ s,AP s gs,AO s gs,.bd false,.bd false,.bd true,.bd true,.bd true,.bd true,.cl [] (.bool true) []] [] (.bool true) []):=ar (nP (cj (rf (4:Nat)) (cj (tN) (vh zs gs (cj h1 (vW s (cj f0 (cj (df ((s.length:Int)>0)) (kK (mv s (vi s (cj f1 (cj (pv ((5:Int)≠0)) (kK (mv s (yW s gs (cj f2 (kK (mv s (yX s gs (cj f3 (cj (i6 (1+1)) (cj (bq ((((2:Nat):Int) !=(1:Int)+1)=false)) (cj (pv ((0:Int)<=1∧(1:Int)<(2:Nat))) (cj (pv ((0:Int)<=1∧(1:Int)<(2:Nat))) (cj (rf false) (cj (e1 (1:Nat) 1) (cj (pv ((0:Int)<=0∧(0:Int)<(1:Nat))) (cj (rf true) (cj (e1 1 1) (cj (pv ((0:Int)<=1∧(1:Int)<(2:Nat))) (cj (e1 1 1) (cj f4 (cj (rf true) trivial))))))))))))))))))))))))))))))))))
theorem Df(zs s:List Int)(gs:Int)(k:Nat)(h1:Av zs s gs k)(g0:0<=(Int.tmod (bits .and .i64 gs 255) 5)∧(Int.tmod (bits .and .i64 gs 255) 5)<5)(hs:0<s.length∧s.length<=3)(f0:wN s)(f1:Au s)(f2:At s gs)(f3:As s gs)(f4:t5):Vc (vF_ 5 [lR zs,.bool true, aI gs] [.lp [(0,1),(1,0)] (clS zs true gs [] 0) (.ext 0) (clS zs true gs s k),wX s,.bd true,AQ s,AP s gs,AO s gs,.bd false,.bd false,.bd true,.bd true,.bd true,.bd true,.cl [] (.bool true) []] [] (.bool true) []):=ar (nP (cj (rf (4:Nat)) (cj (tN) (vh zs gs (cj h1 (vW s (cj f0 (cj (dt ((s.length:Int)>0)) (cj (i6 (s.length-1)) (cj (bi (s.length-1) s.length) (cj (pv (Int.toNat ((s.length:Int)-1)+0<s.length)) (kK (mv s (vi s (cj f1 (cj (pv ((5:Int)≠0)) (kK (mv s (yW s gs (cj f2 (kK (mv s (yX s gs (cj f3 (cj (i6 (1+1)) (cj (bq ((((2:Nat):Int) !=(1:Int)+1)=false)) (cj (pv ((0:Int)<=1∧(1:Int)<(2:Nat))) (cj (pv ((0:Int)<=1∧(1:Int)<(2:Nat))) (cj (rf false) (cj (e1 (1:Nat) 1) (cj (pv ((0:Int)<=0∧(0:Int)<(1:Nat))) (cj (rf true) (cj (e1 1 1) (cj (pv ((0:Int)<=1∧(1:Int)<(2:Nat))) (cj (e1 1 1) (cj f4 (cj (rf true) trivial)))))))))))))))))))))))))))))))))))))
theorem nV(zs:List Int): ∀k,(sK zs k).length=k
 |0=>rfl
 |k+1=>by rw[sK,aV,nV zs k];rfl
theorem vo(zs:List Int): ∀k, ∀x∈sK zs k,0<=x∧x<4
 |0,_,hx=>by cases hx
 |k+1,x,hx=>by
  rcases bb.1 hx with h |h
  ·exact vo zs k x h
  ·have h2:bits .and .i64 (zs.getD k 0) 3=zs.getD k 0%4:=Wd.bits_mask (zs.getD k 0) 2 (by omega)
   rw[aA.1 h,h2]
   omega
theorem uI(zs:List Int)(b:Bool)(gs:Int):oL_ 5 0 (clS zs b gs [] 0).st (.ext 0) (clS zs b gs (sK zs (min zs.length 3)) (min zs.length 3)).st:=
 Ok.loop (P:=Try.prog) (nt:=cF Try.prog 5) (c:=lpC Try.prog 5 0) (F:=fun k=>clS zs b gs (sK zs k) k) (m:=min zs.length 3) (x:= .ext 0) (J:=clS zs b gs (sK zs (min zs.length 3)) (min zs.length 3)) (fun k hk=>Ok.vc (Dd zs (sK zs k) b gs k (by omega) (by omega) (nV zs k))) (by
  by_cases h:zs.length<=3
  ·exact Ok.vc (De zs _ b gs _ (by omega))
  ·exact Ok.vc (Di zs _ b gs _ (by omega) (by omega))) (by simp)
theorem oC:OkP pC:=mU (by kernel_rfl)
theorem sO{s:List Int}(hs:s.length<=3)(hb: ∀x∈s,0<=x∧x<4){pc:Int}(hp:0<=pc∧pc<=4):Inv pC (bC s pc [] []):=
 Inv.begin ⟨⟨(by show(0:Int)<=0∧(0:Int)<65536;decide),(by show(0:Int)<=0∧(0:Int)<65536;decide),(by show(0:Int)<=0∧(0:Int)<65536;decide),(by show(0:Int)<=0∧(0:Int)<65536;decide)⟩,(fun _ h=>by cases h),rfl,(by show -1<=pc∧pc<=4;omega),(by show s.length<=100;omega),fun x hx=>by have:=hb x hx;show -1<=x∧x<=4;omega⟩ rfl (by show s.length<=4;omega) fun x hx=>by have:=hb x hx;show 0<=x∧x<=4;omega
theorem Inv.rsb{p:Pg}{c:Cf}(h:Inv p c):Inv p ⟨c.s,c.b,[],c.e⟩:=⟨h.reg,h.mem,h.ml,h.pc,h.st,h.stk,h.bl,h.be,aY _,(fun _ hx=>by cases hx),h.et⟩
theorem vG{p:Pg}{c x:Cf}{g n:Int}(hn:gsV p c=n)(h0:0<=g)(hg:g<n)(hx:ftD p c g=x):ftO p c g=some x:=by
 unfold ftO
 rw[ao ⟨h0,by rw[hn];exact hg⟩,hx]
theorem BV(g:Int):doO pC (bC [] g [e15 1 0 g false false] []) 0=some (bC [] g [⟨1,0,0, -1,g,true,false,true⟩] [],[]):=by kernel_rfl
theorem C7(s:List Int)(g t:Int):goV (bC s g [⟨1,0,0, -1,g,true,false,false⟩] []) 0 t=bC s t [⟨1,0,0, -1,t,true,false,false⟩] []:=by
 unfold Px.goV
 split
 ·rename_i h
  obtain rfl:g=t:=h
  rfl
 ·rfl
theorem C6(s:List Int)(g t:Int):goV (bC s g [⟨0,0,0, -1,1,true,false,false⟩,⟨1,0,0, -1,g,true,false,false⟩] []) 1 t=bC s t [⟨0,0,0, -1,1,true,false,false⟩,⟨1,0,0, -1,t,true,false,false⟩] []:=by
 unfold Px.goV
 split
 ·rename_i h
  obtain rfl:g=t:=h
  rfl
 ·rfl
theorem BU{s:List Int}(hs:0<s.length∧s.length<=3)(g:Int):doO pC (bC s g [e15 1 0 g false false] []) 0=some (bC s (bo s) [⟨1,0,0, -1,(bo s),true,false,false⟩] [],[⟨3,bo s⟩]):=by
 have h:doO pC (bC s g [e15 1 0 g false false] []) 0=some (goV (bC s g [⟨1,0,0, -1,g,true,false,false⟩] []) 0 (bo s),[⟨3,bo s⟩]):=match s,hs with
  | [a],_=>by kernel_rfl
  | [a,b],_=>by kernel_rfl
  | [a,b,c],_=>by kernel_rfl
  | [],h=>absurd h.1 (dN _)
  |a::b::c::d::r,h=>absurd h.2 (by simp only[bY];omega)
 rw[h,C7]
theorem vN{s:List Int}(hs:s.length<=3)(g:Int):doO pC (bC s g [⟨0,0,0, -1,1,true,false,false⟩,e15 1 0 g false false] []) 1=some (bC s 1 [⟨0,0,0, -1,1,true,false,false⟩,⟨1,0,0, -1,1,true,false,false⟩] [],[⟨3,1⟩]):=by
 have h:doO pC (bC s g [⟨0,0,0, -1,1,true,false,false⟩,e15 1 0 g false false] []) 1=some (goV (bC s g [⟨0,0,0, -1,1,true,false,false⟩,⟨1,0,0, -1,g,true,false,false⟩] []) 1 1,[⟨3,1⟩]):=match s,hs with
  | [],_=>by kernel_rfl
  | [a],_=>by kernel_rfl
  | [a,b],_=>by kernel_rfl
  | [a,b,c],_=>by kernel_rfl
  |a::b::c::d::r,h=>absurd h (by simp only[bY];omega)
 rw[h,C6]
theorem BT{s:List Int}(hs:s.length<=3):ftO pC (bC s 0 [] []) 0=some (bC s 1 [⟨0,0,0, -1,1,true,false,false⟩] [1]):=match s,hs with
 | [],_=>by kernel_rfl
 | [a],_=>by kernel_rfl
 | [a,b],_=>by kernel_rfl
 | [a,b,c],_=>by kernel_rfl
 |a::b::c::d::r,h=>absurd h (by simp only[bY];omega)
theorem og(zs:List Int)(b:Bool)(gs:Int):pC_ 5 [lR zs,.bool b,.int .i64 gs] (.bool true) []:=by
 have h2:bits .and .i64 gs 255=gs%256:=Wd.bits_mask gs 8 (by omega)
 have g0:0<=(Int.tmod (bits .and .i64 gs 255) 5)∧(Int.tmod (bits .and .i64 gs 255) 5)<5:=by
  have h0:0<=bits .and .i64 gs 255:=by omega
  exact⟨Int.tmod_nonneg _ h0,Int.tmod_lt_of_pos _ (by omega)⟩
 clear h2
 have hL:=uI zs b gs
 have hb:=vo zs (min zs.length 3)
 have hl:(sK zs (min zs.length 3)).length<=3:=by rw[nV];omega
 generalize sK zs (min zs.length 3)=s at hL hb hl
 have hw:pC.win<=90:=by decide
 have mk: ∀{c:Cf},XOk pC c->BOk pC c:=fun h=>h.ok oC hw
 cases b with
 |false=>
  have i1:XOk pC _:= .beg (sO hl hb (pc:=1) (by decide)) rfl
  have e1:ftO pC (bC s 1 [] []) (Int.tmod (bits .and .i64 gs 255) 5)=some (bC s (Int.tmod (bits .and .i64 gs 255) 5) [e15 1 0 (Int.tmod (bits .and .i64 gs 255) 5) false false] []):=vG (n:=5) (by kernel_rfl) g0.1 g0.2 (by kernel_rfl)
  have i2:=XOk.ftO oC i1 e1
  by_cases h0:s.length=0
  ·obtain rfl:s=[]:=bg h0
   exact PureC.vc (Dh zs [] gs _ hL g0 (gh _) (rfE (mk i1).m e1) (ja (mk i2) (bQ (BV _))) cS)
  ·have hs:0<s.length∧s.length<=3:=by omega
   exact PureC.vc (Dg zs s gs _ hL g0 hs (gh _) (rfE (mk i1).m e1) (ja (mk i2) (bQ (BU hs _))) cS)
 |true=>
  have i1:XOk pC _:= .beg (sO hl hb (pc:=0) (by decide)) rfl
  have e1:=BT hl
  have i2:=XOk.ftO oC i1 e1
  have i3:XOk pC (bC s 1 [⟨0,0,0, -1,1,true,false,false⟩] []):=i2.rsb
  have e3:ftO pC (bC s 1 [⟨0,0,0, -1,1,true,false,false⟩] []) (Int.tmod (bits .and .i64 gs 255) 5)=some (bC s (Int.tmod (bits .and .i64 gs 255) 5) [⟨0,0,0, -1,1,true,false,false⟩,e15 1 0 (Int.tmod (bits .and .i64 gs 255) 5) false false] []):=vG (n:=5) (by kernel_rfl) g0.1 g0.2 (by kernel_rfl)
  have i4:=XOk.ftO oC i3 e3
  by_cases h0:s.length=0
  ·exact PureC.vc (BQ zs s gs _ hL g0 h0 (gh _) (rfE (mk i1).m e1) (rfE (mk i3).m e3) (ja (mk i4) (bQ (vN hl _))) cS)
  ·exact PureC.vc (Df zs s gs _ hL g0 (by omega) (gh _) (rfE (mk i1).m e1) (rfE (mk i3).m e3) (ja (mk i4) (bQ (vN hl _))) cS)
theorem walk_ExecCalls(A0:Option Addr)(c0:Nat)(z0:List Int)(a1:Bool)(a2:Int)(W:World)(hc0:z0.length<=c0)(hm0:c0<=maxLen)(hr0:Rd W W.heap.size A0 (z0.map (Value.int .i64))):Calls Try.prog 5 #[.slice A0 z0.length c0,.bool a1,.int .i64 a2] W (RetB (.bool true) W):=
 (og z0 a1 a2).lawB (R:=fun g=>g<W.heap.size) (fun _ h=>h) rfl (fun j x v hx hv=>match j,hx,hv with
  |0,rfl,rfl=> .ofRd hr0 hc0 hm0
  |1,rfl,rfl=> .bool _
  |2,rfl,rfl=> .int _ _)
def pB8(b:Int):Pg:=⟨4,4,0,0,0,0,0,[⟨⟨#[109]⟩,false,4⟩],[],[⟨3,0,1,⟨true,2⟩,vQ 0,⟨#[]⟩,0⟩,⟨2,0,3,vQ b,vQ 0,⟨#[]⟩,0⟩,⟨11,0,0,vQ 0,vQ 0,⟨#[]⟩,0⟩]⟩
def sB8(a v m pc:Int):S8:=⟨0,v,a,0,[m,m+1,m+2,m+3],[],pc⟩
def hB8:En:=⟨2,0,0, -1, -1,true,false,false⟩
def c8(a b v m:Int):Nat->Cf
 |0=>⟨sB8 a v m 0,[],[],0⟩
 |1=>⟨sB8 a v m 1,[e15 0 0 1 false false],[],0⟩
 |2=>⟨sB8 a v m 2,[e15 0 0 1 false false,e15 1 0 2 false false],[],0⟩
 |3=>⟨sB8 a v m (-1),[e15 0 0 1 false false,e15 1 0 2 false false,hB8],[],0⟩
 |4=>⟨sB8 a v m (-1),[e15 0 0 1 false false,⟨1,m+b,b, -1,2,true,true,false⟩,hB8],[],0⟩
 |5=>⟨sB8 a v m (-1),[⟨0,0,a, -1,1,false,true,false⟩,⟨1,m+b,b, -1,2,true,true,false⟩,hB8],[],0⟩
 |6=>⟨sB8 a v m 1,[⟨0,0,a, -1,1,false,true,false⟩],[],0⟩
 |7=>⟨sB8 a v m 2,[⟨0,0,a, -1,1,false,true,false⟩,e15 1 0 2 false false],[],0⟩
 |8=>⟨sB8 a v m 2,[⟨0,v,a, -1,1,true,true,false⟩,e15 1 0 2 false false],[],0⟩
 |_=>⟨sB8 a v m 2,[⟨0,v,a, -1,1,true,true,false⟩,⟨1,v,b,0,2,true,true,false⟩],[],0⟩
theorem zS(nm:Int): ∀(i:Nat),i<4-> ∀(j:Nat),j<1->List.getD [aI (Go.bits Go.BinOp.and IntKind.i64 nm 7),aI (Go.bits Go.BinOp.and IntKind.i64 nm 7+1),aI (Go.bits Go.BinOp.and IntKind.i64 nm 7+2),aI (Go.bits Go.BinOp.and IntKind.i64 nm 7+3)] ((i+0)*1+j) AV.junk=aI (List.getD [Go.bits Go.BinOp.and IntKind.i64 nm (7:Int),Go.bits Go.BinOp.and IntKind.i64 nm (7:Int)+1,Go.bits Go.BinOp.and IntKind.i64 nm (7:Int)+2,Go.bits Go.BinOp.and IntKind.i64 nm (7:Int)+3] i (0:Int)):=(fun i hi j hj=>match i,hi,j,hj with |0,_,0,_=>rfl |1,_,0,_=>rfl |2,_,0,_=>rfl |3,_,0,_=>rfl)
theorem gM: ∀(i:Nat),i<1-> ∀(j:Nat),j<3->List.getD [AV.str (ByteArray.mk (Array.mk [(109:UInt8)])),AV.bool false,aI 4] ((i+0)*3+j) AV.junk=au mmC [Mm.mk (ByteArray.mk (Array.mk [(109:UInt8)])) false (4:Nat)] i j:=(fun i hi j hj=>match i,hi,j,hj with |0,_,0,_=>rfl |0,_,1,_=>rfl |0,_,2,_=>rfl)
theorem gL(nb:Int): ∀(i:Nat),i<3-> ∀(j:Nat),j<9->List.getD [aI 3,aI 0,aI 1,AV.bool true,aI 2,AV.bool false,aI 0,AV.str (ByteArray.mk (Array.mk [])),aI 0,aI 2,aI 0,aI 3,AV.bool false,aI (Go.bits Go.BinOp.and IntKind.i64 nb 3),AV.bool false,aI 0,AV.str (ByteArray.mk (Array.mk [])),aI 0,aI 11,aI 0,aI 0,AV.bool false,aI 0,AV.bool false,aI 0,AV.str (ByteArray.mk (Array.mk [])),aI 0] ((i+0)*9+j) AV.junk=au inC [In.mk (3:Int) (0:Int) (1:Int) (Vl.mk true (2:Int)) (vQ (0:Int)) (ByteArray.mk (Array.mk [])) (0:Int),In.mk (2:Int) (0:Int) (3:Int) (vQ (Go.bits Go.BinOp.and IntKind.i64 nb (3:Int))) (vQ (0:Int)) (ByteArray.mk (Array.mk [])) (0:Int),In.mk (11:Int) (0:Int) (0:Int) (vQ (0:Int)) (vQ (0:Int)) (ByteArray.mk (Array.mk [])) (0:Int)] i j:=(fun i hi j hj=>match i,hi,j,hj with |0,_,0,_=>rfl |0,_,1,_=>rfl |0,_,2,_=>rfl |0,_,3,_=>rfl |0,_,4,_=>rfl |0,_,5,_=>rfl |0,_,6,_=>rfl |0,_,7,_=>rfl |0,_,8,_=>rfl |1,_,0,_=>rfl |1,_,1,_=>rfl |1,_,2,_=>rfl |1,_,3,_=>rfl |1,_,4,_=>rfl |1,_,5,_=>rfl |1,_,6,_=>rfl |1,_,7,_=>rfl |1,_,8,_=>rfl |2,_,0,_=>rfl |2,_,1,_=>rfl |2,_,2,_=>rfl |2,_,3,_=>rfl |2,_,4,_=>rfl |2,_,5,_=>rfl |2,_,6,_=>rfl |2,_,7,_=>rfl |2,_,8,_=>rfl)
theorem zR(na:Int):(!bif (2:Int)==(2:Int) then bif Go.bits Go.BinOp.and IntKind.i64 na (3:Int)==Go.bits Go.BinOp.and IntKind.i64 na (3:Int) then true else false else false)=false:=by simp
theorem yV(nb:Int)(nm:Int){Z:Prop}(z:Z):(RF (3:Nat) (RR 3 8 (fun i j=>au enC [e15 (0:Int) (0:Int) (1:Int) false false,En.mk (1:Int) (Go.bits Go.BinOp.and IntKind.i64 nm (7:Int)+Go.bits Go.BinOp.and IntKind.i64 nb (3:Int)) (Go.bits Go.BinOp.and IntKind.i64 nb (3:Int)) (-1:Int) (2:Int) true true false,hB8] i j) (RF (0:Nat) (RR 0 1 (fun i j=>aI (List.getD [] i (0:Int))) (RF (0:Int) (RF (0:Int) Z)))))):=⟨rfl,fun _ _ _ _=>rfl,rfl,fun _ _ _ _=>rfl,rfl,rfl,z⟩
theorem td(na:Int)(nv:Int)(nm:Int){Z:Prop}(z:Z):(RF (0:Int) (RF (Go.bits Go.BinOp.and IntKind.i64 nv (15:Int)) (RF (Go.bits Go.BinOp.and IntKind.i64 na (3:Int)) (RF (0:Int) (RF (4:Nat) (RR 4 1 (fun i j=>aI (List.getD [Go.bits Go.BinOp.and IntKind.i64 nm (7:Int),Go.bits Go.BinOp.and IntKind.i64 nm (7:Int)+1,Go.bits Go.BinOp.and IntKind.i64 nm (7:Int)+2,Go.bits Go.BinOp.and IntKind.i64 nm (7:Int)+3] i (0:Int))) (RF (0:Nat) (RR 0 1 (fun i j=>aI (List.getD [] i (0:Int))) (RF (-1:Int) Z))))))))):=⟨rfl,rfl,rfl,rfl,rfl,fun _ _ _ _=>rfl,rfl,fun _ _ _ _=>rfl,rfl,z⟩
theorem gH{Z:Prop}(z:Z):(RF (4:Int) (RF (4:Int) (RF (0:Int) (RF (0:Int) (RF (0:Int) (RF (0:Int) (RF (0:Int) (RF (1:Nat) Z)))))))):=⟨rfl,rfl,rfl,rfl,rfl,rfl,rfl,rfl,z⟩
theorem yU{Z:Prop}(z:Z):(RF (3:Nat) (RR 3 8 (fun i j=>au enC [e15 (0:Int) (0:Int) (1:Int) false false,e15 (1:Int) (0:Int) (2:Int) false false,hB8] i j) (RF (0:Nat) (RR 0 1 (fun i j=>aI (List.getD [] i (0:Int))) (RF (0:Int) (RF (1:Int) Z)))))):=⟨rfl,fun _ _ _ _=>rfl,rfl,fun _ _ _ _=>rfl,rfl,rfl,z⟩
theorem yT{Z:Prop}(z:Z):(RF (2:Nat) (RR 2 8 (fun i j=>au enC [e15 (0:Int) (0:Int) (1:Int) false false,e15 (1:Int) (0:Int) (2:Int) false false] i j) (RF (0:Nat) (RR 0 1 (fun i j=>aI (List.getD [] i (0:Int))) (RF (0:Int) (RF (0:Int) Z)))))):=⟨rfl,fun _ _ _ _=>rfl,rfl,fun _ _ _ _=>rfl,rfl,rfl,z⟩
theorem qh(na:Int)(nv:Int)(nm:Int){Z:Prop}(z:Z):(RF (0:Int) (RF (Go.bits Go.BinOp.and IntKind.i64 nv (15:Int)) (RF (Go.bits Go.BinOp.and IntKind.i64 na (3:Int)) (RF (0:Int) (RF (4:Nat) (RR 4 1 (fun i j=>aI (List.getD [Go.bits Go.BinOp.and IntKind.i64 nm (7:Int),Go.bits Go.BinOp.and IntKind.i64 nm (7:Int)+1,Go.bits Go.BinOp.and IntKind.i64 nm (7:Int)+2,Go.bits Go.BinOp.and IntKind.i64 nm (7:Int)+3] i (0:Int))) (RF (0:Nat) (RR 0 1 (fun i j=>aI (List.getD [] i (0:Int))) (RF (2:Int) Z))))))))):=⟨rfl,rfl,rfl,rfl,rfl,fun _ _ _ _=>rfl,rfl,fun _ _ _ _=>rfl,rfl,z⟩
theorem yS{Z:Prop}(z:Z):(RF (1:Nat) (RR 1 8 (fun i j=>au enC [e15 (0:Int) (0:Int) (1:Int) false false] i j) (RF (0:Nat) (RR 0 1 (fun i j=>aI (List.getD [] i (0:Int))) (RF (0:Int) (RF (0:Int) Z)))))):=⟨rfl,fun _ _ _ _=>rfl,rfl,fun _ _ _ _=>rfl,rfl,rfl,z⟩
theorem vV(na:Int)(nv:Int)(nm:Int){Z:Prop}(z:Z):(RF (0:Int) (RF (Go.bits Go.BinOp.and IntKind.i64 nv (15:Int)) (RF (Go.bits Go.BinOp.and IntKind.i64 na (3:Int)) (RF (0:Int) (RF (4:Nat) (RR 4 1 (fun i j=>aI (List.getD [Go.bits Go.BinOp.and IntKind.i64 nm (7:Int),Go.bits Go.BinOp.and IntKind.i64 nm (7:Int)+1,Go.bits Go.BinOp.and IntKind.i64 nm (7:Int)+2,Go.bits Go.BinOp.and IntKind.i64 nm (7:Int)+3] i (0:Int))) (RF (0:Nat) (RR 0 1 (fun i j=>aI (List.getD [] i (0:Int))) (RF (1:Int) Z))))))))):=⟨rfl,rfl,rfl,rfl,rfl,fun _ _ _ _=>rfl,rfl,fun _ _ _ _=>rfl,rfl,z⟩
theorem yR{Z:Prop}(z:Z):(RF (0:Nat) (RR 0 8 (fun i j=>au enC [] i j) (RF (0:Nat) (RR 0 1 (fun i j=>aI (List.getD [] i (0:Int))) (RF (0:Int) (RF (0:Int) Z)))))):=⟨rfl,fun _ _ _ _=>rfl,rfl,fun _ _ _ _=>rfl,rfl,rfl,z⟩
theorem yQ(na:Int)(nv:Int)(nm:Int){Z:Prop}(z:Z):(RF (0:Int) (RF (Go.bits Go.BinOp.and IntKind.i64 nv (15:Int)) (RF (Go.bits Go.BinOp.and IntKind.i64 na (3:Int)) (RF (0:Int) (RF (4:Nat) (RR 4 1 (fun i j=>aI (List.getD [Go.bits Go.BinOp.and IntKind.i64 nm (7:Int),Go.bits Go.BinOp.and IntKind.i64 nm (7:Int)+1,Go.bits Go.BinOp.and IntKind.i64 nm (7:Int)+2,Go.bits Go.BinOp.and IntKind.i64 nm (7:Int)+3] i (0:Int))) (RF (0:Nat) (RR 0 1 (fun i j=>aI (List.getD [] i (0:Int))) (RF (0:Int) Z))))))))):=⟨rfl,rfl,rfl,rfl,rfl,fun _ _ _ _=>rfl,rfl,fun _ _ _ _=>rfl,rfl,z⟩
theorem vg(na:Int)(nv:Int){Z:Prop}(z:Z):(RF (0:Int) (RF (Go.bits Go.BinOp.and IntKind.i64 nv (15:Int)) (RF (Go.bits Go.BinOp.and IntKind.i64 na (3:Int)) (RF (0:Int) (RF (4:Nat) Z))))):=⟨rfl,rfl,rfl,rfl,rfl,z⟩
abbrev An(na:Int)(nb:Int)(nv:Int)(nm:Int):Prop:=PureC Try.prog 8 [.agg (pgA (pB8 (bits .and .i64 nb 3))),.agg (cfA (c8 (bits .and .i64 na 3) (bits .and .i64 nb 3) (bits .and .i64 nv 15) (bits .and .i64 nm 7) 3)),.int .i64 1] (.tup [.agg (cfA (c8 (bits .and .i64 na 3) (bits .and .i64 nb 3) (bits .and .i64 nv 15) (bits .and .i64 nm 7) 4)),obR [⟨1,(bits .and .i64 nb 3)⟩],.bool true]) []
abbrev Ap(na:Int)(nb:Int)(nv:Int)(nm:Int):Prop:=PureC Try.prog 7 [.agg (pgA (pB8 (bits .and .i64 nb 3))),.agg (cfA (c8 (bits .and .i64 na 3) (bits .and .i64 nb 3) (bits .and .i64 nv 15) (bits .and .i64 nm 7) 1)),.int .i64 0] (.tup [.agg (cfA (c8 (bits .and .i64 na 3) (bits .and .i64 nb 3) (bits .and .i64 nv 15) (bits .and .i64 nm 7) 2)),.bool true]) []
abbrev Ao(na:Int)(nb:Int)(nv:Int)(nm:Int):Prop:=PureC Try.prog 7 [.agg (pgA (pB8 (bits .and .i64 nb 3))),.agg (cfA (c8 (bits .and .i64 na 3) (bits .and .i64 nb 3) (bits .and .i64 nv 15) (bits .and .i64 nm 7) 2)),.int .i64 0] (.tup [.agg (cfA (c8 (bits .and .i64 na 3) (bits .and .i64 nb 3) (bits .and .i64 nv 15) (bits .and .i64 nm 7) 3)),.bool true]) []
abbrev Aq(na:Int)(nb:Int)(nv:Int)(nm:Int):Prop:=PureC Try.prog 7 [.agg (pgA (pB8 (bits .and .i64 nb 3))),.agg (cfA (c8 (bits .and .i64 na 3) (bits .and .i64 nb 3) (bits .and .i64 nv 15) (bits .and .i64 nm 7) 0)),.int .i64 0] (.tup [.agg (cfA (c8 (bits .and .i64 na 3) (bits .and .i64 nb 3) (bits .and .i64 nv 15) (bits .and .i64 nm 7) 1)),.bool true]) []
abbrev Ar(na:Int)(nb:Int)(nv:Int)(nm:Int):Prop:=PureC Try.prog 6 [.agg (s8R (sB8 (bits .and .i64 na 3) (bits .and .i64 nv 15) (bits .and .i64 nm 7) 0))] (.agg (cfA (c8 (bits .and .i64 na 3) (bits .and .i64 nb 3) (bits .and .i64 nv 15) (bits .and .i64 nm 7) 0))) []
abbrev Am:Prop:=PureC Try.prog 10 [] (.bool true) []
abbrev vw(na:Int)(nb:Int)(nv:Int)(nm:Int):Orc:= .cl [.agg (pgA (pB8 (bits .and .i64 nb 3))),.agg (cfA (c8 (bits .and .i64 na 3) (bits .and .i64 nb 3) (bits .and .i64 nv 15) (bits .and .i64 nm 7) 3)), aI 1] (.tup [.agg (cfA (c8 (bits .and .i64 na 3) (bits .and .i64 nb 3) (bits .and .i64 nv 15) (bits .and .i64 nm 7) 4)),obR [⟨1,(bits .and .i64 nb 3)⟩],.bool true]) []
abbrev AM(na:Int)(nb:Int)(nv:Int)(nm:Int):Orc:= .cl [.agg (pgA (pB8 (bits .and .i64 nb 3))),.agg (cfA (c8 (bits .and .i64 na 3) (bits .and .i64 nb 3) (bits .and .i64 nv 15) (bits .and .i64 nm 7) 0)), aI 0] (.tup [.agg (cfA (c8 (bits .and .i64 na 3) (bits .and .i64 nb 3) (bits .and .i64 nv 15) (bits .and .i64 nm 7) 1)),.bool true]) []
abbrev AK(na:Int)(nb:Int)(nv:Int)(nm:Int):Orc:= .cl [.agg (pgA (pB8 (bits .and .i64 nb 3))),.agg (cfA (c8 (bits .and .i64 na 3) (bits .and .i64 nb 3) (bits .and .i64 nv 15) (bits .and .i64 nm 7) 2)), aI 0] (.tup [.agg (cfA (c8 (bits .and .i64 na 3) (bits .and .i64 nb 3) (bits .and .i64 nv 15) (bits .and .i64 nm 7) 3)),.bool true]) []
abbrev AL(na:Int)(nb:Int)(nv:Int)(nm:Int):Orc:= .cl [.agg (pgA (pB8 (bits .and .i64 nb 3))),.agg (cfA (c8 (bits .and .i64 na 3) (bits .and .i64 nb 3) (bits .and .i64 nv 15) (bits .and .i64 nm 7) 1)), aI 0] (.tup [.agg (cfA (c8 (bits .and .i64 na 3) (bits .and .i64 nb 3) (bits .and .i64 nv 15) (bits .and .i64 nm 7) 2)),.bool true]) []
abbrev AN(na:Int)(nb:Int)(nv:Int)(nm:Int):Orc:= .cl [.agg (s8R (sB8 (bits .and .i64 na 3) (bits .and .i64 nv 15) (bits .and .i64 nm 7) 0))] (.agg (cfA (c8 (bits .and .i64 na 3) (bits .and .i64 nb 3) (bits .and .i64 nv 15) (bits .and .i64 nm 7) 0))) []
theorem Dl(na nb nv nm:Int)(ha:0<=(bits .and .i64 na 3)∧(bits .and .i64 na 3)<4)(hb:0<=(bits .and .i64 nb 3)∧(bits .and .i64 nb 3)<4)(hv:0<=(bits .and .i64 nv 15)∧(bits .and .i64 nv 15)<16)(hm:0<=(bits .and .i64 nm 7)∧(bits .and .i64 nm 7)<8)(hab: ¬(bits .and .i64 na 3)=(bits .and .i64 nb 3))(f0:Ar na nb nv nm)(f1:Aq na nb nv nm)(f2:Ap na nb nv nm)(f3:Ao na nb nv nm)(f4:An na nb nv nm)(f5:pC_ 9 [.agg (pgA (pB8 (bits .and .i64 nb 3))),.agg (cfA (c8 (bits .and .i64 na 3) (bits .and .i64 nb 3) (bits .and .i64 nv 15) (bits .and .i64 nm 7) 4)), aI 0] (.tup [.agg (cfA (c8 (bits .and .i64 na 3) (bits .and .i64 nb 3) (bits .and .i64 nv 15) (bits .and .i64 nm 7) 5)),obR [⟨2,(bits .and .i64 na 3)⟩],.bool true]) [])(f6:Am):Vc (vF_ 3 [aI na, aI nb, aI nv, aI nm] [AN na nb nv nm,.it 4,.b true,AM na nb nv nm,.b false,.b true,AL na nb nv nm,.b false,.b true,AK na nb nv nm,.b false,.b false,vw na nb nv nm,.bd false,.bd false,.bd false,.cl [.agg (pgA (pB8 (bits .and .i64 nb 3))),.agg (cfA (c8 (bits .and .i64 na 3) (bits .and .i64 nb 3) (bits .and .i64 nv 15) (bits .and .i64 nm 7) 4)), aI 0] (.tup [.agg (cfA (c8 (bits .and .i64 na 3) (bits .and .i64 nb 3) (bits .and .i64 nv 15) (bits .and .i64 nm 7) 5)),obR [⟨2,(bits .and .i64 na 3)⟩],.bool true]) [],.bd false,.bd false,.bd true,.bd true,.bd true,.cl [] (.bool true) []] [] (.bool true) []):=ar (cj (i6 (Go.bits Go.BinOp.and IntKind.i64 nm 7+1)) (cj (i6 (Go.bits Go.BinOp.and IntKind.i64 nm 7+2)) (cj (i6 (Go.bits Go.BinOp.and IntKind.i64 nm 7+3)) (vg na nv (cj (zS nm) (cj (rf (0:Nat)) (cj (rf (0:Int)) (cj f0 (cj (dt ((0:Int)<3)) (gH (cj (gM) (cj (rf (0:Nat)) (cj (rf (3:Nat)) (cj (gL nb) (yQ na nv nm (yR (cj f1 (cj (rf false) (cj (i6 (0+1)) (cj (dt ((0:Int)+1<3)) (gH (cj (gM) (cj (rf (0:Nat)) (cj (rf (3:Nat)) (cj (gL nb) (vV na nv nm (yS (cj f2 (cj (rf false) (cj (i6 (0+1+1)) (cj (dt ((0:Int)+1+1<3)) (gH (cj (gM) (cj (rf (0:Nat)) (cj (rf (3:Nat)) (cj (gL nb) (qh na nv nm (yT (cj f3 (cj (rf false) (cj (i6 (0+1+1+1)) (cj (df ((0:Int)+1+1+1<3)) (gH (cj (gM) (cj (rf (0:Nat)) (cj (rf (3:Nat)) (cj (gL nb) (td na nv nm (yU (cj f4 (cj (n0 ((3:Nat):Int) 3) (cj (pv ((0:Int)<=1∧(1:Int)<(3:Nat))) (cj (i6 (Go.bits Go.BinOp.and IntKind.i64 nm 7+Go.bits Go.BinOp.and IntKind.i64 nb 3)) (cj (bq ((Go.bits Go.BinOp.and IntKind.i64 nm (7:Int)+Go.bits Go.BinOp.and IntKind.i64 nb (3:Int) !=Go.bits Go.BinOp.and IntKind.i64 nm (7:Int)+Go.bits Go.BinOp.and IntKind.i64 nb (3:Int))=false)) (cj (pv ((0:Int)<=1∧(1:Int)<(3:Nat))) (cj (n0 (-1:Int) (-1)) (gH (cj (gM) (cj (rf (0:Nat)) (cj (rf (3:Nat)) (cj (gL nb) (td na nv nm (yV nb nm (cj f5 (cj (n0 ((1:Nat):Int) 1) (cj (pv ((0:Int)<=0∧(0:Int)<(1:Nat))) (cj (zR na) (cj (bq ((Go.bits Go.BinOp.and IntKind.i64 na (3:Int) !=Go.bits Go.BinOp.and IntKind.i64 nb (3:Int))=true)) (cj (e1 (3:Nat) 3) (cj (e1 (-1:Int) (-1)) (cj f6 (cj (rf true) trivial))))))))))))))))))))))))))))))))))))))))))))))))))))))))))))))))))))))))
theorem Dk(na nb nv nm:Int)(ha:0<=(bits .and .i64 na 3)∧(bits .and .i64 na 3)<4)(hb:0<=(bits .and .i64 nb 3)∧(bits .and .i64 nb 3)<4)(hv:0<=(bits .and .i64 nv 15)∧(bits .and .i64 nv 15)<16)(hm:0<=(bits .and .i64 nm 7)∧(bits .and .i64 nm 7)<8)(hab:(bits .and .i64 na 3)=(bits .and .i64 nb 3))(f0:Ar na nb nv nm)(f1:Aq na nb nv nm)(f2:Ap na nb nv nm)(f3:Ao na nb nv nm)(f4:An na nb nv nm)(f5:pC_ 9 [.agg (pgA (pB8 (bits .and .i64 nb 3))),.agg (cfA (c8 (bits .and .i64 na 3) (bits .and .i64 nb 3) (bits .and .i64 nv 15) (bits .and .i64 nm 7) 4)), aI 0] (.tup [.agg (cfA (c8 (bits .and .i64 na 3) (bits .and .i64 nb 3) (bits .and .i64 nv 15) (bits .and .i64 nm 7) 6)),obR [⟨2,(bits .and .i64 na 3)⟩],.bool true]) [])(f6:pC_ 7 [.agg (pgA (pB8 (bits .and .i64 nb 3))),.agg (cfA (c8 (bits .and .i64 na 3) (bits .and .i64 nb 3) (bits .and .i64 nv 15) (bits .and .i64 nm 7) 6)), aI 0] (.tup [.agg (cfA (c8 (bits .and .i64 na 3) (bits .and .i64 nb 3) (bits .and .i64 nv 15) (bits .and .i64 nm 7) 7)),.bool true]) [])(f7:pC_ 11 [.agg (pgA (pB8 (bits .and .i64 nb 3))),.agg (cfA (c8 (bits .and .i64 na 3) (bits .and .i64 nb 3) (bits .and .i64 nv 15) (bits .and .i64 nm 7) 7)), aI 1] (.bool false) [])(f8:pC_ 8 [.agg (pgA (pB8 (bits .and .i64 nb 3))),.agg (cfA (c8 (bits .and .i64 na 3) (bits .and .i64 nb 3) (bits .and .i64 nv 15) (bits .and .i64 nm 7) 7)), aI 0] (.tup [.agg (cfA (c8 (bits .and .i64 na 3) (bits .and .i64 nb 3) (bits .and .i64 nv 15) (bits .and .i64 nm 7) 8)),obR [],.bool true]) [])(f9:pC_ 8 [.agg (pgA (pB8 (bits .and .i64 nb 3))),.agg (cfA (c8 (bits .and .i64 na 3) (bits .and .i64 nb 3) (bits .and .i64 nv 15) (bits .and .i64 nm 7) 8)), aI 1] (.tup [.agg (cfA (c8 (bits .and .i64 na 3) (bits .and .i64 nb 3) (bits .and .i64 nv 15) (bits .and .i64 nm 7) 9)),obR [⟨1,(bits .and .i64 nb 3)⟩],.bool true]) [])(f10:Am):Vc (vF_ 3 [aI na, aI nb, aI nv, aI nm] [AN na nb nv nm,.it 4,.b true,AM na nb nv nm,.b false,.b true,AL na nb nv nm,.b false,.b true,AK na nb nv nm,.b false,.b false,vw na nb nv nm,.bd false,.bd false,.bd false,.cl [.agg (pgA (pB8 (bits .and .i64 nb 3))),.agg (cfA (c8 (bits .and .i64 na 3) (bits .and .i64 nb 3) (bits .and .i64 nv 15) (bits .and .i64 nm 7) 4)), aI 0] (.tup [.agg (cfA (c8 (bits .and .i64 na 3) (bits .and .i64 nb 3) (bits .and .i64 nv 15) (bits .and .i64 nm 7) 6)),obR [⟨2,(bits .and .i64 na 3)⟩],.bool true]) [],.bd false,.bd false,.bd false,.bd false,.bd false,.cl [.agg (pgA (pB8 (bits .and .i64 nb 3))),.agg (cfA (c8 (bits .and .i64 na 3) (bits .and .i64 nb 3) (bits .and .i64 nv 15) (bits .and .i64 nm 7) 6)), aI 0] (.tup [.agg (cfA (c8 (bits .and .i64 na 3) (bits .and .i64 nb 3) (bits .and .i64 nv 15) (bits .and .i64 nm 7) 7)),.bool true]) [],.cl [.agg (pgA (pB8 (bits .and .i64 nb 3))),.agg (cfA (c8 (bits .and .i64 na 3) (bits .and .i64 nb 3) (bits .and .i64 nv 15) (bits .and .i64 nm 7) 7)), aI 1] (.bool false) [],.cl [.agg (pgA (pB8 (bits .and .i64 nb 3))),.agg (cfA (c8 (bits .and .i64 na 3) (bits .and .i64 nb 3) (bits .and .i64 nv 15) (bits .and .i64 nm 7) 7)), aI 0] (.tup [.agg (cfA (c8 (bits .and .i64 na 3) (bits .and .i64 nb 3) (bits .and .i64 nv 15) (bits .and .i64 nm 7) 8)),obR [],.bool true]) [],.cl [.agg (pgA (pB8 (bits .and .i64 nb 3))),.agg (cfA (c8 (bits .and .i64 na 3) (bits .and .i64 nb 3) (bits .and .i64 nv 15) (bits .and .i64 nm 7) 8)), aI 1] (.tup [.agg (cfA (c8 (bits .and .i64 na 3) (bits .and .i64 nb 3) (bits .and .i64 nv 15) (bits .and .i64 nm 7) 9)),obR [⟨1,(bits .and .i64 nb 3)⟩],.bool true]) [],.bd true,.bd true,.bd true,.cl [] (.bool true) []] [] (.bool true) []):=ar (cj (i6 (Go.bits Go.BinOp.and IntKind.i64 nm 7+1)) (cj (i6 (Go.bits Go.BinOp.and IntKind.i64 nm 7+2)) (cj (i6 (Go.bits Go.BinOp.and IntKind.i64 nm 7+3)) (vg na nv (cj (zS nm) (cj (rf (0:Nat)) (cj (rf (0:Int)) (cj f0 (cj (dt ((0:Int)<3)) (gH (cj (gM) (cj (rf (0:Nat)) (cj (rf (3:Nat)) (cj (gL nb) (yQ na nv nm (yR (cj f1 (cj (rf false) (cj (i6 (0+1)) (cj (dt ((0:Int)+1<3)) (gH (cj (gM) (cj (rf (0:Nat)) (cj (rf (3:Nat)) (cj (gL nb) (vV na nv nm (yS (cj f2 (cj (rf false) (cj (i6 (0+1+1)) (cj (dt ((0:Int)+1+1<3)) (gH (cj (gM) (cj (rf (0:Nat)) (cj (rf (3:Nat)) (cj (gL nb) (qh na nv nm (yT (cj f3 (cj (rf false) (cj (i6 (0+1+1+1)) (cj (df ((0:Int)+1+1+1<3)) (gH (cj (gM) (cj (rf (0:Nat)) (cj (rf (3:Nat)) (cj (gL nb) (td na nv nm (yU (cj f4 (cj (n0 ((3:Nat):Int) 3) (cj (pv ((0:Int)<=1∧(1:Int)<(3:Nat))) (cj (i6 (Go.bits Go.BinOp.and IntKind.i64 nm 7+Go.bits Go.BinOp.and IntKind.i64 nb 3)) (cj (bq ((Go.bits Go.BinOp.and IntKind.i64 nm (7:Int)+Go.bits Go.BinOp.and IntKind.i64 nb (3:Int) !=Go.bits Go.BinOp.and IntKind.i64 nm (7:Int)+Go.bits Go.BinOp.and IntKind.i64 nb (3:Int))=false)) (cj (pv ((0:Int)<=1∧(1:Int)<(3:Nat))) (cj (n0 (-1:Int) (-1)) (gH (cj (gM) (cj (rf (0:Nat)) (cj (rf (3:Nat)) (cj (gL nb) (td na nv nm (yV nb nm (cj f5 (cj (n0 ((1:Nat):Int) 1) (cj (pv ((0:Int)<=0∧(0:Int)<(1:Nat))) (cj (zR na) (cj (bq ((Go.bits Go.BinOp.and IntKind.i64 na (3:Int) !=Go.bits Go.BinOp.and IntKind.i64 nb (3:Int))=false)) (cj (n0 ((1:Nat):Int) 1) (cj (n0 (1:Int) 1) (gH (cj (gM) (cj (rf (0:Nat)) (cj (rf (3:Nat)) (cj (gL nb) (vV na nv nm (cj (rf (1:Nat)) (cj (rr 1 8 fun i j=>au enC [En.mk (0:Int) (0:Int) (Go.bits Go.BinOp.and IntKind.i64 na (3:Int)) (-1:Int) (1:Int) false true false] i j) (cj (rf (0:Nat)) (cj (rr 0 1 fun i j=>aI (List.getD [] i (0:Int))) (cj (rf (0:Int)) (cj (rf (0:Int)) (cj f6 (gH (cj (gM) (cj (rf (0:Nat)) (cj (rf (3:Nat)) (cj (gL nb) (qh na nv nm (cj (rf (2:Nat)) (cj (rr 2 8 fun i j=>au enC [En.mk (0:Int) (0:Int) (Go.bits Go.BinOp.and IntKind.i64 na (3:Int)) (-1:Int) (1:Int) false true false,e15 (1:Int) (0:Int) (2:Int) false false] i j) (cj (rf (0:Nat)) (cj (rr 0 1 fun i j=>aI (List.getD [] i (0:Int))) (cj (rf (0:Int)) (cj (rf (1:Int)) (cj f7 (gH (cj (gM) (cj (rf (0:Nat)) (cj (rf (3:Nat)) (cj (gL nb) (qh na nv nm (cj (rf (2:Nat)) (cj (rr 2 8 fun i j=>au enC [En.mk (0:Int) (0:Int) (Go.bits Go.BinOp.and IntKind.i64 na (3:Int)) (-1:Int) (1:Int) false true false,e15 (1:Int) (0:Int) (2:Int) false false] i j) (cj (rf (0:Nat)) (cj (rr 0 1 fun i j=>aI (List.getD [] i (0:Int))) (cj (rf (0:Int)) (cj (rf (0:Int)) (cj f8 (gH (cj (gM) (cj (rf (0:Nat)) (cj (rf (3:Nat)) (cj (gL nb) (qh na nv nm (cj (rf (2:Nat)) (cj (rr 2 8 fun i j=>au enC [En.mk (0:Int) (Go.bits Go.BinOp.and IntKind.i64 nv (15:Int)) (Go.bits Go.BinOp.and IntKind.i64 na (3:Int)) (-1:Int) (1:Int) true true false,e15 (1:Int) (0:Int) (2:Int) false false] i j) (cj (rf (0:Nat)) (cj (rr 0 1 fun i j=>aI (List.getD [] i (0:Int))) (cj (rf (0:Int)) (cj (rf (1:Int)) (cj f9 (cj (e1 (2:Nat) 2) (cj (pv ((0:Int)<=1∧(1:Int)<(2:Nat))) (cj (bq ((Go.bits Go.BinOp.and IntKind.i64 nv (15:Int)==Go.bits Go.BinOp.and IntKind.i64 nv (15:Int))=true)) (cj (pv ((0:Int)<=1∧(1:Int)<(2:Nat))) (cj (e1 0 0) (cj f10 (cj (rf true) trivial)))))))))))))))))))))))))))))))))))))))))))))))))))))))))))))))))))))))))))))))))))))))))))))))))))))))))))))))))))))))))))))))))
theorem kh{a:Int}(h:0<=a∧a<4):a=0∨a=1∨a=2∨a=3:=by omega
theorem vO(a b v m:Int)(hb:0<=b∧b<4):doO (pB8 b) (c8 a b v m 3) 1=some ((c8 a b v m 4),[⟨1,b⟩]):=by
 rcases kh hb with rfl |rfl |rfl |rfl
 ·show _=some ((⟨sB8 a v m (-1),[e15 0 0 1 false false,⟨1,m+0,0, -1,2,true,true,false⟩,hB8],[],0⟩:Cf),_)
  rw[Int.add_zero]
  kernel_rfl
 ·kernel_rfl
 ·kernel_rfl
 ·kernel_rfl
theorem B1(a b v m:Int)(ha:0<=a∧a<4)(hb:0<=b∧b<4)(h: ¬a=b):adrO (pB8 b) (c8 a b v m 4) 0=some ((c8 a b v m 5),[⟨2,a⟩]):=by
 rcases kh ha with rfl |rfl |rfl |rfl<;>rcases kh hb with rfl |rfl |rfl |rfl<;>first |exact absurd rfl h |kernel_rfl
theorem B0(a v m:Int)(ha:0<=a∧a<4):adrO (pB8 a) (c8 a a v m 4) 0=some (c8 a a v m 6,[⟨2,a⟩]):=by
 rcases kh ha with rfl |rfl |rfl |rfl<;>kernel_rfl
theorem BZ(a v m:Int)(ha:0<=a∧a<4):(dmT (doO (pB8 a) (c8 a a v m 7) 1)).2.2=false:=by
 rcases kh ha with rfl |rfl |rfl |rfl<;>kernel_rfl
theorem BW(a v m:Int)(ha:0<=a∧a<4):doO (pB8 a) (c8 a a v m 7) 0=some (c8 a a v m 8,[]):=by
 rcases kh ha with rfl |rfl |rfl |rfl<;>kernel_rfl
theorem BX(a v m:Int)(ha:0<=a∧a<4):doO (pB8 a) (c8 a a v m 8) 1=some (c8 a a v m 9,[⟨1,a⟩]):=by
 rcases kh ha with rfl |rfl |rfl |rfl<;>kernel_rfl
theorem xK(a b v m:Int)(ha:0<=a∧a<4)(hv:0<=v∧v<16)(hm:0<=m∧m<8):Inv (pB8 b) (c8 a b v m 0):=
 Inv.begin ⟨⟨(by show(0:Int)<=0∧(0:Int)<65536;decide),(by show 0<=v∧v<65536;omega),(by show 0<=a∧a<65536;omega),(by show(0:Int)<=0∧(0:Int)<65536;decide)⟩,(fun x hx=>by
  have h:x=m∨x=m+1∨x=m+2∨x=m+3:=by simpa [sB8] using hx
  omega),rfl,(by show(-1:Int)<=0∧(0:Int)<=3;decide),(by show(0:Nat)<=100;decide),fun x hx=>by cases hx⟩ rfl (by show(0:Nat)<=4;decide) fun x hx=>by cases hx
theorem np(na nb nv nm:Int):pC_ 3 [.int .i64 na,.int .i64 nb,.int .i64 nv,.int .i64 nm] (.bool true) []:=by
 have b1:bits .and .i64 na 3=na%4:=Wd.bits_mask na 2 (by omega)
 have b2:bits .and .i64 nb 3=nb%4:=Wd.bits_mask nb 2 (by omega)
 have b3:bits .and .i64 nv 15=nv%16:=Wd.bits_mask nv 4 (by omega)
 have b4:bits .and .i64 nm 7=nm%8:=Wd.bits_mask nm 3 (by omega)
 have ha:0<=(bits .and .i64 na 3)∧(bits .and .i64 na 3)<4:=by omega
 have hb:0<=(bits .and .i64 nb 3)∧(bits .and .i64 nb 3)<4:=by omega
 have hv:0<=(bits .and .i64 nv 15)∧(bits .and .i64 nv 15)<16:=by omega
 have hm:0<=(bits .and .i64 nm 7)∧(bits .and .i64 nm 7)<8:=by omega
 clear b1 b2 b3 b4
 have key: ∀a b v m:Int,(0<=a∧a<4)->(0<=b∧b<4)->(0<=v∧v<16)->(0<=m∧m<8)->OkP (pB8 b)∧(pB8 b).win<=90∧XOk (pB8 b) (c8 a b v m 0)∧XOk (pB8 b) (c8 a b v m 1)∧XOk (pB8 b) (c8 a b v m 2)∧XOk (pB8 b) (c8 a b v m 3)∧XOk (pB8 b) (c8 a b v m 4)∧ftO (pB8 b) (c8 a b v m 0) 0=some (c8 a b v m 1)∧ftO (pB8 b) (c8 a b v m 1) 0=some (c8 a b v m 2)∧ftO (pB8 b) (c8 a b v m 2) 0=some (c8 a b v m 3):=fun a b v m ha hb hv hm=>by
  have hP:OkP (pB8 b):=mU (by kernel_rfl)
  have hw:(pB8 b).win<=90:=by show(4:Int)<=90;decide
  have i0:XOk (pB8 b) (c8 a b v m 0):= .beg (xK a b v m ha hv hm) rfl
  have e1:ftO (pB8 b) (c8 a b v m 0) 0=some (c8 a b v m 1):=by kernel_rfl
  have i1:=XOk.ftO hP i0 e1
  have e2:ftO (pB8 b) (c8 a b v m 1) 0=some (c8 a b v m 2):=by kernel_rfl
  have i2:=XOk.ftO hP i1 e2
  have e3:ftO (pB8 b) (c8 a b v m 2) 0=some (c8 a b v m 3):=by kernel_rfl
  have i3:=XOk.ftO hP i2 e3
  exact⟨hP,hw,i0,i1,i2,i3,XOk.doO hP hw i3 (vO a b v m hb),e1,e2,e3⟩
 obtain⟨hP,hw,i0,i1,i2,i3,i4,e1,e2,e3⟩:=key _ _ _ _ ha hb hv hm
 have r0:=gh (sB8 (bits .and .i64 na 3) (bits .and .i64 nv 15) (bits .and .i64 nm 7) 0)
 have r1:=rfE (i0.ok hP hw).m e1
 have r2:=rfE (i1.ok hP hw).m e2
 have r3:=rfE (i2.ok hP hw).m e3
 have r4:=ja (i3.ok hP hw) (bQ (vO (bits .and .i64 na 3) (bits .and .i64 nb 3) (bits .and .i64 nv 15) (bits .and .i64 nm 7) hb))
 by_cases hab:(bits .and .i64 na 3)=(bits .and .i64 nb 3)
 ·have key2: ∀a b v m:Int,a=b->(0<=a∧a<4)->adrO (pB8 b) (c8 a b v m 4) 0=some ((c8 a b v m 6),[⟨2,a⟩])∧ftO (pB8 b) (c8 a b v m 6) 0=some (c8 a b v m 7)∧(dmT (doO (pB8 b) (c8 a b v m 7) 1)).2.2=false∧doO (pB8 b) (c8 a b v m 7) 0=some ((c8 a b v m 8),[])∧doO (pB8 b) (c8 a b v m 8) 1=some ((c8 a b v m 9),[⟨1,b⟩]):=fun a b v m h ha=>by
   subst h
   exact⟨B0 a v m ha,by kernel_rfl,BZ a v m ha,BW a v m ha,BX a v m ha⟩
  obtain⟨e5,e6,e7,e8,e9⟩:=key2 _ _ (bits .and .i64 nv 15) (bits .and .i64 nm 7) hab ha
  have i6:=XOk.adrO hP i4 e5
  have i7:=XOk.ftO hP i6 e6
  have i8:=XOk.doO hP hw i7 e8
  exact PureC.vc (Dk na nb nv nm ha hb hv hm hab r0 r1 r2 r3 r4 (rM (i4.ok hP hw) (bQ e5)) (rfE (i6.ok hP hw).m e6) (A2 (i7.ok hP hw) e7) (ja (i7.ok hP hw) (bQ e8)) (ja (i8.ok hP hw) (bQ e9)) cS)
 ·exact PureC.vc (Dl na nb nv nm ha hb hv hm hab r0 r1 r2 r3 r4 (rM (i4.ok hP hw) (bQ (B1 _ _ _ _ ha hb hab))) cS)
theorem walk_ExecBypass(a0:Int)(a1:Int)(a2:Int)(a3:Int)(W:World):Calls Try.prog 3 #[.int .i64 a0,.int .i64 a1,.int .i64 a2,.int .i64 a3] W (RetB (.bool true) W):=
 (np a0 a1 a2 a3).lawB (R:=fun g=>g<W.heap.size) (fun _ h=>h) rfl (fun j x v hx hv=>match j,hx,hv with
  |0,rfl,rfl=> .int _ _
  |1,rfl,rfl=> .int _ _
  |2,rfl,rfl=> .int _ _
  |3,rfl,rfl=> .int _ _)
end
end Go.Proofs.Ytlfldlnohmobmaa.Px
