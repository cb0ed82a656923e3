import Derived.Test.YtdanmboalfmifaaMcH
import Derived.Test.YtdanmboalfmifaaMcD
import Derived.Test.YtdanmboalfmifaaMcG
import Derived.Test.YtdanmboalfmifaaMcF
set_option linter.unusedVariables false
set_option linter.unusedSimpArgs false
set_option maxRecDepth 100000
namespace Go.Proofs.Ytdanmboalfmifaa.Px
section
open Go.RowKit Go.Proofs.Ytdanmboalfmifaa.Rx
def rtT(o:Option Cf):Cf×Bool:=match o with
 |some x=>(x,true)
 |none=>(Cf0,false)
theorem sd{l:List Int}: ∀i,i<l.length-1-> ∀j,j<1->AV.int .i64 (l.getD i 0)= .int .i64 ((l.take (l.length-1)).getD i 0):=fun i hi j hj=>by
 rw[kg l (l.length-1) i hi]
theorem se{l:List Int}{x:Int}: ∀i,i<l.length+1-> ∀j,j<1->(bif Nat.blt i l.length then AV.int .i64 (l.getD i 0) else[AV.int .i64 x].getD ((i-l.length+0)*1+j) .junk)= .int .i64 ((l++[x]).getD i 0):=fun i hi j hj=>by
 obtain rfl:j=0:=by omega
 exact jv (l:=l) (x:=x) (g:=fun a b=>[AV.int .i64 x].getD ((a+0)*1+b) .junk) rfl i hi _ fun _=>rfl
theorem gB(c:Cf){Z:Prop}(z:Z):(RR c.s.m.length 1 (fun i j=>aI (List.getD c.s.m i 0)) (RF c.s.st.length (RR c.s.st.length 1 (fun i j=>aI (List.getD c.s.st i 0)) (RF c.s.pc (RF c.b.length (RR c.b.length 8 (fun i j=>an enC c.b i j) (RF c.r.length (RR c.r.length 1 (fun i j=>aI (c.r.getD i 0)) (RF c.e Z))))))))):=⟨fun _ _ _ _=>rfl,rfl,fun _ _ _ _=>rfl,rfl,rfl,fun _ _ _ _=>rfl,rfl,fun _ _ _ _=>rfl,rfl,z⟩
theorem gA(p:Pg)(c:Cf){Z:Prop}(z:Z):(RF p.ls.length (RR p.ls.length 2 (fun i j=>an lbC p.ls i j) (RF p.is.length (RR p.is.length 9 (fun i j=>an inC p.is i j) (RF c.s.r0 (RF c.s.r1 (RF c.s.r2 (RF c.s.r3 (RF c.s.m.length Z))))))))):=⟨rfl,fun _ _ _ _=>rfl,rfl,fun _ _ _ _=>rfl,rfl,rfl,rfl,rfl,rfl,z⟩
theorem cu(p:Pg){Z:Prop}(z:Z):(RF p.W (RF p.win (RF p.fuel (RF p.r0 (RF p.r1 (RF p.r2 (RF p.r3 (RF p.ms.length (RR p.ms.length 3 (fun i j=>an mmC p.ms i j) Z))))))))):=⟨rfl,rfl,rfl,rfl,rfl,rfl,rfl,rfl,fun _ _ _ _=>rfl,z⟩
theorem FF(p:Pg)(c:Cf)(h:pC_ 9 [.agg (pgA p),.agg (cfA c)] (.bool false) []):Vc (vF_ 8 [.agg (pgA p),.agg (cfA c)] [.fv,.fv,.cl [.agg (pgA p),.agg (cfA c)] (.bool false) []] [] (.tup [.agg (s8A Cf0.s (.own 0 0 1 0 Cf0.s.m.length) (.own 1 0 1 0 Cf0.s.st.length)++[.own 2 0 8 0 Cf0.b.length,.own 3 0 1 0 Cf0.r.length, aI Cf0.e]),.bool false]) [a9 Cf0.s.m,a9 Cf0.s.st,enB Cf0.b,a9 Cf0.r]):=al (cu p (gA p c (gB c (cj h (cj (rf (0:Nat)) (cj (rf (0:Nat)) (cj (rf (0:Nat)) (cj (rf (0:Nat)) (cj (rf (0:Int)) (cj (rf (0:Int)) (cj (rf (0:Int)) (cj (rf (0:Int)) (cj (rf (0:Nat)) (cj (rf (0:Nat)) (cj (rf (0:Nat)) (cj (rf (0:Nat)) (cj (rf (0:Int)) (cj (rf (0:Nat)) (cj (rf (0:Nat)) (cj (rf (0:Nat)) (cj (rf (0:Nat)) (cj (rf (0:Int)) (cj (rf false) trivial)))))))))))))))))))))))
theorem dE(c:Cf){Z:Prop}(z:Z):(RF c.s.r0 (RF c.s.r1 (RF c.s.r2 (RF c.s.r3 (RF c.s.m.length (RR c.s.m.length 1 (fun i j=>aI (List.getD c.s.m i 0)) (RF c.s.st.length (RR c.s.st.length 1 (fun i j=>aI (List.getD c.s.st i 0)) (RF c.s.pc Z))))))))):=⟨rfl,rfl,rfl,rfl,rfl,fun _ _ _ _=>rfl,rfl,fun _ _ _ _=>rfl,rfl,z⟩
theorem gO(c:Cf){Z:Prop}(z:Z):(RF ((c.b.getD 0 default).dn) (RF ((c.b.getD 0 default).kn) (RF ((c.b.getD 0 default).ft) Z))):=⟨rfl,rfl,rfl,z⟩
theorem gN(p:Pg)(c:Cf){Z:Prop}(z:Z):(RF p.ls.length (RR p.ls.length 2 (fun i j=>an lbC p.ls i j) (RF p.is.length (RR p.is.length 9 (fun i j=>an inC p.is i j) (RF ((c.b.getD 0 default).pc) (RF ((c.b.getD 0 default).val) (RF ((c.b.getD 0 default).adr) (RF ((c.b.getD 0 default).frm) (RF ((c.b.getD 0 default).nxt) Z))))))))):=⟨rfl,fun _ _ _ _=>rfl,rfl,fun _ _ _ _=>rfl,rfl,rfl,rfl,rfl,rfl,z⟩
abbrev g5(c:Cf):Prop:=PureC Try.prog 25 [.agg (s8R c.s)] (.agg (s8A c.s (.own 0 0 1 0 c.s.m.length) (.own 1 0 1 0 c.s.st.length)++[.nils,.nils,.int .i64 0])) [a9 c.s.m,a9 c.s.st]
abbrev g6(c:Cf):Prop:=PureC Try.prog 24 [enR c.b] (.tup [.agg (enA (c.b.getD 0 default)),.own 0 0 8 0 (ax c.b).length,.bool true]) [enB (ax c.b)]
abbrev g7(p:Pg)(c:Cf):Prop:=PureC Try.prog 9 [.agg (pgA p),.agg (cfA c)] (.bool true) []
abbrev hJ(c:Cf):Orc:= .cl [.agg (s8R c.s)] (.agg (s8A c.s (.own 0 0 1 0 c.s.m.length) (.own 1 0 1 0 c.s.st.length)++[.nils,.nils, aI 0])) [a9 c.s.m,a9 c.s.st]
abbrev hZ(c:Cf):Orc:= .cl [enR c.b] (.tup [.agg (enA (c.b.getD 0 default)),.own 0 0 8 0 (ax c.b).length,.bool true]) [enB (ax c.b)]
abbrev ia(p:Pg)(c:Cf):Orc:= .cl [.agg (pgA p),.agg (cfA c)] (.bool true) []
theorem vW(p:Pg)(c:Cf)(en:Int)(hb:c.b.length<1000000)(hs:c.s.st.length<=1000)(hm:c.s.m.length<=1000000)(h1:g7 p c)(h2:g6 c)(h3:g5 c)(h4:pC_ 26 [.agg (pgA p),.agg (enA (c.b.getD 0 default))] (aI en) [])(h5:pC_ 27 [.agg (cfA (⟨c.s,[],[],en⟩:Cf))] (.bool true) []):Vc (vF_ 8 [.agg (pgA p),.agg (cfA c)] [.fv,.fv,ia p c,hZ c,hJ c,.cl [.agg (pgA p),.agg (enA (c.b.getD 0 default))] (aI en) [],.cp [.agg (cfA (⟨c.s,[],[],en⟩:Cf))] (.bool true)] [(0,3),(1,4)] (.tup [.agg (s8A (⟨c.s.go (c.b.getD 0 default).pc,[],[],en⟩:Cf).s (.own 0 0 1 0 (⟨c.s.go (c.b.getD 0 default).pc,[],[],en⟩:Cf).s.m.length) (.own 1 0 1 0 (⟨c.s.go (c.b.getD 0 default).pc,[],[],en⟩:Cf).s.st.length)++[.own 2 0 8 0 (⟨c.s.go (c.b.getD 0 default).pc,[],[],en⟩:Cf).b.length,.own 3 0 1 0 (⟨c.s.go (c.b.getD 0 default).pc,[],[],en⟩:Cf).r.length, aI (⟨c.s.go (c.b.getD 0 default).pc,[],[],en⟩:Cf).e]),.bool true]) [a9 (⟨c.s.go (c.b.getD 0 default).pc,[],[],en⟩:Cf).s.m,a9 (⟨c.s.go (c.b.getD 0 default).pc,[],[],en⟩:Cf).s.st,enB (⟨c.s.go (c.b.getD 0 default).pc,[],[],en⟩:Cf).b,a9 (⟨c.s.go (c.b.getD 0 default).pc,[],[],en⟩:Cf).r]):=al (cu p (gA p c (gB c (cj h1 (cj (rf c.b.length) (cj (rr c.b.length 8 fun i j=>an enC c.b i j) (cj h2 (dE c (cj h3 (cu p (gN p c (gO c (cj h4 (dE c (cj (rf (0:Nat)) (cj (rf (0:Nat)) (cj (rf en) (cj h5 (cj (rf c.s.m.length) (cj (rr c.s.m.length 1 fun i j=>aI (List.getD c.s.m i 0)) (cj (rf c.s.st.length) (cj (rr c.s.st.length 1 fun i j=>aI (List.getD c.s.st i 0)) (cj (rf (0:Nat)) (cj (rf (0:Nat)) (cj (rf c.s.r0) (cj (rf c.s.r1) (cj (rf c.s.r2) (cj (rf c.s.r3) (cj (rf (0:Nat)) (cj (rf c.s.m.length) (cj (rf (0:Nat)) (cj (rf c.s.st.length) (cj (rf ((c.b.getD 0 default).pc)) (cj (rf (0:Nat)) (cj (rf (0:Nat)) (cj (rf (0:Nat)) (cj (rf (0:Nat)) (cj (rf en) (cj (rf true) trivial)))))))))))))))))))))))))))))))))))))))
theorem jT(c:Cf){Z:Prop}(z:Z):(RF ((ax c.b).length) (RF (0:Nat) (RF c.r.length (RF (0:Int) (RF true Z))))):=⟨rfl,rfl,rfl,rfl,rfl,z⟩
theorem wq(c:Cf){Z:Prop}(z:Z):(RF c.s.r1 (RF c.s.r2 (RF c.s.r3 (RF (0:Nat) (RF c.s.m.length (RF (0:Nat) (RF c.s.st.length (RF c.s.pc (RF (0:Nat) Z))))))))):=⟨rfl,rfl,rfl,rfl,rfl,rfl,rfl,rfl,rfl,z⟩
theorem zA(c:Cf){Z:Prop}(z:Z):(RF c.s.m.length (RR c.s.m.length 1 (fun i j=>aI (List.getD c.s.m i 0)) (RF c.s.st.length (RR c.s.st.length 1 (fun i j=>aI (List.getD c.s.st i 0)) (RF ((ax c.b).length) (RR ((ax c.b).length) 8 (fun i j=>an enC (ax c.b) i j) (RF c.r.length (RR c.r.length 1 (fun i j=>aI (c.r.getD i 0)) (RF ((c.b.getD 0 default).val) Z))))))))):=⟨rfl,fun _ _ _ _=>rfl,rfl,fun _ _ _ _=>rfl,rfl,fun _ _ _ _=>rfl,rfl,fun _ _ _ _=>rfl,rfl,z⟩
theorem iH(p:Pg)(c:Cf){Z:Prop}(z:Z):(RF p.ls.length (RR p.ls.length 2 (fun i j=>an lbC p.ls i j) (RF p.is.length (RR p.is.length 9 (fun i j=>an inC p.is i j) (RF ((c.b.getD 0 default).pc) Z))))):=⟨rfl,fun _ _ _ _=>rfl,rfl,fun _ _ _ _=>rfl,rfl,z⟩
theorem eS{Z:Prop}(z:Z):(RF (0:Nat) (RF (0:Nat) (RF (0:Int) Z))):=⟨rfl,rfl,rfl,z⟩
abbrev iL(p:Pg)(c:Cf):Prop:=PureC Try.prog 26 [.agg (pgA p),.agg (enA (c.b.getD 0 default))] (.int .i64 0) []
abbrev iK(c:Cf):Prop:=PureC Try.prog 27 [.agg (cfA (⟨c.s,[],[],0⟩:Cf))] (.bool false) []
abbrev iJ(c:Cf):Prop:=PureC Try.prog 30 [lR c.r] (.own 0 0 1 0 c.r.length) [a9 c.r]
abbrev eU(p:Pg)(c:Cf):Orc:= .cl [.agg (pgA p), aI (c.b.getD 0 default).pc] (.agg (inA (enX p c 0))) []
abbrev iM(p:Pg)(c:Cf):Orc:= .cl [.agg (pgA p),.agg (enA (c.b.getD 0 default))] (aI 0) []
abbrev eV(c:Cf):Orc:= .cp [.agg (cfA (⟨c.s,[],[],0⟩:Cf))] (.bool false)
abbrev eT(c:Cf):Orc:= .cl [lR c.r] (.own 0 0 1 0 c.r.length) [a9 c.r]
theorem yf(p:Pg)(c:Cf)(hb:c.b.length<1000000)(hs:c.s.st.length<=1000)(hm:c.s.m.length<=1000000)(h1:g7 p c)(h2:g6 c)(h3:g5 c)(h4:iL p c)(h5:iK c)(h6:iJ c)(hk:(enX p c 0).kind=1)(hd:(enX p c 0).d=0):Vc (vF_ 8 [.agg (pgA p),.agg (cfA c)] [.fv,.fv,ia p c,hZ c,hJ c,iM p c,eV c,eU p c,.fv,.fv,.bd true,.bd true,.bd true,.iy 0,eT c] [(0,3),(1,4),(2,1),(3,6)] (.tup [.agg (s8A (⟨c.s.set 0 (c.b.getD 0 default).val,ax c.b,c.r,0⟩:Cf).s (.own 0 0 1 0 (⟨c.s.set 0 (c.b.getD 0 default).val,ax c.b,c.r,0⟩:Cf).s.m.length) (.own 1 0 1 0 (⟨c.s.set 0 (c.b.getD 0 default).val,ax c.b,c.r,0⟩:Cf).s.st.length)++[.own 2 0 8 0 (⟨c.s.set 0 (c.b.getD 0 default).val,ax c.b,c.r,0⟩:Cf).b.length,.own 3 0 1 0 (⟨c.s.set 0 (c.b.getD 0 default).val,ax c.b,c.r,0⟩:Cf).r.length, aI (⟨c.s.set 0 (c.b.getD 0 default).val,ax c.b,c.r,0⟩:Cf).e]),.bool true]) [a9 (⟨c.s.set 0 (c.b.getD 0 default).val,ax c.b,c.r,0⟩:Cf).s.m,a9 (⟨c.s.set 0 (c.b.getD 0 default).val,ax c.b,c.r,0⟩:Cf).s.st,enB (⟨c.s.set 0 (c.b.getD 0 default).val,ax c.b,c.r,0⟩:Cf).b,a9 (⟨c.s.set 0 (c.b.getD 0 default).val,ax c.b,c.r,0⟩:Cf).r]):=al (cu p (gA p c (gB c (cj h1 (cj (rf c.b.length) (cj (rr c.b.length 8 fun i j=>an enC c.b i j) (cj h2 (dE c (cj h3 (cu p (gN p c (gO c (cj h4 (dE c (eS (cj h5 (cu p (iH p c (cj (atC p (c.b.getD 0 default).pc) (cj (e1 ((enX p c 0).kind) 1) (cj (dt ((enX p c 0).d>=0)) (cj (dt ((enX p c 0).d<((4:Nat):Int))) (cj (pv ((enX p c 0).d=((0:Nat):Int))) (cj (bi (0:Nat) (4:Nat)) (cj (rf c.r.length) (cj (rr c.r.length 1 fun i j=>aI (c.r.getD i 0)) (cj h6 (zA c (wq c (jT c trivial))))))))))))))))))))))))))))))
theorem tH(c:Cf){Z:Prop}(z:Z):(RF ((c.b.getD 0 default).val) (RF c.s.r2 (RF c.s.r3 (RF (0:Nat) (RF c.s.m.length (RF (0:Nat) (RF c.s.st.length (RF c.s.pc (RF (0:Nat) Z))))))))):=⟨rfl,rfl,rfl,rfl,rfl,rfl,rfl,rfl,rfl,z⟩
theorem gP(c:Cf){Z:Prop}(z:Z):(RF c.s.m.length (RR c.s.m.length 1 (fun i j=>aI (List.getD c.s.m i 0)) (RF c.s.st.length (RR c.s.st.length 1 (fun i j=>aI (List.getD c.s.st i 0)) (RF ((ax c.b).length) (RR ((ax c.b).length) 8 (fun i j=>an enC (ax c.b) i j) (RF c.r.length (RR c.r.length 1 (fun i j=>aI (c.r.getD i 0)) (RF c.s.r0 Z))))))))):=⟨rfl,fun _ _ _ _=>rfl,rfl,fun _ _ _ _=>rfl,rfl,fun _ _ _ _=>rfl,rfl,fun _ _ _ _=>rfl,rfl,z⟩
theorem ye(p:Pg)(c:Cf)(hb:c.b.length<1000000)(hs:c.s.st.length<=1000)(hm:c.s.m.length<=1000000)(h1:g7 p c)(h2:g6 c)(h3:g5 c)(h4:iL p c)(h5:iK c)(h6:iJ c)(hk:(enX p c 0).kind=1)(hd:(enX p c 0).d=1):Vc (vF_ 8 [.agg (pgA p),.agg (cfA c)] [.fv,.fv,ia p c,hZ c,hJ c,iM p c,eV c,eU p c,.fv,.fv,.bd true,.bd true,.bd true,.iy 1,eT c] [(0,3),(1,4),(2,1),(3,6)] (.tup [.agg (s8A (⟨c.s.set 1 (c.b.getD 0 default).val,ax c.b,c.r,0⟩:Cf).s (.own 0 0 1 0 (⟨c.s.set 1 (c.b.getD 0 default).val,ax c.b,c.r,0⟩:Cf).s.m.length) (.own 1 0 1 0 (⟨c.s.set 1 (c.b.getD 0 default).val,ax c.b,c.r,0⟩:Cf).s.st.length)++[.own 2 0 8 0 (⟨c.s.set 1 (c.b.getD 0 default).val,ax c.b,c.r,0⟩:Cf).b.length,.own 3 0 1 0 (⟨c.s.set 1 (c.b.getD 0 default).val,ax c.b,c.r,0⟩:Cf).r.length, aI (⟨c.s.set 1 (c.b.getD 0 default).val,ax c.b,c.r,0⟩:Cf).e]),.bool true]) [a9 (⟨c.s.set 1 (c.b.getD 0 default).val,ax c.b,c.r,0⟩:Cf).s.m,a9 (⟨c.s.set 1 (c.b.getD 0 default).val,ax c.b,c.r,0⟩:Cf).s.st,enB (⟨c.s.set 1 (c.b.getD 0 default).val,ax c.b,c.r,0⟩:Cf).b,a9 (⟨c.s.set 1 (c.b.getD 0 default).val,ax c.b,c.r,0⟩:Cf).r]):=al (cu p (gA p c (gB c (cj h1 (cj (rf c.b.length) (cj (rr c.b.length 8 fun i j=>an enC c.b i j) (cj h2 (dE c (cj h3 (cu p (gN p c (gO c (cj h4 (dE c (eS (cj h5 (cu p (iH p c (cj (atC p (c.b.getD 0 default).pc) (cj (e1 ((enX p c 0).kind) 1) (cj (dt ((enX p c 0).d>=0)) (cj (dt ((enX p c 0).d<((4:Nat):Int))) (cj (pv ((enX p c 0).d=((1:Nat):Int))) (cj (bi (1:Nat) (4:Nat)) (cj (rf c.r.length) (cj (rr c.r.length 1 fun i j=>aI (c.r.getD i 0)) (cj h6 (gP c (tH c (jT c trivial))))))))))))))))))))))))))))))
theorem tG(c:Cf){Z:Prop}(z:Z):(RF c.s.r1 (RF ((c.b.getD 0 default).val) (RF c.s.r3 (RF (0:Nat) (RF c.s.m.length (RF (0:Nat) (RF c.s.st.length (RF c.s.pc (RF (0:Nat) Z))))))))):=⟨rfl,rfl,rfl,rfl,rfl,rfl,rfl,rfl,rfl,z⟩
theorem yd(p:Pg)(c:Cf)(hb:c.b.length<1000000)(hs:c.s.st.length<=1000)(hm:c.s.m.length<=1000000)(h1:g7 p c)(h2:g6 c)(h3:g5 c)(h4:iL p c)(h5:iK c)(h6:iJ c)(hk:(enX p c 0).kind=1)(hd:(enX p c 0).d=2):Vc (vF_ 8 [.agg (pgA p),.agg (cfA c)] [.fv,.fv,ia p c,hZ c,hJ c,iM p c,eV c,eU p c,.fv,.fv,.bd true,.bd true,.bd true,.iy 2,eT c] [(0,3),(1,4),(2,1),(3,6)] (.tup [.agg (s8A (⟨c.s.set 2 (c.b.getD 0 default).val,ax c.b,c.r,0⟩:Cf).s (.own 0 0 1 0 (⟨c.s.set 2 (c.b.getD 0 default).val,ax c.b,c.r,0⟩:Cf).s.m.length) (.own 1 0 1 0 (⟨c.s.set 2 (c.b.getD 0 default).val,ax c.b,c.r,0⟩:Cf).s.st.length)++[.own 2 0 8 0 (⟨c.s.set 2 (c.b.getD 0 default).val,ax c.b,c.r,0⟩:Cf).b.length,.own 3 0 1 0 (⟨c.s.set 2 (c.b.getD 0 default).val,ax c.b,c.r,0⟩:Cf).r.length, aI (⟨c.s.set 2 (c.b.getD 0 default).val,ax c.b,c.r,0⟩:Cf).e]),.bool true]) [a9 (⟨c.s.set 2 (c.b.getD 0 default).val,ax c.b,c.r,0⟩:Cf).s.m,a9 (⟨c.s.set 2 (c.b.getD 0 default).val,ax c.b,c.r,0⟩:Cf).s.st,enB (⟨c.s.set 2 (c.b.getD 0 default).val,ax c.b,c.r,0⟩:Cf).b,a9 (⟨c.s.set 2 (c.b.getD 0 default).val,ax c.b,c.r,0⟩:Cf).r]):=al (cu p (gA p c (gB c (cj h1 (cj (rf c.b.length) (cj (rr c.b.length 8 fun i j=>an enC c.b i j) (cj h2 (dE c (cj h3 (cu p (gN p c (gO c (cj h4 (dE c (eS (cj h5 (cu p (iH p c (cj (atC p (c.b.getD 0 default).pc) (cj (e1 ((enX p c 0).kind) 1) (cj (dt ((enX p c 0).d>=0)) (cj (dt ((enX p c 0).d<((4:Nat):Int))) (cj (pv ((enX p c 0).d=((2:Nat):Int))) (cj (bi (2:Nat) (4:Nat)) (cj (rf c.r.length) (cj (rr c.r.length 1 fun i j=>aI (c.r.getD i 0)) (cj h6 (gP c (tG c (jT c trivial))))))))))))))))))))))))))))))
theorem tF(c:Cf){Z:Prop}(z:Z):(RF c.s.r1 (RF c.s.r2 (RF ((c.b.getD 0 default).val) (RF (0:Nat) (RF c.s.m.length (RF (0:Nat) (RF c.s.st.length (RF c.s.pc (RF (0:Nat) Z))))))))):=⟨rfl,rfl,rfl,rfl,rfl,rfl,rfl,rfl,rfl,z⟩
theorem yc(p:Pg)(c:Cf)(hb:c.b.length<1000000)(hs:c.s.st.length<=1000)(hm:c.s.m.length<=1000000)(h1:g7 p c)(h2:g6 c)(h3:g5 c)(h4:iL p c)(h5:iK c)(h6:iJ c)(hk:(enX p c 0).kind=1)(hd:(enX p c 0).d=3):Vc (vF_ 8 [.agg (pgA p),.agg (cfA c)] [.fv,.fv,ia p c,hZ c,hJ c,iM p c,eV c,eU p c,.fv,.fv,.bd true,.bd true,.bd true,.iy 3,eT c] [(0,3),(1,4),(2,1),(3,6)] (.tup [.agg (s8A (⟨c.s.set 3 (c.b.getD 0 default).val,ax c.b,c.r,0⟩:Cf).s (.own 0 0 1 0 (⟨c.s.set 3 (c.b.getD 0 default).val,ax c.b,c.r,0⟩:Cf).s.m.length) (.own 1 0 1 0 (⟨c.s.set 3 (c.b.getD 0 default).val,ax c.b,c.r,0⟩:Cf).s.st.length)++[.own 2 0 8 0 (⟨c.s.set 3 (c.b.getD 0 default).val,ax c.b,c.r,0⟩:Cf).b.length,.own 3 0 1 0 (⟨c.s.set 3 (c.b.getD 0 default).val,ax c.b,c.r,0⟩:Cf).r.length, aI (⟨c.s.set 3 (c.b.getD 0 default).val,ax c.b,c.r,0⟩:Cf).e]),.bool true]) [a9 (⟨c.s.set 3 (c.b.getD 0 default).val,ax c.b,c.r,0⟩:Cf).s.m,a9 (⟨c.s.set 3 (c.b.getD 0 default).val,ax c.b,c.r,0⟩:Cf).s.st,enB (⟨c.s.set 3 (c.b.getD 0 default).val,ax c.b,c.r,0⟩:Cf).b,a9 (⟨c.s.set 3 (c.b.getD 0 default).val,ax c.b,c.r,0⟩:Cf).r]):=al (cu p (gA p c (gB c (cj h1 (cj (rf c.b.length) (cj (rr c.b.length 8 fun i j=>an enC c.b i j) (cj h2 (dE c (cj h3 (cu p (gN p c (gO c (cj h4 (dE c (eS (cj h5 (cu p (iH p c (cj (atC p (c.b.getD 0 default).pc) (cj (e1 ((enX p c 0).kind) 1) (cj (dt ((enX p c 0).d>=0)) (cj (dt ((enX p c 0).d<((4:Nat):Int))) (cj (pv ((enX p c 0).d=((3:Nat):Int))) (cj (bi (3:Nat) (4:Nat)) (cj (rf c.r.length) (cj (rr c.r.length 1 fun i j=>aI (c.r.getD i 0)) (cj h6 (gP c (tF c (jT c trivial))))))))))))))))))))))))))))))
theorem yb(p:Pg)(c:Cf)(hb:c.b.length<1000000)(hs:c.s.st.length<=1000)(hm:c.s.m.length<=1000000)(h1:g7 p c)(h2:g6 c)(h3:g5 c)(h4:iL p c)(h5:iK c)(h6:iJ c)(hk:(enX p c 0).kind=2)(hd:(enX p c 0).d=0):Vc (vF_ 8 [.agg (pgA p),.agg (cfA c)] [.fv,.fv,ia p c,hZ c,hJ c,iM p c,eV c,eU p c,.fv,.fv,.bd false,.bd true,.bd true,.bd true,.iy 0,eT c] [(0,3),(1,4),(2,1),(3,6)] (.tup [.agg (s8A (⟨c.s.set 0 (c.b.getD 0 default).val,ax c.b,c.r,0⟩:Cf).s (.own 0 0 1 0 (⟨c.s.set 0 (c.b.getD 0 default).val,ax c.b,c.r,0⟩:Cf).s.m.length) (.own 1 0 1 0 (⟨c.s.set 0 (c.b.getD 0 default).val,ax c.b,c.r,0⟩:Cf).s.st.length)++[.own 2 0 8 0 (⟨c.s.set 0 (c.b.getD 0 default).val,ax c.b,c.r,0⟩:Cf).b.length,.own 3 0 1 0 (⟨c.s.set 0 (c.b.getD 0 default).val,ax c.b,c.r,0⟩:Cf).r.length, aI (⟨c.s.set 0 (c.b.getD 0 default).val,ax c.b,c.r,0⟩:Cf).e]),.bool true]) [a9 (⟨c.s.set 0 (c.b.getD 0 default).val,ax c.b,c.r,0⟩:Cf).s.m,a9 (⟨c.s.set 0 (c.b.getD 0 default).val,ax c.b,c.r,0⟩:Cf).s.st,enB (⟨c.s.set 0 (c.b.getD 0 default).val,ax c.b,c.r,0⟩:Cf).b,a9 (⟨c.s.set 0 (c.b.getD 0 default).val,ax c.b,c.r,0⟩:Cf).r]):=al (cu p (gA p c (gB c (cj h1 (cj (rf c.b.length) (cj (rr c.b.length 8 fun i j=>an enC c.b i j) (cj h2 (dE c (cj h3 (cu p (gN p c (gO c (cj h4 (dE c (eS (cj h5 (cu p (iH p c (cj (atC p (c.b.getD 0 default).pc) (cj (e0 ((enX p c 0).kind) 1) (cj (e1 ((enX p c 0).kind) 2) (cj (dt ((enX p c 0).d>=0)) (cj (dt ((enX p c 0).d<((4:Nat):Int))) (cj (pv ((enX p c 0).d=((0:Nat):Int))) (cj (bi (0:Nat) (4:Nat)) (cj (rf c.r.length) (cj (rr c.r.length 1 fun i j=>aI (c.r.getD i 0)) (cj h6 (zA c (wq c (jT c trivial)))))))))))))))))))))))))))))))
theorem ya(p:Pg)(c:Cf)(hb:c.b.length<1000000)(hs:c.s.st.length<=1000)(hm:c.s.m.length<=1000000)(h1:g7 p c)(h2:g6 c)(h3:g5 c)(h4:iL p c)(h5:iK c)(h6:iJ c)(hk:(enX p c 0).kind=2)(hd:(enX p c 0).d=1):Vc (vF_ 8 [.agg (pgA p),.agg (cfA c)] [.fv,.fv,ia p c,hZ c,hJ c,iM p c,eV c,eU p c,.fv,.fv,.bd false,.bd true,.bd true,.bd true,.iy 1,eT c] [(0,3),(1,4),(2,1),(3,6)] (.tup [.agg (s8A (⟨c.s.set 1 (c.b.getD 0 default).val,ax c.b,c.r,0⟩:Cf).s (.own 0 0 1 0 (⟨c.s.set 1 (c.b.getD 0 default).val,ax c.b,c.r,0⟩:Cf).s.m.length) (.own 1 0 1 0 (⟨c.s.set 1 (c.b.getD 0 default).val,ax c.b,c.r,0⟩:Cf).s.st.length)++[.own 2 0 8 0 (⟨c.s.set 1 (c.b.getD 0 default).val,ax c.b,c.r,0⟩:Cf).b.length,.own 3 0 1 0 (⟨c.s.set 1 (c.b.getD 0 default).val,ax c.b,c.r,0⟩:Cf).r.length, aI (⟨c.s.set 1 (c.b.getD 0 default).val,ax c.b,c.r,0⟩:Cf).e]),.bool true]) [a9 (⟨c.s.set 1 (c.b.getD 0 default).val,ax c.b,c.r,0⟩:Cf).s.m,a9 (⟨c.s.set 1 (c.b.getD 0 default).val,ax c.b,c.r,0⟩:Cf).s.st,enB (⟨c.s.set 1 (c.b.getD 0 default).val,ax c.b,c.r,0⟩:Cf).b,a9 (⟨c.s.set 1 (c.b.getD 0 default).val,ax c.b,c.r,0⟩:Cf).r]):=al (cu p (gA p c (gB c (cj h1 (cj (rf c.b.length) (cj (rr c.b.length 8 fun i j=>an enC c.b i j) (cj h2 (dE c (cj h3 (cu p (gN p c (gO c (cj h4 (dE c (eS (cj h5 (cu p (iH p c (cj (atC p (c.b.getD 0 default).pc) (cj (e0 ((enX p c 0).kind) 1) (cj (e1 ((enX p c 0).kind) 2) (cj (dt ((enX p c 0).d>=0)) (cj (dt ((enX p c 0).d<((4:Nat):Int))) (cj (pv ((enX p c 0).d=((1:Nat):Int))) (cj (bi (1:Nat) (4:Nat)) (cj (rf c.r.length) (cj (rr c.r.length 1 fun i j=>aI (c.r.getD i 0)) (cj h6 (gP c (tH c (jT c trivial)))))))))))))))))))))))))))))))
theorem x9(p:Pg)(c:Cf)(hb:c.b.length<1000000)(hs:c.s.st.length<=1000)(hm:c.s.m.length<=1000000)(h1:g7 p c)(h2:g6 c)(h3:g5 c)(h4:iL p c)(h5:iK c)(h6:iJ c)(hk:(enX p c 0).kind=2)(hd:(enX p c 0).d=2):Vc (vF_ 8 [.agg (pgA p),.agg (cfA c)] [.fv,.fv,ia p c,hZ c,hJ c,iM p c,eV c,eU p c,.fv,.fv,.bd false,.bd true,.bd true,.bd true,.iy 2,eT c] [(0,3),(1,4),(2,1),(3,6)] (.tup [.agg (s8A (⟨c.s.set 2 (c.b.getD 0 default).val,ax c.b,c.r,0⟩:Cf).s (.own 0 0 1 0 (⟨c.s.set 2 (c.b.getD 0 default).val,ax c.b,c.r,0⟩:Cf).s.m.length) (.own 1 0 1 0 (⟨c.s.set 2 (c.b.getD 0 default).val,ax c.b,c.r,0⟩:Cf).s.st.length)++[.own 2 0 8 0 (⟨c.s.set 2 (c.b.getD 0 default).val,ax c.b,c.r,0⟩:Cf).b.length,.own 3 0 1 0 (⟨c.s.set 2 (c.b.getD 0 default).val,ax c.b,c.r,0⟩:Cf).r.length, aI (⟨c.s.set 2 (c.b.getD 0 default).val,ax c.b,c.r,0⟩:Cf).e]),.bool true]) [a9 (⟨c.s.set 2 (c.b.getD 0 default).val,ax c.b,c.r,0⟩:Cf).s.m,a9 (⟨c.s.set 2 (c.b.getD 0 default).val,ax c.b,c.r,0⟩:Cf).s.st,enB (⟨c.s.set 2 (c.b.getD 0 default).val,ax c.b,c.r,0⟩:Cf).b,a9 (⟨c.s.set 2 (c.b.getD 0 default).val,ax c.b,c.r,0⟩:Cf).r]):=al (cu p (gA p c (gB c (cj h1 (cj (rf c.b.length) (cj (rr c.b.length 8 fun i j=>an enC c.b i j) (cj h2 (dE c (cj h3 (cu p (gN p c (gO c (cj h4 (dE c (eS (cj h5 (cu p (iH p c (cj (atC p (c.b.getD 0 default).pc) (cj (e0 ((enX p c 0).kind) 1) (cj (e1 ((enX p c 0).kind) 2) (cj (dt ((enX p c 0).d>=0)) (cj (dt ((enX p c 0).d<((4:Nat):Int))) (cj (pv ((enX p c 0).d=((2:Nat):Int))) (cj (bi (2:Nat) (4:Nat)) (cj (rf c.r.length) (cj (rr c.r.length 1 fun i j=>aI (c.r.getD i 0)) (cj h6 (gP c (tG c (jT c trivial)))))))))))))))))))))))))))))))
theorem x0(p:Pg)(c:Cf)(hb:c.b.length<1000000)(hs:c.s.st.length<=1000)(hm:c.s.m.length<=1000000)(h1:g7 p c)(h2:g6 c)(h3:g5 c)(h4:iL p c)(h5:iK c)(h6:iJ c)(hk:(enX p c 0).kind=2)(hd:(enX p c 0).d=3):Vc (vF_ 8 [.agg (pgA p),.agg (cfA c)] [.fv,.fv,ia p c,hZ c,hJ c,iM p c,eV c,eU p c,.fv,.fv,.bd false,.bd true,.bd true,.bd true,.iy 3,eT c] [(0,3),(1,4),(2,1),(3,6)] (.tup [.agg (s8A (⟨c.s.set 3 (c.b.getD 0 default).val,ax c.b,c.r,0⟩:Cf).s (.own 0 0 1 0 (⟨c.s.set 3 (c.b.getD 0 default).val,ax c.b,c.r,0⟩:Cf).s.m.length) (.own 1 0 1 0 (⟨c.s.set 3 (c.b.getD 0 default).val,ax c.b,c.r,0⟩:Cf).s.st.length)++[.own 2 0 8 0 (⟨c.s.set 3 (c.b.getD 0 default).val,ax c.b,c.r,0⟩:Cf).b.length,.own 3 0 1 0 (⟨c.s.set 3 (c.b.getD 0 default).val,ax c.b,c.r,0⟩:Cf).r.length, aI (⟨c.s.set 3 (c.b.getD 0 default).val,ax c.b,c.r,0⟩:Cf).e]),.bool true]) [a9 (⟨c.s.set 3 (c.b.getD 0 default).val,ax c.b,c.r,0⟩:Cf).s.m,a9 (⟨c.s.set 3 (c.b.getD 0 default).val,ax c.b,c.r,0⟩:Cf).s.st,enB (⟨c.s.set 3 (c.b.getD 0 default).val,ax c.b,c.r,0⟩:Cf).b,a9 (⟨c.s.set 3 (c.b.getD 0 default).val,ax c.b,c.r,0⟩:Cf).r]):=al (cu p (gA p c (gB c (cj h1 (cj (rf c.b.length) (cj (rr c.b.length 8 fun i j=>an enC c.b i j) (cj h2 (dE c (cj h3 (cu p (gN p c (gO c (cj h4 (dE c (eS (cj h5 (cu p (iH p c (cj (atC p (c.b.getD 0 default).pc) (cj (e0 ((enX p c 0).kind) 1) (cj (e1 ((enX p c 0).kind) 2) (cj (dt ((enX p c 0).d>=0)) (cj (dt ((enX p c 0).d<((4:Nat):Int))) (cj (pv ((enX p c 0).d=((3:Nat):Int))) (cj (bi (3:Nat) (4:Nat)) (cj (rf c.r.length) (cj (rr c.r.length 1 fun i j=>aI (c.r.getD i 0)) (cj h6 (gP c (tF c (jT c trivial)))))))))))))))))))))))))))))))
theorem xZ(p:Pg)(c:Cf)(hb:c.b.length<1000000)(hs:c.s.st.length<=1000)(hm:c.s.m.length<=1000000)(h1:g7 p c)(h2:g6 c)(h3:g5 c)(h4:iL p c)(h5:iK c)(h6:iJ c)(hk:(enX p c 0).kind=4)(hd:(enX p c 0).d=0):Vc (vF_ 8 [.agg (pgA p),.agg (cfA c)] [.fv,.fv,ia p c,hZ c,hJ c,iM p c,eV c,eU p c,.fv,.fv,.bd false,.bd false,.bd true,.bd true,.bd true,.iy 0,eT c] [(0,3),(1,4),(2,1),(3,6)] (.tup [.agg (s8A (⟨c.s.set 0 (c.b.getD 0 default).val,ax c.b,c.r,0⟩:Cf).s (.own 0 0 1 0 (⟨c.s.set 0 (c.b.getD 0 default).val,ax c.b,c.r,0⟩:Cf).s.m.length) (.own 1 0 1 0 (⟨c.s.set 0 (c.b.getD 0 default).val,ax c.b,c.r,0⟩:Cf).s.st.length)++[.own 2 0 8 0 (⟨c.s.set 0 (c.b.getD 0 default).val,ax c.b,c.r,0⟩:Cf).b.length,.own 3 0 1 0 (⟨c.s.set 0 (c.b.getD 0 default).val,ax c.b,c.r,0⟩:Cf).r.length, aI (⟨c.s.set 0 (c.b.getD 0 default).val,ax c.b,c.r,0⟩:Cf).e]),.bool true]) [a9 (⟨c.s.set 0 (c.b.getD 0 default).val,ax c.b,c.r,0⟩:Cf).s.m,a9 (⟨c.s.set 0 (c.b.getD 0 default).val,ax c.b,c.r,0⟩:Cf).s.st,enB (⟨c.s.set 0 (c.b.getD 0 default).val,ax c.b,c.r,0⟩:Cf).b,a9 (⟨c.s.set 0 (c.b.getD 0 default).val,ax c.b,c.r,0⟩:Cf).r]):=al (cu p (gA p c (gB c (cj h1 (cj (rf c.b.length) (cj (rr c.b.length 8 fun i j=>an enC c.b i j) (cj h2 (dE c (cj h3 (cu p (gN p c (gO c (cj h4 (dE c (eS (cj h5 (cu p (iH p c (cj (atC p (c.b.getD 0 default).pc) (cj (e0 ((enX p c 0).kind) 1) (cj (e0 ((enX p c 0).kind) 2) (cj (e1 ((enX p c 0).kind) 4) (cj (dt ((enX p c 0).d>=0)) (cj (dt ((enX p c 0).d<((4:Nat):Int))) (cj (pv ((enX p c 0).d=((0:Nat):Int))) (cj (bi (0:Nat) (4:Nat)) (cj (rf c.r.length) (cj (rr c.r.length 1 fun i j=>aI (c.r.getD i 0)) (cj h6 (zA c (wq c (jT c trivial))))))))))))))))))))))))))))))))
theorem xY(p:Pg)(c:Cf)(hb:c.b.length<1000000)(hs:c.s.st.length<=1000)(hm:c.s.m.length<=1000000)(h1:g7 p c)(h2:g6 c)(h3:g5 c)(h4:iL p c)(h5:iK c)(h6:iJ c)(hk:(enX p c 0).kind=4)(hd:(enX p c 0).d=1):Vc (vF_ 8 [.agg (pgA p),.agg (cfA c)] [.fv,.fv,ia p c,hZ c,hJ c,iM p c,eV c,eU p c,.fv,.fv,.bd false,.bd false,.bd true,.bd true,.bd true,.iy 1,eT c] [(0,3),(1,4),(2,1),(3,6)] (.tup [.agg (s8A (⟨c.s.set 1 (c.b.getD 0 default).val,ax c.b,c.r,0⟩:Cf).s (.own 0 0 1 0 (⟨c.s.set 1 (c.b.getD 0 default).val,ax c.b,c.r,0⟩:Cf).s.m.length) (.own 1 0 1 0 (⟨c.s.set 1 (c.b.getD 0 default).val,ax c.b,c.r,0⟩:Cf).s.st.length)++[.own 2 0 8 0 (⟨c.s.set 1 (c.b.getD 0 default).val,ax c.b,c.r,0⟩:Cf).b.length,.own 3 0 1 0 (⟨c.s.set 1 (c.b.getD 0 default).val,ax c.b,c.r,0⟩:Cf).r.length, aI (⟨c.s.set 1 (c.b.getD 0 default).val,ax c.b,c.r,0⟩:Cf).e]),.bool true]) [a9 (⟨c.s.set 1 (c.b.getD 0 default).val,ax c.b,c.r,0⟩:Cf).s.m,a9 (⟨c.s.set 1 (c.b.getD 0 default).val,ax c.b,c.r,0⟩:Cf).s.st,enB (⟨c.s.set 1 (c.b.getD 0 default).val,ax c.b,c.r,0⟩:Cf).b,a9 (⟨c.s.set 1 (c.b.getD 0 default).val,ax c.b,c.r,0⟩:Cf).r]):=al (cu p (gA p c (gB c (cj h1 (cj (rf c.b.length) (cj (rr c.b.length 8 fun i j=>an enC c.b i j) (cj h2 (dE c (cj h3 (cu p (gN p c (gO c (cj h4 (dE c (eS (cj h5 (cu p (iH p c (cj (atC p (c.b.getD 0 default).pc) (cj (e0 ((enX p c 0).kind) 1) (cj (e0 ((enX p c 0).kind) 2) (cj (e1 ((enX p c 0).kind) 4) (cj (dt ((enX p c 0).d>=0)) (cj (dt ((enX p c 0).d<((4:Nat):Int))) (cj (pv ((enX p c 0).d=((1:Nat):Int))) (cj (bi (1:Nat) (4:Nat)) (cj (rf c.r.length) (cj (rr c.r.length 1 fun i j=>aI (c.r.getD i 0)) (cj h6 (gP c (tH c (jT c trivial))))))))))))))))))))))))))))))))
theorem xX(p:Pg)(c:Cf)(hb:c.b.length<1000000)(hs:c.s.st.length<=1000)(hm:c.s.m.length<=1000000)(h1:g7 p c)(h2:g6 c)(h3:g5 c)(h4:iL p c)(h5:iK c)(h6:iJ c)(hk:(enX p c 0).kind=4)(hd:(enX p c 0).d=2):Vc (vF_ 8 [.agg (pgA p),.agg (cfA c)] [.fv,.fv,ia p c,hZ c,hJ c,iM p c,eV c,eU p c,.fv,.fv,.bd false,.bd false,.bd true,.bd true,.bd true,.iy 2,eT c] [(0,3),(1,4),(2,1),(3,6)] (.tup [.agg (s8A (⟨c.s.set 2 (c.b.getD 0 default).val,ax c.b,c.r,0⟩:Cf).s (.own 0 0 1 0 (⟨c.s.set 2 (c.b.getD 0 default).val,ax c.b,c.r,0⟩:Cf).s.m.length) (.own 1 0 1 0 (⟨c.s.set 2 (c.b.getD 0 default).val,ax c.b,c.r,0⟩:Cf).s.st.length)++[.own 2 0 8 0 (⟨c.s.set 2 (c.b.getD 0 default).val,ax c.b,c.r,0⟩:Cf).b.length,.own 3 0 1 0 (⟨c.s.set 2 (c.b.getD 0 default).val,ax c.b,c.r,0⟩:Cf).r.length, aI (⟨c.s.set 2 (c.b.getD 0 default).val,ax c.b,c.r,0⟩:Cf).e]),.bool true]) [a9 (⟨c.s.set 2 (c.b.getD 0 default).val,ax c.b,c.r,0⟩:Cf).s.m,a9 (⟨c.s.set 2 (c.b.getD 0 default).val,ax c.b,c.r,0⟩:Cf).s.st,enB (⟨c.s.set 2 (c.b.getD 0 default).val,ax c.b,c.r,0⟩:Cf).b,a9 (⟨c.s.set 2 (c.b.getD 0 default).val,ax c.b,c.r,0⟩:Cf).r]):=al (cu p (gA p c (gB c (cj h1 (cj (rf c.b.length) (cj (rr c.b.length 8 fun i j=>an enC c.b i j) (cj h2 (dE c (cj h3 (cu p (gN p c (gO c (cj h4 (dE c (eS (cj h5 (cu p (iH p c (cj (atC p (c.b.getD 0 default).pc) (cj (e0 ((enX p c 0).kind) 1) (cj (e0 ((enX p c 0).kind) 2) (cj (e1 ((enX p c 0).kind) 4) (cj (dt ((enX p c 0).d>=0)) (cj (dt ((enX p c 0).d<((4:Nat):Int))) (cj (pv ((enX p c 0).d=((2:Nat):Int))) (cj (bi (2:Nat) (4:Nat)) (cj (rf c.r.length) (cj (rr c.r.length 1 fun i j=>aI (c.r.getD i 0)) (cj h6 (gP c (tG c (jT c trivial))))))))))))))))))))))))))))))))
theorem xW(p:Pg)(c:Cf)(hb:c.b.length<1000000)(hs:c.s.st.length<=1000)(hm:c.s.m.length<=1000000)(h1:g7 p c)(h2:g6 c)(h3:g5 c)(h4:iL p c)(h5:iK c)(h6:iJ c)(hk:(enX p c 0).kind=4)(hd:(enX p c 0).d=3):Vc (vF_ 8 [.agg (pgA p),.agg (cfA c)] [.fv,.fv,ia p c,hZ c,hJ c,iM p c,eV c,eU p c,.fv,.fv,.bd false,.bd false,.bd true,.bd true,.bd true,.iy 3,eT c] [(0,3),(1,4),(2,1),(3,6)] (.tup [.agg (s8A (⟨c.s.set 3 (c.b.getD 0 default).val,ax c.b,c.r,0⟩:Cf).s (.own 0 0 1 0 (⟨c.s.set 3 (c.b.getD 0 default).val,ax c.b,c.r,0⟩:Cf).s.m.length) (.own 1 0 1 0 (⟨c.s.set 3 (c.b.getD 0 default).val,ax c.b,c.r,0⟩:Cf).s.st.length)++[.own 2 0 8 0 (⟨c.s.set 3 (c.b.getD 0 default).val,ax c.b,c.r,0⟩:Cf).b.length,.own 3 0 1 0 (⟨c.s.set 3 (c.b.getD 0 default).val,ax c.b,c.r,0⟩:Cf).r.length, aI (⟨c.s.set 3 (c.b.getD 0 default).val,ax c.b,c.r,0⟩:Cf).e]),.bool true]) [a9 (⟨c.s.set 3 (c.b.getD 0 default).val,ax c.b,c.r,0⟩:Cf).s.m,a9 (⟨c.s.set 3 (c.b.getD 0 default).val,ax c.b,c.r,0⟩:Cf).s.st,enB (⟨c.s.set 3 (c.b.getD 0 default).val,ax c.b,c.r,0⟩:Cf).b,a9 (⟨c.s.set 3 (c.b.getD 0 default).val,ax c.b,c.r,0⟩:Cf).r]):=al (cu p (gA p c (gB c (cj h1 (cj (rf c.b.length) (cj (rr c.b.length 8 fun i j=>an enC c.b i j) (cj h2 (dE c (cj h3 (cu p (gN p c (gO c (cj h4 (dE c (eS (cj h5 (cu p (iH p c (cj (atC p (c.b.getD 0 default).pc) (cj (e0 ((enX p c 0).kind) 1) (cj (e0 ((enX p c 0).kind) 2) (cj (e1 ((enX p c 0).kind) 4) (cj (dt ((enX p c 0).d>=0)) (cj (dt ((enX p c 0).d<((4:Nat):Int))) (cj (pv ((enX p c 0).d=((3:Nat):Int))) (cj (bi (3:Nat) (4:Nat)) (cj (rf c.r.length) (cj (rr c.r.length 1 fun i j=>aI (c.r.getD i 0)) (cj h6 (gP c (tF c (jT c trivial))))))))))))))))))))))))))))))))
theorem FJ(p:Pg)(c:Cf)(hb:c.b.length<1000000)(hs:c.s.st.length<=1000)(hm:c.s.m.length<=1000000)(h1:g7 p c)(h2:g6 c)(h3:g5 c)(h4:iL p c)(h5:iK c)(h6:iJ c)(hk:(enX p c 0).kind=3)(ha:0<=(c.b.getD 0 default).adr)(ha1:(c.b.getD 0 default).adr<c.s.m.length):Vc (vF_ 8 [.agg (pgA p),.agg (cfA c)] [.fv,.fv,ia p c,hZ c,hJ c,iM p c,eV c,eU p c,.fv,.fv,.bd false,.bd false,.bd false,.bd true,.bd true,.bd true,eT c] [(0,3),(1,4),(2,1),(3,6)] (.tup [.agg (s8A (⟨{c.s with m:=c.s.m.set (c.b.getD 0 default).adr.toNat (c.b.getD 0 default).val},ax c.b,c.r,0⟩:Cf).s (.own 0 0 1 0 (⟨{c.s with m:=c.s.m.set (c.b.getD 0 default).adr.toNat (c.b.getD 0 default).val},ax c.b,c.r,0⟩:Cf).s.m.length) (.own 1 0 1 0 (⟨{c.s with m:=c.s.m.set (c.b.getD 0 default).adr.toNat (c.b.getD 0 default).val},ax c.b,c.r,0⟩:Cf).s.st.length)++[.own 2 0 8 0 (⟨{c.s with m:=c.s.m.set (c.b.getD 0 default).adr.toNat (c.b.getD 0 default).val},ax c.b,c.r,0⟩:Cf).b.length,.own 3 0 1 0 (⟨{c.s with m:=c.s.m.set (c.b.getD 0 default).adr.toNat (c.b.getD 0 default).val},ax c.b,c.r,0⟩:Cf).r.length, aI (⟨{c.s with m:=c.s.m.set (c.b.getD 0 default).adr.toNat (c.b.getD 0 default).val},ax c.b,c.r,0⟩:Cf).e]),.bool true]) [a9 (⟨{c.s with m:=c.s.m.set (c.b.getD 0 default).adr.toNat (c.b.getD 0 default).val},ax c.b,c.r,0⟩:Cf).s.m,a9 (⟨{c.s with m:=c.s.m.set (c.b.getD 0 default).adr.toNat (c.b.getD 0 default).val},ax c.b,c.r,0⟩:Cf).s.st,enB (⟨{c.s with m:=c.s.m.set (c.b.getD 0 default).adr.toNat (c.b.getD 0 default).val},ax c.b,c.r,0⟩:Cf).b,a9 (⟨{c.s with m:=c.s.m.set (c.b.getD 0 default).adr.toNat (c.b.getD 0 default).val},ax c.b,c.r,0⟩:Cf).r]):=al (cu p (gA p c (gB c (cj h1 (cj (rf c.b.length) (cj (rr c.b.length 8 fun i j=>an enC c.b i j) (cj h2 (dE c (cj h3 (cu p (gN p c (gO c (cj h4 (dE c (eS (cj h5 (cu p (iH p c (cj (atC p (c.b.getD 0 default).pc) (cj (e0 ((enX p c 0).kind) 1) (cj (e0 ((enX p c 0).kind) 2) (cj (e0 ((enX p c 0).kind) 4) (cj (e1 ((enX p c 0).kind) 3) (cj (dt ((c.b.getD 0 default).adr>=0)) (cj (dt ((c.b.getD 0 default).adr<(↑(c.s.m.length):Int))) (cj (bi ((c.b.getD 0 default).adr) (↑(c.s.m.length):Int)) (cj (pv (Int.toNat (c.b.getD 0 default).adr+0<c.s.m.length)) (cj (rf c.r.length) (cj (rr c.r.length 1 fun i j=>aI (c.r.getD i 0)) (cj h6 (cj (pv (c.s.m.length=(List.set c.s.m (Int.toNat (c.b.getD 0 default).adr) (c.b.getD 0 default).val).length)) (cj (show ∀(i:Nat),i<c.s.m.length-> ∀(j:Nat),j<1->(bif Nat.ble (0:Nat) j&&Nat.blt j (1:Nat)&&Nat.beq i (Int.toNat (c.b.getD 0 default).adr+0) then List.getD [aI (c.b.getD 0 default).val] (j-0) AV.junk else aI (List.getD c.s.m i 0))=aI (List.getD (List.set c.s.m (Int.toNat (c.b.getD 0 default).adr) (c.b.getD 0 default).val) i 0) from fX) (cj (rf c.s.st.length) (cj (rr c.s.st.length 1 fun i j=>aI (List.getD c.s.st i 0)) (cj (rf ((ax c.b).length)) (cj (rr ((ax c.b).length) 8 fun i j=>an enC (ax c.b) i j) (cj (rf c.r.length) (cj (rr c.r.length 1 fun i j=>aI (c.r.getD i 0)) (cj (rf c.s.r0) (cj (rf c.s.r1) (cj (rf c.s.r2) (cj (rf c.s.r3) (cj (rf (0:Nat)) (cj (pv (c.s.m.length=(List.set c.s.m (Int.toNat (c.b.getD 0 default).adr) (c.b.getD 0 default).val).length)) (cj (rf (0:Nat)) (cj (rf c.s.st.length) (cj (rf c.s.pc) (cj (rf (0:Nat)) (cj (rf ((ax c.b).length)) (cj (rf (0:Nat)) (cj (rf c.r.length) (cj (rf (0:Int)) (cj (rf true) trivial)))))))))))))))))))))))))))))))))))))))))))))))))))))
theorem tE(c:Cf){Z:Prop}(z:Z):(RF c.s.pc (RF (0:Nat) (RF ((ax c.b).length) (RF (0:Nat) (RF c.r.length (RF (0:Int) (RF true Z))))))):=⟨rfl,rfl,rfl,rfl,rfl,rfl,rfl,z⟩
theorem yI(c:Cf){Z:Prop}(z:Z):(RF ((ax c.b).length) (RR ((ax c.b).length) 8 (fun i j=>an enC (ax c.b) i j) (RF c.r.length (RR c.r.length 1 (fun i j=>aI (c.r.getD i 0)) (RF c.s.r0 (RF c.s.r1 (RF c.s.r2 (RF c.s.r3 (RF (0:Nat) Z))))))))):=⟨rfl,fun _ _ _ _=>rfl,rfl,fun _ _ _ _=>rfl,rfl,rfl,rfl,rfl,rfl,z⟩
theorem FI(p:Pg)(c:Cf)(hb:c.b.length<1000000)(hs:c.s.st.length<=1000)(hm:c.s.m.length<=1000000)(h1:g7 p c)(h2:g6 c)(h3:g5 c)(h4:iL p c)(h5:iK c)(h6:iJ c)(hk:(enX p c 0).kind=8)(hp:0<=(c.b.getD 0 default).pc)(hp1:(c.b.getD 0 default).pc<=1000000):Vc (vF_ 8 [.agg (pgA p),.agg (cfA c)] [.fv,.fv,ia p c,hZ c,hJ c,iM p c,eV c,eU p c,.fv,.fv,.bd false,.bd false,.bd false,.bd false,.bd true,eT c] [(0,3),(1,4),(2,1),(3,7)] (.tup [.agg (s8A (⟨{c.s with st:=c.s.st++[(c.b.getD 0 default).pc+1]},ax c.b,c.r,0⟩:Cf).s (.own 0 0 1 0 (⟨{c.s with st:=c.s.st++[(c.b.getD 0 default).pc+1]},ax c.b,c.r,0⟩:Cf).s.m.length) (.own 1 0 1 0 (⟨{c.s with st:=c.s.st++[(c.b.getD 0 default).pc+1]},ax c.b,c.r,0⟩:Cf).s.st.length)++[.own 2 0 8 0 (⟨{c.s with st:=c.s.st++[(c.b.getD 0 default).pc+1]},ax c.b,c.r,0⟩:Cf).b.length,.own 3 0 1 0 (⟨{c.s with st:=c.s.st++[(c.b.getD 0 default).pc+1]},ax c.b,c.r,0⟩:Cf).r.length, aI (⟨{c.s with st:=c.s.st++[(c.b.getD 0 default).pc+1]},ax c.b,c.r,0⟩:Cf).e]),.bool true]) [a9 (⟨{c.s with st:=c.s.st++[(c.b.getD 0 default).pc+1]},ax c.b,c.r,0⟩:Cf).s.m,a9 (⟨{c.s with st:=c.s.st++[(c.b.getD 0 default).pc+1]},ax c.b,c.r,0⟩:Cf).s.st,enB (⟨{c.s with st:=c.s.st++[(c.b.getD 0 default).pc+1]},ax c.b,c.r,0⟩:Cf).b,a9 (⟨{c.s with st:=c.s.st++[(c.b.getD 0 default).pc+1]},ax c.b,c.r,0⟩:Cf).r]):=al (cu p (gA p c (gB c (cj h1 (cj (rf c.b.length) (cj (rr c.b.length 8 fun i j=>an enC c.b i j) (cj h2 (dE c (cj h3 (cu p (gN p c (gO c (cj h4 (dE c (eS (cj h5 (cu p (iH p c (cj (atC p (c.b.getD 0 default).pc) (cj (e0 ((enX p c 0).kind) 1) (cj (e0 ((enX p c 0).kind) 2) (cj (e0 ((enX p c 0).kind) 4) (cj (e0 ((enX p c 0).kind) 3) (cj (e1 ((enX p c 0).kind) 8) (cj (i6 ((c.b.getD 0 default).pc+1)) (cj (ap c.s.st.length 1 8) (cj (rf c.r.length) (cj (rr c.r.length 1 fun i j=>aI (c.r.getD i 0)) (cj h6 (cj (rf c.s.m.length) (cj (rr c.s.m.length 1 fun i j=>aI (List.getD c.s.m i 0)) (cj (pv (c.s.st.length+1=(c.s.st++[(c.b.getD 0 default).pc+1]).length)) (cj (show ∀(i:Nat),i<c.s.st.length+1-> ∀(j:Nat),j<1->(bif Nat.blt i c.s.st.length then aI (List.getD c.s.st i 0) else List.getD [aI ((c.b.getD 0 default).pc+1)] ((i-c.s.st.length+0)*1+j) AV.junk)=aI (List.getD (c.s.st++[(c.b.getD 0 default).pc+1]) i (0:Int)) from se) (yI c (cj (rf c.s.m.length) (cj (rf (0:Nat)) (cj (pv (c.s.st.length+1=(c.s.st++[(c.b.getD 0 default).pc+1]).length)) (tE c trivial))))))))))))))))))))))))))))))))))))))
theorem FH(p:Pg)(c:Cf)(hb:c.b.length<1000000)(hs:c.s.st.length<=1000)(hm:c.s.m.length<=1000000)(h1:g7 p c)(h2:g6 c)(h3:g5 c)(h4:iL p c)(h5:iK c)(h6:iJ c)(hk:(enX p c 0).kind=9)(hz:c.s.st.length≠0):Vc (vF_ 8 [.agg (pgA p),.agg (cfA c)] [.fv,.fv,ia p c,hZ c,hJ c,iM p c,eV c,eU p c,.fv,.fv,.bd false,.bd false,.bd false,.bd false,.bd false,.bd true,eT c] [(0,3),(1,4),(2,1),(3,6)] (.tup [.agg (s8A c.s (.own 0 0 1 0 c.s.m.length) (.own 1 0 1 0 (c.s.st.length-1))++[.own 2 0 8 0 (ax c.b).length,.own 3 0 1 0 c.r.length, aI 0]),.bool true]) [a9 c.s.m,a9 c.s.st,enB (ax c.b),a9 c.r]):=al (cu p (gA p c (gB c (cj h1 (cj (rf c.b.length) (cj (rr c.b.length 8 fun i j=>an enC c.b i j) (cj h2 (dE c (cj h3 (cu p (gN p c (gO c (cj h4 (dE c (eS (cj h5 (cu p (iH p c (cj (atC p (c.b.getD 0 default).pc) (cj (e0 ((enX p c 0).kind) 1) (cj (e0 ((enX p c 0).kind) 2) (cj (e0 ((enX p c 0).kind) 4) (cj (e0 ((enX p c 0).kind) 3) (cj (e0 ((enX p c 0).kind) 8) (cj (e1 ((enX p c 0).kind) 9) (cj (i6 ((↑(c.s.st.length):Int)-1)) (cj (pv (((0:Int)<=if(↑(c.s.st.length):Int)-1<0 then(0:Int) else(↑(c.s.st.length):Int)-1)∧(if(↑(c.s.st.length):Int)-1<0 then(0:Int) else(↑(c.s.st.length):Int)-1)<=(↑(c.s.st.length):Int))) (cj (rf c.r.length) (cj (rr c.r.length 1 fun i j=>aI (c.r.getD i 0)) (cj h6 (gP c (cj (rf c.s.r1) (cj (rf c.s.r2) (cj (rf c.s.r3) (cj (rf (0:Nat)) (cj (rf c.s.m.length) (cj (rf (0:Nat)) (cj (pv (Int.toNat (if(↑(c.s.st.length):Int)-1<0 then(0:Int) else(↑(c.s.st.length):Int)-1)=c.s.st.length-1)) (tE c trivial)))))))))))))))))))))))))))))))))))))))
theorem DB(c:Cf):c.s.st.length-1=(List.take (c.s.st.length-1) c.s.st).length:=by rw[aT];omega
theorem B2(c:Cf):Vc (qa 1 (c.s.st.length-1) [.agg (s8A c.s (.own 0 0 1 0 c.s.m.length) (.own 1 0 1 0 (c.s.st.length-1))++[.own 2 0 8 0 (ax c.b).length,.own 3 0 1 0 c.r.length, aI 0]),.bool true] [a9 c.s.m,a9 c.s.st,enB (ax c.b),a9 c.r] [(0,0),(1,1),(2,2),(3,3)] [.agg (s8A c.s (.own 0 0 1 0 c.s.m.length) (.own 1 0 1 0 (c.s.st.take (c.s.st.length-1)).length)++[.own 2 0 8 0 (ax c.b).length,.own 3 0 1 0 c.r.length, aI 0]),.bool true] [a9 c.s.m,a9 (c.s.st.take (c.s.st.length-1)),enB (ax c.b),a9 c.r]):=al (cj (rf (2:Nat)) (cj (pv (c.s.st.length-1<=c.s.st.length)) (cj (pv ((0:Nat)+(c.s.st.length-1)<=c.s.st.length-1)) (cj (rf c.s.m.length) (cj (rr c.s.m.length 1 fun i j=>aI (List.getD c.s.m i 0)) (cj (DB c) (cj (show ∀(i:Nat),i<c.s.st.length-1-> ∀(j:Nat),j<1->aI (List.getD c.s.st i 0)=aI (List.getD (List.take (c.s.st.length-1) c.s.st) i 0) from sd) (yI c (cj (rf c.s.m.length) (cj (rf (0:Nat)) (cj (DB c) (tE c trivial))))))))))))
theorem FG(p:Pg)(c:Cf)(hb:c.b.length<1000000)(hs:c.s.st.length<=1000)(hm:c.s.m.length<=1000000)(h1:g7 p c)(h2:g6 c)(h3:g5 c)(h4:iL p c)(h5:iK c)(h6:iJ c)(k1: ¬(enX p c 0).kind=1)(k2: ¬(enX p c 0).kind=2)(k4: ¬(enX p c 0).kind=4)(k3: ¬(enX p c 0).kind=3)(k8: ¬(enX p c 0).kind=8)(k9: ¬(enX p c 0).kind=9):Vc (vF_ 8 [.agg (pgA p),.agg (cfA c)] [.fv,.fv,ia p c,hZ c,hJ c,iM p c,eV c,eU p c,.fv,.fv,.bd false,.bd false,.bd false,.bd false,.bd false,.bd false,eT c] [(0,3),(1,4),(2,1),(3,6)] (.tup [.agg (s8A (⟨c.s,ax c.b,c.r,0⟩:Cf).s (.own 0 0 1 0 (⟨c.s,ax c.b,c.r,0⟩:Cf).s.m.length) (.own 1 0 1 0 (⟨c.s,ax c.b,c.r,0⟩:Cf).s.st.length)++[.own 2 0 8 0 (⟨c.s,ax c.b,c.r,0⟩:Cf).b.length,.own 3 0 1 0 (⟨c.s,ax c.b,c.r,0⟩:Cf).r.length, aI (⟨c.s,ax c.b,c.r,0⟩:Cf).e]),.bool true]) [a9 (⟨c.s,ax c.b,c.r,0⟩:Cf).s.m,a9 (⟨c.s,ax c.b,c.r,0⟩:Cf).s.st,enB (⟨c.s,ax c.b,c.r,0⟩:Cf).b,a9 (⟨c.s,ax c.b,c.r,0⟩:Cf).r]):=al (cu p (gA p c (gB c (cj h1 (cj (rf c.b.length) (cj (rr c.b.length 8 fun i j=>an enC c.b i j) (cj h2 (dE c (cj h3 (cu p (gN p c (gO c (cj h4 (dE c (eS (cj h5 (cu p (iH p c (cj (atC p (c.b.getD 0 default).pc) (cj (e0 ((enX p c 0).kind) 1) (cj (e0 ((enX p c 0).kind) 2) (cj (e0 ((enX p c 0).kind) 4) (cj (e0 ((enX p c 0).kind) 3) (cj (e0 ((enX p c 0).kind) 8) (cj (e0 ((enX p c 0).kind) 9) (cj (rf c.r.length) (cj (rr c.r.length 1 fun i j=>aI (c.r.getD i 0)) (cj h6 (gP c (wq c (jT c trivial)))))))))))))))))))))))))))))))
structure RdOk (p:Pg) (c:Cf):Prop where
 P:OkP p
 rt:RtOk p c
 frm: ∀e∈c.b, -1000000<=e.frm∧e.frm<=1000000
 bl:c.b.length<=400
 ml:c.s.m.length<=1000
 sl:c.s.st.length<=300
 rl:c.r.length<=1000
abbrev yr:Prop:= ∀(p:Pg) (c:Cf),RdOk p c->PureC Try.prog 8 [.agg (pgA p),.agg (cfA c)] (.tup [.agg (s8A (rtT (rtO p c)).1.s (.own 0 0 1 0 (rtT (rtO p c)).1.s.m.length) (.own 1 0 1 0 (rtT (rtO p c)).1.s.st.length)++[.own 2 0 8 0 (rtT (rtO p c)).1.b.length,.own 3 0 1 0 (rtT (rtO p c)).1.r.length,.int .i64 (rtT (rtO p c)).1.e]),.bool (rtT (rtO p c)).2]) [a9 (rtT (rtO p c)).1.s.m,a9 (rtT (rtO p c)).1.s.st,enB (rtT (rtO p c)).1.b,a9 (rtT (rtO p c)).1.r]
theorem Ee:yr:=fun p c h=>by
 have hb:c.b.length<1000000:=by have:=h.bl;omega
 have hs:c.s.st.length<=1000:=by have:=h.sl;omega
 have hm:c.s.m.length<=1000000:=by have:=h.ml;omega
 have hC:=EH p c hb
 have ho:=h.rt
 unfold rtO
 cases hc:crV p c with
 |false=>rw[hc] at hC;exact PureC.vc (FF p c hC)
 |true=>
 have h1:=hC
 rw[hc] at h1
 rw[ai rfl]
 obtain⟨he,hl,hdn,hkn⟩:=fB hc
 have h2:=Ez c.b hl hb (fun x hx=>(h.frm x hx).2)
 have h3:=EI c.s hm (by omega)
 have h6:=qE (.row c.r) (by have:=h.rl;omega)
 have h4:pC_ 26 [.agg (pgA p),.agg (enA (c.b.getD 0 default))] (.int .i64 (if(c.b.getD 0 default).ft=true∨(enX p c 0).kind=12 then 2 else if(enX p c 0).kind=11 then 1 else 0)) []:=ED p (c.b.getD 0 default) h.P
 show pC_ 8 [.agg (pgA p),.agg (cfA c)] (.tup [.agg (s8A (rtV p c).s (.own 0 0 1 0 (rtV p c).s.m.length) (.own 1 0 1 0 (rtV p c).s.st.length)++[.own 2 0 8 0 (rtV p c).b.length,.own 3 0 1 0 (rtV p c).r.length,.int .i64 (rtV p c).e]),.bool true]) [a9 (rtV p c).s.m,a9 (rtV p c).s.st,enB (rtV p c).b,a9 (rtV p c).r]
 have fin: ∀en:Int, ¬en=0->pC_ 27 [.agg (cfA (⟨c.s,[],[],en⟩:Cf))] (.bool true) []:=fun en hz=>PureC.vc (pB _ (bU.2 hz))
 cases hf:(c.b.getD 0 default).ft with
 |true=>
  rw[ai (.inl hf)] at h4
  rw[show rtV p c=⟨c.s.go (c.b.getD 0 default).pc,[],[],2⟩ from by unfold rtV;rw[ai (.inl hf)]]
  exact PureC.vc (vW p c 2 hb hs hm h1 h2 h3 h4 (fin 2 (by decide)))
 |false=>
 by_cases k12:(enX p c 0).kind=12
 ·rw[ai (.inr k12)] at h4
  rw[show rtV p c=⟨c.s.go (c.b.getD 0 default).pc,[],[],2⟩ from by unfold rtV;rw[ai (.inr k12)]]
  exact PureC.vc (vW p c 2 hb hs hm h1 h2 h3 h4 (fin 2 (by decide)))
 have n12: ¬((c.b.getD 0 default).ft=true∨(enX p c 0).kind=12):=by rintro(h |h);rw[hf] at h;cases h;exact k12 h
 rw[af n12] at h4
 by_cases k11:(enX p c 0).kind=11
 ·rw[ai k11] at h4
  rw[show rtV p c=⟨c.s.go (c.b.getD 0 default).pc,[],[],1⟩ from by unfold rtV;rw[af n12,ai k11]]
  exact PureC.vc (vW p c 1 hb hs hm h1 h2 h3 h4 (fin 1 (by decide)))
 rw[af k11] at h4
 have h5:pC_ 27 [.agg (cfA (⟨c.s,[],[],0⟩:Cf))] (.bool false) []:=PureC.vc (nC _ rfl)
 by_cases k1:(enX p c 0).kind=1
 ·obtain⟨hd0,hd1⟩:=ho.d (eP k1)
  rcases kX hd0 hd1 with hd |hd |hd |hd
  ·rw[show rtV p c=⟨c.s.set 0 (c.b.getD 0 default).val,ax c.b,c.r,0⟩ from by unfold rtV;rw[af n12,af k11,ai (eP k1),hd,he]];exact PureC.vc (yf p c hb hs hm h1 h2 h3 h4 h5 h6 k1 hd)
  ·rw[show rtV p c=⟨c.s.set 1 (c.b.getD 0 default).val,ax c.b,c.r,0⟩ from by unfold rtV;rw[af n12,af k11,ai (eP k1),hd,he]];exact PureC.vc (ye p c hb hs hm h1 h2 h3 h4 h5 h6 k1 hd)
  ·rw[show rtV p c=⟨c.s.set 2 (c.b.getD 0 default).val,ax c.b,c.r,0⟩ from by unfold rtV;rw[af n12,af k11,ai (eP k1),hd,he]];exact PureC.vc (yd p c hb hs hm h1 h2 h3 h4 h5 h6 k1 hd)
  ·rw[show rtV p c=⟨c.s.set 3 (c.b.getD 0 default).val,ax c.b,c.r,0⟩ from by unfold rtV;rw[af n12,af k11,ai (eP k1),hd,he]];exact PureC.vc (yc p c hb hs hm h1 h2 h3 h4 h5 h6 k1 hd)
 by_cases k2:(enX p c 0).kind=2
 ·obtain⟨hd0,hd1⟩:=ho.d (eO k2)
  rcases kX hd0 hd1 with hd |hd |hd |hd
  ·rw[show rtV p c=⟨c.s.set 0 (c.b.getD 0 default).val,ax c.b,c.r,0⟩ from by unfold rtV;rw[af n12,af k11,ai (eO k2),hd,he]];exact PureC.vc (yb p c hb hs hm h1 h2 h3 h4 h5 h6 k2 hd)
  ·rw[show rtV p c=⟨c.s.set 1 (c.b.getD 0 default).val,ax c.b,c.r,0⟩ from by unfold rtV;rw[af n12,af k11,ai (eO k2),hd,he]];exact PureC.vc (ya p c hb hs hm h1 h2 h3 h4 h5 h6 k2 hd)
  ·rw[show rtV p c=⟨c.s.set 2 (c.b.getD 0 default).val,ax c.b,c.r,0⟩ from by unfold rtV;rw[af n12,af k11,ai (eO k2),hd,he]];exact PureC.vc (x9 p c hb hs hm h1 h2 h3 h4 h5 h6 k2 hd)
  ·rw[show rtV p c=⟨c.s.set 3 (c.b.getD 0 default).val,ax c.b,c.r,0⟩ from by unfold rtV;rw[af n12,af k11,ai (eO k2),hd,he]];exact PureC.vc (x0 p c hb hs hm h1 h2 h3 h4 h5 h6 k2 hd)
 by_cases k4:(enX p c 0).kind=4
 ·obtain⟨hd0,hd1⟩:=ho.d (eN k4)
  rcases kX hd0 hd1 with hd |hd |hd |hd
  ·rw[show rtV p c=⟨c.s.set 0 (c.b.getD 0 default).val,ax c.b,c.r,0⟩ from by unfold rtV;rw[af n12,af k11,ai (eN k4),hd,he]];exact PureC.vc (xZ p c hb hs hm h1 h2 h3 h4 h5 h6 k4 hd)
  ·rw[show rtV p c=⟨c.s.set 1 (c.b.getD 0 default).val,ax c.b,c.r,0⟩ from by unfold rtV;rw[af n12,af k11,ai (eN k4),hd,he]];exact PureC.vc (xY p c hb hs hm h1 h2 h3 h4 h5 h6 k4 hd)
  ·rw[show rtV p c=⟨c.s.set 2 (c.b.getD 0 default).val,ax c.b,c.r,0⟩ from by unfold rtV;rw[af n12,af k11,ai (eN k4),hd,he]];exact PureC.vc (xX p c hb hs hm h1 h2 h3 h4 h5 h6 k4 hd)
  ·rw[show rtV p c=⟨c.s.set 3 (c.b.getD 0 default).val,ax c.b,c.r,0⟩ from by unfold rtV;rw[af n12,af k11,ai (eN k4),hd,he]];exact PureC.vc (xW p c hb hs hm h1 h2 h3 h4 h5 h6 k4 hd)
 have kd: ¬(cL (enX p c 0)=true):=by simp[cL,k1,k2,k4]
 have e0:rtV p c=if(enX p c 0).kind=3 then⟨{c.s with m:=c.s.m.set (c.b.getD 0 default).adr.toNat (c.b.getD 0 default).val},ax c.b,c.r,0⟩ else if(enX p c 0).kind=8 then⟨{c.s with st:=c.s.st++[(c.b.getD 0 default).pc+1]},ax c.b,c.r,0⟩ else if(enX p c 0).kind=9 then⟨{c.s with st:=c.s.st.take (c.s.st.length-1)},ax c.b,c.r,0⟩ else⟨c.s,ax c.b,c.r,0⟩:=by
  unfold rtV;rw[af n12,af k11,af kd,he]
 rw[e0]
 by_cases k3:(enX p c 0).kind=3
 ·rw[ai k3]
  obtain⟨ha,ha1⟩:=ho.m k3 hf (hkn k3)
  exact PureC.vc (FJ p c hb hs hm h1 h2 h3 h4 h5 h6 k3 ha ha1)
 rw[af k3]
 by_cases k8:(enX p c 0).kind=8
 ·rw[ai k8];exact PureC.vc (FI p c hb hs hm h1 h2 h3 h4 h5 h6 k8 ho.pc.1 ho.pc.2)
 rw[af k8]
 by_cases k9:(enX p c 0).kind=9
 ·rw[ai k9];exact PureC.shrT (PureC.vc (FH p c hb hs hm h1 h2 h3 h4 h5 h6 k9 (ho.st k9 hf (by rcases hdn with h |h;exact h;omega)))) (B2 c)
 rw[af k9];exact PureC.vc (FG p c hb hs hm h1 h2 h3 h4 h5 h6 k1 k2 k4 k3 k8 k9)
theorem GH(p:Pg)(c:Cf)(h:RdOk p c):pC_ 8 [.agg (pgA p),.agg (cfA c)] (.tup [.agg (cfA (rtT (rtO p c)).1),.bool (rtT (rtO p c)).2]) []:=(Ee p c h).frozenT
theorem GI(p:Pg)(c:Cf)(h:RdOk p c):pC_ 9 [.agg (pgA p),.agg (cfA c)] (.bool (rtT (rtO p c)).2) []:=by
 have e:(rtT (rtO p c)).2=crV p c:=by
  unfold rtO
  cases crV p c<;>rfl
 rw[e]
 exact EH p c (by have:=h.bl;omega)
theorem RdOk.of{p:Pg}{c:Cf}(hP:OkP p)(hw:p.win<=300)(hI:Inv p c):RdOk p c:=
 have hk:=hI.ok hP (by omega)
 ⟨hP,hk.rt,hk.bf,by have:=hI.bl;omega,by rw[hI.ml];have:=hP.sum;omega,by have:=hI.st;omega,by have:=hI.rl;omega⟩
def p16:Pg:=⟨2,4,0,0,0,0,0,[⟨⟨#[109]⟩,false,2⟩],[],[⟨3,0,1,vQ 0,vQ 0,⟨#[]⟩,0⟩,⟨11,0,0,vQ 0,vQ 0,⟨#[]⟩,0⟩]⟩
def s16(m:List Int)(pc:Int):S8:=⟨0,0,0,0,m,[],pc⟩
def e16(kn:Bool):En:=⟨0,3,1, -1,1,true,kn,false⟩
def h16:En:=⟨1,0,0, -1, -1,true,false,false⟩
def c16:Nat->Cf
 |0=>⟨s16 [1,2] (-1),[e16 true,h16],[4],0⟩
 |1=>⟨s16 [1,3] (-1),[h16],[4],0⟩
 |2=>⟨s16 [1,3] 1,[],[],1⟩
 |_=>⟨s16 [1,2] (-1),[e16 false,h16],[4],0⟩
def rdb(p:Pg)(c:Cf):Bool:=decide (cL (enX p c 0)=true->0<=(enX p c 0).d∧(enX p c 0).d<4)&&decide ((enX p c 0).kind=3->(c.b.getD 0 default).ft=false->(c.b.getD 0 default).kn=true->0<=(c.b.getD 0 default).adr∧(c.b.getD 0 default).adr<c.s.m.length)&&decide ((enX p c 0).kind=9->(c.b.getD 0 default).ft=false->(c.b.getD 0 default).dn=true->c.s.st.length≠0)&&decide (0<=(c.b.getD 0 default).pc∧(c.b.getD 0 default).pc<=1000000)&&c.b.all (fun e=>decide (-1000000<=e.frm∧e.frm<=1000000))&&decide (c.b.length<=400∧c.s.m.length<=1000∧c.s.st.length<=300∧c.r.length<=1000)
theorem vu(l:List En)(i j:Nat)(hj:j<8):jH (an enC l i j)=true:=by
 show jH (enC (l.getD i default) j)=true
 exact(match j,hj with |0,_=>rfl |1,_=>rfl |2,_=>rfl |3,_=>rfl |4,_=>rfl |5,_=>rfl |6,_=>rfl |7,_=>rfl)
theorem wQ: ∀(i:Nat),i<1-> ∀(j:Nat),j<3->List.getD [AV.str (ByteArray.mk (Array.mk [(109:UInt8)])),AV.bool false,aI 2] ((i+0)*3+j) AV.junk=an mmC [Mm.mk (ByteArray.mk (Array.mk [(109:UInt8)])) false (2:Nat)] i j:=(fun i hi j hj=>match i,hi,j,hj with |0,_,0,_=>rfl |0,_,1,_=>rfl |0,_,2,_=>rfl)
theorem wP: ∀(i:Nat),i<2-> ∀(j:Nat),j<9->List.getD [aI 3,aI 0,aI 1,AV.bool false,aI 0,AV.bool false,aI 0,AV.str (ByteArray.mk (Array.mk [])),aI 0,aI 11,aI 0,aI 0,AV.bool false,aI 0,AV.bool false,aI 0,AV.str (ByteArray.mk (Array.mk [])),aI 0] ((i+0)*9+j) AV.junk=an inC [In.mk (3:Int) (0:Int) (1:Int) (vQ (0:Int)) (vQ (0:Int)) (ByteArray.mk (Array.mk [])) (0:Int),In.mk (11:Int) (0:Int) (0:Int) (vQ (0:Int)) (vQ (0:Int)) (ByteArray.mk (Array.mk [])) (0:Int)] i j:=(fun i hi j hj=>match i,hi,j,hj with |0,_,0,_=>rfl |0,_,1,_=>rfl |0,_,2,_=>rfl |0,_,3,_=>rfl |0,_,4,_=>rfl |0,_,5,_=>rfl |0,_,6,_=>rfl |0,_,7,_=>rfl |0,_,8,_=>rfl |1,_,0,_=>rfl |1,_,1,_=>rfl |1,_,2,_=>rfl |1,_,3,_=>rfl |1,_,4,_=>rfl |1,_,5,_=>rfl |1,_,6,_=>rfl |1,_,7,_=>rfl |1,_,8,_=>rfl)
theorem DD: ∀(i:Nat),i<2-> ∀(j:Nat),j<1->List.getD [aI 1,aI 2] ((i+0)*1+j) AV.junk=aI (List.getD [(1:Int),(2:Int)] i (0:Int)):=(fun i hi j hj=>match i,hi,j,hj with |0,_,0,_=>rfl |1,_,0,_=>rfl)
theorem DC: ∀(i:Nat),i<1-> ∀(j:Nat),j<1->List.getD [aI 4] ((i+0)*1+j) AV.junk=aI (List.getD [(4:Int)] i (0:Int)):=(fun i hi j hj=>match i,hi,j,hj with |0,_,0,_=>rfl)
theorem CR{Z:Prop}(z:Z):(RF (0:Nat) (RF (-1:Int) (RF (2:Nat) Z))):=⟨rfl,rfl,rfl,z⟩
theorem CQ{Z:Prop}(z:Z):(RF (0:Int) (RF (0:Int) (RF (0:Int) (RF (0:Int) (RF (2:Nat) Z))))):=⟨rfl,rfl,rfl,rfl,rfl,z⟩
theorem wt{Z:Prop}(z:Z):(RF (2:Int) (RF (4:Int) (RF (0:Int) (RF (0:Int) (RF (0:Int) (RF (0:Int) (RF (0:Int) (RF (1:Nat) Z)))))))):=⟨rfl,rfl,rfl,rfl,rfl,rfl,rfl,rfl,z⟩
theorem qH(h0:pC_ 8 [.agg (pgA p16),.agg (cfA (c16 0))] (.tup [.agg (s8A (c16 1).s (.own 0 0 1 0 (c16 1).s.m.length) (.own 1 0 1 0 (c16 1).s.st.length)++[.own 2 0 8 0 (c16 1).b.length,.own 3 0 1 0 (c16 1).r.length, aI (c16 1).e]),.bool true]) [a9 (c16 1).s.m,a9 (c16 1).s.st,enB (c16 1).b,a9 (c16 1).r])(h1:pC_ 8 [.agg (pgA p16),.agg (cfA (c16 1))] (.tup [.agg (s8A (c16 2).s (.own 0 0 1 0 (c16 2).s.m.length) (.own 1 0 1 0 (c16 2).s.st.length)++[.own 2 0 8 0 (c16 2).b.length,.own 3 0 1 0 (c16 2).r.length, aI (c16 2).e]),.bool true]) [a9 (c16 2).s.m,a9 (c16 2).s.st,enB (c16 2).b,a9 (c16 2).r])(h2:pC_ 8 [.agg (pgA p16),.agg (cfA (c16 2))] (.tup [.agg (s8A Cf0.s (.own 0 0 1 0 Cf0.s.m.length) (.own 1 0 1 0 Cf0.s.st.length)++[.own 2 0 8 0 Cf0.b.length,.own 3 0 1 0 Cf0.r.length, aI Cf0.e]),.bool false]) [a9 Cf0.s.m,a9 Cf0.s.st,enB Cf0.b,a9 Cf0.r])(h3:pC_ 9 [.agg (pgA p16),.agg (cfA (c16 3))] (.bool false) []):Vc (vF_ 11 [] [.cr [.agg (pgA p16),.agg (cfA (c16 0))] (.tup [.agg (s8A (c16 1).s (.own 0 0 1 0 (c16 1).s.m.length) (.own 1 0 1 0 (c16 1).s.st.length)++[.own 2 0 8 0 (c16 1).b.length,.own 3 0 1 0 (c16 1).r.length, aI (c16 1).e]),.bool true]) [a9 (c16 1).s.m,a9 (c16 1).s.st,enB (c16 1).b,a9 (c16 1).r],.cr [.agg (pgA p16),.agg (cfA (c16 1))] (.tup [.agg (s8A (c16 2).s (.own 0 0 1 0 (c16 2).s.m.length) (.own 1 0 1 0 (c16 2).s.st.length)++[.own 2 0 8 0 (c16 2).b.length,.own 3 0 1 0 (c16 2).r.length, aI (c16 2).e]),.bool true]) [a9 (c16 2).s.m,a9 (c16 2).s.st,enB (c16 2).b,a9 (c16 2).r],.cr [.agg (pgA p16),.agg (cfA (c16 2))] (.tup [.agg (s8A Cf0.s (.own 0 0 1 0 Cf0.s.m.length) (.own 1 0 1 0 Cf0.s.st.length)++[.own 2 0 8 0 Cf0.b.length,.own 3 0 1 0 Cf0.r.length, aI Cf0.e]),.bool false]) [a9 Cf0.s.m,a9 Cf0.s.st,enB Cf0.b,a9 Cf0.r],.cl [.agg (pgA p16),.agg (cfA (c16 3))] (.bool false) []] [] (.bool true) []):=al (wt (cj (wQ) (cj (rf (0:Nat)) (cj (rf (2:Nat)) (cj (wP) (CQ (cj (DD) (CR (cj (show ∀(i:Nat),i<2-> ∀(j:Nat),j<8->List.getD [aI 0,aI 3,aI 1,aI (-1:Int),aI 1,AV.bool true,AV.bool true,AV.bool false,aI 1,aI 0,aI 0,aI (-1:Int),aI (-1:Int),AV.bool true,AV.bool false,AV.bool false] ((i+0)*8+j) AV.junk=an enC [e16 true,h16] i j from(fun i hi j hj=>match i,hi,j,hj with |0,_,0,_=>rfl |0,_,1,_=>rfl |0,_,2,_=>rfl |0,_,3,_=>rfl |0,_,4,_=>rfl |0,_,5,_=>rfl |0,_,6,_=>rfl |0,_,7,_=>rfl |1,_,0,_=>rfl |1,_,1,_=>rfl |1,_,2,_=>rfl |1,_,3,_=>rfl |1,_,4,_=>rfl |1,_,5,_=>rfl |1,_,6,_=>rfl |1,_,7,_=>rfl)) (cj (rf (1:Nat)) (cj (DC) (cj (rf (0:Int)) (cj (show nJ [Blk.mk (nat_lit 0) false (nat_lit 3) (BC.rows (nat_lit 1) (nat_lit 2) fun(a a_1:Nat)=>aI (List.getD [(1:Int),(3:Int)] a (0:Int))),Blk.mk (nat_lit 0) false (nat_lit 3) (BC.rows (nat_lit 1) (nat_lit 0) fun(a a_1:Nat)=>aI (List.getD [] a (0:Int))),Blk.mk (nat_lit 0) false (nat_lit 35) (BC.rows (nat_lit 8) (nat_lit 1) fun(a a_1:Nat)=>an enC [h16] a a_1),Blk.mk (nat_lit 0) false (nat_lit 3) (BC.rows (nat_lit 1) (nat_lit 1) fun(a a_1:Nat)=>aI (List.getD [(4:Int)] a (0:Int)))] from by intro b hb m n f h i hi j hj;simp only[bL,eI,or_false] at hb;rcases hb with rfl |rfl |rfl |rfl<;>cases h<;>first |rfl |exact vu _ _ _ hj) (cj h0 (wt (cj (wQ) (cj (rf (0:Nat)) (cj (rf (2:Nat)) (cj (wP) (cj (rf (0:Int)) (cj (rf (0:Int)) (cj (rf (0:Int)) (cj (rf (0:Int)) (cj (rf (2:Nat)) (cj (rr 2 1 fun i j=>aI (List.getD [(1:Int),(3:Int)] i (0:Int))) (cj (rf (0:Nat)) (cj (rr 0 1 fun i j=>aI (List.getD [] i (0:Int))) (cj (rf (-1:Int)) (cj (rf (1:Nat)) (cj (rr 1 8 fun i j=>an enC [h16] i j) (cj (rf (1:Nat)) (cj (rr 1 1 fun i j=>aI (List.getD [(4:Int)] i (0:Int))) (cj (rf (0:Int)) (cj (show nJ [Blk.mk (nat_lit 0) false (nat_lit 3) (BC.rows (nat_lit 1) (nat_lit 2) fun(a a_1:Nat)=>aI (List.getD [(1:Int),(3:Int)] a (0:Int))),Blk.mk (nat_lit 0) false (nat_lit 3) (BC.rows (nat_lit 1) (nat_lit 0) fun(a a_1:Nat)=>aI (List.getD [] a (0:Int))),Blk.mk (nat_lit 0) false (nat_lit 35) (BC.rows (nat_lit 8) (nat_lit 0) fun(a a_1:Nat)=>an enC [] a a_1),Blk.mk (nat_lit 0) false (nat_lit 3) (BC.rows (nat_lit 1) (nat_lit 0) fun(a a_1:Nat)=>aI (List.getD [] a (0:Int)))] from by intro b hb m n f h i hi j hj;simp only[bL,eI,or_false] at hb;rcases hb with rfl |rfl |rfl |rfl<;>cases h<;>first |rfl |exact vu _ _ _ hj) (cj h1 (wt (cj (wQ) (cj (rf (0:Nat)) (cj (rf (2:Nat)) (cj (wP) (cj (rf (0:Int)) (cj (rf (0:Int)) (cj (rf (0:Int)) (cj (rf (0:Int)) (cj (rf (2:Nat)) (cj (rr 2 1 fun i j=>aI (List.getD [(1:Int),(3:Int)] i (0:Int))) (cj (rf (0:Nat)) (cj (rr 0 1 fun i j=>aI (List.getD [] i (0:Int))) (cj (rf (1:Int)) (cj (rf (0:Nat)) (cj (rr 0 8 fun i j=>an enC [] i j) (cj (rf (0:Nat)) (cj (rr 0 1 fun i j=>aI (List.getD [] i (0:Int))) (cj (rf (1:Int)) (cj (show nJ [Blk.mk (nat_lit 0) false (nat_lit 3) (BC.rows (nat_lit 1) (nat_lit 0) fun(a a_1:Nat)=>aI (List.getD [] a (0:Int))),Blk.mk (nat_lit 0) false (nat_lit 3) (BC.rows (nat_lit 1) (nat_lit 0) fun(a a_1:Nat)=>aI (List.getD [] a (0:Int))),Blk.mk (nat_lit 0) false (nat_lit 35) (BC.rows (nat_lit 8) (nat_lit 0) fun(a a_1:Nat)=>an enC [] a a_1),Blk.mk (nat_lit 0) false (nat_lit 3) (BC.rows (nat_lit 1) (nat_lit 0) fun(a a_1:Nat)=>aI (List.getD [] a (0:Int)))] from by intro b hb m n f h i hi j hj;simp only[bL,eI,or_false] at hb;rcases hb with rfl |rfl |rfl |rfl<;>cases h<;>first |rfl |exact vu _ _ _ hj) (cj h2 (cj (pv ((0:Int)<=0∧(0:Int)<(2:Nat))) (cj (pv ((0:Nat)<2)) (cj (pv ((0:Int)<=1∧(1:Int)<(2:Nat))) (cj (pv ((1:Nat)<2)) (wt (cj (wQ) (cj (rf (0:Nat)) (cj (rf (2:Nat)) (cj (wP) (CQ (cj (DD) (CR (cj (show ∀(i:Nat),i<2-> ∀(j:Nat),j<8->(bif Nat.ble (6:Nat) j&&Nat.blt j (7:Nat)&&Nat.beq (i+0) (0:Nat) then List.getD [AV.bool false] (j-6) AV.junk else List.getD [aI 0,aI 3,aI 1,aI (-1:Int),aI 1,AV.bool true,AV.bool true,AV.bool false,aI 1,aI 0,aI 0,aI (-1:Int),aI (-1:Int),AV.bool true,AV.bool false,AV.bool false] ((i+0)*8+j) AV.junk)=an enC [e16 false,h16] i j from(fun i hi j hj=>match i,hi,j,hj with |0,_,0,_=>rfl |0,_,1,_=>rfl |0,_,2,_=>rfl |0,_,3,_=>rfl |0,_,4,_=>rfl |0,_,5,_=>rfl |0,_,6,_=>rfl |0,_,7,_=>rfl |1,_,0,_=>rfl |1,_,1,_=>rfl |1,_,2,_=>rfl |1,_,3,_=>rfl |1,_,4,_=>rfl |1,_,5,_=>rfl |1,_,6,_=>rfl |1,_,7,_=>rfl)) (cj (rf (1:Nat)) (cj (DC) (cj (rf (0:Int)) (cj h3 (cj (rf true) trivial))))))))))))))))))))))))))))))))))))))))))))))))))))))))))))))))))))))))))
theorem rj{p:Pg}{c:Cf}(hP:OkP p)(h:rdb p c=true):RdOk p c:=by
 unfold rdb at h
 simp only[au,aL,decide_eq_true_eq] at h
 obtain⟨⟨⟨⟨⟨h1,h2⟩,h3⟩,h4⟩,h5⟩,h6,h7,h8,h9⟩:=h
 exact⟨hP,⟨h1,h2,h3,by omega,by omega,by omega,h4⟩,h5,h6,h7,h8,h9⟩
theorem Bp(hO:yr){p:Pg}{c x:Cf}{tb:Bool}(h:RdOk p c)(e:rtT (rtO p c)=(x,tb)):pC_ 8 [.agg (pgA p),.agg (cfA c)] (.tup [.agg (s8A x.s (.own 0 0 1 0 x.s.m.length) (.own 1 0 1 0 x.s.st.length)++[.own 2 0 8 0 x.b.length,.own 3 0 1 0 x.r.length,.int .i64 x.e]),.bool tb]) [a9 x.s.m,a9 x.s.st,enB x.b,a9 x.r]:=by
 have g:=hO p c h
 rw[e] at g
 exact g
theorem GJ{p:Pg}{c:Cf}{tb:Bool}(h:RdOk p c)(e:(rtT (rtO p c)).2=tb):pC_ 9 [.agg (pgA p),.agg (cfA c)] (.bool tb) []:=by
 have g:=GI p c h
 rw[e] at g
 exact g
theorem wa(hO:yr):pC_ 11 [] (.bool true) []:=by
 have hP:OkP p16:=Ej (by kernel_rfl)
 have r0:RdOk p16 (c16 0):=rj hP (by kernel_rfl)
 have r1:RdOk p16 (c16 1):=rj hP (by kernel_rfl)
 have r2:RdOk p16 (c16 2):=rj hP (by kernel_rfl)
 have r3:RdOk p16 (c16 3):=rj hP (by kernel_rfl)
 exact PureC.vc (qH (Bp hO r0 (by kernel_rfl)) (Bp hO r1 (by kernel_rfl)) (Bp hO r2 (by kernel_rfl)) (GJ r3 (by kernel_rfl)))
theorem Ck(s:S8){Z:Prop}(z:Z):(RF s.r0 (RF s.r1 (RF s.r2 (RF s.r3 (RF s.m.length (RR s.m.length 1 (fun i j=>aI (s.m.getD i 0)) (RF s.st.length (RR s.st.length 1 (fun i j=>aI (s.st.getD i 0)) (RF s.pc Z))))))))):=⟨rfl,rfl,rfl,rfl,rfl,fun _ _ _ _=>rfl,rfl,fun _ _ _ _=>rfl,rfl,z⟩
theorem DJ(s:S8)(L:List Int)(hI:pC_ 52 [.agg (s8R s)] (lR L) [])(hL:pC_ 32 [lR L,lR L] (.bool true) []):Vc (vF_ 23 [.agg (s8R s),.agg (s8R s)] [.cl [.agg (s8R s)] (lR L) [],.cl [.agg (s8R s)] (lR L) [],.cl [lR L,lR L] (.bool true) []] [] (.bool true) []):=al (Ck s (cj hI (Ck s (cj hI (cj (rf L.length) (cj (rr L.length 1 fun i j=>aI (L.getD i 0)) (cj (rf L.length) (cj (rr L.length 1 fun i j=>aI (L.getD i 0)) (cj hL (cj (rf true) trivial))))))))))
theorem yQ(s:S8)(hm:s.m.length<1000000)(hst:s.st.length<1000000):pC_ 23 [.agg (s8R s),.agg (s8R s)] (.bool true) []:=by
 have h:=Et (fh s) (fh s) (by rw[ec];omega)
 rw[ca rfl] at h
 exact PureC.vc (DJ s _ (EN s hm hst) h)
theorem PureC.obs{P:Program}{f:FuncId}{args:List AV}{a b:AV}{o:List Ob}(h:PureC P f args (.tup [a,obX o,b]) []):PureC P f args (.tup [a,obR o,b]) []:=by
 cases o with
 |cons x r=>exact h
 |nil=>
  intro w R vs hR hl ha
  refine(h w R vs hR hl ha).mono ?_
  rintro e w' ⟨z,cx,rfl,rfl,k1,k2,k3,k4,k5,k6,k7⟩
  refine⟨z,cx,rfl,rfl,k1,k2,k3,k4,k5,k6, ?_⟩
  have nr: ∀{u:Value},RepP cx.w cx.R .nils u->RepP cx.w cx.R (obR []) u:=fun hu=>by
   cases hu
   exact .row none 0 (fun _ _=> .bool false) (aG _) (bM _) (fun h=>absurd h (du _)) (fun i h=>absurd h (du _)) (fun i h=>absurd h (du _))
  have nr2: ∀{u:Value},Rep cx .nils u->Rep cx (obR []) u:=fun hu=>by
   cases hu with
   |pure h=>exact .pure (nr h)
  cases k7 with
  |pure h=>cases h with
   |tup hl h=>exact .pure (.tup hl fun j x v hx hv=>match j,hx with
    |0,hx=>h 0 x v hx hv
    |1,hx=>by
     simp only[ch,bu,ah] at hx
     subst hx
     exact nr (h 1 _ v rfl hv)
    |2,hx=>h 2 x v hx hv
    |j+3,hx=>by simp at hx)
  |tup hl h=>exact .tup hl fun j x v hx hv=>match j,hx with
    |0,hx=>h 0 x v hx hv
    |1,hx=>by
     simp only[ch,bu,ah] at hx
     subst hx
     exact nr2 (h 1 _ v rfl hv)
    |2,hx=>h 2 x v hx hv
    |j+3,hx=>by simp at hx
def stS(w:List Int)(p:Pg)(c:Cf)(s:S8)(i:Nat):Sm:=⟨[(6,.bool false),(2,lR w),(7,.bptr 0 0),(10,.bptr 1 0),(11,.bptr 2 0),(12,.int .i64 i)],[(0,⟨0,false,33,.box (pgA p)⟩),(1,⟨0,false,43,.box (cfA c)⟩),(2,⟨0,false,40,.box (s8R s)⟩)],3⟩
def stJ:Sm:=⟨[(6,.bool false)],[],0⟩
theorem Ga(w:List Int)(p:Pg)(c:Cf)(s:S8)(i:Nat)(h: ¬i<w.length):Vc (vC_ 7 0 (stS w p c s i) [.bd false] (.ext 0) [] stJ):=al (cj (df ((i:Int)<w.length)) (cj (rf false) trivial))
theorem Gb(w:List Int)(p:Pg)(c:Cf)(s:S8)(i:Nat)(h:i<w.length)(h6: ¬i<60):Vc (vC_ 7 0 (stS w p c s i) [.bd true,.bd false] (.ext 0) [] stJ):=al (cj (dt ((i:Int)<w.length)) (cj (df ((i:Int)<60)) (cj (rf false) trivial)))
theorem pZ(c:Cf)(s:S8){Z:Prop}(z:Z):(RR c.s.m.length 1 (fun i j=>aI (List.getD c.s.m i 0)) (RF c.s.st.length (RR c.s.st.length 1 (fun i j=>aI (List.getD c.s.st i 0)) (RF c.s.pc (RF c.b.length (RR c.b.length 8 (fun i j=>an enC c.b i j) (RF c.r.length (RR c.r.length 1 (fun i j=>aI (c.r.getD i 0)) (RF c.e Z))))))))):=⟨fun _ _ _ _=>rfl,rfl,fun _ _ _ _=>rfl,rfl,rfl,fun _ _ _ _=>rfl,rfl,fun _ _ _ _=>rfl,rfl,z⟩
theorem pY(p:Pg)(c:Cf)(s:S8){Z:Prop}(z:Z):(RF p.ls.length (RR p.ls.length 2 (fun i j=>an lbC p.ls i j) (RF p.is.length (RR p.is.length 9 (fun i j=>an inC p.is i j) (RF c.s.r0 (RF c.s.r1 (RF c.s.r2 (RF c.s.r3 (RF c.s.m.length Z))))))))):=⟨rfl,fun _ _ _ _=>rfl,rfl,fun _ _ _ _=>rfl,rfl,rfl,rfl,rfl,rfl,z⟩
theorem jn(p:Pg){Z:Prop}(z:Z):(RF p.W (RF p.win (RF p.fuel (RF p.r0 (RF p.r1 (RF p.r2 (RF p.r3 (RF p.ms.length (RR p.ms.length 3 (fun i j=>an mmC p.ms i j) Z))))))))):=⟨rfl,rfl,rfl,rfl,rfl,rfl,rfl,rfl,fun _ _ _ _=>rfl,z⟩
abbrev xg(p:Pg)(c:Cf):Prop:=PureC Try.prog 20 [.agg (pgA p),.agg (cfA c)] (drR (c9 p c)) []
abbrev xt(p:Pg)(c:Cf):Orc:= .cl [.agg (pgA p),.agg (cfA c)] (drR (c9 p c)) []
theorem Gc(w:List Int)(p:Pg)(c:Cf)(s:S8)(i:Nat)(h:i<w.length)(h6:i<60)(hA:xg p c)(h0:(c9 p c).length=0):Vc (vC_ 7 0 (stS w p c s i) [.bd true,.bd true,xt p c,.bd true] (.ext 0) [] stJ):=al (cj (dt ((i:Int)<w.length)) (cj (dt ((i:Int)<60)) (jn p (pY p c s (pZ c s (cj hA (cj (e1 (↑((c9 p c).length):Int) 0) (cj (rf false) trivial))))))))
theorem zD(w:List Int)(i:Nat){Z:Prop}(z:Z):(RF false (RF w.length (RR w.length 1 (fun i j=>aI (w.getD i 0)) (RF ((i:Int)+1) Z)))):=⟨rfl,rfl,fun _ _ _ _=>rfl,rfl,z⟩
theorem CP(p:Pg){Z:Prop}(z:Z):(RF p.ls.length (RR p.ls.length 2 (fun i j=>an lbC p.ls i j) (RF p.is.length (RR p.is.length 9 (fun i j=>an inC p.is i j) Z)))):=⟨rfl,fun _ _ _ _=>rfl,rfl,fun _ _ _ _=>rfl,z⟩
theorem F7(w:List Int)(p:Pg)(c:Cf)(s:S8)(i:Nat)(h:i<w.length)(h6:i<60)(hA:xg p c)(h0: ¬(c9 p c).length=0)(hi0:0<=Int.tmod (bits .and .i64 (w.getD i 0) 65535) (c9 p c).length)(hi1:Int.tmod (bits .and .i64 (w.getD i 0) 65535) (c9 p c).length<(c9 p c).length)(hk: ¬(wkD p w c i).k=4)(c2:Cf)(o:List Ob)(hS:pC_ 21 [.agg (pgA p),.agg (cfA c),.agg (drA (wkD p w c i))] (.tup [.agg (cfA c2),obR o,.bool true]) []):Vc (vC_ 7 0 (stS w p c s i) [.bd true,.bd true,xt p c,.bd false,.bd true,.cl [.agg (pgA p),.agg (cfA c),.agg (drA (wkD p w c i))] (.tup [.agg (cfA c2),obR o,.bool true]) []] .nrm [(0,0),(1,1),(2,2)] (stS w p c2 s (i+1))):=al (cj (dt ((i:Int)<w.length)) (cj (dt ((i:Int)<60)) (jn p (pY p c s (pZ c s (cj hA (cj (e0 (↑((c9 p c).length):Int) 0) (cj (bi i w.length) (cj (pv ((↑((c9 p c).length):Int)≠0)) (cj (bi (Int.tmod (Go.bits Go.BinOp.and IntKind.i64 (w.getD i 0) 65535) (↑((c9 p c).length):Int)) (↑((c9 p c).length):Int)) (cj (bU.2 hk) (jn p (pY p c s (pZ c s (cj (rf ((wkD p w c i).k)) (cj (rf ((wkD p w c i).n)) (cj hS (cj (i6 (i+1)) (jn p (CP p (cj (rf c2.s.r0) (cj (rf c2.s.r1) (cj (rf c2.s.r2) (cj (rf c2.s.r3) (cj (rf c2.s.m.length) (cj (rr c2.s.m.length 1 fun i j=>aI (List.getD c2.s.m i 0)) (cj (rf c2.s.st.length) (cj (rr c2.s.st.length 1 fun i j=>aI (List.getD c2.s.st i 0)) (cj (rf c2.s.pc) (cj (rf c2.b.length) (cj (rr c2.b.length 8 fun i j=>an enC c2.b i j) (cj (rf c2.r.length) (cj (rr c2.r.length 1 fun i j=>aI (c2.r.getD i 0)) (cj (rf c2.e) (cj (rf s.r0) (cj (rf s.r1) (cj (rf s.r2) (cj (rf s.r3) (cj (rf s.m.length) (cj (rr s.m.length 1 fun i j=>aI (s.m.getD i 0)) (cj (rf s.st.length) (cj (rr s.st.length 1 fun i j=>aI (s.st.getD i 0)) (cj (rf s.pc) (zD w i trivial))))))))))))))))))))))))))))))))))))))))))))
theorem CO(t:S8){Z:Prop}(z:Z):(RF t.r0 (RF t.r1 (RF t.r2 (RF t.r3 (RF t.m.length (RR t.m.length 1 (fun i j=>aI (t.m.getD i 0)) (RF t.st.length (RR t.st.length 1 (fun i j=>aI (t.st.getD i 0)) (RF t.pc Z))))))))):=⟨rfl,rfl,rfl,rfl,rfl,fun _ _ _ _=>rfl,rfl,fun _ _ _ _=>rfl,rfl,z⟩
theorem CN(t:S8)(xp:Int)(xe:Int)(xb:List En)(xr:List Int){Z:Prop}(z:Z):(RR t.m.length 1 (fun i j=>aI (t.m.getD i 0)) (RF t.st.length (RR t.st.length 1 (fun i j=>aI (t.st.getD i 0)) (RF xp (RF xb.length (RR xb.length 8 (fun i j=>an enC xb i j) (RF xr.length (RR xr.length 1 (fun i j=>aI (xr.getD i 0)) (RF xe Z))))))))):=⟨fun _ _ _ _=>rfl,rfl,fun _ _ _ _=>rfl,rfl,rfl,fun _ _ _ _=>rfl,rfl,fun _ _ _ _=>rfl,rfl,z⟩
theorem CM(p:Pg)(t:S8){Z:Prop}(z:Z):(RF p.ls.length (RR p.ls.length 2 (fun i j=>an lbC p.ls i j) (RF p.is.length (RR p.is.length 9 (fun i j=>an inC p.is i j) (RF t.r0 (RF t.r1 (RF t.r2 (RF t.r3 (RF t.m.length Z))))))))):=⟨rfl,fun _ _ _ _=>rfl,rfl,fun _ _ _ _=>rfl,rfl,rfl,rfl,rfl,rfl,z⟩
theorem ws(t:S8)(xp:Int){Z:Prop}(z:Z):(RF t.r0 (RF t.r1 (RF t.r2 (RF t.r3 (RF t.m.length (RR t.m.length 1 (fun i j=>aI (t.m.getD i 0)) (RF t.st.length (RR t.st.length 1 (fun i j=>aI (t.st.getD i 0)) (RF xp Z))))))))):=⟨rfl,rfl,rfl,rfl,rfl,fun _ _ _ _=>rfl,rfl,fun _ _ _ _=>rfl,rfl,z⟩
theorem CL(s:S8){Z:Prop}(z:Z):(RR s.m.length 1 (fun i j=>aI (s.m.getD i 0)) (RF s.st.length (RR s.st.length 1 (fun i j=>aI (s.st.getD i 0)) (RF s.pc Z)))):=⟨fun _ _ _ _=>rfl,rfl,fun _ _ _ _=>rfl,rfl,z⟩
theorem tJ(p:Pg)(s:S8){Z:Prop}(z:Z):(RF p.ls.length (RR p.ls.length 2 (fun i j=>an lbC p.ls i j) (RF p.is.length (RR p.is.length 9 (fun i j=>an inC p.is i j) (RF s.r0 (RF s.r1 (RF s.r2 (RF s.r3 (RF s.m.length Z))))))))):=⟨rfl,fun _ _ _ _=>rfl,rfl,fun _ _ _ _=>rfl,rfl,rfl,rfl,rfl,rfl,z⟩
abbrev Ed(t:S8)(xp:Int):Prop:=PureC Try.prog 23 [.agg (s8R (t.go xp)),.agg (s8R (t.go xp))] (.bool true) []
theorem F9(w:List Int)(p:Pg)(c:Cf)(s:S8)(i:Nat)(h:i<w.length)(h6:i<60)(hA:xg p c)(h0: ¬(c9 p c).length=0)(hi0:0<=Int.tmod (bits .and .i64 (w.getD i 0) 65535) (c9 p c).length)(hi1:Int.tmod (bits .and .i64 (w.getD i 0) 65535) (c9 p c).length<(c9 p c).length)(hk:(wkD p w c i).k=4)(t:S8)(xp xe:Int)(xb:List En)(xr:List Int)(o:List Ob)(hl:0<c.b.length)(hpc:(c.b.getD 0 default).pc=s.pc)(he:xe=0)(h1:pC_ 8 [.agg (pgA p),.agg (cfA c)] (.tup [.agg (cfA ⟨t.go xp,xb,xr,xe⟩),.bool true]) [])(h2:pC_ 22 [.agg (pgA p),.agg (s8R s)] (.tup [.agg (s8R t),obR o, aI xe]) [])(h3:Ed t xp):Vc (vC_ 7 0 (stS w p c s i) [.bd true,.bd true,xt p c,.bd false,.bd false,.cl [.agg (pgA p),.agg (cfA c)] (.tup [.agg (cfA ⟨t.go xp,xb,xr,xe⟩),.bool true]) [],.cl [.agg (pgA p),.agg (s8R s)] (.tup [.agg (s8R t),obR o, aI xe]) [],.bd false,.bd false,.cl [.agg (s8R (t.go xp)),.agg (s8R (t.go xp))] (.bool true) [],.bd false] .nrm [(0,0),(1,1),(2,2)] (stS w p ⟨t.go xp,xb,xr,xe⟩ t (i+1))):=al (cj (dt ((i:Int)<w.length)) (cj (dt ((i:Int)<60)) (jn p (pY p c s (pZ c s (cj hA (cj (e0 (↑((c9 p c).length):Int) 0) (cj (bi i w.length) (cj (pv ((↑((c9 p c).length):Int)≠0)) (cj (bi (Int.tmod (Go.bits Go.BinOp.and IntKind.i64 (w.getD i 0) 65535) (↑((c9 p c).length):Int)) (↑((c9 p c).length):Int)) (cj (aw.2 hk) (jn p (pY p c s (pZ c s (cj h1 (jn p (tJ p s (CL s (cj h2 (cj (show(xe !=xe)=false from(aw.2 (by omega))) (cj (pv ((0:Int)<=0∧(0:Int)<c.b.length)) (cj (aw.2 hpc) (ws t xp (ws t xp (cj h3 (cj (show(xe !=(0:Int))=false from(aw.2 (by omega))) (cj (i6 (i+1)) (jn p (CM p t (CN t xp xe xb xr (CO t (zD w i trivial))))))))))))))))))))))))))))))))
theorem F8(w:List Int)(p:Pg)(c:Cf)(s:S8)(i:Nat)(h:i<w.length)(h6:i<60)(hA:xg p c)(h0: ¬(c9 p c).length=0)(hi0:0<=Int.tmod (bits .and .i64 (w.getD i 0) 65535) (c9 p c).length)(hi1:Int.tmod (bits .and .i64 (w.getD i 0) 65535) (c9 p c).length<(c9 p c).length)(hk:(wkD p w c i).k=4)(t:S8)(xp xe:Int)(xb:List En)(xr:List Int)(o:List Ob)(hl:0<c.b.length)(hpc:(c.b.getD 0 default).pc=s.pc)(he: ¬xe=0)(hp:t.pc=xp)(h1:pC_ 8 [.agg (pgA p),.agg (cfA c)] (.tup [.agg (cfA ⟨t.go xp,xb,xr,xe⟩),.bool true]) [])(h2:pC_ 22 [.agg (pgA p),.agg (s8R s)] (.tup [.agg (s8R t),obR o, aI xe]) [])(h3:Ed t xp):Vc (vC_ 7 0 (stS w p c s i) [.bd true,.bd true,xt p c,.bd false,.bd false,.cl [.agg (pgA p),.agg (cfA c)] (.tup [.agg (cfA ⟨t.go xp,xb,xr,xe⟩),.bool true]) [],.cl [.agg (pgA p),.agg (s8R s)] (.tup [.agg (s8R t),obR o, aI xe]) [],.bd false,.bd false,.cl [.agg (s8R (t.go xp)),.agg (s8R (t.go xp))] (.bool true) [],.bd true,.bd false] .nrm [(0,0),(1,1),(2,2)] (stS w p ⟨t.go xp,xb,xr,xe⟩ t (i+1))):=al (cj (dt ((i:Int)<w.length)) (cj (dt ((i:Int)<60)) (jn p (pY p c s (pZ c s (cj hA (cj (e0 (↑((c9 p c).length):Int) 0) (cj (bi i w.length) (cj (pv ((↑((c9 p c).length):Int)≠0)) (cj (bi (Int.tmod (Go.bits Go.BinOp.and IntKind.i64 (w.getD i 0) 65535) (↑((c9 p c).length):Int)) (↑((c9 p c).length):Int)) (cj (aw.2 hk) (jn p (pY p c s (pZ c s (cj h1 (jn p (tJ p s (CL s (cj h2 (cj (show(xe !=xe)=false from(aw.2 (by omega))) (cj (pv ((0:Int)<=0∧(0:Int)<c.b.length)) (cj (aw.2 hpc) (ws t xp (ws t xp (cj h3 (cj (bU.2 he) (cj (aw.2 hp) (cj (i6 (i+1)) (jn p (CM p t (CN t xp xe xb xr (CO t (zD w i trivial)))))))))))))))))))))))))))))))))
theorem t0(m zs w:List Int)(p:Pg)(s s2:S8)(hs:s.st=[])(h1:pC_ 12 [lR m] (.agg (pgA p)) [])(h2:pC_ 13 [.agg (pgA p),lR zs, aI 1] (.tup [.agg (s8N s),.agg (s8N s2)]) [])(h3:pC_ 19 [.agg (s8R s)] (.agg (cfA (beg s))) [])(h4:oL_ 7 0 (stS w p (beg s) s 0).st (.ext 0) (stJ).st)(hW:pC_ 11 [] (.bool true) []):Vc (vF_ 7 [lR m,lR zs,lR w] [.cl [lR m] (.agg (pgA p)) [],.cl [.agg (pgA p),lR zs, aI 1] (.tup [.agg (s8N s),.agg (s8N s2)]) [],.cl [.agg (s8R s)] (.agg (cfA (beg s))) [],.lp [(0,0),(1,3),(2,4)] (stS w p (beg s) s 0) (.ext 0) stJ,.cl [] (.bool true) []] [] (.bool true) []):=al (cj (rf m.length) (cj (rr m.length 1 fun i j=>aI (m.getD i 0)) (cj h1 (jn p (CP p (cj (rf zs.length) (cj (rr zs.length 1 fun i j=>aI (zs.getD i 0)) (cj (rf (1:Int)) (cj h2 (cj (rf s.r0) (cj (rf s.r1) (cj (rf s.r2) (cj (rf s.r3) (cj (rf s.m.length) (cj (rr s.m.length 1 fun i j=>aI (s.m.getD i 0)) (cj (show s.st.length=0 from by rw[hs];rfl) (cj (rf s.pc) (cj h3 (jn p (tJ p s (cj (rr s.m.length 1 fun i j=>aI (s.m.getD i 0)) (cj (rf s.st.length) (cj (rr s.st.length 1 fun i j=>aI (s.st.getD i 0)) (cj (rf s.pc) (cj (rf (0:Nat)) (cj (rr 0 8 fun i j=>an enC [] i j) (cj (rf (0:Nat)) (cj (rr 0 1 fun i j=>aI (List.getD [] i (0:Int))) (cj (rf (0:Int)) (cj (rf s.r0) (cj (rf s.r1) (cj (rf s.r2) (cj (rf s.r3) (cj (rf s.m.length) (cj (rr s.m.length 1 fun i j=>aI (s.m.getD i 0)) (cj (show s.st.length=0 from by rw[hs];rfl) (cj (rf s.pc) (cj (rf false) (cj (rf w.length) (cj (rr w.length 1 fun i j=>aI (w.getD i 0)) (cj (rf (0:Int)) (cj h4 (cj hW (cj (rf true) trivial))))))))))))))))))))))))))))))))))))))))))))
theorem wg: ∀n d,d∈aF n-> ∃j:Nat,d=⟨1,j⟩∧j<n
 |0,_,h=>by cases h
 |n+1,d,h=>by
  rcases aP.1 h with h |h
  ·obtain⟨j,e,hj⟩:=wg n d h
   exact⟨j,e,by omega⟩
  ·exact⟨n,aB.1 h,by omega⟩
theorem qL(p:Pg)(c:Cf)(L:List Dr): ∀n d,d∈aX p c L n->d∈L∨ ∃j:Nat,d=⟨2,j⟩∧cnV p c j=true
 |0,_,h=> .inl h
 |n+1,d,h=>by
  unfold aX at h
  split at h
  ·rename_i hc
   rcases aP.1 h with h |h
   ·exact qL p c L n d h
   ·exact .inr ⟨n,aB.1 h,hc⟩
  ·exact qL p c L n d h
theorem qM(p:Pg)(c:Cf)(L:List Dr): ∀n d,d∈aA p c L n->d∈L∨ ∃j:Nat,d=⟨3,j⟩∧caV p c j=true
 |0,_,h=> .inl h
 |n+1,d,h=>by
  unfold aA at h
  split at h
  ·rename_i hc
   rcases aP.1 h with h |h
   ·exact qM p c L n d h
   ·exact .inr ⟨n,aB.1 h,hc⟩
  ·exact qM p c L n d h
theorem yl{p:Pg}{c:Cf}{d:Dr}(h:d∈c9 p c):(d.k=4∧crV p c=true)∨(¬d.k=4∧ ∃x,sayO p c d=some x):=by
 have h2:(d=⟨4,0⟩∧crV p c=true)∨d∈aA p c (aX p c (aF (gsV p c).toNat) c.b.length) c.b.length:=by
  unfold c9 aR at h
  split at h
  ·rename_i hc
   rcases aP.1 h with h |h
   ·exact .inr h
   ·exact .inl ⟨aB.1 h,hc⟩
  ·exact .inr h
 rcases h2 with⟨rfl,hc⟩|h
 ·exact .inl ⟨rfl,hc⟩
 ·refine .inr ?_
  rcases qM p c _ _ d h with h |⟨j,rfl,hc⟩
  ·rcases qL p c _ _ d h with h |⟨j,rfl,hc⟩
   ·obtain⟨j,rfl,hj⟩:=wg _ d h
    refine⟨by show ¬(1:Int)=4;decide, ?_⟩
    unfold sayO ftO
    rw[ai (show((⟨1,(j:Int)⟩:Dr)).k=1 from rfl),ai (show 0<=(j:Int)∧(j:Int)<gsV p c by omega)]
    exact⟨_,rfl⟩
   ·refine⟨by show ¬(2:Int)=4;decide, ?_⟩
    unfold sayO doO
    rw[af (by show ¬(2:Int)=1;decide),ai (show((⟨2,(j:Int)⟩:Dr)).k=2 from rfl),ai hc]
    exact⟨_,rfl⟩
  ·refine⟨by show ¬(3:Int)=4;decide, ?_⟩
   unfold sayO adrO
   rw[af (by show ¬(3:Int)=1;decide),af (by show ¬(3:Int)=2;decide),ai (show((⟨3,(j:Int)⟩:Dr)).k=3 from rfl),ai hc]
   exact⟨_,rfl⟩
theorem Cor.say{p:Pg}{c c2:Cf}{d:Dr}{o:List Ob}(h:Cor p c)(hk: ¬d.k=4)(e:sayO p c d=some (c2,o)):Cor p c2∧hdP c2=hdP c∧(∀n,c2.s.reg n=c.s.reg n)∧c2.s.m=c.s.m∧c2.s.st=c.s.st∧c2.e=c.e:=by
 unfold sayO at e
 split at e
 ·cases hf:Px.ftO p c d.n with
  |none=>rw[hf] at e;cases e
  |some x=>
   rw[hf] at e
   have e2:x=c2:=congrArg (fun q:Cf×List Ob=>q.1) (Option.some.inj e)
   subst e2
   obtain⟨h1,h2⟩:=h.ftO hf
   unfold Px.ftO at hf
   split at hf
   ·obtain rfl:=Option.some.inj hf
    exact⟨h1,h2,fun _=>rfl,rfl,rfl,rfl⟩
   ·cases hf
 ·split at e
  ·obtain⟨h1,h2⟩:=h.doO e
   have hs:(∀n,c2.s.reg n=c.s.reg n)∧c2.s.m=c.s.m∧c2.s.st=c.s.st∧c2.e=c.e:=by
    have hc:cnV p c d.n=true:=by
     unfold Px.doO at e
     split at e
     ·assumption
     ·cases e
    obtain⟨k,hk2,_⟩:=gk hc
    rw[hk2] at e
    obtain⟨q1,_,_,q4,_⟩:=ze e
    rcases rR c k q1 (ouV p c k).1 (ouV p c k).2.1 with⟨r,_⟩|⟨u,_,r⟩
    ·rw[q4,r];exact⟨fun _=>rfl,rfl,rfl,rfl⟩
    ·rw[q4,r];exact⟨fun _=>rfl,rfl,rfl,rfl⟩
   exact⟨h1,h2,hs⟩
  ·split at e
   ·obtain⟨h1,h2⟩:=h.adrO e
    refine⟨h1,h2, ?_⟩
    unfold Px.adrO qK at e
    split at e
    ·have e2:=congrArg (fun q:Cf×List Ob=>q.1) (Option.some.inj e)
     split at e2
     ·subst e2;exact⟨fun _=>rfl,rfl,rfl,rfl⟩
     ·split at e2
      ·subst e2;exact⟨fun _=>rfl,rfl,rfl,rfl⟩
      ·subst e2;exact⟨fun _=>rfl,rfl,rfl,rfl⟩
    ·cases e
   ·cases e
structure One (p:Pg) (c:Cf) (s:S8):Prop where
 inv:Inv p c
 liv:c.e=0->Cor p c∧s=c.s.go (hdP c)
theorem E1{p:Pg}{c:Cf}(h:Inv p c): -1<=hdP c∧hdP c<=p.is.length:=by
 unfold hdP
 split
 ·exact h.pc
 ·have:=(h.be _ (cQ (show 0<c.b.length by omega))).pc
  omega
theorem S8.ext_go{a b:S8}{t:Int}(h: ∀n,a.reg n=b.reg n)(hm:a.m=b.m)(hs:a.st=b.st):a.go t=b.go t:=by
 have h0:=h 0;have h1:=h 1;have h2:=h 2;have h3:=h 3
 obtain⟨a0,a1,a2,a3,am,ast,ap⟩:=a
 obtain⟨b0,b1,b2,b3,bm,bst,bp⟩:=b
 have h0:a0=b0:=h0
 have h1:a1=b1:=h1
 have h2:a2=b2:=h2
 have h3:a3=b3:=h3
 have hm:am=bm:=hm
 have hs:ast=bst:=hs
 subst h0 h1 h2 h3 hm hs
 rfl
theorem lg(p:Pg)(w:List Int)(hP:OkP p)(hw:p.win<=300): ∀j i c s,i+j=min w.length 60->One p c s->OkL Try.prog (dG Try.prog 7) (lpC Try.prog 7 0) (stS w p c s i).st (.ext 0) (stJ).st
 |0,i,c,s,hj,_=>by
  by_cases h:i<w.length
  ·exact OkL.exit (Ok.vc (Gb w p c s i h (by omega))) (by simp)
  ·exact OkL.exit (Ok.vc (Ga w p c s i h)) (by simp)
 |j+1,i,c,s,hj,hO=>by
  have hI:=hO.inv
  have hM:=hI.ok hP (by omega)
  have hA:=Ea p c hM.il hM.bl hM.ml hM.sm
  by_cases h0:(c9 p c).length=0
  ·exact OkL.exit (Ok.vc (Gc w p c s i (by omega) (by omega) hA h0)) (by simp)
  obtain⟨b0,b1⟩:=zI w i h0
  have hmem:wkD p w c i∈c9 p c:=by
   unfold wkD wkI
   have:(Int.tmod (bits .and .i64 (w.getD i 0) 65535) (c9 p c).length).toNat<(c9 p c).length:=by omega
   rw[aq,aD this]
   exact eJ this
  have he0:c.e=0:=Decidable.byContradiction fun he=>h0 (ym he)
  obtain⟨hC,hs⟩:=hO.liv he0
  rcases yl hmem with⟨hk,hcr⟩|⟨hk,⟨c2,o⟩,e⟩
  ·
   obtain⟨_,hl,_,_⟩:=fB hcr
   have hd:hdP c=(c.b.getD 0 default).pc:=by unfold hdP;rw[af (by omega)]
   have hS:=wX hP hI hC hcr
   have ert:rtO p c=some (rtV p c):=by unfold rtO;rw[ai hcr]
   have hI2:=Inv.rtO hP hI ert
   have hbd:=E1 hI
   have hok:OkS ((bF p.ms:Nat):Int) p.is.length s:=by
    rw[hs]
    exact⟨hI.reg,hI.mem,by show((bF p.ms:Nat):Int)=(c.s.m.length:Int);rw[hI.ml],hbd,by have:=hI.st;show c.s.st.length<=100;omega,fun x hx=>by have:=hI.stk x hx;omega⟩
   have hst:=As p s hP hok
   have hR:(cC p.W ((bF p.ms:Nat):Int) p.is.length (atI p s.pc) s)=cC p.W c.s.m.length p.is.length (enX p c 0) (c.s.go (c.b.getD 0 default).pc):=by
    rw[hs,hd,hI.ml]
    rfl
   rw[hR] at hst
   have hrd:=GH p c (RdOk.of hP hw hI)
   rw[ert] at hrd
   have hrd:pC_ 8 [.agg (pgA p),.agg (cfA c)] (.tup [.agg (cfA (rtV p c)),.bool true]) []:=hrd
   generalize hr:cC p.W c.s.m.length p.is.length (enX p c 0) (c.s.go (c.b.getD 0 default).pc)=r at*
   obtain⟨t,o,en⟩:=r
   have g1:=hS.e
   have g2:=hS.go
   have g3:=hS.en
   rw[hr] at g1 g2 g3
   have hpc:(c.b.getD 0 default).pc=s.pc:=by rw[hs,hd];rfl
   by_cases hz:en=0
   ·have hz2:(rtV p c).e=0:=g1.trans hz
    obtain⟨s2,q1,q2,q3,q4⟩:=Cor.rtV hP hI hC hcr hz2
    have ht:t=(rtV p c).s.go (c.b.getD 0 default).nxt:=g2 hz
    have hx:(rtV p c)=⟨t.go (rtV p c).s.pc,(rtV p c).b,(rtV p c).r,en⟩:=by
     rw[ht,hz, <-hz2];rfl
    have hone:One p (rtV p c) t:=⟨hI2,fun _=>⟨q3,by rw[ht,q4]⟩⟩
    have hml:=hI2.ml
    have hsm:=hP.sum
    have hstl:=hI2.st
    have h7:=yQ (t.go (rtV p c).s.pc) (by rw[ht];show(rtV p c).s.m.length<1000000;omega) (by rw[ht];show(rtV p c).s.st.length<1000000;omega)
    have key:=Ok.vc (F9 w p c s i (by omega) (by omega) hA h0 b0 b1 hk t (rtV p c).s.pc en (rtV p c).b (rtV p c).r o hl hpc hz (hx▸hrd) hst h7)
    rw[<-hx] at key
    exact OkL.step key (lg p w hP hw j (i+1) _ _ (by omega) hone)
   ·obtain⟨w1,w2⟩:=g3 hz
    have hx:(rtV p c)=⟨t.go (rtV p c).s.pc,(rtV p c).b,(rtV p c).r,en⟩:=by
     have w1:t=c.s.go (c.b.getD 0 default).pc:=w1
     have g1:(rtV p c).e=en:=g1
     rw[w1,w2, <-g1]
     show rtV p c=⟨c.s.go (c.b.getD 0 default).pc,_,_,_⟩
     rw[<-w2]
    have hp:t.pc=(rtV p c).s.pc:=by rw[w2];exact congrArg S8.pc w1
    have hone:One p (rtV p c) t:=⟨hI2,fun hq=>absurd (g1.symm.trans hq) hz⟩
    have hml:=hI2.ml
    have hsm:=hP.sum
    have hstl:=hI2.st
    have w1:t=c.s.go (c.b.getD 0 default).pc:=w1
    have hml0:=hI.ml
    have hstl0:=hI.st
    have h7:=yQ (t.go (rtV p c).s.pc) (by rw[w1];show c.s.m.length<1000000;omega) (by rw[w1];show c.s.st.length<1000000;omega)
    have key:=Ok.vc (F8 w p c s i (by omega) (by omega) hA h0 b0 b1 hk t (rtV p c).s.pc en (rtV p c).b (rtV p c).r o hl hpc hz hp (hx▸hrd) hst h7)
    rw[<-hx] at key
    exact OkL.step key (lg p w hP hw j (i+1) _ _ (by omega) hone)
  ·have hS:=DP p c (wkD p w c i) hM
   rw[e] at hS
   obtain⟨q1,q2,q3,q4,q5,q6⟩:=hC.say hk e
   have hone:One p c2 s:=⟨hI.sayO hP (by omega) e,fun _=>⟨q1,by rw[hs,q2];exact(S8.ext_go q3 q4 q5).symm⟩⟩
   exact OkL.step (Ok.vc (F7 w p c s i (by omega) (by omega) hA h0 b0 b1 hk c2 o (PureC.obs hS))) (lg p w hP hw j (i+1) _ _ (by omega) hone)
theorem qn(hO:yr)(m zs w:List Int):pC_ 7 [lR m,lR zs,lR w] (.bool true) []:=by
 have hP:=xy m
 have h1:One (gc m) (beg (sA (gc m) zs)) (sA (gc m) zs):=⟨BB m zs,fun _=>⟨Cor.beg _ _,rfl⟩⟩
 exact PureC.vc (t0 m zs w (gc m) (sA (gc m) zs) (sB (gc m) zs 1) rfl (mkC m) (wz (gc m) zs 1 hP) (D9 _) (lg (gc m) w hP (by have:=u4 m;omega) _ 0 _ _ (a7 _) h1).ok (wa hO))
theorem walk_RetiSteps(A0:Option Addr)(c0:Nat)(z0:List Int)(A1:Option Addr)(c1:Nat)(z1:List Int)(A2:Option Addr)(c2:Nat)(z2:List Int)(W:World)(hc0:z0.length<=c0)(hm0:c0<=maxLen)(hr0:Rd W W.heap.size A0 (z0.map (Value.int .i64)))(hc1:z1.length<=c1)(hm1:c1<=maxLen)(hr1:Rd W W.heap.size A1 (z1.map (Value.int .i64)))(hc2:z2.length<=c2)(hm2:c2<=maxLen)(hr2:Rd W W.heap.size A2 (z2.map (Value.int .i64))):Calls Try.prog 7 #[.slice A0 z0.length c0,.slice A1 z1.length c1,.slice A2 z2.length c2] W (RetB (.bool true) W):=
 (qn Ee z0 z1 z2).lawB (R:=fun g=>g<W.heap.size) (fun _ h=>h) rfl (fun j x v hx hv=>match j,hx,hv with
  |0,rfl,rfl=> .ofRd hr0 hc0 hm0
  |1,rfl,rfl=> .ofRd hr1 hc1 hm1
  |2,rfl,rfl=> .ofRd hr2 hc2 hm2)
end
end Go.Proofs.Ytdanmboalfmifaa.Px
