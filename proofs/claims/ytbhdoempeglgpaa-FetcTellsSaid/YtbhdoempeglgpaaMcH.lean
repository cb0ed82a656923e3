import Derived.Test.YtbhdoempeglgpaaMcG
import Derived.Test.YtbhdoempeglgpaaMcD
import Derived.Test.YtbhdoempeglgpaaMcE
set_option linter.unusedVariables false
set_option linter.unusedSimpArgs false
set_option maxRecDepth 100000
namespace Go.Proofs.Ytbhdoempeglgpaa.Px
section
open Go.RowKit Go.Proofs.Ytbhdoempeglgpaa.Rx
theorem CE(l:List Int)(pc:Int)(hb:l.length<1000000):pC_ 41 [lR l,.int .i64 pc] (lR (bK l pc)) []:=(CG l pc hb).frozen
theorem ya(l:List Int)(k:Nat)(hk:l.length=k+1)(hb:l.length<1000000)(h:pC_ 37 [lR (l.take k)] (lR (l.take k)) []):Vc (vF_ 54 [lR l] [.bd false,.cl [lR (l.take k)] (lR (l.take k)) []] [] (.tup [aI (l.getD k 0),lR (l.take k),.bool true]) []):=ai (cj (i6 (l.length-1)) (cj (df ((l.length:Int)-1<0)) (cj (bi (l.length-1) l.length) (cj (pv ((0:Int)<=l.length-1∧(l.length:Int)-1<=l.length)) (cj (pv (Int.toNat ((l.length:Int)-1)=(List.take k l).length)) (cj (show ∀(i:Nat),i<Int.toNat ((l.length:Int)-1)-> ∀(j:Nat),j<1->aI (l.getD i 0)=aI (List.getD (List.take k l) i 0) from(fun i hi j hj=>Aw (show i<k by omega))) (cj h (cj (show l.getD (Int.toNat ((l.length:Int)-1)) (0:Int)=l.getD k 0 from(congrArg (fun n=>l.getD n 0) (show((l.length:Int)-1).toNat=k by omega))) (cj (rf ((List.take k l).length)) (cj (rr ((List.take k l).length) 1 fun i j=>aI (List.getD (List.take k l) i 0)) (cj (rf true) trivial)))))))))))
theorem F6(l:List Int)(k:Nat)(hk:l.length=k+1)(hb:l.length<1000000):pC_ 54 [lR l] (.tup [.int .i64 (l.getD k 0),lR (l.take k),.bool true]) []:=PureC.vc (ya l k hk hb (ki (l.take k) (by rw[aO];omega)))
theorem F7:pC_ 54 [lR []] (.tup [.int .i64 0,.nils,.bool false]) []:=PureC.vc F8
theorem wg(c:Cf)(h:(c.e !=0)=true):Vc (vF_ 21 [.agg (cfA c)] [.fv,.bd true] [] (.bool true) []):=ai (cj h (cj (rf true) trivial))
theorem tK(c:Cf)(h:(c.e !=0)=false):Vc (vF_ 21 [.agg (cfA c)] [.fv,.bd false] [] (.bool false) []):=ai (cj h (cj (rf false) trivial))
theorem yB(s:S8)(h1:pC_ 37 [lR s.m] (lR s.m) [])(h2:pC_ 37 [lR s.st] (lR s.st) []):Vc (vF_ 19 [.agg (s8R s)] [.cl [lR s.m] (lR s.m) [],.cl [lR s.st] (lR s.st) []] [] (.agg (cfA ⟨s,[],[],0⟩)) []):=ai (cj (rf s.m.length) (cj (rr s.m.length 1 fun i j=>aI (s.m.getD i 0)) (cj h1 (cj (rf s.st.length) (cj (rr s.st.length 1 fun i j=>aI (s.st.getD i 0)) (cj h2 (cj (rf s.r0) (cj (rf s.r1) (cj (rf s.r2) (cj (rf s.r3) (cj (rf s.m.length) (cj (rr s.m.length 1 fun i j=>aI (s.m.getD i 0)) (cj (rf s.st.length) (cj (rr s.st.length 1 fun i j=>aI (s.st.getD i 0)) (cj (rf s.pc) (cj (rf (0:Nat)) (cj (rf (0:Nat)) (cj (rf (0:Int)) trivial))))))))))))))))))
theorem Gn(s:S8)(hm:s.m.length<=1000000)(hs:s.st.length<=1000000):pC_ 19 [.agg (s8R s)] (.agg (cfA ⟨s,[],[],0⟩)) []:=PureC.vc (yB s (ki _ hm) (ki _ hs))
theorem Hi(l:List En)(e:En)(hb:l.length<1000000):Vc (vF_ 42 [.row 1 2 (jI (enR l) (.row 8 1 (mY e)))] [.it 3,.bd true,.bd false,.bd true,.bd false,.bd false,.bd false,.bd true,.it 3,.sh] [] (enR (l++[e])) []):=ai (cj (dt ((0:Int)<(2:Nat))) (cj (pv ((0:Int)<=0∧(0:Int)<(2:Nat))) (cj (i6 (0+l.length)) (cj (df ((0:Int)+l.length<0)) (cj (i6 (0+1)) (cj (dt ((0:Int)+1<(2:Nat))) (cj (pv ((0:Int)<=0+1∧(0:Int)+1<(2:Nat))) (cj (i6 (0+l.length+(1:Nat))) (cj (df ((0:Int)+l.length+(1:Nat)<0)) (cj (i6 (0+1+1)) (cj (df ((0:Int)+1+1<(2:Nat))) (cj (df ((0:Int)+l.length+(1:Nat)<0)) (cj (i6 (0-0)) (cj (i6 (0+l.length+(1:Nat)-(0-0))) (cj (dt ((0:Int)+l.length+(1:Nat)-(0-0)>0)) (cj (pv ((0:Int)=0∧(0:Int)=0)) (cj (pv ((0:Int)<0+l.length+(1:Nat)-(0-0)∧((0:Int)+l.length+(1:Nat)-(0-0))*(48:Nat)<=140737488355328∧(0:Int)+l.length+(1:Nat)-(0-0)<=140737488355328)) (cj (pv ((0:Int)<=0∧(0:Int)<=(↑(nat_lit 0+l.length+1+nat_lit 0):Int))) (cj (pv ((0:Int)<=0∧(0:Int)<(2:Nat))) (cj (ap 0 l.length 48) (cj (i6 (0+1)) (cj (pv ((0:Int)<=0+1∧(0:Int)+1<(2:Nat))) (cj (ap (0+l.length) 1 48) (cj (i6 (0+1+1)) (cj (pv ((0:Nat)+l.length+1=(l++[e]).length)) (cj (show ∀(i:Nat),i<0+l.length+1-> ∀(j:Nat),j<8->(bif Nat.blt (i+0) ((0:Nat)+l.length) then bif Nat.blt (i+0) (0:Nat) then List.getD [aI 0,aI 0,aI 0,aI 0,aI 0,AV.bool false,AV.bool false,AV.bool false] j AV.junk else al enC l (i+0-0) j else mY e (i+0-((0:Nat)+l.length)) j)=al enC (l++[e]) i j from(fun i hi j hj=>by simp only[a9,cb,eu] at hi ⊢;exact z9 l e (g:=mY e) (fun j hj=>by show(enA e).getD (0*8+j) .junk=(enA e).getD j .junk;rw[Nat.zero_mul,a9]) i hi j hj)) trivial))))))))))))))))))))))))))
theorem vo(l:List En)(e:En)(w:Int)(hw:(l.length:Int)<w)(h:pC_ 42 [.row 1 2 (jI (enR l) (.row 8 1 (mY e)))] (enR (l++[e])) []):Vc (vF_ 20 [enR l,.agg (enA e), aI w] [.fz,.bd false,.fz,.fz,.cl [.row 1 2 (jI (enR l) (.row 8 1 (mY e)))] (enR (l++[e])) []] [] (.tup [enR (l++[e]),.bool true]) []):=ai (cj (df ((l.length:Int)>=w)) (cj (rf (2:Nat)) (cj (show ∀(i:Nat),i<2-> ∀(j:Nat),j<1->List.getD [AV.row (nat_lit 8) l.length fun(a a_1:Nat)=>al enC l a a_1,AV.row (nat_lit 8) (nat_lit 1) fun(i j:Nat)=>List.getD [aI e.pc,aI e.val,aI e.adr,aI e.frm,aI e.nxt,AV.bool e.dn,AV.bool e.kn,AV.bool e.ft] (i*8+j) AV.junk] (i*1+j) AV.junk=jI (AV.row (nat_lit 8) l.length fun(a a_1:Nat)=>al enC l a a_1) (AV.row (8:Nat) (1:Nat) (mY e)) i j from(fun i hi j hj=>match i,hi,j,hj with |0,_,0,_=>rfl |1,_,0,_=>rfl)) (cj h (cj (rf ((l++[e]).length)) (cj (rr ((l++[e]).length) 8 fun i j=>al enC (l++[e]) i j) (cj (rf true) trivial)))))))
theorem CF(l:List En)(e:En)(w:Int)(hw:(l.length:Int)<w)(hb:l.length<1000000):pC_ 20 [enR l,.agg (enA e),.int .i64 w] (.tup [enR (l++[e]),.bool true]) []:=PureC.vc (vo l e w hw (PureC.vc (Hi l e hb)))
theorem oR(c:Cf){Z:Prop}(z:Z):(RF c.b.length (RR c.b.length 8 (fun i j=>al enC c.b i j) (RF c.r.length (RR c.r.length 1 (fun i j=>aI (c.r.getD i 0)) (RF c.e Z))))):=⟨rfl,fun _ _ _ _=>rfl,rfl,fun _ _ _ _=>rfl,rfl,z⟩
theorem oQ(c:Cf){Z:Prop}(z:Z):(RF c.s.r0 (RF c.s.r1 (RF c.s.r2 (RF c.s.r3 (RF c.s.m.length (RR c.s.m.length 1 (fun i j=>aI (List.getD c.s.m i 0)) (RF c.s.st.length (RR c.s.st.length 1 (fun i j=>aI (List.getD c.s.st i 0)) (RF c.s.pc Z))))))))):=⟨rfl,rfl,rfl,rfl,rfl,fun _ _ _ _=>rfl,rfl,fun _ _ _ _=>rfl,rfl,z⟩
theorem Gd(p:Pg)(c:Cf)(hl:p.is.length<1000)(hb:c.b.length<1000000)(hF:pC_ 21 [.agg (cfA c)] (.bool true) []):Vc (vF_ 9 [.agg (pgA p),.agg (cfA c)] [.fv,.fv,.cl [.agg (cfA c)] (.bool true) []] [] (aI 0) []):=ai (oQ c (oR c (cj hF (cj (rf (0:Int)) trivial))))
abbrev qL(c:Cf):Prop:=PureC Try.prog 21 [.agg (cfA c)] (.bool false) []
abbrev qO(c:Cf):Orc:= .cl [.agg (cfA c)] (.bool false) []
theorem Gb(p:Pg)(c:Cf)(hl:p.is.length<1000)(hb:c.b.length<1000000)(hF:qL c)(h1:c.s.pc= -1):Vc (vF_ 9 [.agg (pgA p),.agg (cfA c)] [.fv,.fv,qO c,.b false,.bd true] [] (aI 0) []):=ai (oQ c (oR c (cj hF (cj (rf false) (cj (av.2 h1) (cj (rf (0:Int)) trivial))))))
theorem Ga(p:Pg)(c:Cf)(hl:p.is.length<1000)(hb:c.b.length<1000000)(hF:qL c)(h1: ¬c.s.pc= -1)(hw:p.win<=(c.b.length:Int)):Vc (vF_ 9 [.agg (pgA p),.agg (cfA c)] [.fv,.fv,qO c,.b false,.bd false,.b false,.bd true] [] (aI 0) []):=ai (oQ c (oR c (cj hF (cj (rf false) (cj (aa.2 h1) (cj (rf false) (cj (dt ((↑c.b.length:Int)>=p.win)) (cj (rf (0:Int)) trivial))))))))
theorem um(p:Pg)(c:Cf){Z:Prop}(z:Z):(RF p.ls.length (RR p.ls.length 2 (fun i j=>al lbC p.ls i j) (RF p.is.length (RR p.is.length 9 (fun i j=>al inC p.is i j) (RF c.s.pc Z))))):=⟨rfl,fun _ _ _ _=>rfl,rfl,fun _ _ _ _=>rfl,rfl,z⟩
theorem ul(p:Pg){Z:Prop}(z:Z):(RF p.W (RF p.win (RF p.fuel (RF p.r0 (RF p.r1 (RF p.r2 (RF p.r3 (RF p.ms.length (RR p.ms.length 3 (fun i j=>al mmC p.ms i j) Z))))))))):=⟨rfl,rfl,rfl,rfl,rfl,rfl,rfl,rfl,fun _ _ _ _=>rfl,z⟩
abbrev vB(p:Pg)(c:Cf):Orc:= .cl [.agg (pgA p), aI c.s.pc] (.agg (inA (atI p c.s.pc))) []
theorem Gg(p:Pg)(c:Cf)(hl:p.is.length<1000)(hb:c.b.length<1000000)(hF:qL c)(h1: ¬c.s.pc= -1)(hw: ¬p.win<=(c.b.length:Int))(k5:(atI p c.s.pc).kind=5):Vc (vF_ 9 [.agg (pgA p),.agg (cfA c)] [.fv,.fv,qO c,.b false,.bd false,.b false,.bd false,vB p c,.bd true] [] (aI 2) []):=ai (oQ c (oR c (cj hF (cj (rf false) (cj (aa.2 h1) (cj (rf false) (cj (df ((↑c.b.length:Int)>=p.win)) (ul p (um p c (cj (atC p c.s.pc) (cj (av.2 k5) (cj (rf (2:Int)) trivial))))))))))))
theorem Gf(p:Pg)(c:Cf)(hl:p.is.length<1000)(hb:c.b.length<1000000)(hF:qL c)(h1: ¬c.s.pc= -1)(hw: ¬p.win<=(c.b.length:Int))(k5: ¬(atI p c.s.pc).kind=5)(k7:(atI p c.s.pc).kind=7):Vc (vF_ 9 [.agg (pgA p),.agg (cfA c)] [.fv,.fv,qO c,.b false,.bd false,.b false,.bd false,vB p c,.bd false,.bd true] [] (aI (p.is.length+1)) []):=ai (oQ c (oR c (cj hF (cj (rf false) (cj (aa.2 h1) (cj (rf false) (cj (df ((↑c.b.length:Int)>=p.win)) (ul p (um p c (cj (atC p c.s.pc) (cj (aa.2 k5) (cj (av.2 k7) (cj (i6 (p.is.length+1)) (cj (rf ((↑p.is.length:Int)+1)) trivial))))))))))))))
theorem Ge(p:Pg)(c:Cf)(hl:p.is.length<1000)(hb:c.b.length<1000000)(hF:qL c)(h1: ¬c.s.pc= -1)(hw: ¬p.win<=(c.b.length:Int))(k5: ¬(atI p c.s.pc).kind=5)(k7: ¬(atI p c.s.pc).kind=7)(k9:(atI p c.s.pc).kind=9)(hr:c.r.length=0):Vc (vF_ 9 [.agg (pgA p),.agg (cfA c)] [.fv,.fv,qO c,.b false,.bd false,.b false,.bd false,vB p c,.bd false,.bd false,.bd true,.bd true] [] (aI (p.is.length+1)) []):=ai (oQ c (oR c (cj hF (cj (rf false) (cj (aa.2 h1) (cj (rf false) (cj (df ((↑c.b.length:Int)>=p.win)) (ul p (um p c (cj (atC p c.s.pc) (cj (aa.2 k5) (cj (aa.2 k7) (cj (av.2 k9) (cj (e1 c.r.length 0) (cj (i6 (p.is.length+1)) (cj (rf ((↑p.is.length:Int)+1)) trivial))))))))))))))))
theorem CI(p:Pg)(c:Cf)(hl:p.is.length<1000)(hb:c.b.length<1000000)(hF:qL c)(h1: ¬c.s.pc= -1)(hw: ¬p.win<=(c.b.length:Int))(k5: ¬(atI p c.s.pc).kind=5)(k7: ¬(atI p c.s.pc).kind=7)(k9:(atI p c.s.pc).kind=9)(hr: ¬c.r.length=0):Vc (vF_ 9 [.agg (pgA p),.agg (cfA c)] [.fv,.fv,qO c,.b false,.bd false,.b false,.bd false,vB p c,.bd false,.bd false,.bd true,.bd false] [] (aI 1) []):=ai (oQ c (oR c (cj hF (cj (rf false) (cj (aa.2 h1) (cj (rf false) (cj (df ((↑c.b.length:Int)>=p.win)) (ul p (um p c (cj (atC p c.s.pc) (cj (aa.2 k5) (cj (aa.2 k7) (cj (av.2 k9) (cj (e0 c.r.length 0) (cj (rf (1:Int)) trivial)))))))))))))))
theorem Gc(p:Pg)(c:Cf)(hl:p.is.length<1000)(hb:c.b.length<1000000)(hF:qL c)(h1: ¬c.s.pc= -1)(hw: ¬p.win<=(c.b.length:Int))(k5: ¬(atI p c.s.pc).kind=5)(k7: ¬(atI p c.s.pc).kind=7)(k9: ¬(atI p c.s.pc).kind=9):Vc (vF_ 9 [.agg (pgA p),.agg (cfA c)] [.fv,.fv,qO c,.b false,.bd false,.b false,.bd false,vB p c,.bd false,.bd false,.bd false] [] (aI 1) []):=ai (oQ c (oR c (cj hF (cj (rf false) (cj (aa.2 h1) (cj (rf false) (cj (df ((↑c.b.length:Int)>=p.win)) (ul p (um p c (cj (atC p c.s.pc) (cj (aa.2 k5) (cj (aa.2 k7) (cj (aa.2 k9) (cj (rf (1:Int)) trivial))))))))))))))
theorem vS(p:Pg)(c:Cf)(hl:p.is.length<1000)(hb:c.b.length<1000000):pC_ 9 [.agg (pgA p),.agg (cfA c)] (.int .i64 (gsV p c)) []:=by
 unfold gsV
 by_cases h0:c.e=0
 ·have hF:=PureC.vc (tK c (aw.2 h0))
  by_cases h1:c.s.pc= -1
  ·rw[ao (.inr (.inl h1))];exact PureC.vc (Gb p c hl hb hF h1)
  ·by_cases hw:p.win<=(c.b.length:Int)
   ·rw[ao (.inr (.inr hw))];exact PureC.vc (Ga p c hl hb hF h1 hw)
   ·rw[an (by rintro(h |h |h);exact h h0;exact h1 h;exact hw h)]
    by_cases k5:(atI p c.s.pc).kind=5
    ·rw[ao k5];exact PureC.vc (Gg p c hl hb hF h1 hw k5)
    ·rw[an k5]
     by_cases k7:(atI p c.s.pc).kind=7
     ·rw[ao k7];exact PureC.vc (Gf p c hl hb hF h1 hw k5 k7)
     ·rw[an k7]
      by_cases k9:(atI p c.s.pc).kind=9
      ·by_cases hr:c.r.length=0
       ·rw[ao ⟨k9,hr⟩];exact PureC.vc (Ge p c hl hb hF h1 hw k5 k7 k9 hr)
       ·rw[an fun e=>hr e.2];exact PureC.vc (CI p c hl hb hF h1 hw k5 k7 k9 hr)
      ·rw[an fun e=>k9 e.1];exact PureC.vc (Gc p c hl hb hF h1 hw k5 k7 k9)
 ·rw[ao (.inl h0)];exact PureC.vc (Gd p c hl hb (PureC.vc (wg c (db.2 h0))))
theorem Fc(c:Cf)(e:En): ∀(i:Nat),i<2-> ∀(j:Nat),j<1->List.getD [AV.row (nat_lit 8) c.b.length fun(a a_1:Nat)=>al enC c.b a a_1,AV.row (nat_lit 8) (nat_lit 1) fun(i j:Nat)=>List.getD [aI e.pc,aI e.val,aI e.adr,aI e.frm,aI e.nxt,AV.bool e.dn,AV.bool e.kn,AV.bool e.ft] ((i+0)*8+j) AV.junk] ((i+0)*1+j) AV.junk=jI (AV.row (nat_lit 8) c.b.length fun(a a_1:Nat)=>al enC c.b a a_1) (AV.row (8:Nat) (1:Nat) (mY e)) i j:=(fun i hi j hj=>match i,hi,j,hj with |0,_,0,_=>rfl |1,_,0,_=>rfl)
theorem Ei(p:Pg)(c:Cf)(e:En){Z:Prop}(z:Z):(RF p.ls.length (RR p.ls.length 2 (fun i j=>al lbC p.ls i j) (RF p.is.length (RR p.is.length 9 (fun i j=>al inC p.is i j) (RF c.s.st.length (RR c.s.st.length 1 (fun i j=>aI (List.getD c.s.st i 0)) (RF ((c.b++[e]).length) (RR ((c.b++[e]).length) 8 (fun i j=>al enC (c.b++[e]) i j) (RF ((↑c.b.length:Int)+1) Z))))))))):=⟨rfl,fun _ _ _ _=>rfl,rfl,fun _ _ _ _=>rfl,rfl,fun _ _ _ _=>rfl,rfl,fun _ _ _ _=>rfl,rfl,z⟩
theorem fl(p:Pg){Z:Prop}(z:Z):(RF p.W (RF p.win (RF p.fuel (RF p.r0 (RF p.r1 (RF p.r2 (RF p.r3 (RF p.ms.length (RR p.ms.length 3 (fun i j=>al mmC p.ms i j) Z))))))))):=⟨rfl,rfl,rfl,rfl,rfl,rfl,rfl,rfl,fun _ _ _ _=>rfl,z⟩
abbrev FN(c:Cf)(e:En):Prop:=PureC Try.prog 42 [.row 1 2 (jI (enR c.b) (.row 8 1 (mY e)))] (enR (c.b++[e])) []
theorem Gm(p:Pg)(c:Cf)(e:En)(hb:c.b.length<400)(L:List Int)(h1:FN c e)(h2:pC_ 55 [.agg (pgA p),lR c.s.st,enR (c.b++[e]), aI (c.b.length+1)] (.tup [lR L,.bool true]) []):Vc (vF_ 40 [.agg (pgA p),.agg (cfA c),.agg (enA e)] [.fz,.fz,.cl [.row 1 2 (jI (enR c.b) (.row 8 1 (mY e)))] (enR (c.b++[e])) [],.cl [.agg (pgA p),lR c.s.st,enR (c.b++[e]), aI (c.b.length+1)] (.tup [lR L,.bool true]) []] [] (.bool true) []):=ai (cj (rf (2:Nat)) (cj (Fc c e) (cj h1 (cj (i6 (c.b.length+1)) (fl p (Ei p c e (cj h2 (cj (rf true) trivial))))))))
theorem Au(p:Pg)(c:Cf)(e:En)(hb:c.b.length<400)(h1:FN c e)(h2:pC_ 55 [.agg (pgA p),lR c.s.st,enR (c.b++[e]), aI (c.b.length+1)] (.tup [.nils,.bool false]) []):Vc (vF_ 40 [.agg (pgA p),.agg (cfA c),.agg (enA e)] [.fz,.fz,.cl [.row 1 2 (jI (enR c.b) (.row 8 1 (mY e)))] (enR (c.b++[e])) [],.cl [.agg (pgA p),lR c.s.st,enR (c.b++[e]), aI (c.b.length+1)] (.tup [.nils,.bool false]) []] [] (.bool false) []):=ai (cj (rf (2:Nat)) (cj (Fc c e) (cj h1 (cj (i6 (c.b.length+1)) (fl p (Ei p c e (cj h2 (cj (rf false) trivial))))))))
theorem rV(p:Pg)(l:List En): ∀j k st,reG p l k (j+1) st=match reG p l k j st with |none=>none |some M=>bhV p (l.getD (k+j) default) M
 |0,k,st=>by
  rw[iN]
  show(match bhV p (l.getD k default) st with |none=>none |some M=>some M)=bhV p (l.getD (k+0) default) st
  rw[cb]
  cases bhV p (l.getD k default) st<;>rfl
 |j+1,k,st=>by
  rw[iN p l k (j+1),iN p l k j]
  cases bhV p (l.getD k default) st with
  |none=>rfl
  |some M=>
   show reG p l (k+1) (j+1) M=match reG p l (k+1) j M with |none=>none |some M=>bhV p (l.getD (k+(j+1)) default) M
   rw[rV p l j (k+1) M,show k+1+j=k+(j+1) by omega]
theorem vf(p:Pg)(st:List Int)(b:List En)(e:En):reV p st (b++[e]) ((b.length:Int)+1)=match reV p st b b.length with |none=>none |some M=>bhV p e M:=by
 unfold reV
 have e1:cl0 ((b.length:Int)+1) (b++[e]).length=b.length+1:=by unfold cl0;rw[ay,a7];omega
 have e2:cl0 (b.length:Int) b.length=b.length:=by unfold cl0;omega
 have e3:=jj p (b++[e]) b.length b.length 0 st (by omega)
 rw[List.take_left] at e3
 rw[e1,e2,rV, <-e3,a9,show(b++[e]).getD b.length default=e by simp[List.getD]]
theorem caC(p:Pg)(c:Cf)(e:En)(hP:OkP p)(hb:c.b.length<400)(hpc: -1<=c.s.pc∧c.s.pc<=1000)(hr:c.r.length<1000)(hst:c.s.st.length<=300)(hbp: ∀e∈c.b, -1<=e.pc∧e.pc<=1000000)(hm:c.s.m.length<=1000)(he:e.pc=c.s.pc)(hk:(atI p c.s.pc).kind=8):pC_ 40 [.agg (pgA p),.agg (cfA c),.agg (enA e)] (.bool (!(ftB p c))) []:=by
 have h1:=PureC.vc (Hi c.b e (by omega))
 have h2:=vf p c.s.st c.b e
 have hl2:(c.b++[e]).length<500:=by rw[ay,a7];omega
 have hp2: ∀x∈c.b++[e], -1<=x.pc∧x.pc<=1000000:=fun x hx=>by
  rcases aT.1 hx with h |h
  ·exact hbp x h
  ·obtain rfl:=aG.1 h
   omega
 unfold ftB
 cases e1:reV p c.s.st c.b c.b.length with
 |none=>
  rw[e1] at h2
  exact PureC.vc (Au p c e hb h1 (pO p _ _ _ hP hl2 hst hp2 h2))
 |some M=>
  rw[e1] at h2
  have h3:bhV p e M=if 4<=M.length then none else some (M++[e.pc+1]):=by unfold bhV;rw[he,ao hk]
  by_cases h4:4<=M.length
  ·rw[ao h4] at h3
   show pC_ 40 [.agg (pgA p),.agg (cfA c),.agg (enA e)] (.bool (!(decide (4<=M.length)))) []
   rw[cE h4]
   exact PureC.vc (Au p c e hb h1 (pO p _ _ _ hP hl2 hst hp2 (h2.trans h3)))
  ·rw[an h4] at h3
   show pC_ 40 [.agg (pgA p),.agg (cfA c),.agg (enA e)] (.bool (!(decide (4<=M.length)))) []
   rw[cN h4]
   exact PureC.vc (Gm p c e hb _ h1 (CD p _ _ _ _ hP hl2 hst hp2 (h2.trans h3)))
theorem sS(c:Cf){Z:Prop}(z:Z):(RF c.s.pc (RF (0:Int) (RF (0:Int) (RF (-1:Int) (RF (c.s.pc+1) (RF false (RF false (RF false (RF c.r.length Z))))))))):=⟨rfl,rfl,rfl,rfl,rfl,rfl,rfl,rfl,rfl,z⟩
theorem i8(p:Pg)(c:Cf){Z:Prop}(z:Z):(RF p.ls.length (RR p.ls.length 2 (fun i j=>al lbC p.ls i j) (RF p.is.length (RR p.is.length 9 (fun i j=>al inC p.is i j) (RF c.s.pc Z))))):=⟨rfl,fun _ _ _ _=>rfl,rfl,fun _ _ _ _=>rfl,rfl,z⟩
abbrev jm(c:Cf):Prop:=PureC Try.prog 37 [lR c.r] (lR c.r) []
abbrev jo(p:Pg)(c:Cf):Orc:= .cl [.agg (pgA p), aI c.s.pc] (.agg (inA (atI p c.s.pc))) []
abbrev jp(c:Cf):Orc:= .cl [lR c.r] (lR c.r) []
theorem Hu(p:Pg)(c:Cf)(g:Int)(hpc: -1<=c.s.pc∧c.s.pc<=1000)(h1:jm c)(k1:(atI p c.s.pc).kind=1):Vc (vF_ 18 [.agg (pgA p),.agg (cfA c), aI g] [jp c,jo p c,.bd true] [] (.tup [.agg (enA ⟨c.s.pc,0,0, -1,(c.s.pc+1),false,false,false⟩),lR c.r]) []):=ai (cj (rf c.r.length) (cj (rr c.r.length 1 fun i j=>aI (c.r.getD i 0)) (cj h1 (fl p (i8 p c (cj (atC p c.s.pc) (cj (av.2 k1) (cj (i6 (c.s.pc+1)) (sS c (cj (rr c.r.length 1 fun i j=>aI (c.r.getD i 0)) trivial))))))))))
theorem Ht(p:Pg)(c:Cf)(g:Int)(hpc: -1<=c.s.pc∧c.s.pc<=1000)(h1:jm c)(k1: ¬(atI p c.s.pc).kind=1)(k2:(atI p c.s.pc).kind=2):Vc (vF_ 18 [.agg (pgA p),.agg (cfA c), aI g] [jp c,jo p c,.bd false,.bd true] [] (.tup [.agg (enA ⟨c.s.pc,0,0, -1,(c.s.pc+1),false,false,false⟩),lR c.r]) []):=ai (cj (rf c.r.length) (cj (rr c.r.length 1 fun i j=>aI (c.r.getD i 0)) (cj h1 (fl p (i8 p c (cj (atC p c.s.pc) (cj (aa.2 k1) (cj (av.2 k2) (cj (i6 (c.s.pc+1)) (sS c (cj (rr c.r.length 1 fun i j=>aI (c.r.getD i 0)) trivial)))))))))))
theorem Hr(p:Pg)(c:Cf)(g:Int)(hpc: -1<=c.s.pc∧c.s.pc<=1000)(h1:jm c)(k1: ¬(atI p c.s.pc).kind=1)(k2: ¬(atI p c.s.pc).kind=2)(k3:(atI p c.s.pc).kind=3):Vc (vF_ 18 [.agg (pgA p),.agg (cfA c), aI g] [jp c,jo p c,.bd false,.bd false,.bd true] [] (.tup [.agg (enA ⟨c.s.pc,0,0, -1,(c.s.pc+1),false,false,false⟩),lR c.r]) []):=ai (cj (rf c.r.length) (cj (rr c.r.length 1 fun i j=>aI (c.r.getD i 0)) (cj h1 (fl p (i8 p c (cj (atC p c.s.pc) (cj (aa.2 k1) (cj (aa.2 k2) (cj (av.2 k3) (cj (i6 (c.s.pc+1)) (sS c (cj (rr c.r.length 1 fun i j=>aI (c.r.getD i 0)) trivial))))))))))))
theorem Hq(p:Pg)(c:Cf)(g:Int)(hpc: -1<=c.s.pc∧c.s.pc<=1000)(h1:jm c)(k1: ¬(atI p c.s.pc).kind=1)(k2: ¬(atI p c.s.pc).kind=2)(k3: ¬(atI p c.s.pc).kind=3)(k4:(atI p c.s.pc).kind=4):Vc (vF_ 18 [.agg (pgA p),.agg (cfA c), aI g] [jp c,jo p c,.bd false,.bd false,.bd false,.bd true] [] (.tup [.agg (enA ⟨c.s.pc,0,0, -1,(c.s.pc+1),false,false,false⟩),lR c.r]) []):=ai (cj (rf c.r.length) (cj (rr c.r.length 1 fun i j=>aI (c.r.getD i 0)) (cj h1 (fl p (i8 p c (cj (atC p c.s.pc) (cj (aa.2 k1) (cj (aa.2 k2) (cj (aa.2 k3) (cj (av.2 k4) (cj (i6 (c.s.pc+1)) (sS c (cj (rr c.r.length 1 fun i j=>aI (c.r.getD i 0)) trivial)))))))))))))
theorem DG(p:Pg)(c:Cf)(g:Int)(hpc: -1<=c.s.pc∧c.s.pc<=1000)(h1:jm c)(k1: ¬(atI p c.s.pc).kind=1)(k2: ¬(atI p c.s.pc).kind=2)(k3: ¬(atI p c.s.pc).kind=3)(k4: ¬(atI p c.s.pc).kind=4)(k10:(atI p c.s.pc).kind=10):Vc (vF_ 18 [.agg (pgA p),.agg (cfA c), aI g] [jp c,jo p c,.bd false,.bd false,.bd false,.bd false,.bd true] [] (.tup [.agg (enA ⟨c.s.pc,0,0, -1,(c.s.pc+1),false,false,false⟩),lR c.r]) []):=ai (cj (rf c.r.length) (cj (rr c.r.length 1 fun i j=>aI (c.r.getD i 0)) (cj h1 (fl p (i8 p c (cj (atC p c.s.pc) (cj (aa.2 k1) (cj (aa.2 k2) (cj (aa.2 k3) (cj (aa.2 k4) (cj (av.2 k10) (cj (i6 (c.s.pc+1)) (sS c (cj (rr c.r.length 1 fun i j=>aI (c.r.getD i 0)) trivial))))))))))))))
theorem Hy(p:Pg)(c:Cf)(g:Int)(hpc: -1<=c.s.pc∧c.s.pc<=1000)(h1:jm c)(k1: ¬(atI p c.s.pc).kind=1)(k2: ¬(atI p c.s.pc).kind=2)(k3: ¬(atI p c.s.pc).kind=3)(k4: ¬(atI p c.s.pc).kind=4)(k10: ¬(atI p c.s.pc).kind=10)(k5:(atI p c.s.pc).kind=5)(g0:g=0):Vc (vF_ 18 [.agg (pgA p),.agg (cfA c), aI g] [jp c,jo p c,.bd false,.bd false,.bd false,.bd false,.bd false,.bd true,.bd true] [] (.tup [.agg (enA ⟨c.s.pc,0,0, -1,(c.s.pc+1),false,false,false⟩),lR c.r]) []):=ai (cj (rf c.r.length) (cj (rr c.r.length 1 fun i j=>aI (c.r.getD i 0)) (cj h1 (fl p (i8 p c (cj (atC p c.s.pc) (cj (aa.2 k1) (cj (aa.2 k2) (cj (aa.2 k3) (cj (aa.2 k4) (cj (aa.2 k10) (cj (av.2 k5) (cj (e1 g 0) (cj (i6 (c.s.pc+1)) (sS c (cj (rr c.r.length 1 fun i j=>aI (c.r.getD i 0)) trivial))))))))))))))))
theorem Hz(p:Pg)(c:Cf)(g:Int)(hpc: -1<=c.s.pc∧c.s.pc<=1000)(h1:jm c)(k1: ¬(atI p c.s.pc).kind=1)(k2: ¬(atI p c.s.pc).kind=2)(k3: ¬(atI p c.s.pc).kind=3)(k4: ¬(atI p c.s.pc).kind=4)(k10: ¬(atI p c.s.pc).kind=10)(k5:(atI p c.s.pc).kind=5)(g0: ¬g=0):Vc (vF_ 18 [.agg (pgA p),.agg (cfA c), aI g] [jp c,jo p c,.bd false,.bd false,.bd false,.bd false,.bd false,.bd true,.bd false] [] (.tup [.agg (enA ⟨c.s.pc,0,0, -1,(atI p c.s.pc).tg,false,false,false⟩),lR c.r]) []):=ai (cj (rf c.r.length) (cj (rr c.r.length 1 fun i j=>aI (c.r.getD i 0)) (cj h1 (fl p (i8 p c (cj (atC p c.s.pc) (cj (aa.2 k1) (cj (aa.2 k2) (cj (aa.2 k3) (cj (aa.2 k4) (cj (aa.2 k10) (cj (av.2 k5) (cj (e0 g 0) (cj (rf c.s.pc) (cj (rf (0:Int)) (cj (rf (0:Int)) (cj (rf (-1:Int)) (cj (rf ((atI p c.s.pc).tg)) (cj (rf false) (cj (rf false) (cj (rf false) (cj (rf c.r.length) (cj (rr c.r.length 1 fun i j=>aI (c.r.getD i 0)) trivial)))))))))))))))))))))))
theorem JH(p:Pg)(c:Cf)(g:Int)(hpc: -1<=c.s.pc∧c.s.pc<=1000)(h1:jm c)(k1: ¬(atI p c.s.pc).kind=1)(k2: ¬(atI p c.s.pc).kind=2)(k3: ¬(atI p c.s.pc).kind=3)(k4: ¬(atI p c.s.pc).kind=4)(k10: ¬(atI p c.s.pc).kind=10)(k5: ¬(atI p c.s.pc).kind=5)(k6:(atI p c.s.pc).kind=6):Vc (vF_ 18 [.agg (pgA p),.agg (cfA c), aI g] [jp c,jo p c,.bd false,.bd false,.bd false,.bd false,.bd false,.bd false,.bd true] [] (.tup [.agg (enA ⟨c.s.pc,0,0, -1,(atI p c.s.pc).tg,true,false,false⟩),lR c.r]) []):=ai (cj (rf c.r.length) (cj (rr c.r.length 1 fun i j=>aI (c.r.getD i 0)) (cj h1 (fl p (i8 p c (cj (atC p c.s.pc) (cj (aa.2 k1) (cj (aa.2 k2) (cj (aa.2 k3) (cj (aa.2 k4) (cj (aa.2 k10) (cj (aa.2 k5) (cj (av.2 k6) (cj (rf c.s.pc) (cj (rf (0:Int)) (cj (rf (0:Int)) (cj (rf (-1:Int)) (cj (rf ((atI p c.s.pc).tg)) (cj (rf true) (cj (rf false) (cj (rf false) (cj (rf c.r.length) (cj (rr c.r.length 1 fun i j=>aI (c.r.getD i 0)) trivial)))))))))))))))))))))))
theorem JG(p:Pg)(c:Cf)(g:Int)(hpc: -1<=c.s.pc∧c.s.pc<=1000)(h1:jm c)(k1: ¬(atI p c.s.pc).kind=1)(k2: ¬(atI p c.s.pc).kind=2)(k3: ¬(atI p c.s.pc).kind=3)(k4: ¬(atI p c.s.pc).kind=4)(k10: ¬(atI p c.s.pc).kind=10)(k5: ¬(atI p c.s.pc).kind=5)(k6: ¬(atI p c.s.pc).kind=6)(k7:(atI p c.s.pc).kind=7):Vc (vF_ 18 [.agg (pgA p),.agg (cfA c), aI g] [jp c,jo p c,.bd false,.bd false,.bd false,.bd false,.bd false,.bd false,.bd false,.bd true] [] (.tup [.agg (enA ⟨c.s.pc,0,0, -1,g,false,false,false⟩),lR c.r]) []):=ai (cj (rf c.r.length) (cj (rr c.r.length 1 fun i j=>aI (c.r.getD i 0)) (cj h1 (fl p (i8 p c (cj (atC p c.s.pc) (cj (aa.2 k1) (cj (aa.2 k2) (cj (aa.2 k3) (cj (aa.2 k4) (cj (aa.2 k10) (cj (aa.2 k5) (cj (aa.2 k6) (cj (av.2 k7) (cj (rf c.s.pc) (cj (rf (0:Int)) (cj (rf (0:Int)) (cj (rf (-1:Int)) (cj (rf g) (cj (rf false) (cj (rf false) (cj (rf false) (cj (rf c.r.length) (cj (rr c.r.length 1 fun i j=>aI (c.r.getD i 0)) trivial))))))))))))))))))))))))
theorem Hv(p:Pg)(c:Cf)(g:Int)(hpc: -1<=c.s.pc∧c.s.pc<=1000)(h1:jm c)(k1: ¬(atI p c.s.pc).kind=1)(k2: ¬(atI p c.s.pc).kind=2)(k3: ¬(atI p c.s.pc).kind=3)(k4: ¬(atI p c.s.pc).kind=4)(k10: ¬(atI p c.s.pc).kind=10)(k5: ¬(atI p c.s.pc).kind=5)(k6: ¬(atI p c.s.pc).kind=6)(k7: ¬(atI p c.s.pc).kind=7)(k9:(atI p c.s.pc).kind=9)(hz:c.r.length=0)(h2:pC_ 54 [lR c.r] (.tup [aI 0,.nils,.bool false]) []):Vc (vF_ 18 [.agg (pgA p),.agg (cfA c), aI g] [jp c,jo p c,.bd false,.bd false,.bd false,.bd false,.bd false,.bd false,.bd false,.bd false,.bd true,.inl,.cl [lR c.r] (.tup [aI 0,.nils,.bool false]) []] [] (.tup [.agg (enA ⟨c.s.pc,0,0, -1,g,false,false,false⟩),lR c.r]) []):=ai (cj (rf c.r.length) (cj (rr c.r.length 1 fun i j=>aI (c.r.getD i 0)) (cj h1 (fl p (i8 p c (cj (atC p c.s.pc) (cj (aa.2 k1) (cj (aa.2 k2) (cj (aa.2 k3) (cj (aa.2 k4) (cj (aa.2 k10) (cj (aa.2 k5) (cj (aa.2 k6) (cj (aa.2 k7) (cj (av.2 k9) (cj (rf c.r.length) (cj (rr c.r.length 1 fun i j=>aI (c.r.getD i 0)) (cj h2 (cj (rf c.s.pc) (cj (rf (0:Int)) (cj (rf (0:Int)) (cj (rf (-1:Int)) (cj (rf g) (cj (rf false) (cj (rf false) (cj (rf false) (cj (pv (c.r.length=0)) trivial)))))))))))))))))))))))))))
theorem JF(p:Pg)(c:Cf)(g:Int)(hpc: -1<=c.s.pc∧c.s.pc<=1000)(h1:jm c)(n:Int)(R:List Int)(k1: ¬(atI p c.s.pc).kind=1)(k2: ¬(atI p c.s.pc).kind=2)(k3: ¬(atI p c.s.pc).kind=3)(k4: ¬(atI p c.s.pc).kind=4)(k10: ¬(atI p c.s.pc).kind=10)(k5: ¬(atI p c.s.pc).kind=5)(k6: ¬(atI p c.s.pc).kind=6)(k7: ¬(atI p c.s.pc).kind=7)(k9:(atI p c.s.pc).kind=9)(h2:pC_ 54 [lR c.r] (.tup [aI n,lR R,.bool true]) []):Vc (vF_ 18 [.agg (pgA p),.agg (cfA c), aI g] [jp c,jo p c,.bd false,.bd false,.bd false,.bd false,.bd false,.bd false,.bd false,.bd false,.bd true,.inl,.cl [lR c.r] (.tup [aI n,lR R,.bool true]) []] [] (.tup [.agg (enA ⟨c.s.pc,0,0, -1,n,false,false,false⟩),lR R]) []):=ai (cj (rf c.r.length) (cj (rr c.r.length 1 fun i j=>aI (c.r.getD i 0)) (cj h1 (fl p (i8 p c (cj (atC p c.s.pc) (cj (aa.2 k1) (cj (aa.2 k2) (cj (aa.2 k3) (cj (aa.2 k4) (cj (aa.2 k10) (cj (aa.2 k5) (cj (aa.2 k6) (cj (aa.2 k7) (cj (av.2 k9) (cj (rf c.r.length) (cj (rr c.r.length 1 fun i j=>aI (c.r.getD i 0)) (cj h2 (cj (rf c.s.pc) (cj (rf (0:Int)) (cj (rf (0:Int)) (cj (rf (-1:Int)) (cj (rf n) (cj (rf false) (cj (rf false) (cj (rf false) (cj (rf R.length) (cj (rr R.length 1 fun i j=>aI (R.getD i 0)) trivial))))))))))))))))))))))))))))
theorem Eh(c:Cf){Z:Prop}(z:Z):(RF c.r.length (RR c.r.length 1 (fun i j=>aI (c.r.getD i 0)) (RF (c.s.pc+1) Z))):=⟨rfl,fun _ _ _ _=>rfl,rfl,z⟩
theorem Eg(c:Cf){Z:Prop}(z:Z):(RF c.s.pc (RF (0:Int) (RF (0:Int) (RF (-1:Int) (RF (0:Int) (RF false (RF false (RF false Z)))))))):=⟨rfl,rfl,rfl,rfl,rfl,rfl,rfl,rfl,z⟩
theorem uk(c:Cf){Z:Prop}(z:Z):(RR c.s.m.length 1 (fun i j=>aI (List.getD c.s.m i 0)) (RF c.s.st.length (RR c.s.st.length 1 (fun i j=>aI (List.getD c.s.st i 0)) (RF c.s.pc (RF c.b.length (RR c.b.length 8 (fun i j=>al enC c.b i j) (RF c.r.length (RR c.r.length 1 (fun i j=>aI (c.r.getD i 0)) (RF c.e Z))))))))):=⟨fun _ _ _ _=>rfl,rfl,fun _ _ _ _=>rfl,rfl,rfl,fun _ _ _ _=>rfl,rfl,fun _ _ _ _=>rfl,rfl,z⟩
theorem uj(p:Pg)(c:Cf){Z:Prop}(z:Z):(RF p.ls.length (RR p.ls.length 2 (fun i j=>al lbC p.ls i j) (RF p.is.length (RR p.is.length 9 (fun i j=>al inC p.is i j) (RF c.s.r0 (RF c.s.r1 (RF c.s.r2 (RF c.s.r3 (RF c.s.m.length Z))))))))):=⟨rfl,fun _ _ _ _=>rfl,rfl,fun _ _ _ _=>rfl,rfl,rfl,rfl,rfl,rfl,z⟩
abbrev FM(c:Cf):Prop:=PureC Try.prog 41 [lR c.r,.int .i64 (c.s.pc+1)] (lR (bK c.r (c.s.pc+1))) []
theorem Hw(p:Pg)(c:Cf)(g:Int)(hpc: -1<=c.s.pc∧c.s.pc<=1000)(h1:jm c)(k1: ¬(atI p c.s.pc).kind=1)(k2: ¬(atI p c.s.pc).kind=2)(k3: ¬(atI p c.s.pc).kind=3)(k4: ¬(atI p c.s.pc).kind=4)(k10: ¬(atI p c.s.pc).kind=10)(k5: ¬(atI p c.s.pc).kind=5)(k6: ¬(atI p c.s.pc).kind=6)(k7: ¬(atI p c.s.pc).kind=7)(k9: ¬(atI p c.s.pc).kind=9)(k8:(atI p c.s.pc).kind=8)(h2:pC_ 40 [.agg (pgA p),.agg (cfA c),.agg (enA ⟨c.s.pc,0,0, -1,0,false,false,false⟩)] (.bool true) [])(h3:FM c):Vc (vF_ 18 [.agg (pgA p),.agg (cfA c), aI g] [jp c,jo p c,.bd false,.bd false,.bd false,.bd false,.bd false,.bd false,.bd false,.bd false,.bd false,.bd true,.cl [.agg (pgA p),.agg (cfA c),.agg (enA ⟨c.s.pc,0,0, -1,0,false,false,false⟩)] (.bool true) [],.cl [lR c.r, aI (c.s.pc+1)] (lR (bK c.r (c.s.pc+1))) []] [] (.tup [.agg (enA ⟨c.s.pc,0,0, -1,(atI p c.s.pc).tg,true,false,false⟩),lR (bK c.r (c.s.pc+1))]) []):=ai (cj (rf c.r.length) (cj (rr c.r.length 1 fun i j=>aI (c.r.getD i 0)) (cj h1 (fl p (i8 p c (cj (atC p c.s.pc) (cj (aa.2 k1) (cj (aa.2 k2) (cj (aa.2 k3) (cj (aa.2 k4) (cj (aa.2 k10) (cj (aa.2 k5) (cj (aa.2 k6) (cj (aa.2 k7) (cj (aa.2 k9) (cj (av.2 k8) (fl p (uj p c (uk c (Eg c (cj h2 (cj (i6 (c.s.pc+1)) (Eh c (cj h3 (cj (rf c.s.pc) (cj (rf (0:Int)) (cj (rf (0:Int)) (cj (rf (-1:Int)) (cj (rf ((atI p c.s.pc).tg)) (cj (rf true) (cj (rf false) (cj (rf false) (cj (rf ((bK c.r (c.s.pc+1)).length)) (cj (rr ((bK c.r (c.s.pc+1)).length) 1 fun i j=>aI (List.getD (bK c.r (c.s.pc+1)) i 0)) trivial))))))))))))))))))))))))))))))))))
theorem Hx(p:Pg)(c:Cf)(g:Int)(hpc: -1<=c.s.pc∧c.s.pc<=1000)(h1:jm c)(k1: ¬(atI p c.s.pc).kind=1)(k2: ¬(atI p c.s.pc).kind=2)(k3: ¬(atI p c.s.pc).kind=3)(k4: ¬(atI p c.s.pc).kind=4)(k10: ¬(atI p c.s.pc).kind=10)(k5: ¬(atI p c.s.pc).kind=5)(k6: ¬(atI p c.s.pc).kind=6)(k7: ¬(atI p c.s.pc).kind=7)(k9: ¬(atI p c.s.pc).kind=9)(k8:(atI p c.s.pc).kind=8)(h2:pC_ 40 [.agg (pgA p),.agg (cfA c),.agg (enA ⟨c.s.pc,0,0, -1,0,false,false,false⟩)] (.bool false) [])(h3:FM c):Vc (vF_ 18 [.agg (pgA p),.agg (cfA c), aI g] [jp c,jo p c,.bd false,.bd false,.bd false,.bd false,.bd false,.bd false,.bd false,.bd false,.bd false,.bd true,.cl [.agg (pgA p),.agg (cfA c),.agg (enA ⟨c.s.pc,0,0, -1,0,false,false,false⟩)] (.bool false) [],.cl [lR c.r, aI (c.s.pc+1)] (lR (bK c.r (c.s.pc+1))) []] [] (.tup [.agg (enA ⟨c.s.pc,0,0, -1,(atI p c.s.pc).tg,true,false,true⟩),lR (bK c.r (c.s.pc+1))]) []):=ai (cj (rf c.r.length) (cj (rr c.r.length 1 fun i j=>aI (c.r.getD i 0)) (cj h1 (fl p (i8 p c (cj (atC p c.s.pc) (cj (aa.2 k1) (cj (aa.2 k2) (cj (aa.2 k3) (cj (aa.2 k4) (cj (aa.2 k10) (cj (aa.2 k5) (cj (aa.2 k6) (cj (aa.2 k7) (cj (aa.2 k9) (cj (av.2 k8) (fl p (uj p c (uk c (Eg c (cj h2 (cj (i6 (c.s.pc+1)) (Eh c (cj h3 (cj (rf c.s.pc) (cj (rf (0:Int)) (cj (rf (0:Int)) (cj (rf (-1:Int)) (cj (rf ((atI p c.s.pc).tg)) (cj (rf true) (cj (rf false) (cj (rf true) (cj (rf ((bK c.r (c.s.pc+1)).length)) (cj (rr ((bK c.r (c.s.pc+1)).length) 1 fun i j=>aI (List.getD (bK c.r (c.s.pc+1)) i 0)) trivial))))))))))))))))))))))))))))))))))
theorem JE(p:Pg)(c:Cf)(g:Int)(hpc: -1<=c.s.pc∧c.s.pc<=1000)(h1:jm c)(k1: ¬(atI p c.s.pc).kind=1)(k2: ¬(atI p c.s.pc).kind=2)(k3: ¬(atI p c.s.pc).kind=3)(k4: ¬(atI p c.s.pc).kind=4)(k10: ¬(atI p c.s.pc).kind=10)(k5: ¬(atI p c.s.pc).kind=5)(k6: ¬(atI p c.s.pc).kind=6)(k7: ¬(atI p c.s.pc).kind=7)(k9: ¬(atI p c.s.pc).kind=9)(k8: ¬(atI p c.s.pc).kind=8):Vc (vF_ 18 [.agg (pgA p),.agg (cfA c), aI g] [jp c,jo p c,.bd false,.bd false,.bd false,.bd false,.bd false,.bd false,.bd false,.bd false,.bd false,.bd false] [] (.tup [.agg (enA ⟨c.s.pc,0,0, -1,(-1),true,false,false⟩),lR c.r]) []):=ai (cj (rf c.r.length) (cj (rr c.r.length 1 fun i j=>aI (c.r.getD i 0)) (cj h1 (fl p (i8 p c (cj (atC p c.s.pc) (cj (aa.2 k1) (cj (aa.2 k2) (cj (aa.2 k3) (cj (aa.2 k4) (cj (aa.2 k10) (cj (aa.2 k5) (cj (aa.2 k6) (cj (aa.2 k7) (cj (aa.2 k9) (cj (aa.2 k8) (cj (rf c.s.pc) (cj (rf (0:Int)) (cj (rf (0:Int)) (cj (rf (-1:Int)) (cj (rf (-1:Int)) (cj (rf true) (cj (rf false) (cj (rf false) (cj (rf c.r.length) (cj (rr c.r.length 1 fun i j=>aI (c.r.getD i 0)) trivial))))))))))))))))))))))))))
theorem bgC(p:Pg)(c:Cf)(g:Int)(hP:OkP p)(hb:c.b.length<400)(hpc: -1<=c.s.pc∧c.s.pc<=1000)(hr:c.r.length<1000)(hst:c.s.st.length<=300)(hbp: ∀e∈c.b, -1<=e.pc∧e.pc<=1000000)(hm:c.s.m.length<=1000)(hg:0<=g∧g<gsV p c):pC_ 18 [.agg (pgA p),.agg (cfA c),.int .i64 g] (.tup [.agg (enA (ftE p c g)),lR (ftR p c)]) []:=by
 have h1:=ki c.r (by omega)
 have hkk:=(gY hP c.s.pc).1.1
 by_cases k1:(atI p c.s.pc).kind=1
 ·have e:ftE p c g=⟨c.s.pc,0,0, -1,(c.s.pc+1),false,false,false⟩∧ftR p c=c.r:=by simp[ftE,ftR,k1]
  rw[e.1,e.2];exact PureC.vc (Hu p c g hpc h1 k1)
 by_cases k2:(atI p c.s.pc).kind=2
 ·have e:ftE p c g=⟨c.s.pc,0,0, -1,(c.s.pc+1),false,false,false⟩∧ftR p c=c.r:=by simp[ftE,ftR,k2]
  rw[e.1,e.2];exact PureC.vc (Ht p c g hpc h1 k1 k2)
 by_cases k3:(atI p c.s.pc).kind=3
 ·have e:ftE p c g=⟨c.s.pc,0,0, -1,(c.s.pc+1),false,false,false⟩∧ftR p c=c.r:=by simp[ftE,ftR,k3]
  rw[e.1,e.2];exact PureC.vc (Hr p c g hpc h1 k1 k2 k3)
 by_cases k4:(atI p c.s.pc).kind=4
 ·have e:ftE p c g=⟨c.s.pc,0,0, -1,(c.s.pc+1),false,false,false⟩∧ftR p c=c.r:=by simp[ftE,ftR,k4]
  rw[e.1,e.2];exact PureC.vc (Hq p c g hpc h1 k1 k2 k3 k4)
 by_cases k10:(atI p c.s.pc).kind=10
 ·have e:ftE p c g=⟨c.s.pc,0,0, -1,(c.s.pc+1),false,false,false⟩∧ftR p c=c.r:=by simp[ftE,ftR,k10]
  rw[e.1,e.2];exact PureC.vc (DG p c g hpc h1 k1 k2 k3 k4 k10)
 by_cases k5:(atI p c.s.pc).kind=5
 ·have hg2:g<2:=by
   have h2:gsV p c<=2:=by
    unfold gsV
    rw[ao k5]
    split<;>omega
   omega
  by_cases g0:g=0
  ·have g1: ¬g=1:=by omega
   have e:ftE p c g=⟨c.s.pc,0,0, -1,(c.s.pc+1),false,false,false⟩∧ftR p c=c.r:=by simp[ftE,ftR,k5,g1]
   rw[e.1,e.2];exact PureC.vc (Hy p c g hpc h1 k1 k2 k3 k4 k10 k5 g0)
  ·have g1:g=1:=by omega
   have e:ftE p c g=⟨c.s.pc,0,0, -1,(atI p c.s.pc).tg,false,false,false⟩∧ftR p c=c.r:=by simp[ftE,ftR,k5,g1]
   rw[e.1,e.2];exact PureC.vc (Hz p c g hpc h1 k1 k2 k3 k4 k10 k5 g0)
 by_cases k6:(atI p c.s.pc).kind=6
 ·have e:ftE p c g=⟨c.s.pc,0,0, -1,(atI p c.s.pc).tg,true,false,false⟩∧ftR p c=c.r:=by simp[ftE,ftR,k6]
  rw[e.1,e.2];exact PureC.vc (JH p c g hpc h1 k1 k2 k3 k4 k10 k5 k6)
 by_cases k7:(atI p c.s.pc).kind=7
 ·have e:ftE p c g=⟨c.s.pc,0,0, -1,g,false,false,false⟩∧ftR p c=c.r:=by simp[ftE,ftR,k7]
  rw[e.1,e.2];exact PureC.vc (JG p c g hpc h1 k1 k2 k3 k4 k10 k5 k6 k7)
 by_cases k9:(atI p c.s.pc).kind=9
 ·by_cases hz:c.r.length=0
  ·have hz0:c.r=[]:=bk hz
   have h2:=F7
   rw[<-hz0] at h2
   have e:ftE p c g=⟨c.s.pc,0,0, -1,g,false,false,false⟩∧ftR p c=c.r:=by simp[ftE,ftR,k9,hz0]
   rw[e.1,e.2];exact PureC.vc (Hv p c g hpc h1 k1 k2 k3 k4 k10 k5 k6 k7 k9 hz h2)
  ·obtain⟨q,hq⟩: ∃q,c.r.length=q+1:=⟨c.r.length-1,by omega⟩
   have h2:=F6 c.r q hq (by omega)
   have hz0: ¬c.r=[]:=fun e=>hz (by rw[e];rfl)
   have e3:((c.r.length:Int)-1).toNat=q:=by omega
   have e:ftE p c g=⟨c.s.pc,0,0, -1,(c.r.getD q 0),false,false,false⟩∧ftR p c=c.r.take q:=by
    unfold ftE ftR bz
    rw[e3]
    simp[k9,hz0]
   rw[e.1,e.2];exact PureC.vc (JF p c g hpc h1 _ _ k1 k2 k3 k4 k10 k5 k6 k7 k9 h2)
 by_cases k8:(atI p c.s.pc).kind=8
 ·have h2:=caC p c ⟨c.s.pc,0,0, -1,0,false,false,false⟩ hP hb hpc hr hst hbp hm rfl k8
  have h3:=CE c.r (c.s.pc+1) (by omega)
  cases hv:ftB p c with
  |true=>
   rw[hv] at h2
   have e:ftE p c g=⟨c.s.pc,0,0, -1,(atI p c.s.pc).tg,true,false,true⟩∧ftR p c=(bK c.r (c.s.pc+1)):=by simp[ftE,ftR,k8,hv]
   rw[e.1,e.2];exact PureC.vc (Hx p c g hpc h1 k1 k2 k3 k4 k10 k5 k6 k7 k9 k8 h2 h3)
  |false=>
   rw[hv] at h2
   have e:ftE p c g=⟨c.s.pc,0,0, -1,(atI p c.s.pc).tg,true,false,false⟩∧ftR p c=(bK c.r (c.s.pc+1)):=by simp[ftE,ftR,k8,hv]
   rw[e.1,e.2];exact PureC.vc (Hw p c g hpc h1 k1 k2 k3 k4 k10 k5 k6 k7 k9 k8 h2 h3)
 have k11:(atI p c.s.pc).kind=11∨(atI p c.s.pc).kind=12:=by omega
 have e:ftE p c g=⟨c.s.pc,0,0, -1,(-1),true,false,false⟩∧ftR p c=c.r:=by simp[ftE,ftR,k5,k6,k7,k9,k8,k11]
 rw[e.1,e.2];exact PureC.vc (JE p c g hpc h1 k1 k2 k3 k4 k10 k5 k6 k7 k9 k8)
theorem Ef{Z:Prop}(z:Z):(RF (0:Int) (RF (0:Int) (RF (0:Int) (RF (0:Int) (RF (0:Nat) (RF (0:Nat) (RF (0:Int) (RF (0:Nat) (RF (0:Nat) Z))))))))):=⟨rfl,rfl,rfl,rfl,rfl,rfl,rfl,rfl,rfl,z⟩
theorem yx(p:Pg)(c:Cf)(g:Int)(hg:g<0):Vc (vF_ 8 [.agg (pgA p),.agg (cfA c), aI g] [.fv,.bd true] [] (.tup [.agg (cfA Cf0),.bool false]) []):=ai (cj (dt (g<0)) (Ef (cj (rf (0:Int)) (cj (rf false) trivial))))
abbrev FL(p:Pg)(c:Cf):Prop:=PureC Try.prog 9 [.agg (pgA p),.agg (cfA c)] (.int .i64 (gsV p c)) []
theorem yw(p:Pg)(c:Cf)(g:Int)(hb:c.b.length<400)(h1:FL p c)(h0:0<=g)(hg:gsV p c<=g):Vc (vF_ 8 [.agg (pgA p),.agg (cfA c), aI g] [.fv,.bd false,.cl [.agg (pgA p),.agg (cfA c)] (aI (gsV p c)) [],.bd true] [] (.tup [.agg (cfA Cf0),.bool false]) []):=ai (cj (df (g<0)) (fl p (uj p c (uk c (cj h1 (cj (dt (g>=gsV p c)) (Ef (cj (rf (0:Int)) (cj (rf false) trivial)))))))))
theorem Gh(p:Pg)(c:Cf)(g:Int)(hb:c.b.length<400)(h1:FL p c)(h0:0<=g)(hg: ¬gsV p c<=g)(e:En)(R:List Int)(h2:pC_ 18 [.agg (pgA p),.agg (cfA c), aI g] (.tup [.agg (enA e),lR R]) [])(h3:pC_ 19 [.agg (s8R c.s)] (.agg (cfA ⟨c.s,[],[],0⟩)) [])(h4:pC_ 20 [enR c.b,.agg (enA e), aI p.win] (.tup [enR (c.b++[e]),.bool true]) []):Vc (vF_ 8 [.agg (pgA p),.agg (cfA c), aI g] [.fv,.bd false,.cl [.agg (pgA p),.agg (cfA c)] (aI (gsV p c)) [],.bd false,.cl [.agg (pgA p),.agg (cfA c), aI g] (.tup [.agg (enA e),lR R]) [],.cl [.agg (s8R c.s)] (.agg (cfA ⟨c.s,[],[],0⟩)) [],.cl [enR c.b,.agg (enA e), aI p.win] (.tup [enR (c.b++[e]),.bool true]) []] [] (.tup [.agg (cfA ⟨c.s.go e.nxt,c.b++[e],R,0⟩),.bool true]) []):=ai (cj (df (g<0)) (fl p (uj p c (uk c (cj h1 (cj (df (g>=gsV p c)) (fl p (uj p c (uk c (cj (rf g) (cj h2 (cj (rf c.s.r0) (cj (rf c.s.r1) (cj (rf c.s.r2) (cj (rf c.s.r3) (cj (rf c.s.m.length) (cj (rr c.s.m.length 1 fun i j=>aI (List.getD c.s.m i 0)) (cj (rf c.s.st.length) (cj (rr c.s.st.length 1 fun i j=>aI (List.getD c.s.st i 0)) (cj (rf c.s.pc) (cj h3 (cj (rf c.b.length) (cj (rr c.b.length 8 fun i j=>al enC c.b i j) (cj (rf e.pc) (cj (rf e.val) (cj (rf e.adr) (cj (rf e.frm) (cj (rf e.nxt) (cj (rf e.dn) (cj (rf e.kn) (cj (rf e.ft) (cj (rf p.win) (cj h4 (cj (rf c.s.r0) (cj (rf c.s.r1) (cj (rf c.s.r2) (cj (rf c.s.r3) (cj (rf c.s.m.length) (cj (rr c.s.m.length 1 fun i j=>aI (List.getD c.s.m i 0)) (cj (rf c.s.st.length) (cj (rr c.s.st.length 1 fun i j=>aI (List.getD c.s.st i 0)) (cj (rf e.nxt) (cj (rf ((c.b++[e]).length)) (cj (rr ((c.b++[e]).length) 8 fun i j=>al enC (c.b++[e]) i j) (cj (rf R.length) (cj (rr R.length 1 fun i j=>aI (R.getD i 0)) (cj (rf (0:Int)) (cj (rf true) trivial))))))))))))))))))))))))))))))))))))))))))))))))
theorem Gi(p:Pg)(c:Cf)(g:Int)(hP:OkP p)(hb:c.b.length<400)(hpc: -1<=c.s.pc∧c.s.pc<=1000)(hr:c.r.length<1000)(hst:c.s.st.length<=300)(hbp: ∀e∈c.b, -1<=e.pc∧e.pc<=1000000)(hm:c.s.m.length<=1000):pC_ 8 [.agg (pgA p),.agg (cfA c),.int .i64 g] (.tup (ocA (ftO p c g))) []:=by
 have hG:=vS p c hP.len (by omega)
 unfold ftO
 by_cases hn:g<0
 ·rw[an (by omega)];exact PureC.vc (yx p c g hn)
 by_cases hg:gsV p c<=g
 ·rw[an (by omega)];exact PureC.vc (yw p c g hb hG (by omega) hg)
 have hgg:0<=g∧g<gsV p c:=⟨by omega,by omega⟩
 rw[ao hgg]
 have h5:c.e=0∧ ¬p.win<=(c.b.length:Int):=by
  have h6:=hgg
  unfold gsV at h6
  split at h6
  ·omega
  ·rename_i h7
   exact⟨Classical.byContradiction fun h=>h7 (.inl h),fun h=>h7 (.inr (.inr h))⟩
 have e:ftD p c g=⟨c.s.go (ftE p c g).nxt,c.b++[ftE p c g],ftR p c,0⟩:=by unfold ftD;rw[h5.1]
 rw[e]
 exact PureC.vc (Gh p c g hb hG (by omega) hg _ _ (bgC p c g hP hb hpc hr hst hbp hm hgg) (Gn c.s (by omega) (by omega)) (CF c.b _ p.win (by omega) (by omega)))
theorem gsE{p:Pg}{c:Cf}{n:Int}(hl:p.is.length<1000)(hb:c.b.length<1000000)(e:gsV p c=n):pC_ 9 [.agg (pgA p),.agg (cfA c)] (.int .i64 n) []:=by
 subst e
 exact vS p c hl hb
theorem ftY{p:Pg}{c x:Cf}{g:Int}(hP:OkP p)(hb:c.b.length<400)(hpc: -1<=c.s.pc∧c.s.pc<=1000)(hr:c.r.length<1000)(hst:c.s.st.length<=300)(hbp: ∀e∈c.b, -1<=e.pc∧e.pc<=1000000)(hm:c.s.m.length<=1000)(e:ftO p c g=some x):pC_ 8 [.agg (pgA p),.agg (cfA c),.int .i64 g] (.tup [.agg (cfA x),.bool true]) []:=by
 have h:=Gi p c g hP hb hpc hr hst hbp hm
 rw[e] at h
 exact h
theorem ftN{p:Pg}{c:Cf}{g:Int}(hP:OkP p)(hb:c.b.length<400)(hpc: -1<=c.s.pc∧c.s.pc<=1000)(hr:c.r.length<1000)(hst:c.s.st.length<=300)(hbp: ∀e∈c.b, -1<=e.pc∧e.pc<=1000000)(hm:c.s.m.length<=1000)(e:ftO p c g=none):pC_ 8 [.agg (pgA p),.agg (cfA c),.int .i64 g] (.tup [.agg (cfA Cf0),.bool false]) []:=by
 have h:=Gi p c g hP hb hpc hr hst hbp hm
 rw[e] at h
 exact h
theorem rfY{p:Pg}{c x:Cf}{g:Int}(hl:p.is.length<1000)(hb:c.b.length<900000)(hpc: -1<=c.s.pc∧c.s.pc<=1000)(hr:c.r.length<1000)(hst:c.s.st.length<=1000)(hbp: ∀e∈c.b, -1<=e.pc∧e.pc<=1000000)(e:ftO p c g=some x):pC_ 17 [.agg (pgA p),.agg (cfA c),.int .i64 g] (.tup [.agg (cfA x),.bool true]) []:=by
 have h:=BO p c g hl hb hpc hr hst hbp
 rw[e] at h
 exact h
theorem rfN{p:Pg}{c:Cf}{g:Int}(hl:p.is.length<1000)(hb:c.b.length<900000)(hpc: -1<=c.s.pc∧c.s.pc<=1000)(hr:c.r.length<1000)(hst:c.s.st.length<=1000)(hbp: ∀e∈c.b, -1<=e.pc∧e.pc<=1000000)(e:ftO p c g=none):pC_ 17 [.agg (pgA p),.agg (cfA c),.int .i64 g] (.tup [.agg (cfA Cf0),.bool false]) []:=by
 have h:=BO p c g hl hb hpc hr hst hbp
 rw[e] at h
 exact h
def FR(p:Pg):Bool:=p.is.all (fun i=>decide (((1<=i.kind∧i.kind<=12)∧i.a.reg=false∧i.b.reg=false)∧(0<=i.d∧i.d<4)∧(0<=i.tg∧i.tg<=p.is.length)))&&decide (p.is.length<1000)&&decide (p.ms.length<1000)&&decide (bC p.ms<=16)
theorem aN{p:Pg}(h:FR p=true):OkP p:=by
 unfold FR at h
 simp only[au,aJ,decide_eq_true_eq] at h
 obtain⟨⟨⟨h1,h2⟩,h3⟩,h4⟩:=h
 refine⟨fun i hi=> ?_,h2,h3,h4⟩
 obtain⟨⟨hk,ha,hb⟩,hd,ht⟩:=h1 i hi
 exact⟨hk,(fun h=>by rw[ha] at h;cases h),(fun h=>by rw[hb] at h;cases h),hd,ht⟩
def vZ:Vl:=⟨false,0⟩
def iK(k op tg:Int):In:=⟨k,op,0,vZ,vZ,⟨#[]⟩,tg⟩
def p14:Pg:=⟨1,2,0,0,0,0,0,[],[],[iK 5 10 2,iK 8 0 3,iK 11 0 0,iK 9 0 0]⟩
def s14(pc:Int):S8:=⟨0,0,0,0,[],[],pc⟩
def c14(pc:Int):Cf:=⟨s14 pc,[],[],0⟩
def a14:Cf:=⟨s14 2,[⟨0,0,0, -1,2,false,false,false⟩],[],0⟩
def b14:Cf:=⟨s14 (-1),[⟨0,0,0, -1,2,false,false,false⟩,⟨2,0,0, -1, -1,true,false,false⟩],[],0⟩
theorem s7: ∀(i:Nat),i<4-> ∀(j:Nat),j<9->List.getD [aI 5,aI 10,aI 0,AV.bool false,aI 0,AV.bool false,aI 0,AV.str (ByteArray.mk (Array.mk [])),aI 2,aI 8,aI 0,aI 0,AV.bool false,aI 0,AV.bool false,aI 0,AV.str (ByteArray.mk (Array.mk [])),aI 3,aI 11,aI 0,aI 0,AV.bool false,aI 0,AV.bool false,aI 0,AV.str (ByteArray.mk (Array.mk [])),aI 0,aI 9,aI 0,aI 0,AV.bool false,aI 0,AV.bool false,aI 0,AV.str (ByteArray.mk (Array.mk [])),aI 0] ((i+0)*9+j) AV.junk=al inC [iK (5:Int) (10:Int) (2:Int),iK (8:Int) (0:Int) (3:Int),iK (11:Int) (0:Int) (0:Int),iK (9:Int) (0:Int) (0:Int)] i j:=(fun i hi j hj=>match i,hi,j,hj with |0,_,0,_=>rfl |0,_,1,_=>rfl |0,_,2,_=>rfl |0,_,3,_=>rfl |0,_,4,_=>rfl |0,_,5,_=>rfl |0,_,6,_=>rfl |0,_,7,_=>rfl |0,_,8,_=>rfl |1,_,0,_=>rfl |1,_,1,_=>rfl |1,_,2,_=>rfl |1,_,3,_=>rfl |1,_,4,_=>rfl |1,_,5,_=>rfl |1,_,6,_=>rfl |1,_,7,_=>rfl |1,_,8,_=>rfl |2,_,0,_=>rfl |2,_,1,_=>rfl |2,_,2,_=>rfl |2,_,3,_=>rfl |2,_,4,_=>rfl |2,_,5,_=>rfl |2,_,6,_=>rfl |2,_,7,_=>rfl |2,_,8,_=>rfl |3,_,0,_=>rfl |3,_,1,_=>rfl |3,_,2,_=>rfl |3,_,3,_=>rfl |3,_,4,_=>rfl |3,_,5,_=>rfl |3,_,6,_=>rfl |3,_,7,_=>rfl |3,_,8,_=>rfl)
theorem Ev{Z:Prop}(z:Z):(RF (0:Nat) (RR 0 8 (fun i j=>al enC [] i j) (RF (0:Nat) (RR 0 1 (fun i j=>aI (List.getD [] i (0:Int))) (RF (0:Int) Z))))):=⟨rfl,fun _ _ _ _=>rfl,rfl,fun _ _ _ _=>rfl,rfl,z⟩
theorem Eu{Z:Prop}(z:Z):(RF (0:Int) (RF (0:Int) (RF (0:Int) (RF (0:Int) (RF (0:Nat) (RR 0 1 (fun i j=>aI (List.getD [] i (0:Int))) (RF (0:Nat) (RR 0 1 (fun i j=>aI (List.getD [] i (0:Int))) Z)))))))):=⟨rfl,rfl,rfl,rfl,rfl,fun _ _ _ _=>rfl,rfl,fun _ _ _ _=>rfl,z⟩
theorem sT{Z:Prop}(z:Z):(RF (1:Int) (RF (2:Int) (RF (0:Int) (RF (0:Int) (RF (0:Int) (RF (0:Int) (RF (0:Int) (RF (0:Nat) (RF (0:Nat) Z))))))))):=⟨rfl,rfl,rfl,rfl,rfl,rfl,rfl,rfl,rfl,z⟩
theorem AS{Z:Prop}(z:Z):(RF (0:Int) (RF (0:Int) (RF (0:Int) (RF (0:Int) (RF (0:Nat) (RR 0 1 (fun i j=>aI (List.getD [] i (0:Int))) (RF (0:Nat) (RR 0 1 (fun i j=>aI (List.getD [] i (0:Int))) (RF (0:Int) Z))))))))):=⟨rfl,rfl,rfl,rfl,rfl,fun _ _ _ _=>rfl,rfl,fun _ _ _ _=>rfl,rfl,z⟩
theorem wU(h0:pC_ 7 [.agg (s8R (s14 0))] (.agg (cfA (c14 0))) [])(h1:pC_ 9 [.agg (pgA p14),.agg (cfA (c14 0))] (aI 2) [])(h2:pC_ 8 [.agg (pgA p14),.agg (cfA (c14 0)), aI 1] (.tup [.agg (cfA a14),.bool true]) [])(h3:pC_ 8 [.agg (pgA p14),.agg (cfA (c14 0)), aI 2] (.tup [.agg (cfA Cf0),.bool false]) [])(h4:pC_ 8 [.agg (pgA p14),.agg (cfA a14), aI 0] (.tup [.agg (cfA b14),.bool true]) [])(h5:pC_ 9 [.agg (pgA p14),.agg (cfA b14)] (aI 0) [])(h6:pC_ 9 [.agg (pgA p14),.agg (cfA (c14 3))] (aI 5) []):Vc (vF_ 10 [] [.cl [.agg (s8R (s14 0))] (.agg (cfA (c14 0))) [],.cl [.agg (pgA p14),.agg (cfA (c14 0))] (aI 2) [],.cl [.agg (pgA p14),.agg (cfA (c14 0)), aI 1] (.tup [.agg (cfA a14),.bool true]) [],.cl [.agg (pgA p14),.agg (cfA (c14 0)), aI 2] (.tup [.agg (cfA Cf0),.bool false]) [],.cl [.agg (pgA p14),.agg (cfA a14), aI 0] (.tup [.agg (cfA b14),.bool true]) [],.cl [.agg (pgA p14),.agg (cfA b14)] (aI 0) [],.cl [.agg (pgA p14),.agg (cfA (c14 3))] (aI 5) []] [] (.bool true) []):=ai (cj (rf (0:Int)) (cj (rf (0:Int)) (cj (rf (0:Int)) (cj (rf (0:Int)) (cj (rf (0:Nat)) (cj (rf (0:Nat)) (cj (rf (0:Int)) (cj h0 (sT (cj (rf (4:Nat)) (cj (s7) (AS (Ev (cj h1 (sT (cj (rf (4:Nat)) (cj (s7) (AS (cj (rf (0:Nat)) (cj (rr 0 8 fun i j=>al enC [] i j) (cj (rf (0:Nat)) (cj (rr 0 1 fun i j=>aI (List.getD [] i (0:Int))) (cj (rf (0:Int)) (cj (rf (1:Int)) (cj h2 (sT (cj (rf (4:Nat)) (cj (s7) (AS (cj (rf (0:Nat)) (cj (rr 0 8 fun i j=>al enC [] i j) (cj (rf (0:Nat)) (cj (rr 0 1 fun i j=>aI (List.getD [] i (0:Int))) (cj (rf (0:Int)) (cj (rf (2:Int)) (cj h3 (sT (cj (rf (4:Nat)) (cj (s7) (cj (rf (0:Int)) (cj (rf (0:Int)) (cj (rf (0:Int)) (cj (rf (0:Int)) (cj (rf (0:Nat)) (cj (rr 0 1 fun i j=>aI (List.getD [] i (0:Int))) (cj (rf (0:Nat)) (cj (rr 0 1 fun i j=>aI (List.getD [] i (0:Int))) (cj (rf (2:Int)) (cj (rf (1:Nat)) (cj (rr 1 8 fun i j=>al enC [En.mk (0:Int) (0:Int) (0:Int) (-1:Int) (2:Int) false false false] i j) (cj (rf (0:Nat)) (cj (rr 0 1 fun i j=>aI (List.getD [] i (0:Int))) (cj (rf (0:Int)) (cj (rf (0:Int)) (cj h4 (cj (pv ((0:Int)<=0∧(0:Int)<(1:Nat))) (cj (pv ((0:Int)<=1∧(1:Int)<(2:Nat))) (sT (cj (rf (4:Nat)) (cj (s7) (Eu (cj (rf (-1:Int)) (cj (rf (2:Nat)) (cj (rr 2 8 fun i j=>al enC [En.mk (0:Int) (0:Int) (0:Int) (-1:Int) (2:Int) false false false,En.mk (2:Int) (0:Int) (0:Int) (-1:Int) (-1:Int) true false false] i j) (cj (rf (0:Nat)) (cj (rr 0 1 fun i j=>aI (List.getD [] i (0:Int))) (cj (rf (0:Int)) (cj h5 (sT (cj (rf (4:Nat)) (cj (s7) (Eu (cj (rf (3:Int)) (Ev (cj h6 (cj (rf true) trivial))))))))))))))))))))))))))))))))))))))))))))))))))))))))))))))))))))))))))))
theorem bo:pC_ 10 [] (.bool true) []:=
 PureC.vc (wU (cQ (s14 0)) (gsE (by decide) (by decide) (by kernel_rfl)) (ftY (aN (by kernel_rfl)) (by decide) (by decide) (by decide) (by decide) (by decide) (by decide) (by kernel_rfl)) (ftN (aN (by kernel_rfl)) (by decide) (by decide) (by decide) (by decide) (by decide) (by decide) (by kernel_rfl)) (ftY (aN (by kernel_rfl)) (by decide) (by decide) (by decide) (by decide) (by decide) (by decide) (by kernel_rfl)) (gsE (by decide) (by decide) (by kernel_rfl)) (gsE (by decide) (by decide) (by kernel_rfl)))
def pcH(p:Pg)(c:Cf):List (Nat×Blk):=[(0,⟨0,false,33,.box (pgA p)⟩),(1,⟨0,false,39,.box (cfA c)⟩)]
def tgS(raw n:Int)(p:Pg)(c:Cf)(B:List Int)(g:Int):Sm:=⟨[(14,.int .i64 n),(3,.int .i64 raw),(9,.bptr 0 0),(12,.bptr 1 0),(15,bR B),(16,.int .i64 g)],pcH p c,2⟩
theorem pn(B:List Int): ∀(i:Nat),i<B.length->AV.int IntKind.u8 (B.getD i 0)=AV.int IntKind.u8 (B.getD i 0):=(fun _ _=>rfl)
theorem xD(B:List Int):(!ByteArray.toList (Go.strOfNums B)==ByteArray.toList (Go.strOfNums B))=false:=by rw[beq_self_eq_true];rfl
theorem xk(raw:Int)(n:Int)(B:List Int)(g:Int){Z:Prop}(z:Z):(RF n (RF raw (RF B.length (RR B.length 1 (fun i j=>AV.int IntKind.u8 (B.getD i 0)) (RF (g+1) Z))))):=⟨rfl,rfl,rfl,fun _ _ _ _=>rfl,rfl,z⟩
theorem ir(c:Cf){Z:Prop}(z:Z):(RR c.s.m.length 1 (fun i j=>aI (List.getD c.s.m i 0)) (RF c.s.st.length (RR c.s.st.length 1 (fun i j=>aI (List.getD c.s.st i 0)) (RF c.s.pc (RF c.b.length (RR c.b.length 8 (fun i j=>al enC c.b i j) (RF c.r.length (RR c.r.length 1 (fun i j=>aI (c.r.getD i 0)) (RF c.e Z))))))))):=⟨fun _ _ _ _=>rfl,rfl,fun _ _ _ _=>rfl,rfl,rfl,fun _ _ _ _=>rfl,rfl,fun _ _ _ _=>rfl,rfl,z⟩
theorem iq(p:Pg)(c:Cf){Z:Prop}(z:Z):(RF p.ls.length (RR p.ls.length 2 (fun i j=>al lbC p.ls i j) (RF p.is.length (RR p.is.length 9 (fun i j=>al inC p.is i j) (RF c.s.r0 (RF c.s.r1 (RF c.s.r2 (RF c.s.r3 (RF c.s.m.length Z))))))))):=⟨rfl,fun _ _ _ _=>rfl,rfl,fun _ _ _ _=>rfl,rfl,rfl,rfl,rfl,rfl,z⟩
theorem gq(p:Pg){Z:Prop}(z:Z):(RF p.W (RF p.win (RF p.fuel (RF p.r0 (RF p.r1 (RF p.r2 (RF p.r3 (RF p.ms.length (RR p.ms.length 3 (fun i j=>al mmC p.ms i j) Z))))))))):=⟨rfl,rfl,rfl,rfl,rfl,rfl,rfl,rfl,fun _ _ _ _=>rfl,z⟩
theorem ur(c:Cf){Z:Prop}(z:Z):(RF c.b.length (RR c.b.length 8 (fun i j=>al enC c.b i j) (RF c.r.length (RR c.r.length 1 (fun i j=>aI (c.r.getD i 0)) (RF c.e Z))))):=⟨rfl,fun _ _ _ _=>rfl,rfl,fun _ _ _ _=>rfl,rfl,z⟩
theorem uq(c:Cf){Z:Prop}(z:Z):(RF c.s.r0 (RF c.s.r1 (RF c.s.r2 (RF c.s.r3 (RF c.s.m.length (RR c.s.m.length 1 (fun i j=>aI (List.getD c.s.m i 0)) (RF c.s.st.length (RR c.s.st.length 1 (fun i j=>aI (List.getD c.s.st i 0)) (RF c.s.pc Z))))))))):=⟨rfl,rfl,rfl,rfl,rfl,fun _ _ _ _=>rfl,rfl,fun _ _ _ _=>rfl,rfl,z⟩
theorem Et(x:Cf){Z:Prop}(z:Z):(RF x.s.r3 (RF x.s.m.length (RR x.s.m.length 1 (fun i j=>aI (List.getD x.s.m i 0)) (RF x.s.st.length (RR x.s.st.length 1 (fun i j=>aI (List.getD x.s.st i 0)) (RF x.s.pc (RF x.b.length (RR x.b.length 8 (fun i j=>al enC x.b i j) (RF x.r.length Z))))))))):=⟨rfl,rfl,fun _ _ _ _=>rfl,rfl,fun _ _ _ _=>rfl,rfl,rfl,fun _ _ _ _=>rfl,rfl,z⟩
theorem Es(x:Cf){Z:Prop}(z:Z):(RF x.s.pc (RF x.b.length (RR x.b.length 8 (fun i j=>al enC x.b i j) (RF x.r.length (RR x.r.length 1 (fun i j=>aI (x.r.getD i 0)) (RF x.e (RF x.s.r0 (RF x.s.r1 (RF x.s.r2 Z))))))))):=⟨rfl,rfl,fun _ _ _ _=>rfl,rfl,fun _ _ _ _=>rfl,rfl,rfl,rfl,rfl,z⟩
theorem Er(x:Cf){Z:Prop}(z:Z):(RF false (RF x.s.r0 (RF x.s.r1 (RF x.s.r2 (RF x.s.r3 (RF x.s.m.length (RR x.s.m.length 1 (fun i j=>aI (List.getD x.s.m i 0)) (RF x.s.st.length (RR x.s.st.length 1 (fun i j=>aI (List.getD x.s.st i 0)) Z))))))))):=⟨rfl,rfl,rfl,rfl,rfl,rfl,fun _ _ _ _=>rfl,rfl,fun _ _ _ _=>rfl,z⟩
abbrev FQ(x:Cf):Prop:=PureC Try.prog 14 [.agg (cfA x),.agg (cfA x)] (.bool true) []
abbrev x5(c:Cf)(B:List Int):Prop:=PureC Try.prog 16 [.agg (cfA c)] (bR B) []
theorem EQ(raw n:Int)(p:Pg)(c:Cf)(B:List Int)(g:Int)(hg: -1<=g)(hn:g<=n+1)(hm:0<=n∧n<=5000)(x:Cf)(hk:(g==n+1)=false)(h1:pC_ 8 [.agg (pgA p),.agg (cfA c), aI g] (.tup [.agg (cfA x),.bool true]) [])(h2:pC_ 17 [.agg (pgA p),.agg (cfA c), aI g] (.tup [.agg (cfA x),.bool true]) [])(h3:FQ x)(h4:x5 c B):Vc (vC_ 6 0 (tgS raw n p c B g) [.bd true,.bd false,.cl [.agg (pgA p),.agg (cfA c), aI g] (.tup [.agg (cfA x),.bool true]) [],.cl [.agg (pgA p),.agg (cfA c), aI g] (.tup [.agg (cfA x),.bool true]) [],.bd false,.cl [.agg (cfA x),.agg (cfA x)] (.bool true) [],.cl [.agg (cfA c)] (bR B) [],.by_ B,.by_ B,.bd false] .nrm [(0,0),(1,1)] (tgS raw n p c B (g+1))):=ai (cj (i6 (n+1)) (cj (dt (g<=n+1)) (cj (i6 (n+1)) (cj hk (gq p (iq p c (ir c (cj (rf g) (cj h1 (gq p (iq p c (ir c (cj (rf g) (cj h2 (Er x (Es x (Et x (cj (rr x.r.length 1 fun i j=>aI (x.r.getD i 0)) (cj (rf x.e) (cj h3 (uq c (ur c (cj h4 (cj (rf B.length) (cj (pn B) (cj (rf B.length) (cj (pn B) (cj (xD B) (cj (i6 (g+1)) (gq p (iq p c (ir c (xk raw n B g trivial)))))))))))))))))))))))))))))))))
theorem Eq{Z:Prop}(z:Z):(RF (0:Int) (RF (0:Nat) (RR 0 1 (fun i j=>aI (List.getD [] i (0:Int))) (RF (0:Nat) (RR 0 1 (fun i j=>aI (List.getD [] i (0:Int))) (RF (0:Int) (RF (0:Nat) (RR 0 8 (fun i j=>al enC [] i j) (RF (0:Nat) Z))))))))):=⟨rfl,rfl,fun _ _ _ _=>rfl,rfl,fun _ _ _ _=>rfl,rfl,rfl,fun _ _ _ _=>rfl,rfl,z⟩
theorem zV{Z:Prop}(z:Z):(RF (0:Int) (RF (0:Nat) (RR 0 8 (fun i j=>al enC [] i j) (RF (0:Nat) (RR 0 1 (fun i j=>aI (List.getD [] i (0:Int))) (RF (0:Int) (RF (0:Int) (RF (0:Int) (RF (0:Int) Z))))))))):=⟨rfl,rfl,fun _ _ _ _=>rfl,rfl,fun _ _ _ _=>rfl,rfl,rfl,rfl,rfl,z⟩
theorem zU{Z:Prop}(z:Z):(RF false (RF (0:Int) (RF (0:Int) (RF (0:Int) (RF (0:Int) (RF (0:Nat) (RR 0 1 (fun i j=>aI (List.getD [] i (0:Int))) (RF (0:Nat) (RR 0 1 (fun i j=>aI (List.getD [] i (0:Int))) Z))))))))):=⟨rfl,rfl,rfl,rfl,rfl,rfl,fun _ _ _ _=>rfl,rfl,fun _ _ _ _=>rfl,z⟩
abbrev FP:Prop:=PureC Try.prog 14 [.agg (cfA Cf0),.agg (cfA Cf0)] (.bool true) []
theorem ER(raw n:Int)(p:Pg)(c:Cf)(B:List Int)(g:Int)(hg: -1<=g)(hn:g<=n+1)(hm:0<=n∧n<=5000)(hk:(g==n+1)=false)(h1:pC_ 8 [.agg (pgA p),.agg (cfA c), aI g] (.tup [.agg (cfA Cf0),.bool false]) [])(h2:pC_ 17 [.agg (pgA p),.agg (cfA c), aI g] (.tup [.agg (cfA Cf0),.bool false]) [])(h3:FP)(h4:x5 c B):Vc (vC_ 6 0 (tgS raw n p c B g) [.bd true,.bd false,.cl [.agg (pgA p),.agg (cfA c), aI g] (.tup [.agg (cfA Cf0),.bool false]) [],.cl [.agg (pgA p),.agg (cfA c), aI g] (.tup [.agg (cfA Cf0),.bool false]) [],.bd false,.cl [.agg (cfA Cf0),.agg (cfA Cf0)] (.bool true) [],.cl [.agg (cfA c)] (bR B) [],.by_ B,.by_ B,.bd false] .nrm [(0,0),(1,1)] (tgS raw n p c B (g+1))):=ai (cj (i6 (n+1)) (cj (dt (g<=n+1)) (cj (i6 (n+1)) (cj hk (gq p (iq p c (ir c (cj (rf g) (cj h1 (gq p (iq p c (ir c (cj (rf g) (cj h2 (zU (zV (Eq (cj (rr 0 1 fun i j=>aI (List.getD [] i (0:Int))) (cj (rf (0:Int)) (cj h3 (uq c (ur c (cj h4 (cj (rf B.length) (cj (pn B) (cj (rf B.length) (cj (pn B) (cj (xD B) (cj (i6 (g+1)) (gq p (iq p c (ir c (xk raw n B g trivial)))))))))))))))))))))))))))))))))
theorem EO(raw n:Int)(p:Pg)(c:Cf)(B:List Int)(g:Int)(hg: -1<=g)(hn:g<=n+1)(hm:0<=n∧n<=5000)(x:Cf)(hk:(g==n+1)=true)(h1:pC_ 8 [.agg (pgA p),.agg (cfA c), aI raw] (.tup [.agg (cfA x),.bool true]) [])(h2:pC_ 17 [.agg (pgA p),.agg (cfA c), aI raw] (.tup [.agg (cfA x),.bool true]) [])(h3:FQ x)(h4:x5 c B):Vc (vC_ 6 0 (tgS raw n p c B g) [.bd true,.bd true,.cl [.agg (pgA p),.agg (cfA c), aI raw] (.tup [.agg (cfA x),.bool true]) [],.cl [.agg (pgA p),.agg (cfA c), aI raw] (.tup [.agg (cfA x),.bool true]) [],.bd false,.cl [.agg (cfA x),.agg (cfA x)] (.bool true) [],.cl [.agg (cfA c)] (bR B) [],.by_ B,.by_ B,.bd false] .nrm [(0,0),(1,1)] (tgS raw n p c B (g+1))):=ai (cj (i6 (n+1)) (cj (dt (g<=n+1)) (cj (i6 (n+1)) (cj hk (gq p (iq p c (ir c (cj (rf raw) (cj h1 (gq p (iq p c (ir c (cj (rf raw) (cj h2 (Er x (Es x (Et x (cj (rr x.r.length 1 fun i j=>aI (x.r.getD i 0)) (cj (rf x.e) (cj h3 (uq c (ur c (cj h4 (cj (rf B.length) (cj (pn B) (cj (rf B.length) (cj (pn B) (cj (xD B) (cj (i6 (g+1)) (gq p (iq p c (ir c (xk raw n B g trivial)))))))))))))))))))))))))))))))))
theorem EP(raw n:Int)(p:Pg)(c:Cf)(B:List Int)(g:Int)(hg: -1<=g)(hn:g<=n+1)(hm:0<=n∧n<=5000)(hk:(g==n+1)=true)(h1:pC_ 8 [.agg (pgA p),.agg (cfA c), aI raw] (.tup [.agg (cfA Cf0),.bool false]) [])(h2:pC_ 17 [.agg (pgA p),.agg (cfA c), aI raw] (.tup [.agg (cfA Cf0),.bool false]) [])(h3:FP)(h4:x5 c B):Vc (vC_ 6 0 (tgS raw n p c B g) [.bd true,.bd true,.cl [.agg (pgA p),.agg (cfA c), aI raw] (.tup [.agg (cfA Cf0),.bool false]) [],.cl [.agg (pgA p),.agg (cfA c), aI raw] (.tup [.agg (cfA Cf0),.bool false]) [],.bd false,.cl [.agg (cfA Cf0),.agg (cfA Cf0)] (.bool true) [],.cl [.agg (cfA c)] (bR B) [],.by_ B,.by_ B,.bd false] .nrm [(0,0),(1,1)] (tgS raw n p c B (g+1))):=ai (cj (i6 (n+1)) (cj (dt (g<=n+1)) (cj (i6 (n+1)) (cj hk (gq p (iq p c (ir c (cj (rf raw) (cj h1 (gq p (iq p c (ir c (cj (rf raw) (cj h2 (zU (zV (Eq (cj (rr 0 1 fun i j=>aI (List.getD [] i (0:Int))) (cj (rf (0:Int)) (cj h3 (uq c (ur c (cj h4 (cj (rf B.length) (cj (pn B) (cj (rf B.length) (cj (pn B) (cj (xD B) (cj (i6 (g+1)) (gq p (iq p c (ir c (xk raw n B g trivial)))))))))))))))))))))))))))))))))
theorem HN(raw n:Int)(p:Pg)(c:Cf)(B:List Int)(g:Int)(hn:g=n+2)(hm:0<=n∧n<=5000):Vc (vC_ 6 0 (tgS raw n p c B g) [.bd false] (.ext 0) [(0,0),(1,1)] (tgS raw n p c B g)):=ai (cj (i6 (n+1)) (cj (df (g<=n+1)) (gq p (iq p c (ir c (cj (rf n) (cj (rf raw) (cj (rf B.length) (cj (rr B.length 1 fun i j=>AV.int IntKind.u8 (B.getD i 0)) (cj (rf g) trivial))))))))))
theorem zT(p:Pg){Z:Prop}(z:Z):(RF p.ls.length (RR p.ls.length 2 (fun i j=>al lbC p.ls i j) (RF p.is.length (RR p.is.length 9 (fun i j=>al inC p.is i j) Z)))):=⟨rfl,fun _ _ _ _=>rfl,rfl,fun _ _ _ _=>rfl,z⟩
theorem uL(m zs w B:List Int)(raw:Int)(p:Pg)(s s2:S8)(c:Cf)(d:List Dr)(hs:s.st=[])(h1:pC_ 11 [lR m] (.agg (pgA p)) [])(h2:pC_ 12 [.agg (pgA p),lR zs, aI 1] (.tup [.agg (s8N s),.agg (s8N s2)]) [])(h3:pC_ 13 [.agg (pgA p),.agg (s8R s),lR w] (.tup [.agg (cfA c),drR d]) [])(h4:pC_ 9 [.agg (pgA p),.agg (cfA c)] (aI (gsV p c)) [])(h5:pC_ 15 [.agg (pgA p),.agg (cfA c)] (aI (gsV p c)) [])(h6:pC_ 16 [.agg (cfA c)] (bR B) [])(h7:oL_ 6 0 (tgS raw (gsV p c) p c B (-1)).st (.ext 0) (tgS raw (gsV p c) p c B (gsV p c+2)).st):Vc (vF_ 6 [lR m,lR zs,lR w, aI raw] [.cl [lR m] (.agg (pgA p)) [],.cl [.agg (pgA p),lR zs, aI 1] (.tup [.agg (s8N s),.agg (s8N s2)]) [],.cl [.agg (pgA p),.agg (s8R s),lR w] (.tup [.agg (cfA c),drR d]) [],.cl [.agg (pgA p),.agg (cfA c)] (aI (gsV p c)) [],.cl [.agg (pgA p),.agg (cfA c)] (aI (gsV p c)) [],.bd false,.cl [.agg (cfA c)] (bR B) [],.lp [(0,0),(1,3)] (tgS raw (gsV p c) p c B (-1)) (.ext 0) (tgS raw (gsV p c) p c B (gsV p c+2)),.cl [] (.bool true) []] [] (.bool true) []):=ai (cj (rf m.length) (cj (rr m.length 1 fun i j=>aI (m.getD i 0)) (cj h1 (gq p (zT p (cj (rf zs.length) (cj (rr zs.length 1 fun i j=>aI (zs.getD i 0)) (cj (rf (1:Int)) (cj h2 (gq p (zT p (cj (rf s.r0) (cj (rf s.r1) (cj (rf s.r2) (cj (rf s.r3) (cj (rf s.m.length) (cj (rr s.m.length 1 fun i j=>aI (s.m.getD i 0)) (cj (show s.st.length=0 from by rw[hs];rfl) (cj (rf s.pc) (cj (rf w.length) (cj (rr w.length 1 fun i j=>aI (w.getD i 0)) (cj h3 (gq p (iq p c (ir c (cj h4 (gq p (iq p c (ir c (cj h5 (cj (show(gsV p c !=gsV p c)=false from by simp) (uq c (ur c (cj h6 (gq p (iq p c (ir c (cj (rf (gsV p c)) (cj (rf raw) (cj (rf B.length) (cj (rr B.length 1 fun i j=>AV.int IntKind.u8 (B.getD i 0)) (cj (rf (-1:Int)) (cj h7 (cj bo (cj (rf true) trivial)))))))))))))))))))))))))))))))))))))))))))))
theorem sm0:pC_ 14 [.agg (cfA Cf0),.agg (cfA Cf0)] (.bool true) []:=by
 have h:=u5 Cf0 Cf0 (by decide) (by decide) (by decide) (by decide) (by decide) (by decide) (by decide) (by decide)
 rw[cE rfl] at h
 exact h
theorem v9{p:Pg}{c:Cf}(hl:p.is.length<1000):0<=gsV p c∧gsV p c<=5000:=by
 unfold gsV
 repeat' split
 all_goals omega
theorem GJ{m zs w:List Int}{g:Int}{x:Cf}(e:ftO (bB m) (wkC m zs w) g=some x):CfS x:=by
 have hP:=dl m
 have hL:=rK m zs w
 have he:=(Liv.ftO hP (fL m zs w) hL.1 e).2
 exact CfS.of hP (by have:=ea m;omega) (Inv.ftO hP (fL m zs w) e) (by have:=hL.1.e;omega)
theorem uK(raw:Int)(m zs w:List Int)(g:Int)(hg: -1<=g)(hn:g<=gsV (bB m) (wkC m zs w)+1):Ok Try.prog (cJ Try.prog 6) (lpC Try.prog 6 0) (tgS raw (gsV (bB m) (wkC m zs w)) (bB m) (wkC m zs w) (Cd.putL (ciL (wkC m zs w))) g).st .nrm (tgS raw (gsV (bB m) (wkC m zs w)) (bB m) (wkC m zs w) (Cd.putL (ciL (wkC m zs w))) (g+1)).st:=by
 have hok:=lI m zs w
 have hm:=v9 (p:=bB m) (c:=wkC m zs w) hok.il
 by_cases hk:g=gsV (bB m) (wkC m zs w)+1
 ·
  cases e:ftO (bB m) (wkC m zs w) raw with
  |some x=>exact Ok.vc (EO raw _ _ _ _ g hg hn hm x (av.2 hk) (ftY (dl m) (by have:=(dI m zs w).b;omega) hok.pc hok.rl (by have:=(dI m zs w).st;omega) hok.bp (by have:=(dI m zs w).m;omega) e) (rfY hok.il hok.bl hok.pc hok.rl hok.st hok.bp e) (GJ e).self (dI m zs w).rcode)
  |none=>exact Ok.vc (EP raw _ _ _ _ g hg hn hm (av.2 hk) (ftN (dl m) (by have:=(dI m zs w).b;omega) hok.pc hok.rl (by have:=(dI m zs w).st;omega) hok.bp (by have:=(dI m zs w).m;omega) e) (rfN hok.il hok.bl hok.pc hok.rl hok.st hok.bp e) sm0 (dI m zs w).rcode)
 ·
  cases e:ftO (bB m) (wkC m zs w) g with
  |some x=>exact Ok.vc (EQ raw _ _ _ _ g hg hn hm x (aa.2 hk) (ftY (dl m) (by have:=(dI m zs w).b;omega) hok.pc hok.rl (by have:=(dI m zs w).st;omega) hok.bp (by have:=(dI m zs w).m;omega) e) (rfY hok.il hok.bl hok.pc hok.rl hok.st hok.bp e) (GJ e).self (dI m zs w).rcode)
  |none=>exact Ok.vc (ER raw _ _ _ _ g hg hn hm (aa.2 hk) (ftN (dl m) (by have:=(dI m zs w).b;omega) hok.pc hok.rl (by have:=(dI m zs w).st;omega) hok.bp (by have:=(dI m zs w).m;omega) e) (rfN hok.il hok.bl hok.pc hok.rl hok.st hok.bp e) sm0 (dI m zs w).rcode)
theorem xq(raw:Int)(m zs w:List Int):oL_ 6 0 (tgS raw (gsV (bB m) (wkC m zs w)) (bB m) (wkC m zs w) (Cd.putL (ciL (wkC m zs w))) (-1)).st (.ext 0) (tgS raw (gsV (bB m) (wkC m zs w)) (bB m) (wkC m zs w) (Cd.putL (ciL (wkC m zs w))) (gsV (bB m) (wkC m zs w)+2)).st:=by
 have hm:=v9 (p:=bB m) (c:=wkC m zs w) (lI m zs w).il
 obtain⟨N,hN⟩: ∃N:Nat,gsV (bB m) (wkC m zs w)=N:=⟨(gsV (bB m) (wkC m zs w)).toNat,by omega⟩
 have hrd:=uK raw m zs w
 rw[hN] at hm hrd ⊢
 have key:=Ok.loop (P:=Try.prog) (nt:=cJ Try.prog 6) (c:=lpC Try.prog 6 0) (F:=fun k=>tgS raw (N:Int) (bB m) (wkC m zs w) (Cd.putL (ciL (wkC m zs w))) ((k:Nat)-1)) (m:=N+3) (x:= .ext 0) (J:=tgS raw (N:Int) (bB m) (wkC m zs w) (Cd.putL (ciL (wkC m zs w))) ((N:Int)+2)) (fun k hk=> ?_) ?_ (by simp)
 ·exact key
 ·have h:=hrd ((k:Nat)-1) (by omega) (by omega)
  rw[show((k:Nat):Int)-1+1=((k+1:Nat):Int)-1 by omega] at h
  exact h
 ·show Ok _ _ _ (tgS raw (N:Int) (bB m) (wkC m zs w) (Cd.putL (ciL (wkC m zs w))) (((N+3:Nat):Int)-1)).st _ _
  rw[show((N+3:Nat):Int)-1=(N:Int)+2 by omega]
  exact Ok.vc (HN raw N _ _ _ _ rfl hm)
theorem qW(m zs w:List Int)(raw:Int):pC_ 6 [lR m,lR zs,lR w,.int .i64 raw] (.bool true) []:=by
 have hP:=dl m
 have hok:=lI m zs w
 exact PureC.vc (uL m zs w _ raw (bB m) (sA (bB m) zs) (sB (bB m) zs 1) (wkC m zs w) _ rfl (mkC m) (jb (bB m) zs 1 hP) (oW m zs w) (vS _ _ hok.il (by have:=hok.bl;omega)) (iM _ _ hok.il (by have:=hok.bl;omega)) (dI m zs w).rcode (xq raw m zs w))
theorem walk_FetcTells(A0:Option Addr)(c0:Nat)(z0:List Int)(A1:Option Addr)(c1:Nat)(z1:List Int)(A2:Option Addr)(c2:Nat)(z2:List Int)(a3:Int)(W:World)(hc0:z0.length<=c0)(hm0:c0<=maxLen)(hr0:Rd W W.heap.size A0 (z0.map (Value.int .i64)))(hc1:z1.length<=c1)(hm1:c1<=maxLen)(hr1:Rd W W.heap.size A1 (z1.map (Value.int .i64)))(hc2:z2.length<=c2)(hm2:c2<=maxLen)(hr2:Rd W W.heap.size A2 (z2.map (Value.int .i64))):Calls Try.prog 6 #[.slice A0 z0.length c0,.slice A1 z1.length c1,.slice A2 z2.length c2,.int .i64 a3] W (RetB (.bool true) W):=
 (qW z0 z1 z2 a3).lawB (R:=fun g=>g<W.heap.size) (fun _ h=>h) rfl (fun j x v hx hv=>match j,hx,hv with
  |0,rfl,rfl=> .ofRd hr0 hc0 hm0
  |1,rfl,rfl=> .ofRd hr1 hc1 hm1
  |2,rfl,rfl=> .ofRd hr2 hc2 hm2
  |3,rfl,rfl=> .int _ _)
def pcG(p:Pg)(c:Cf):List (Nat×Blk):=[(0,⟨0,false,33,.box (pgA p)⟩),(1,⟨0,false,39,.box (cfA c)⟩)]
def onS(p:Pg)(c:Cf)(g:Int):Sm:=⟨[(7,.bptr 0 0),(10,.bptr 1 0),(12,.int .i64 g)],pcG p c,2⟩
theorem sG(l:List En)(e:En):(l++[e]).getD l.length default=e:=by simp[List.getD]
theorem Dm(p:Pg)(c:Cf)(g:Int):(ftE p c g).pc=c.s.pc:=by
 unfold ftE
 repeat' split
 all_goals rfl
theorem jH(c:Cf){Z:Prop}(z:Z):(RR c.s.m.length 1 (fun i j=>aI (List.getD c.s.m i 0)) (RF c.s.st.length (RR c.s.st.length 1 (fun i j=>aI (List.getD c.s.st i 0)) (RF c.s.pc (RF c.b.length (RR c.b.length 8 (fun i j=>al enC c.b i j) (RF c.r.length (RR c.r.length 1 (fun i j=>aI (c.r.getD i 0)) (RF c.e Z))))))))):=⟨fun _ _ _ _=>rfl,rfl,fun _ _ _ _=>rfl,rfl,rfl,fun _ _ _ _=>rfl,rfl,fun _ _ _ _=>rfl,rfl,z⟩
theorem jG(p:Pg)(c:Cf){Z:Prop}(z:Z):(RF p.ls.length (RR p.ls.length 2 (fun i j=>al lbC p.ls i j) (RF p.is.length (RR p.is.length 9 (fun i j=>al inC p.is i j) (RF c.s.r0 (RF c.s.r1 (RF c.s.r2 (RF c.s.r3 (RF c.s.m.length Z))))))))):=⟨rfl,fun _ _ _ _=>rfl,rfl,fun _ _ _ _=>rfl,rfl,rfl,rfl,rfl,rfl,z⟩
theorem fm(p:Pg){Z:Prop}(z:Z):(RF p.W (RF p.win (RF p.fuel (RF p.r0 (RF p.r1 (RF p.r2 (RF p.r3 (RF p.ms.length (RR p.ms.length 3 (fun i j=>al mmC p.ms i j) Z))))))))):=⟨rfl,rfl,rfl,rfl,rfl,rfl,rfl,rfl,fun _ _ _ _=>rfl,z⟩
abbrev FO(p:Pg)(c:Cf):Prop:=PureC Try.prog 9 [.agg (pgA p),.agg (cfA c)] (.int .i64 (gsV p c)) []
theorem Io(p:Pg)(c:Cf)(g:Int)(hg0:0<=g)(hg:g<gsV p c)(hg2:gsV p c<=5000)(hb:c.b.length<1000)(he:(c.e !=0)=false)(hw:(c.b.length:Int)+1<=p.win)(hr:(ftR p c).length<=2)(h1:FO p c)(h2:pC_ 8 [.agg (pgA p),.agg (cfA c), aI g] (.tup [.agg (cfA (ftD p c g)),.bool true]) [])(h3:pC_ 14 [.agg (cfA c),.agg (cfA c)] (.bool true) []):Vc (vC_ 4 0 (onS p c g) [.cl [.agg (pgA p),.agg (cfA c)] (aI (gsV p c)) [],.bd true,.cl [.agg (pgA p),.agg (cfA c), aI g] (.tup [.agg (cfA (ftD p c g)),.bool true]) [],.bd false,.bd false,.bd false,.bd false,.bd false,.bd false,.cl [.agg (cfA c),.agg (cfA c)] (.bool true) []] .nrm [(0,0),(1,1)] (onS p c (g+1))):=ai (fm p (jG p c (jH c (cj h1 (cj (cE hg) (fm p (jG p c (jH c (cj (rf g) (cj h2 (cj (i6 (c.b.length+1)) (cj (show((↑((c.b++[ftE p c g]).length):Int) !=(↑c.b.length:Int)+1)=false from by simp) (cj (i6 (c.b.length+1)) (cj (df ((↑c.b.length:Int)+1>p.win)) (cj (show(0:Int)<=(↑c.b.length:Int)∧(↑c.b.length:Int)<(↑((c.b++[ftE p c g]).length):Int) from by rw[ay,a7];omega) (cj (show((List.getD (c.b++[ftE p c g]) c.b.length default).pc !=c.s.pc)=false from by rw[sG,Dm];simp) (cj (show(0:Int)<=(↑c.b.length:Int)∧(↑c.b.length:Int)<(↑((c.b++[ftE p c g]).length):Int) from by rw[ay,a7];omega) (cj (show((List.getD (c.b++[ftE p c g]) c.b.length default).nxt !=(ftE p c g).nxt)=false from by rw[sG];simp) (cj he (cj (df ((↑((ftR p c).length):Int)>2)) (cj (show(0:Int)<=(↑c.b.length:Int)∧(↑c.b.length:Int)<=(↑((c.b++[ftE p c g]).length):Int) from by rw[ay,a7];omega) (cj (rf c.s.r0) (cj (rf c.s.r1) (cj (rf c.s.r2) (cj (rf c.s.r3) (cj (rf c.s.m.length) (cj (rr c.s.m.length 1 fun i j=>aI (List.getD c.s.m i 0)) (cj (rf c.s.st.length) (cj (rr c.s.st.length 1 fun i j=>aI (List.getD c.s.st i 0)) (cj (rf c.s.pc) (cj (rf c.b.length) (cj (show ∀(i:Nat),i<c.b.length-> ∀(j:Nat),j<8->al enC (c.b++[ftE p c g]) i j=al enC c.b i j from(fun i hi j hj=>bV hi)) (cj (rf c.r.length) (cj (rr c.r.length 1 fun i j=>aI (c.r.getD i 0)) (cj (rf c.e) (cj (rf c.s.r0) (cj (rf c.s.r1) (cj (rf c.s.r2) (cj (rf c.s.r3) (cj (rf c.s.m.length) (cj (rr c.s.m.length 1 fun i j=>aI (List.getD c.s.m i 0)) (cj (rf c.s.st.length) (cj (rr c.s.st.length 1 fun i j=>aI (List.getD c.s.st i 0)) (cj (rf c.s.pc) (cj (rf c.b.length) (cj (rr c.b.length 8 fun i j=>al enC c.b i j) (cj (rf c.r.length) (cj (rr c.r.length 1 fun i j=>aI (c.r.getD i 0)) (cj (rf c.e) (cj h3 (cj (i6 (g+1)) (fm p (jG p c (jH c (cj (rf (g+1)) trivial)))))))))))))))))))))))))))))))))))))))))))))))))))))))
theorem Ip(p:Pg)(c:Cf)(g:Int)(hg: ¬g<gsV p c)(h1:FO p c):Vc (vC_ 4 0 (onS p c g) [.cl [.agg (pgA p),.agg (cfA c)] (aI (gsV p c)) [],.bd false] (.ext 0) [(0,0),(1,1)] (onS p c g)):=ai (fm p (jG p c (jH c (cj h1 (cj (cN hg) (fm p (jG p c (jH c (cj (rf g) trivial)))))))))
theorem xj(w:List Int)(s:S8){Z:Prop}(z:Z):(RF s.pc (RF w.length (RR w.length 1 (fun i j=>aI (w.getD i 0)) Z))):=⟨rfl,rfl,fun _ _ _ _=>rfl,z⟩
theorem xi(m:List Int)(p:Pg)(s:S8){Z:Prop}(z:Z):(RF p.ls.length (RR p.ls.length 2 (fun i j=>al lbC p.ls i j) (RF p.is.length (RR p.is.length 9 (fun i j=>al inC p.is i j) (RF s.r0 (RF s.r1 (RF s.r2 (RF s.r3 (RF s.m.length Z))))))))):=⟨rfl,fun _ _ _ _=>rfl,rfl,fun _ _ _ _=>rfl,rfl,rfl,rfl,rfl,rfl,z⟩
theorem xh(zs:List Int)(p:Pg){Z:Prop}(z:Z):(RF p.ls.length (RR p.ls.length 2 (fun i j=>al lbC p.ls i j) (RF p.is.length (RR p.is.length 9 (fun i j=>al inC p.is i j) (RF zs.length (RR zs.length 1 (fun i j=>aI (zs.getD i 0)) (RF (1:Int) Z))))))):=⟨rfl,fun _ _ _ _=>rfl,rfl,fun _ _ _ _=>rfl,rfl,fun _ _ _ _=>rfl,rfl,z⟩
abbrev xY(p:Pg)(c:Cf)(g:Int):Prop:=Ok Try.prog (cJ Try.prog 4) (.loop (lpC Try.prog 4 0)) (onS p c 0).st (.ext 0) (onS p c g).st
abbrev x0(zs:List Int)(p:Pg)(s:S8)(s2:S8):Prop:=PureC Try.prog 12 [.agg (pgA p),lR zs,.int .i64 1] (.tup [.agg (s8N s),.agg (s8N s2)]) []
abbrev xZ(w:List Int)(p:Pg)(s:S8)(c:Cf)(d:List Dr):Prop:=PureC Try.prog 13 [.agg (pgA p),.agg (s8R s),lR w] (.tup [.agg (cfA c),drR d]) []
abbrev B9(p:Pg)(c:Cf):Prop:=PureC Try.prog 9 [.agg (pgA p),.agg (cfA c)] (.int .i64 0) []
abbrev x4(m:List Int)(p:Pg):Prop:=PureC Try.prog 11 [lR m] (.agg (pgA p)) []
abbrev yj(zs:List Int)(p:Pg)(s:S8)(s2:S8):Orc:= .cl [.agg (pgA p),lR zs, aI 1] (.tup [.agg (s8N s),.agg (s8N s2)]) []
abbrev yi(w:List Int)(p:Pg)(s:S8)(c:Cf)(d:List Dr):Orc:= .cl [.agg (pgA p),.agg (s8R s),lR w] (.tup [.agg (cfA c),drR d]) []
abbrev Cs(p:Pg)(c:Cf):Orc:= .cl [.agg (pgA p),.agg (cfA c)] (aI 0) []
theorem Cl(m zs w:List Int)(p:Pg)(s s2:S8)(c:Cf)(d:List Dr)(g:Int)(hs:s.st=[])(he:(c.e !=0)=true)(h1:x4 m p)(h2:x0 zs p s s2)(h3:xZ w p s c d)(h4:xY p c g)(h5:B9 p c):Vc (vF_ 4 [lR m,lR zs,lR w] [.cl [lR m] (.agg (pgA p)) [],yj zs p s s2,yi w p s c d,.lp [(0,0),(1,3)] (onS p c 0) (.ext 0) (onS p c g),Cs p c,.bd true,.bd true,.cl [] (.bool true) []] [] (.bool true) []):=ai (cj (rf m.length) (cj (rr m.length 1 fun i j=>aI (m.getD i 0)) (cj h1 (fm p (xh zs p (cj h2 (fm p (xi m p s (cj (rr s.m.length 1 fun i j=>aI (s.m.getD i 0)) (cj (show s.st.length=0 from by rw[hs];rfl) (xj w s (cj h3 (fm p (jG p c (jH c (cj (rf (0:Int)) (cj h4 (fm p (jG p c (jH c (cj h5 (cj (e1 0 0) (cj he (cj bo (cj (rf true) trivial)))))))))))))))))))))))))
theorem Ck(m zs w:List Int)(p:Pg)(s s2:S8)(c:Cf)(d:List Dr)(g:Int)(hs:s.st=[])(he:(c.e !=0)=false)(hp:(c.s.pc== -1)=true)(h1:x4 m p)(h2:x0 zs p s s2)(h3:xZ w p s c d)(h4:xY p c g)(h5:B9 p c):Vc (vF_ 4 [lR m,lR zs,lR w] [.cl [lR m] (.agg (pgA p)) [],yj zs p s s2,yi w p s c d,.lp [(0,0),(1,3)] (onS p c 0) (.ext 0) (onS p c g),Cs p c,.bd true,.bd false,.bd true,.cl [] (.bool true) []] [] (.bool true) []):=ai (cj (rf m.length) (cj (rr m.length 1 fun i j=>aI (m.getD i 0)) (cj h1 (fm p (xh zs p (cj h2 (fm p (xi m p s (cj (rr s.m.length 1 fun i j=>aI (s.m.getD i 0)) (cj (show s.st.length=0 from by rw[hs];rfl) (xj w s (cj h3 (fm p (jG p c (jH c (cj (rf (0:Int)) (cj h4 (fm p (jG p c (jH c (cj h5 (cj (e1 0 0) (cj he (cj hp (cj bo (cj (rf true) trivial))))))))))))))))))))))))))
theorem Cj(m zs w:List Int)(p:Pg)(s s2:S8)(c:Cf)(d:List Dr)(g:Int)(hs:s.st=[])(he:(c.e !=0)=false)(hp:(c.s.pc== -1)=false)(hw:((c.b.length:Int)==p.win)=true)(h1:x4 m p)(h2:x0 zs p s s2)(h3:xZ w p s c d)(h4:xY p c g)(h5:B9 p c):Vc (vF_ 4 [lR m,lR zs,lR w] [.cl [lR m] (.agg (pgA p)) [],yj zs p s s2,yi w p s c d,.lp [(0,0),(1,3)] (onS p c 0) (.ext 0) (onS p c g),Cs p c,.bd true,.bd false,.bd false,.bd true,.cl [] (.bool true) []] [] (.bool true) []):=ai (cj (rf m.length) (cj (rr m.length 1 fun i j=>aI (m.getD i 0)) (cj h1 (fm p (xh zs p (cj h2 (fm p (xi m p s (cj (rr s.m.length 1 fun i j=>aI (s.m.getD i 0)) (cj (show s.st.length=0 from by rw[hs];rfl) (xj w s (cj h3 (fm p (jG p c (jH c (cj (rf (0:Int)) (cj h4 (fm p (jG p c (jH c (cj h5 (cj (e1 0 0) (cj he (cj hp (cj hw (cj bo (cj (rf true) trivial)))))))))))))))))))))))))))
theorem Ci(m zs w:List Int)(p:Pg)(s s2:S8)(c:Cf)(d:List Dr)(g:Int)(hs:s.st=[])(he:(c.e !=0)=false)(hp:(c.s.pc== -1)=false)(hw:((c.b.length:Int)==p.win)=false)(hn:(g==0)=false)(h1:x4 m p)(h2:x0 zs p s s2)(h3:xZ w p s c d)(h4:xY p c g)(h5:pC_ 9 [.agg (pgA p),.agg (cfA c)] (aI g) []):Vc (vF_ 4 [lR m,lR zs,lR w] [.cl [lR m] (.agg (pgA p)) [],yj zs p s s2,yi w p s c d,.lp [(0,0),(1,3)] (onS p c 0) (.ext 0) (onS p c g),.cl [.agg (pgA p),.agg (cfA c)] (aI g) [],.bd false,.bd false,.bd false,.bd false,.cl [] (.bool true) []] [] (.bool true) []):=ai (cj (rf m.length) (cj (rr m.length 1 fun i j=>aI (m.getD i 0)) (cj h1 (fm p (xh zs p (cj h2 (fm p (xi m p s (cj (rr s.m.length 1 fun i j=>aI (s.m.getD i 0)) (cj (show s.st.length=0 from by rw[hs];rfl) (xj w s (cj h3 (fm p (jG p c (jH c (cj (rf (0:Int)) (cj h4 (fm p (jG p c (jH c (cj h5 (cj hn (cj he (cj hp (cj hw (cj bo (cj (rf true) trivial)))))))))))))))))))))))))))
theorem yc(m zs w:List Int):oL_ 4 0 (onS (bB m) (wkC m zs w) 0).st (.ext 0) (onS (bB m) (wkC m zs w) (gsV (bB m) (wkC m zs w))).st:=by
 have hP:=dl m
 have hI:=fL m zs w
 have hok:=lI m zs w
 have hb:=xn m zs w
 have hwn:=ea m
 have hgl:gsV (bB m) (wkC m zs w)<=1001:=v8 _ _ hok.il
 have hg0:0<=gsV (bB m) (wkC m zs w):=by
  unfold gsV
  repeat' split
  all_goals omega
 have hG:=vS (bB m) (wkC m zs w) hok.il (by omega)
 obtain⟨N,hN⟩: ∃N:Nat,gsV (bB m) (wkC m zs w)=N:=⟨(gsV (bB m) (wkC m zs w)).toNat,by omega⟩
 have key:=Ok.loop (P:=Try.prog) (nt:=cJ Try.prog 4) (c:=lpC Try.prog 4 0) (F:=fun k=>onS (bB m) (wkC m zs w) (k:Nat)) (m:=N) (x:= .ext 0) (J:=onS (bB m) (wkC m zs w) (N:Nat)) (fun k hk=> ?_) (Ok.vc (Ip _ _ _ (by omega) hG)) (by simp)
 ·rw[hN];exact key
 ·have hlt:(k:Int)<gsV (bB m) (wkC m zs w):=by omega
  obtain⟨⟨h1,h2,h3⟩,_⟩:=lu (by omega:(0:Int)<=(k:Nat)) hlt
  have e:ftO (bB m) (wkC m zs w) (k:Nat)=some (ftD (bB m) (wkC m zs w) (k:Nat)):=by unfold ftO;exact ao ⟨by omega,hlt⟩
  have hr:=(Inv.ftO hP hI e).rl
  exact Ok.vc (Io _ _ _ (by omega) hlt (by omega) (by omega) (aw.2 h1) (by omega) hr hG (ftY (dl m) (by have:=(dI m zs w).b;omega) hok.pc hok.rl (by have:=(dI m zs w).st;omega) hok.bp (by have:=(dI m zs w).m;omega) e) (dI m zs w).self)
theorem tL(m zs w:List Int):pC_ 4 [lR m,lR zs,lR w] (.bool true) []:=by
 have hP:=dl m
 have hI:=fL m zs w
 have hok:=lI m zs w
 have hwn:=ea m
 have hbl:=hI.bl
 have hl:=yc m zs w
 have hG:=vS (bB m) (wkC m zs w) hok.il (by have:=hok.bl;omega)
 by_cases h1:(wkC m zs w).e=0
 ·by_cases h2:(wkC m zs w).s.pc= -1
  ·have e:gsV (bB m) (wkC m zs w)=0:=by unfold gsV;exact ao (.inr (.inl h2))
   rw[e] at hG hl
   exact PureC.vc (Ck m zs w (bB m) (sA (bB m) zs) (sB (bB m) zs 1) (wkC m zs w) _ 0 rfl (aw.2 h1) (av.2 h2) (mkC m) (jb (bB m) zs 1 hP) (oW m zs w) hl hG)
  ·by_cases h3:((wkC m zs w).b.length:Int)=(bB m).win
   ·have e:gsV (bB m) (wkC m zs w)=0:=by unfold gsV;exact ao (.inr (.inr (by omega)))
    rw[e] at hG hl
    exact PureC.vc (Cj m zs w (bB m) (sA (bB m) zs) (sB (bB m) zs 1) (wkC m zs w) _ 0 rfl (aw.2 h1) (aa.2 h2) (av.2 h3) (mkC m) (jb (bB m) zs 1 hP) (oW m zs w) hl hG)
   ·have hn: ¬gsV (bB m) (wkC m zs w)=0:=by
     unfold gsV
     rw[an (by rintro(h |h |h)<;>omega)]
     repeat' split
     all_goals omega
    exact PureC.vc (Ci m zs w (bB m) (sA (bB m) zs) (sB (bB m) zs 1) (wkC m zs w) _ _ rfl (aw.2 h1) (aa.2 h2) (aa.2 h3) (aa.2 hn) (mkC m) (jb (bB m) zs 1 hP) (oW m zs w) hl hG)
 ·have e:gsV (bB m) (wkC m zs w)=0:=by unfold gsV;exact ao (.inl h1)
  rw[e] at hG hl
  exact PureC.vc (Cl m zs w (bB m) (sA (bB m) zs) (sB (bB m) zs 1) (wkC m zs w) _ 0 rfl (db.2 h1) (mkC m) (jb (bB m) zs 1 hP) (oW m zs w) hl hG)
theorem walk_FetcOnly(A0:Option Addr)(c0:Nat)(z0:List Int)(A1:Option Addr)(c1:Nat)(z1:List Int)(A2:Option Addr)(c2:Nat)(z2:List Int)(W:World)(hc0:z0.length<=c0)(hm0:c0<=maxLen)(hr0:Rd W W.heap.size A0 (z0.map (Value.int .i64)))(hc1:z1.length<=c1)(hm1:c1<=maxLen)(hr1:Rd W W.heap.size A1 (z1.map (Value.int .i64)))(hc2:z2.length<=c2)(hm2:c2<=maxLen)(hr2:Rd W W.heap.size A2 (z2.map (Value.int .i64))):Calls Try.prog 4 #[.slice A0 z0.length c0,.slice A1 z1.length c1,.slice A2 z2.length c2] W (RetB (.bool true) W):=
 (tL z0 z1 z2).lawB (R:=fun g=>g<W.heap.size) (fun _ h=>h) rfl (fun j x v hx hv=>match j,hx,hv with
  |0,rfl,rfl=> .ofRd hr0 hc0 hm0
  |1,rfl,rfl=> .ofRd hr1 hc1 hm1
  |2,rfl,rfl=> .ofRd hr2 hc2 hm2)
def caL:Nat->List In
 |0=>[]
 |k+1=>caL k++[iK 8 0 ((k:Int)+1)]
def pB(l:List In):Blk:=⟨0,false,33,.box [.int .i64 1,.int .i64 6,.int .i64 0,.int .i64 0,.int .i64 0,.int .i64 0,.int .i64 0,.nils,.nils,.own 1 0 9 0 l.length]⟩
def caB(l:List In):Blk:=⟨0,false,25,.rows 9 l.length (al inC l)⟩
def r1S(N k:Nat):Sm:=⟨[(3,.bptr 0 0),(0,.int .i64 N),(2,.bool false),(4,.int .i64 k)],[(0,pB (caL k)),(1,caB (caL k))],2⟩
def pR(N:Nat):Pg:=⟨1,6,0,0,0,0,0,[],[],caL N++[iK 9 0 0]⟩
theorem ik: ∀k,(caL k).length=k
 |0=>rfl
 |k+1=>by simp[caL,ik k]
theorem Ie(N k:Nat)(hN:N<=4)(hk:k<N):Vc (vC_ 5 0 (r1S N k) [.bd true] .nrm [(0,0),(1,1)] (r1S N (k+1))):=ai (cj (dt ((k:Int)<N)) (cj (i6 (k+1)) (cj (show(0:Nat)=0∧(caL k).length=(caL k).length∧((caL k).length+1)*80<=140737488355328∧(caL k).length+1<=140737488355328 from by rw[ik];omega) (cj (i6 (k+1)) (cj (rf (1:Int)) (cj (rf (6:Int)) (cj (rf (0:Int)) (cj (rf (0:Int)) (cj (rf (0:Int)) (cj (rf (0:Int)) (cj (rf (0:Int)) (cj (rf (0:Nat)) (cj (show(caL k).length+1=(caL (k+1)).length from by rw[ik,ik]) (cj (show(caL k).length+1=(caL (k+1)).length from by rw[ik,ik]) (cj (show ∀(i:Nat),i<(caL k).length+1-> ∀(j:Nat),j<9->(bif Nat.blt i (caL k).length then al inC (caL k) i j else List.getD [aI 8,aI 0,aI 0,AV.bool false,aI 0,AV.bool false,aI 0,AV.str (ByteArray.mk (Array.mk [])),aI (k+1)] ((i-(caL k).length+0)*9+j) AV.junk)=al inC (caL (k+1)) i j from(fun i hi j hj=>(show _=al inC (caL k++[iK 8 0 ((k:Int)+1)]) i j from dv (fun h=>(bV h).symm) (fun h=>by obtain rfl:i=_:=bG (bF.mp hi) (bD.mp h);rw[b6,bH];match j,hj with |0,_=>rfl |1,_=>rfl |2,_=>rfl |3,_=>rfl |4,_=>rfl |5,_=>rfl |6,_=>rfl |7,_=>rfl |8,_=>rfl)))) (cj (rf (N:Int)) (cj (rf false) (cj (rf ((k:Int)+1)) trivial))))))))))))))))))
theorem Ig(N:Nat)(hN:N<=4):Vc (vC_ 5 0 (r1S N N) [.bd false] (.ext 0) [(0,0),(1,1)] (r1S N N)):=ai (cj (df ((N:Int)<N)) (cj (rf (1:Int)) (cj (rf (6:Int)) (cj (rf (0:Int)) (cj (rf (0:Int)) (cj (rf (0:Int)) (cj (rf (0:Int)) (cj (rf (0:Int)) (cj (rf (0:Nat)) (cj (rf ((caL N).length)) (cj (rf ((caL N).length)) (cj (rr ((caL N).length) 9 fun i j=>al inC (caL N) i j) (cj (rf (N:Int)) (cj (rf false) (cj (rf (N:Int)) trivial)))))))))))))))
def fzK:Nat->Bool
 |0=>false
 |_+1=>true
def r2S(N k:Nat)(c:Cf):Sm:=⟨[(3,.bptr 0 0),(5,.bptr 2 0),(0,.int .i64 N),(6,.int .i64 k),(2,.bool false)],[(0,pB (caL N++[iK 9 0 0])),(1,⟨0,fzK k,25,.rows 9 (caL N++[iK 9 0 0]).length (al inC (caL N++[iK 9 0 0]))⟩),(2,⟨0,false,39,.box (cfA c)⟩)],3⟩
def eC(k:Int):En:=⟨k,0,0, -1,k+1,true,false,false⟩
def mC:Nat->Cf
 |0=>c14 0
 |1=>⟨s14 1,[eC 0],[1],0⟩
 |2=>⟨s14 2,[eC 0,eC 1],[1,2],0⟩
 |3=>⟨s14 3,[eC 0,eC 1,eC 2],[2,3],0⟩
 |_=>⟨s14 4,[eC 0,eC 1,eC 2,eC 3],[3,4],0⟩
def mX(N:Nat):Cf:=⟨s14 N,(mC N).b++[⟨N,0,0, -1,N,false,false,false⟩],(mC N).r.take ((mC N).r.length-1),0⟩
def mN(N:Nat):Cf:=⟨(mC N).s,(mC N).b,[],0⟩
theorem oU(N:Nat){Z:Prop}(z:Z):(RF ((caL N++[iK (9:Int) (0:Int) (0:Int)]).length) (RR ((caL N++[iK (9:Int) (0:Int) (0:Int)]).length) 9 (fun i j=>al inC (caL N++[iK (9:Int) (0:Int) (0:Int)]) i j) (RF (0:Int) (RF (0:Int) (RF (0:Int) (RF (0:Int) (RF (0:Nat) (RR 0 1 (fun i j=>aI (List.getD [] i (0:Int))) (RF (0:Nat) Z))))))))):=⟨rfl,fun _ _ _ _=>rfl,rfl,rfl,rfl,rfl,rfl,fun _ _ _ _=>rfl,rfl,z⟩
theorem xg(N:Nat){Z:Prop}(z:Z):(RF (1:Int) (RF (6:Int) (RF (0:Int) (RF (0:Int) (RF (0:Int) (RF (0:Int) (RF (0:Int) (RF (0:Nat) (RF ((caL N++[iK (9:Int) (0:Int) (0:Int)]).length) Z))))))))):=⟨rfl,rfl,rfl,rfl,rfl,rfl,rfl,rfl,rfl,z⟩
theorem fC{Z:Prop}(z:Z):(RF (1:Int) (RF (6:Int) (RF (0:Int) (RF (0:Int) (RF (0:Int) (RF (0:Int) (RF (0:Int) (RF (0:Nat) (RF (0:Nat) Z))))))))):=⟨rfl,rfl,rfl,rfl,rfl,rfl,rfl,rfl,rfl,z⟩
theorem Id(N:Nat)(hN:N<=4)(hk:0<N)(h:pC_ 8 [.agg (pgA (pR N)),.agg (cfA (mC 0)), aI 0] (.tup [.agg (cfA (mC 1)),.bool true]) []):Vc (vC_ 5 1 (r2S N 0 (mC 0)) [.bd true,.cl [.agg (pgA (pR N)),.agg (cfA (mC 0)), aI 0] (.tup [.agg (cfA (mC 1)),.bool true]) []] .nrm [(0,0),(1,1),(2,2)] (r2S N 1 (mC 1))):=ai (cj (dt (((0:Nat):Int)<N)) (fC (oU N (cj (rr 0 1 fun i j=>aI (List.getD [] i (0:Int))) (cj (rf (0:Int)) (cj (rf (0:Nat)) (cj (rr 0 8 fun i j=>al enC [] i j) (cj (rf (0:Nat)) (cj (rr 0 1 fun i j=>aI (List.getD [] i (0:Int))) (cj (rf (0:Int)) (cj (rf (0:Int)) (cj h (cj (i6 ((0:Nat)+1)) (cj (i6 ((0:Nat)+1)) (cj (bi (0:Nat) (1:Nat)) (cj (bi (0:Nat) (1:Nat)) (cj (i6 ((0:Nat)+1)) (xg N (oU N (cj (rr 0 1 fun i j=>aI (List.getD [] i (0:Int))) (cj (rf (1:Int)) (cj (rf (1:Nat)) (cj (rr 1 8 fun i j=>al enC [eC (0:Int)] i j) (cj (rf (1:Nat)) (cj (rr 1 1 fun i j=>aI (List.getD [(1:Int)] i (0:Int))) (cj (rf (0:Int)) (cj (rf (N:Int)) (cj (rf ((1:Nat):Int)) (cj (rf false) trivial)))))))))))))))))))))))))))))
theorem Ep{Z:Prop}(z:Z):(RR 0 1 (fun i j=>aI (List.getD [] i (0:Int))) (RF (1:Int) (RF (1:Nat) (RR 1 8 (fun i j=>al enC [eC (0:Int)] i j) (RF (1:Nat) (RR 1 1 (fun i j=>aI (List.getD [(1:Int)] i (0:Int))) (RF (0:Int) (RF (0:Int) Z)))))))):=⟨fun _ _ _ _=>rfl,rfl,rfl,fun _ _ _ _=>rfl,rfl,fun _ _ _ _=>rfl,rfl,rfl,z⟩
theorem Ic(N:Nat)(hN:N<=4)(hk:1<N)(h:pC_ 8 [.agg (pgA (pR N)),.agg (cfA (mC 1)), aI 0] (.tup [.agg (cfA (mC 2)),.bool true]) []):Vc (vC_ 5 1 (r2S N 1 (mC 1)) [.bd true,.cl [.agg (pgA (pR N)),.agg (cfA (mC 1)), aI 0] (.tup [.agg (cfA (mC 2)),.bool true]) []] .nrm [(0,0),(1,1),(2,2)] (r2S N 2 (mC 2))):=ai (cj (dt (((1:Nat):Int)<N)) (fC (oU N (Ep (cj h (cj (i6 ((1:Nat)+1)) (cj (i6 ((1:Nat)+1)) (cj (bi (1:Nat) (2:Nat)) (cj (bi (1:Nat) (2:Nat)) (cj (i6 ((1:Nat)+1)) (xg N (oU N (cj (rr 0 1 fun i j=>aI (List.getD [] i (0:Int))) (cj (rf (2:Int)) (cj (rf (2:Nat)) (cj (rr 2 8 fun i j=>al enC [eC (0:Int),eC (1:Int)] i j) (cj (rf (2:Nat)) (cj (rr 2 1 fun i j=>aI (List.getD [(1:Int),(2:Int)] i (0:Int))) (cj (rf (0:Int)) (cj (rf (N:Int)) (cj (rf ((2:Nat):Int)) (cj (rf false) trivial))))))))))))))))))))))
theorem Eo{Z:Prop}(z:Z):(RR 0 1 (fun i j=>aI (List.getD [] i (0:Int))) (RF (2:Int) (RF (2:Nat) (RR 2 8 (fun i j=>al enC [eC (0:Int),eC (1:Int)] i j) (RF (2:Nat) (RR 2 1 (fun i j=>aI (List.getD [(1:Int),(2:Int)] i (0:Int))) (RF (0:Int) (RF (0:Int) Z)))))))):=⟨fun _ _ _ _=>rfl,rfl,rfl,fun _ _ _ _=>rfl,rfl,fun _ _ _ _=>rfl,rfl,rfl,z⟩
theorem Ib(N:Nat)(hN:N<=4)(hk:2<N)(h:pC_ 8 [.agg (pgA (pR N)),.agg (cfA (mC 2)), aI 0] (.tup [.agg (cfA (mC 3)),.bool true]) []):Vc (vC_ 5 1 (r2S N 2 (mC 2)) [.bd true,.cl [.agg (pgA (pR N)),.agg (cfA (mC 2)), aI 0] (.tup [.agg (cfA (mC 3)),.bool true]) []] .nrm [(0,0),(1,1),(2,2)] (r2S N 3 (mC 3))):=ai (cj (dt (((2:Nat):Int)<N)) (fC (oU N (Eo (cj h (cj (i6 ((2:Nat)+1)) (cj (i6 ((2:Nat)+1)) (cj (bi (2:Nat) (3:Nat)) (cj (bi (2:Nat) (3:Nat)) (cj (i6 ((2:Nat)+1)) (xg N (oU N (cj (rr 0 1 fun i j=>aI (List.getD [] i (0:Int))) (cj (rf (3:Int)) (cj (rf (3:Nat)) (cj (rr 3 8 fun i j=>al enC [eC (0:Int),eC (1:Int),eC (2:Int)] i j) (cj (rf (2:Nat)) (cj (rr 2 1 fun i j=>aI (List.getD [(2:Int),(3:Int)] i (0:Int))) (cj (rf (0:Int)) (cj (rf (N:Int)) (cj (rf ((3:Nat):Int)) (cj (rf false) trivial))))))))))))))))))))))
theorem Em{Z:Prop}(z:Z):(RR 0 1 (fun i j=>aI (List.getD [] i (0:Int))) (RF (3:Int) (RF (3:Nat) (RR 3 8 (fun i j=>al enC [eC (0:Int),eC (1:Int),eC (2:Int)] i j) (RF (2:Nat) (RR 2 1 (fun i j=>aI (List.getD [(2:Int),(3:Int)] i (0:Int))) (RF (0:Int) (RF (0:Int) Z)))))))):=⟨fun _ _ _ _=>rfl,rfl,rfl,fun _ _ _ _=>rfl,rfl,fun _ _ _ _=>rfl,rfl,rfl,z⟩
theorem Ia(N:Nat)(hN:N<=4)(hk:3<N)(h:pC_ 8 [.agg (pgA (pR N)),.agg (cfA (mC 3)), aI 0] (.tup [.agg (cfA (mC 4)),.bool true]) []):Vc (vC_ 5 1 (r2S N 3 (mC 3)) [.bd true,.cl [.agg (pgA (pR N)),.agg (cfA (mC 3)), aI 0] (.tup [.agg (cfA (mC 4)),.bool true]) []] .nrm [(0,0),(1,1),(2,2)] (r2S N 4 (mC 4))):=ai (cj (dt (((3:Nat):Int)<N)) (fC (oU N (Em (cj h (cj (i6 ((3:Nat)+1)) (cj (i6 ((3:Nat)+1)) (cj (bi (3:Nat) (4:Nat)) (cj (bi (3:Nat) (4:Nat)) (cj (i6 ((3:Nat)+1)) (xg N (oU N (cj (rr 0 1 fun i j=>aI (List.getD [] i (0:Int))) (cj (rf (4:Int)) (cj (rf (4:Nat)) (cj (rr 4 8 fun i j=>al enC [eC (0:Int),eC (1:Int),eC (2:Int),eC (3:Int)] i j) (cj (rf (2:Nat)) (cj (rr 2 1 fun i j=>aI (List.getD [(3:Int),(4:Int)] i (0:Int))) (cj (rf (0:Int)) (cj (rf (N:Int)) (cj (rf ((4:Nat):Int)) (cj (rf false) trivial))))))))))))))))))))))
theorem H9(N:Nat)(c:Cf):Vc (vC_ 5 1 (r2S (N+1) (N+1) c) [.bd false] (.ext 2) [(0,0),(1,1),(2,2)] (r2S (N+1) (N+1) c)):=ai (cj (df ((↑(N+1):Int)<(↑(N+1):Int))) (cj (rf (1:Int)) (cj (rf (6:Int)) (cj (rf (0:Int)) (cj (rf (0:Int)) (cj (rf (0:Int)) (cj (rf (0:Int)) (cj (rf (0:Int)) (cj (rf (0:Nat)) (cj (rf ((caL (N+1)++[iK (9:Int) (0:Int) (0:Int)]).length)) (cj (rf ((caL (N+1)++[iK (9:Int) (0:Int) (0:Int)]).length)) (cj (rr ((caL (N+1)++[iK (9:Int) (0:Int) (0:Int)]).length) 9 fun i j=>al inC (caL (N+1)++[iK (9:Int) (0:Int) (0:Int)]) i j) (cj (rf c.s.r0) (cj (rf c.s.r1) (cj (rf c.s.r2) (cj (rf c.s.r3) (cj (rf c.s.m.length) (cj (rr c.s.m.length 1 fun i j=>aI (List.getD c.s.m i 0)) (cj (rf c.s.st.length) (cj (rr c.s.st.length 1 fun i j=>aI (List.getD c.s.st i 0)) (cj (rf c.s.pc) (cj (rf c.b.length) (cj (rr c.b.length 8 fun i j=>al enC c.b i j) (cj (rf c.r.length) (cj (rr c.r.length 1 fun i j=>aI (c.r.getD i 0)) (cj (rf c.e) (cj (rf (↑(N+1):Int)) (cj (rf (↑(N+1):Int)) (cj (rf false) trivial)))))))))))))))))))))))))))))
theorem AR{Z:Prop}(z:Z):(RF (2:Nat) (RR 2 9 (fun i j=>al inC [iK (8:Int) (0:Int) ((↑(nat_lit 0):Int)+1),iK (9:Int) (0:Int) (0:Int)] i j) (RF (0:Int) (RF (0:Int) (RF (0:Int) (RF (0:Int) (RF (0:Nat) (RR 0 1 (fun i j=>aI (List.getD [] i (0:Int))) (RF (0:Nat) Z))))))))):=⟨rfl,fun _ _ _ _=>rfl,rfl,rfl,rfl,rfl,rfl,fun _ _ _ _=>rfl,rfl,z⟩
theorem xf{Z:Prop}(z:Z):(RF (0:Int) (RF (0:Int) (RF (0:Int) (RF (0:Int) (RF (0:Nat) (RR 0 1 (fun i j=>aI (List.getD [] i (0:Int))) (RF (0:Nat) (RR 0 1 (fun i j=>aI (List.getD [] i (0:Int))) (RF (0:Int) Z))))))))):=⟨rfl,rfl,rfl,rfl,rfl,fun _ _ _ _=>rfl,rfl,fun _ _ _ _=>rfl,rfl,z⟩
theorem xe{Z:Prop}(z:Z):(RF (0:Int) (RF (0:Int) (RF (0:Int) (RF (0:Int) (RF (0:Nat) (RF (0:Nat) (RF (0:Int) Z))))))):=⟨rfl,rfl,rfl,rfl,rfl,rfl,rfl,z⟩
abbrev xX:Prop:=PureC Try.prog 7 [.agg (s8R (s14 0))] (.agg (cfA (c14 0))) []
abbrev yh:Orc:= .cl [.agg (s8R (s14 0))] (.agg (cfA (c14 0))) []
theorem Fw(n:Int)(hn:bits .and .i64 n 3+1=(1:Nat))(h1:oL_ 5 0 (r1S 1 0).st (.ext 0) (r1S 1 1).st)(h2:xX)(h3:oL_ 5 1 (r2S 1 0 (mC 0)).st (.ext 2) (r2S 1 1 (mC 1)).st)(h4:pC_ 8 [.agg (pgA (pR 1)),.agg (cfA (mC 1)), aI 0] (.tup [.agg (cfA (mX 1)),.bool true]) [])(h5:pC_ 9 [.agg (pgA (pR 1)),.agg (cfA (mC 1))] (aI 1) [])(h6:pC_ 9 [.agg (pgA (pR 1)),.agg (cfA (mN 1))] (aI 3) []):Vc (vF_ 5 [aI n] [.lp [(0,0)] (r1S 1 0) (.ext 0) (r1S 1 1),yh,.lp [(0,0),(1,1),(2,3)] (r2S 1 0 (mC 0)) (.ext 2) (r2S 1 1 (mC 1)),.cl [.agg (pgA (pR 1)),.agg (cfA (mC 1)), aI 0] (.tup [.agg (cfA (mX 1)),.bool true]) [],.cl [.agg (pgA (pR 1)),.agg (cfA (mC 1))] (aI 1) [],.cl [.agg (pgA (pR 1)),.agg (cfA (mN 1))] (aI 3) [],.cl [] (.bool true) []] [] (.bool true) []):=ai (cj (show inK IntKind.i64 (Go.bits Go.BinOp.and IntKind.i64 n (3:Int)+1) from by rw[hn];exact eS (by decide) (by decide)) (fC (cj (rf (0:Nat)) (cj hn (cj (rf false) (cj (rf (0:Int)) (cj h1 (cj (pv ((0:Nat)=0∧(1:Nat)=1∧(160:Nat)<=140737488355328∧(2:Nat)<=140737488355328)) (xe (cj h2 (cj (rf (1:Int)) (cj (rf (6:Int)) (cj (rf (0:Int)) (cj (rf (0:Int)) (cj (rf (0:Int)) (cj (rf (0:Int)) (cj (rf (0:Int)) (cj (rf (0:Nat)) (cj (rf (2:Nat)) (cj (rf (2:Nat)) (cj (show ∀(i:Nat),i<2-> ∀(j:Nat),j<9->(bif Nat.blt i (1:Nat) then al inC [iK (8:Int) (0:Int) ((↑(nat_lit 0):Int)+1)] i j else List.getD [aI 9,aI 0,aI 0,AV.bool false,aI 0,AV.bool false,aI 0,AV.str (ByteArray.mk (Array.mk [])),aI 0] ((i-1+0)*9+j) AV.junk)=al inC [iK (8:Int) (0:Int) ((↑(nat_lit 0):Int)+1),iK (9:Int) (0:Int) (0:Int)] i j from(fun i hi j hj=>match i,hi,j,hj with |0,_,0,_=>rfl |0,_,1,_=>rfl |0,_,2,_=>rfl |0,_,3,_=>rfl |0,_,4,_=>rfl |0,_,5,_=>rfl |0,_,6,_=>rfl |0,_,7,_=>rfl |0,_,8,_=>rfl |1,_,0,_=>rfl |1,_,1,_=>rfl |1,_,2,_=>rfl |1,_,3,_=>rfl |1,_,4,_=>rfl |1,_,5,_=>rfl |1,_,6,_=>rfl |1,_,7,_=>rfl |1,_,8,_=>rfl)) (xf (cj (rf (0:Nat)) (cj (rr 0 8 fun i j=>al enC [] i j) (cj (rf (0:Nat)) (cj (rr 0 1 fun i j=>aI (List.getD [] i (0:Int))) (cj (rf (0:Int)) (cj (rf ((1:Nat):Int)) (cj (rf (0:Int)) (cj (rf false) (cj h3 (fC (AR (Ep (cj h4 (cj (i6 ((if(2:Int)<((1:Nat):Int) then(2:Int) else((1:Nat):Int))-1)) (fC (AR (cj (rr 0 1 fun i j=>aI (List.getD [] i (0:Int))) (cj (rf (1:Int)) (cj (rf (1:Nat)) (cj (rr 1 8 fun i j=>al enC [eC (0:Int)] i j) (cj (rf (1:Nat)) (cj (rr 1 1 fun i j=>aI (List.getD [(1:Int)] i (0:Int))) (cj (rf (0:Int)) (cj h5 (fC (AR (cj (rr 0 1 fun i j=>aI (List.getD [] i (0:Int))) (cj (rf (1:Int)) (cj (rf (1:Nat)) (cj (rr 1 8 fun i j=>al enC [eC (0:Int)] i j) (cj (rf (0:Nat)) (cj (rf (0:Int)) (cj h6 (cj (i6 ((1:Nat)+2)) (cj bo (cj (rf true) trivial))))))))))))))))))))))))))))))))))))))))))))))))))))))))))
theorem AQ{Z:Prop}(z:Z):(RF (3:Nat) (RR 3 9 (fun i j=>al inC [iK (8:Int) (0:Int) ((↑(nat_lit 0):Int)+1),iK (8:Int) (0:Int) ((↑(nat_lit 1):Int)+1),iK (9:Int) (0:Int) (0:Int)] i j) (RF (0:Int) (RF (0:Int) (RF (0:Int) (RF (0:Int) (RF (0:Nat) (RR 0 1 (fun i j=>aI (List.getD [] i (0:Int))) (RF (0:Nat) Z))))))))):=⟨rfl,fun _ _ _ _=>rfl,rfl,rfl,rfl,rfl,rfl,fun _ _ _ _=>rfl,rfl,z⟩
theorem Fv(n:Int)(hn:bits .and .i64 n 3+1=(2:Nat))(h1:oL_ 5 0 (r1S 2 0).st (.ext 0) (r1S 2 2).st)(h2:xX)(h3:oL_ 5 1 (r2S 2 0 (mC 0)).st (.ext 2) (r2S 2 2 (mC 2)).st)(h4:pC_ 8 [.agg (pgA (pR 2)),.agg (cfA (mC 2)), aI 0] (.tup [.agg (cfA (mX 2)),.bool true]) [])(h5:pC_ 9 [.agg (pgA (pR 2)),.agg (cfA (mC 2))] (aI 1) [])(h6:pC_ 9 [.agg (pgA (pR 2)),.agg (cfA (mN 2))] (aI 4) []):Vc (vF_ 5 [aI n] [.lp [(0,0)] (r1S 2 0) (.ext 0) (r1S 2 2),yh,.lp [(0,0),(1,1),(2,3)] (r2S 2 0 (mC 0)) (.ext 2) (r2S 2 2 (mC 2)),.cl [.agg (pgA (pR 2)),.agg (cfA (mC 2)), aI 0] (.tup [.agg (cfA (mX 2)),.bool true]) [],.cl [.agg (pgA (pR 2)),.agg (cfA (mC 2))] (aI 1) [],.cl [.agg (pgA (pR 2)),.agg (cfA (mN 2))] (aI 4) [],.cl [] (.bool true) []] [] (.bool true) []):=ai (cj (show inK IntKind.i64 (Go.bits Go.BinOp.and IntKind.i64 n (3:Int)+1) from by rw[hn];exact eS (by decide) (by decide)) (fC (cj (rf (0:Nat)) (cj hn (cj (rf false) (cj (rf (0:Int)) (cj h1 (cj (pv ((0:Nat)=0∧(2:Nat)=2∧(240:Nat)<=140737488355328∧(3:Nat)<=140737488355328)) (xe (cj h2 (cj (rf (1:Int)) (cj (rf (6:Int)) (cj (rf (0:Int)) (cj (rf (0:Int)) (cj (rf (0:Int)) (cj (rf (0:Int)) (cj (rf (0:Int)) (cj (rf (0:Nat)) (cj (rf (3:Nat)) (cj (rf (3:Nat)) (cj (show ∀(i:Nat),i<3-> ∀(j:Nat),j<9->(bif Nat.blt i (2:Nat) then al inC [iK (8:Int) (0:Int) ((↑(nat_lit 0):Int)+1),iK (8:Int) (0:Int) ((↑(nat_lit 1):Int)+1)] i j else List.getD [aI 9,aI 0,aI 0,AV.bool false,aI 0,AV.bool false,aI 0,AV.str (ByteArray.mk (Array.mk [])),aI 0] ((i-2+0)*9+j) AV.junk)=al inC [iK (8:Int) (0:Int) ((↑(nat_lit 0):Int)+1),iK (8:Int) (0:Int) ((↑(nat_lit 1):Int)+1),iK (9:Int) (0:Int) (0:Int)] i j from(fun i hi j hj=>match i,hi,j,hj with |0,_,0,_=>rfl |0,_,1,_=>rfl |0,_,2,_=>rfl |0,_,3,_=>rfl |0,_,4,_=>rfl |0,_,5,_=>rfl |0,_,6,_=>rfl |0,_,7,_=>rfl |0,_,8,_=>rfl |1,_,0,_=>rfl |1,_,1,_=>rfl |1,_,2,_=>rfl |1,_,3,_=>rfl |1,_,4,_=>rfl |1,_,5,_=>rfl |1,_,6,_=>rfl |1,_,7,_=>rfl |1,_,8,_=>rfl |2,_,0,_=>rfl |2,_,1,_=>rfl |2,_,2,_=>rfl |2,_,3,_=>rfl |2,_,4,_=>rfl |2,_,5,_=>rfl |2,_,6,_=>rfl |2,_,7,_=>rfl |2,_,8,_=>rfl)) (xf (cj (rf (0:Nat)) (cj (rr 0 8 fun i j=>al enC [] i j) (cj (rf (0:Nat)) (cj (rr 0 1 fun i j=>aI (List.getD [] i (0:Int))) (cj (rf (0:Int)) (cj (rf ((2:Nat):Int)) (cj (rf (0:Int)) (cj (rf false) (cj h3 (fC (AQ (Eo (cj h4 (cj (i6 ((if(2:Int)<((2:Nat):Int) then(2:Int) else((2:Nat):Int))-1)) (fC (AQ (cj (rr 0 1 fun i j=>aI (List.getD [] i (0:Int))) (cj (rf (2:Int)) (cj (rf (2:Nat)) (cj (rr 2 8 fun i j=>al enC [eC (0:Int),eC (1:Int)] i j) (cj (rf (2:Nat)) (cj (rr 2 1 fun i j=>aI (List.getD [(1:Int),(2:Int)] i (0:Int))) (cj (rf (0:Int)) (cj h5 (fC (AQ (cj (rr 0 1 fun i j=>aI (List.getD [] i (0:Int))) (cj (rf (2:Int)) (cj (rf (2:Nat)) (cj (rr 2 8 fun i j=>al enC [eC (0:Int),eC (1:Int)] i j) (cj (rf (0:Nat)) (cj (rf (0:Int)) (cj h6 (cj (i6 ((2:Nat)+2)) (cj bo (cj (rf true) trivial))))))))))))))))))))))))))))))))))))))))))))))))))))))))))
theorem uo{Z:Prop}(z:Z):(RF (4:Nat) (RR 4 9 (fun i j=>al inC [iK (8:Int) (0:Int) ((↑(nat_lit 0):Int)+1),iK (8:Int) (0:Int) ((↑(nat_lit 1):Int)+1),iK (8:Int) (0:Int) ((↑(nat_lit 2):Int)+1),iK (9:Int) (0:Int) (0:Int)] i j) (RF (0:Int) (RF (0:Int) (RF (0:Int) (RF (0:Int) (RF (0:Nat) (RR 0 1 (fun i j=>aI (List.getD [] i (0:Int))) (RF (0:Nat) Z))))))))):=⟨rfl,fun _ _ _ _=>rfl,rfl,rfl,rfl,rfl,rfl,fun _ _ _ _=>rfl,rfl,z⟩
theorem Fu(n:Int)(hn:bits .and .i64 n 3+1=(3:Nat))(h1:oL_ 5 0 (r1S 3 0).st (.ext 0) (r1S 3 3).st)(h2:xX)(h3:oL_ 5 1 (r2S 3 0 (mC 0)).st (.ext 2) (r2S 3 3 (mC 3)).st)(h4:pC_ 8 [.agg (pgA (pR 3)),.agg (cfA (mC 3)), aI 0] (.tup [.agg (cfA (mX 3)),.bool true]) [])(h5:pC_ 9 [.agg (pgA (pR 3)),.agg (cfA (mC 3))] (aI 1) [])(h6:pC_ 9 [.agg (pgA (pR 3)),.agg (cfA (mN 3))] (aI 5) []):Vc (vF_ 5 [aI n] [.lp [(0,0)] (r1S 3 0) (.ext 0) (r1S 3 3),yh,.lp [(0,0),(1,1),(2,3)] (r2S 3 0 (mC 0)) (.ext 2) (r2S 3 3 (mC 3)),.cl [.agg (pgA (pR 3)),.agg (cfA (mC 3)), aI 0] (.tup [.agg (cfA (mX 3)),.bool true]) [],.cl [.agg (pgA (pR 3)),.agg (cfA (mC 3))] (aI 1) [],.cl [.agg (pgA (pR 3)),.agg (cfA (mN 3))] (aI 5) [],.cl [] (.bool true) []] [] (.bool true) []):=ai (cj (show inK IntKind.i64 (Go.bits Go.BinOp.and IntKind.i64 n (3:Int)+1) from by rw[hn];exact eS (by decide) (by decide)) (fC (cj (rf (0:Nat)) (cj hn (cj (rf false) (cj (rf (0:Int)) (cj h1 (cj (pv ((0:Nat)=0∧(3:Nat)=3∧(320:Nat)<=140737488355328∧(4:Nat)<=140737488355328)) (xe (cj h2 (cj (rf (1:Int)) (cj (rf (6:Int)) (cj (rf (0:Int)) (cj (rf (0:Int)) (cj (rf (0:Int)) (cj (rf (0:Int)) (cj (rf (0:Int)) (cj (rf (0:Nat)) (cj (rf (4:Nat)) (cj (rf (4:Nat)) (cj (show ∀(i:Nat),i<4-> ∀(j:Nat),j<9->(bif Nat.blt i (3:Nat) then al inC [iK (8:Int) (0:Int) ((↑(nat_lit 0):Int)+1),iK (8:Int) (0:Int) ((↑(nat_lit 1):Int)+1),iK (8:Int) (0:Int) ((↑(nat_lit 2):Int)+1)] i j else List.getD [aI 9,aI 0,aI 0,AV.bool false,aI 0,AV.bool false,aI 0,AV.str (ByteArray.mk (Array.mk [])),aI 0] ((i-3+0)*9+j) AV.junk)=al inC [iK (8:Int) (0:Int) ((↑(nat_lit 0):Int)+1),iK (8:Int) (0:Int) ((↑(nat_lit 1):Int)+1),iK (8:Int) (0:Int) ((↑(nat_lit 2):Int)+1),iK (9:Int) (0:Int) (0:Int)] i j from(fun i hi j hj=>match i,hi,j,hj with |0,_,0,_=>rfl |0,_,1,_=>rfl |0,_,2,_=>rfl |0,_,3,_=>rfl |0,_,4,_=>rfl |0,_,5,_=>rfl |0,_,6,_=>rfl |0,_,7,_=>rfl |0,_,8,_=>rfl |1,_,0,_=>rfl |1,_,1,_=>rfl |1,_,2,_=>rfl |1,_,3,_=>rfl |1,_,4,_=>rfl |1,_,5,_=>rfl |1,_,6,_=>rfl |1,_,7,_=>rfl |1,_,8,_=>rfl |2,_,0,_=>rfl |2,_,1,_=>rfl |2,_,2,_=>rfl |2,_,3,_=>rfl |2,_,4,_=>rfl |2,_,5,_=>rfl |2,_,6,_=>rfl |2,_,7,_=>rfl |2,_,8,_=>rfl |3,_,0,_=>rfl |3,_,1,_=>rfl |3,_,2,_=>rfl |3,_,3,_=>rfl |3,_,4,_=>rfl |3,_,5,_=>rfl |3,_,6,_=>rfl |3,_,7,_=>rfl |3,_,8,_=>rfl)) (xf (cj (rf (0:Nat)) (cj (rr 0 8 fun i j=>al enC [] i j) (cj (rf (0:Nat)) (cj (rr 0 1 fun i j=>aI (List.getD [] i (0:Int))) (cj (rf (0:Int)) (cj (rf ((3:Nat):Int)) (cj (rf (0:Int)) (cj (rf false) (cj h3 (fC (uo (Em (cj h4 (cj (i6 ((if(2:Int)<((3:Nat):Int) then(2:Int) else((3:Nat):Int))-1)) (fC (uo (cj (rr 0 1 fun i j=>aI (List.getD [] i (0:Int))) (cj (rf (3:Int)) (cj (rf (3:Nat)) (cj (rr 3 8 fun i j=>al enC [eC (0:Int),eC (1:Int),eC (2:Int)] i j) (cj (rf (2:Nat)) (cj (rr 2 1 fun i j=>aI (List.getD [(2:Int),(3:Int)] i (0:Int))) (cj (rf (0:Int)) (cj h5 (fC (uo (cj (rr 0 1 fun i j=>aI (List.getD [] i (0:Int))) (cj (rf (3:Int)) (cj (rf (3:Nat)) (cj (rr 3 8 fun i j=>al enC [eC (0:Int),eC (1:Int),eC (2:Int)] i j) (cj (rf (0:Nat)) (cj (rf (0:Int)) (cj h6 (cj (i6 ((3:Nat)+2)) (cj bo (cj (rf true) trivial))))))))))))))))))))))))))))))))))))))))))))))))))))))))))
theorem un{Z:Prop}(z:Z):(RF (5:Nat) (RR 5 9 (fun i j=>al inC [iK (8:Int) (0:Int) ((↑(nat_lit 0):Int)+1),iK (8:Int) (0:Int) ((↑(nat_lit 1):Int)+1),iK (8:Int) (0:Int) ((↑(nat_lit 2):Int)+1),iK (8:Int) (0:Int) ((↑(nat_lit 3):Int)+1),iK (9:Int) (0:Int) (0:Int)] i j) (RF (0:Int) (RF (0:Int) (RF (0:Int) (RF (0:Int) (RF (0:Nat) (RR 0 1 (fun i j=>aI (List.getD [] i (0:Int))) (RF (0:Nat) Z))))))))):=⟨rfl,fun _ _ _ _=>rfl,rfl,rfl,rfl,rfl,rfl,fun _ _ _ _=>rfl,rfl,z⟩
theorem Ft(n:Int)(hn:bits .and .i64 n 3+1=(4:Nat))(h1:oL_ 5 0 (r1S 4 0).st (.ext 0) (r1S 4 4).st)(h2:xX)(h3:oL_ 5 1 (r2S 4 0 (mC 0)).st (.ext 2) (r2S 4 4 (mC 4)).st)(h4:pC_ 8 [.agg (pgA (pR 4)),.agg (cfA (mC 4)), aI 0] (.tup [.agg (cfA (mX 4)),.bool true]) [])(h5:pC_ 9 [.agg (pgA (pR 4)),.agg (cfA (mC 4))] (aI 1) [])(h6:pC_ 9 [.agg (pgA (pR 4)),.agg (cfA (mN 4))] (aI 6) []):Vc (vF_ 5 [aI n] [.lp [(0,0)] (r1S 4 0) (.ext 0) (r1S 4 4),yh,.lp [(0,0),(1,1),(2,3)] (r2S 4 0 (mC 0)) (.ext 2) (r2S 4 4 (mC 4)),.cl [.agg (pgA (pR 4)),.agg (cfA (mC 4)), aI 0] (.tup [.agg (cfA (mX 4)),.bool true]) [],.cl [.agg (pgA (pR 4)),.agg (cfA (mC 4))] (aI 1) [],.cl [.agg (pgA (pR 4)),.agg (cfA (mN 4))] (aI 6) [],.cl [] (.bool true) []] [] (.bool true) []):=ai (cj (show inK IntKind.i64 (Go.bits Go.BinOp.and IntKind.i64 n (3:Int)+1) from by rw[hn];exact eS (by decide) (by decide)) (fC (cj (rf (0:Nat)) (cj hn (cj (rf false) (cj (rf (0:Int)) (cj h1 (cj (pv ((0:Nat)=0∧(4:Nat)=4∧(400:Nat)<=140737488355328∧(5:Nat)<=140737488355328)) (xe (cj h2 (cj (rf (1:Int)) (cj (rf (6:Int)) (cj (rf (0:Int)) (cj (rf (0:Int)) (cj (rf (0:Int)) (cj (rf (0:Int)) (cj (rf (0:Int)) (cj (rf (0:Nat)) (cj (rf (5:Nat)) (cj (rf (5:Nat)) (cj (show ∀(i:Nat),i<5-> ∀(j:Nat),j<9->(bif Nat.blt i (4:Nat) then al inC [iK (8:Int) (0:Int) ((↑(nat_lit 0):Int)+1),iK (8:Int) (0:Int) ((↑(nat_lit 1):Int)+1),iK (8:Int) (0:Int) ((↑(nat_lit 2):Int)+1),iK (8:Int) (0:Int) ((↑(nat_lit 3):Int)+1)] i j else List.getD [aI 9,aI 0,aI 0,AV.bool false,aI 0,AV.bool false,aI 0,AV.str (ByteArray.mk (Array.mk [])),aI 0] ((i-4+0)*9+j) AV.junk)=al inC [iK (8:Int) (0:Int) ((↑(nat_lit 0):Int)+1),iK (8:Int) (0:Int) ((↑(nat_lit 1):Int)+1),iK (8:Int) (0:Int) ((↑(nat_lit 2):Int)+1),iK (8:Int) (0:Int) ((↑(nat_lit 3):Int)+1),iK (9:Int) (0:Int) (0:Int)] i j from(fun i hi j hj=>match i,hi,j,hj with |0,_,0,_=>rfl |0,_,1,_=>rfl |0,_,2,_=>rfl |0,_,3,_=>rfl |0,_,4,_=>rfl |0,_,5,_=>rfl |0,_,6,_=>rfl |0,_,7,_=>rfl |0,_,8,_=>rfl |1,_,0,_=>rfl |1,_,1,_=>rfl |1,_,2,_=>rfl |1,_,3,_=>rfl |1,_,4,_=>rfl |1,_,5,_=>rfl |1,_,6,_=>rfl |1,_,7,_=>rfl |1,_,8,_=>rfl |2,_,0,_=>rfl |2,_,1,_=>rfl |2,_,2,_=>rfl |2,_,3,_=>rfl |2,_,4,_=>rfl |2,_,5,_=>rfl |2,_,6,_=>rfl |2,_,7,_=>rfl |2,_,8,_=>rfl |3,_,0,_=>rfl |3,_,1,_=>rfl |3,_,2,_=>rfl |3,_,3,_=>rfl |3,_,4,_=>rfl |3,_,5,_=>rfl |3,_,6,_=>rfl |3,_,7,_=>rfl |3,_,8,_=>rfl |4,_,0,_=>rfl |4,_,1,_=>rfl |4,_,2,_=>rfl |4,_,3,_=>rfl |4,_,4,_=>rfl |4,_,5,_=>rfl |4,_,6,_=>rfl |4,_,7,_=>rfl |4,_,8,_=>rfl)) (xf (cj (rf (0:Nat)) (cj (rr 0 8 fun i j=>al enC [] i j) (cj (rf (0:Nat)) (cj (rr 0 1 fun i j=>aI (List.getD [] i (0:Int))) (cj (rf (0:Int)) (cj (rf ((4:Nat):Int)) (cj (rf (0:Int)) (cj (rf false) (cj h3 (fC (un (cj (rr 0 1 fun i j=>aI (List.getD [] i (0:Int))) (cj (rf (4:Int)) (cj (rf (4:Nat)) (cj (rr 4 8 fun i j=>al enC [eC (0:Int),eC (1:Int),eC (2:Int),eC (3:Int)] i j) (cj (rf (2:Nat)) (cj (rr 2 1 fun i j=>aI (List.getD [(3:Int),(4:Int)] i (0:Int))) (cj (rf (0:Int)) (cj (rf (0:Int)) (cj h4 (cj (i6 ((if(2:Int)<((4:Nat):Int) then(2:Int) else((4:Nat):Int))-1)) (fC (un (cj (rr 0 1 fun i j=>aI (List.getD [] i (0:Int))) (cj (rf (4:Int)) (cj (rf (4:Nat)) (cj (rr 4 8 fun i j=>al enC [eC (0:Int),eC (1:Int),eC (2:Int),eC (3:Int)] i j) (cj (rf (2:Nat)) (cj (rr 2 1 fun i j=>aI (List.getD [(3:Int),(4:Int)] i (0:Int))) (cj (rf (0:Int)) (cj h5 (fC (un (cj (rr 0 1 fun i j=>aI (List.getD [] i (0:Int))) (cj (rf (4:Int)) (cj (rf (4:Nat)) (cj (rr 4 8 fun i j=>al enC [eC (0:Int),eC (1:Int),eC (2:Int),eC (3:Int)] i j) (cj (rf (0:Nat)) (cj (rf (0:Int)) (cj h6 (cj (i6 ((4:Nat)+2)) (cj bo (cj (rf true) trivial)))))))))))))))))))))))))))))))))))))))))))))))))))))))))))))))))
theorem ftQ: ∀(N k:Nat),N<=4->k<N->pC_ 8 [.agg (pgA (pR N)),.agg (cfA (mC k)),.int .i64 0] (.tup [.agg (cfA (mC (k+1))),.bool true]) []
 |1,0,_,_=>ftY (aN (by kernel_rfl)) (by decide) (by decide) (by decide) (by decide) (by decide) (by decide) (by kernel_rfl)
 |2,0,_,_=>ftY (aN (by kernel_rfl)) (by decide) (by decide) (by decide) (by decide) (by decide) (by decide) (by kernel_rfl)
 |2,1,_,_=>ftY (aN (by kernel_rfl)) (by decide) (by decide) (by decide) (by decide) (by decide) (by decide) (by kernel_rfl)
 |3,0,_,_=>ftY (aN (by kernel_rfl)) (by decide) (by decide) (by decide) (by decide) (by decide) (by decide) (by kernel_rfl)
 |3,1,_,_=>ftY (aN (by kernel_rfl)) (by decide) (by decide) (by decide) (by decide) (by decide) (by decide) (by kernel_rfl)
 |3,2,_,_=>ftY (aN (by kernel_rfl)) (by decide) (by decide) (by decide) (by decide) (by decide) (by decide) (by kernel_rfl)
 |4,0,_,_=>ftY (aN (by kernel_rfl)) (by decide) (by decide) (by decide) (by decide) (by decide) (by decide) (by kernel_rfl)
 |4,1,_,_=>ftY (aN (by kernel_rfl)) (by decide) (by decide) (by decide) (by decide) (by decide) (by decide) (by kernel_rfl)
 |4,2,_,_=>ftY (aN (by kernel_rfl)) (by decide) (by decide) (by decide) (by decide) (by decide) (by decide) (by kernel_rfl)
 |4,3,_,_=>ftY (aN (by kernel_rfl)) (by decide) (by decide) (by decide) (by decide) (by decide) (by decide) (by kernel_rfl)
 |0,_,_,h=>absurd h (g4 _)
 |1,k+1,_,h=>absurd h (by omega)
 |2,k+2,_,h=>absurd h (by omega)
 |3,k+3,_,h=>absurd h (by omega)
 |4,k+4,_,h=>absurd h (by omega)
 |N+5,_,h,_=>absurd h (by omega)
theorem li(N:Nat)(hN:N<=4):oL_ 5 0 (r1S N 0).st (.ext 0) (r1S N N).st:=
 Ok.loop (P:=Try.prog) (nt:=cJ Try.prog 5) (c:=lpC Try.prog 5 0) (F:=fun k=>r1S N k) (m:=N) (x:= .ext 0) (J:=r1S N N) (fun k hk=>Ok.vc (Ie N k hN hk)) (Ok.vc (Ig N hN)) (by simp)
theorem vh(N:Nat)(hN:N<=4)(k:Nat)(hk:k<N):Ok Try.prog (cJ Try.prog 5) (lpC Try.prog 5 1) (r2S N k (mC k)).st .nrm (r2S N (k+1) (mC (k+1))).st:=
 match k,hk with
  |0,hk=>Ok.vc (Id N hN hk (ftQ N 0 hN hk))
  |1,hk=>Ok.vc (Ic N hN hk (ftQ N 1 hN hk))
  |2,hk=>Ok.vc (Ib N hN hk (ftQ N 2 hN hk))
  |3,hk=>Ok.vc (Ia N hN hk (ftQ N 3 hN hk))
  |k+4,hk=>absurd hk (by omega)
theorem lh(M:Nat)(hN:M+1<=4):oL_ 5 1 (r2S (M+1) 0 (mC 0)).st (.ext 2) (r2S (M+1) (M+1) (mC (M+1))).st:=
 Ok.loop (P:=Try.prog) (nt:=cJ Try.prog 5) (c:=lpC Try.prog 5 1) (F:=fun k=>r2S (M+1) k (mC k)) (m:=M+1) (x:= .ext 2) (J:=r2S (M+1) (M+1) (mC (M+1))) (fun k hk=>vh (M+1) hN k hk) (Ok.vc (H9 M _)) (by simp)
theorem ou(n:Int):pC_ 5 [.int .i64 n] (.bool true) []:=by
 have h2:bits .and .i64 n 3=n%4:=Wd.bits_mask n 2 (by omega)
 have hc:bits .and .i64 n 3+1=(1:Nat)∨bits .and .i64 n 3+1=(2:Nat)∨bits .and .i64 n 3+1=(3:Nat)∨bits .and .i64 n 3+1=(4:Nat):=by omega
 rcases hc with h |h |h |h
 ·exact PureC.vc (Fw n h (li 1 (by decide)) (cQ (s14 0)) (lh 0 (by decide)) (ftY (aN (by kernel_rfl)) (by decide) (by decide) (by decide) (by decide) (by decide) (by decide) (by kernel_rfl)) (gsE (by decide) (by decide) (by kernel_rfl)) (gsE (by decide) (by decide) (by kernel_rfl)))
 ·exact PureC.vc (Fv n h (li 2 (by decide)) (cQ (s14 0)) (lh 1 (by decide)) (ftY (aN (by kernel_rfl)) (by decide) (by decide) (by decide) (by decide) (by decide) (by decide) (by kernel_rfl)) (gsE (by decide) (by decide) (by kernel_rfl)) (gsE (by decide) (by decide) (by kernel_rfl)))
 ·exact PureC.vc (Fu n h (li 3 (by decide)) (cQ (s14 0)) (lh 2 (by decide)) (ftY (aN (by kernel_rfl)) (by decide) (by decide) (by decide) (by decide) (by decide) (by decide) (by kernel_rfl)) (gsE (by decide) (by decide) (by kernel_rfl)) (gsE (by decide) (by decide) (by kernel_rfl)))
 ·exact PureC.vc (Ft n h (li 4 (by decide)) (cQ (s14 0)) (lh 3 (by decide)) (ftY (aN (by kernel_rfl)) (by decide) (by decide) (by decide) (by decide) (by decide) (by decide) (by kernel_rfl)) (gsE (by decide) (by decide) (by kernel_rfl)) (gsE (by decide) (by decide) (by kernel_rfl)))
theorem walk_FetcReturns(a0:Int)(W:World):Calls Try.prog 5 #[.int .i64 a0] W (RetB (.bool true) W):=
 (ou a0).lawB (R:=fun g=>g<W.heap.size) (fun _ h=>h) rfl (fun j x v hx hv=>match j,hx,hv with
  |0,rfl,rfl=> .int _ _)
end
end Go.Proofs.Ytbhdoempeglgpaa.Px
