import Derived.Test.YtlfldlnohmobmaaGreatMbI
import Derived.Test.YtlfldlnohmobmaaGreatMbD
import Derived.Test.YtlfldlnohmobmaaGreatMbF
set_option linter.unusedVariables false
set_option linter.unusedSimpArgs false
set_option maxRecDepth 100000
namespace Go.Proofs.YtlfldlnohmobmaaGreat.Px
section
open Go.RowKit Go.Proofs.YtlfldlnohmobmaaGreat.Rx
def p15:Pg:=⟨2,4,0,0,0,0,0,[⟨⟨#[109]⟩,false,2⟩],[],[⟨3,0,1,⟨true,0⟩,vQ 0,⟨#[]⟩,0⟩,⟨2,0,2,vQ 0,vQ 0,⟨#[]⟩,0⟩,⟨11,0,0,vQ 0,vQ 0,⟨#[]⟩,0⟩]⟩
def s15(pc:Int):S8:=⟨0,3,0,0,[1,2],[],pc⟩
def e15(pc v nx:Int)(dn kn:Bool):En:=⟨pc,v,0, -1,nx,dn,kn,false⟩
def c15:Nat->Cf
 |0=>⟨s15 0,[],[],0⟩
 |1=>⟨s15 1,[e15 0 0 1 false false],[],0⟩
 |2=>⟨s15 2,[e15 0 0 1 false false,e15 1 0 2 false false],[],0⟩
 |3=>⟨s15 (-1),[e15 0 0 1 false false,e15 1 0 2 false false,e15 2 0 (-1) true false],[],0⟩
 |4=>⟨s15 (-1),[e15 0 0 1 false false,e15 1 1 2 true true,e15 2 0 (-1) true false],[],0⟩
 |_=>⟨s15 1,[e15 0 0 1 false true],[],0⟩
theorem pD: ∀(i:Nat),i<1-> ∀(j:Nat),j<3->List.getD [AV.str (ByteArray.mk (Array.mk [(109:UInt8)])),AV.bool false,aI 2] ((i+0)*3+j) AV.junk=ao mmC [Mm.mk (ByteArray.mk (Array.mk [(109:UInt8)])) false (2:Nat)] i j:=(fun i hi j hj=>match i,hi,j,hj with |0,_,0,_=>rfl |0,_,1,_=>rfl |0,_,2,_=>rfl)
theorem pC: ∀(i:Nat),i<3-> ∀(j:Nat),j<9->List.getD [aI 3,aI 0,aI 1,AV.bool true,aI 0,AV.bool false,aI 0,AV.str (ByteArray.mk (Array.mk [])),aI 0,aI 2,aI 0,aI 2,AV.bool false,aI 0,AV.bool false,aI 0,AV.str (ByteArray.mk (Array.mk [])),aI 0,aI 11,aI 0,aI 0,AV.bool false,aI 0,AV.bool false,aI 0,AV.str (ByteArray.mk (Array.mk [])),aI 0] ((i+0)*9+j) AV.junk=ao inC [In.mk (3:Int) (0:Int) (1:Int) (Vl.mk true (0:Int)) (vQ (0:Int)) (ByteArray.mk (Array.mk [])) (0:Int),In.mk (2:Int) (0:Int) (2:Int) (vQ (0:Int)) (vQ (0:Int)) (ByteArray.mk (Array.mk [])) (0:Int),In.mk (11:Int) (0:Int) (0:Int) (vQ (0:Int)) (vQ (0:Int)) (ByteArray.mk (Array.mk [])) (0:Int)] i j:=(fun i hi j hj=>match i,hi,j,hj with |0,_,0,_=>rfl |0,_,1,_=>rfl |0,_,2,_=>rfl |0,_,3,_=>rfl |0,_,4,_=>rfl |0,_,5,_=>rfl |0,_,6,_=>rfl |0,_,7,_=>rfl |0,_,8,_=>rfl |1,_,0,_=>rfl |1,_,1,_=>rfl |1,_,2,_=>rfl |1,_,3,_=>rfl |1,_,4,_=>rfl |1,_,5,_=>rfl |1,_,6,_=>rfl |1,_,7,_=>rfl |1,_,8,_=>rfl |2,_,0,_=>rfl |2,_,1,_=>rfl |2,_,2,_=>rfl |2,_,3,_=>rfl |2,_,4,_=>rfl |2,_,5,_=>rfl |2,_,6,_=>rfl |2,_,7,_=>rfl |2,_,8,_=>rfl)
theorem wn{Z:Prop}(z:Z):(RF (0:Nat) (RR 0 1 (fun i j=>aI (List.getD [] i (0:Int))) (RF (0:Int) (RF (0:Int) Z)))):=⟨rfl,fun _ _ _ _=>rfl,rfl,rfl,z⟩
theorem IL{Z:Prop}(z:Z):(RF (0:Int) (RF (3:Int) (RF (0:Int) (RF (0:Int) (RF (2:Nat) (RR 2 1 (fun i j=>aI (List.getD [(1:Int),(2:Int)] i (0:Int))) (RF (0:Nat) (RR 0 1 (fun i j=>aI (List.getD [] i (0:Int))) (RF (1:Int) Z))))))))):=⟨rfl,rfl,rfl,rfl,rfl,fun _ _ _ _=>rfl,rfl,fun _ _ _ _=>rfl,rfl,z⟩
theorem pu{Z:Prop}(z:Z):(RF (2:Int) (RF (4:Int) (RF (0:Int) (RF (0:Int) (RF (0:Int) (RF (0:Int) (RF (0:Int) (RF (1:Nat) Z)))))))):=⟨rfl,rfl,rfl,rfl,rfl,rfl,rfl,rfl,z⟩
theorem IK{Z:Prop}(z:Z):(RF (3:Nat) (RR 3 8 (fun i j=>ao enC [e15 (0:Int) (0:Int) (1:Int) false false,e15 (1:Int) (0:Int) (2:Int) false false,e15 (2:Int) (0:Int) (-1:Int) true false] i j) (RF (0:Nat) (RR 0 1 (fun i j=>aI (List.getD [] i (0:Int))) (RF (0:Int) (RF (0:Int) Z)))))):=⟨rfl,fun _ _ _ _=>rfl,rfl,fun _ _ _ _=>rfl,rfl,rfl,z⟩
theorem wm{Z:Prop}(z:Z):(RF (0:Int) (RF (3:Int) (RF (0:Int) (RF (0:Int) (RF (2:Nat) (RR 2 1 (fun i j=>aI (List.getD [(1:Int),(2:Int)] i (0:Int))) (RF (0:Nat) (RR 0 1 (fun i j=>aI (List.getD [] i (0:Int))) (RF (-1:Int) Z))))))))):=⟨rfl,rfl,rfl,rfl,rfl,fun _ _ _ _=>rfl,rfl,fun _ _ _ _=>rfl,rfl,z⟩
abbrev K4:Orc:= .cl [.agg (pgA p15),.agg (cfA (c15 3)), aI 0] (.bool true) []
theorem zA(h0:pC_ 26 [.agg (s8R (s15 0))] (.agg (cfA (c15 0))) [])(h1:pC_ 34 [.agg (pgA p15),.agg (cfA (c15 0)), aI 0] (.tup [.agg (cfA (c15 1)),.bool true]) [])(h2:pC_ 34 [.agg (pgA p15),.agg (cfA (c15 1)), aI 0] (.tup [.agg (cfA (c15 2)),.bool true]) [])(h3:pC_ 34 [.agg (pgA p15),.agg (cfA (c15 2)), aI 0] (.tup [.agg (cfA (c15 3)),.bool true]) [])(h4:pC_ 9 [.agg (pgA p15),.agg (cfA (c15 3)), aI 1] (.tup [.agg (cfA (c15 4)),obR [⟨1,0⟩],.bool true]) [])(h5:pC_ 14 [.agg (pgA p15),.agg (cfA (c15 4)), aI 0] (.tup [.agg (cfA (c15 5)),obR [⟨2,0⟩],.bool true]) [])(h6:pC_ 9 [.agg (pgA p15),.agg (cfA (c15 3)), aI 2] (.tup [.agg (cfA Cf0),obR [],.bool false]) [])(h7:pC_ 16 [obR [⟨1,0⟩],obR [⟨1,0⟩]] (.bool true) [])(h8:pC_ 16 [obR [⟨2,0⟩],obR [⟨2,0⟩]] (.bool true) [])(h9:pC_ 17 [.agg (pgA p15),.agg (cfA (c15 3)), aI 0] (.bool true) [])(ha:pC_ 18 [.agg (pgA p15),.agg (cfA (c15 3)), aI 0] (.bool true) [])(hb:pC_ 18 [.agg (pgA p15),.agg (cfA (c15 5)), aI 0] (.bool false) []):Vc (vF_ 11 [] [.cl [.agg (s8R (s15 0))] (.agg (cfA (c15 0))) [],.it 4,.b true,.cl [.agg (pgA p15),.agg (cfA (c15 0)), aI 0] (.tup [.agg (cfA (c15 1)),.bool true]) [],.b true,.cl [.agg (pgA p15),.agg (cfA (c15 1)), aI 0] (.tup [.agg (cfA (c15 2)),.bool true]) [],.b true,.cl [.agg (pgA p15),.agg (cfA (c15 2)), aI 0] (.tup [.agg (cfA (c15 3)),.bool true]) [],.b false,.cl [.agg (pgA p15),.agg (cfA (c15 3)), aI 1] (.tup [.agg (cfA (c15 4)),obR [⟨1,0⟩],.bool true]) [],.cl [.agg (pgA p15),.agg (cfA (c15 4)), aI 0] (.tup [.agg (cfA (c15 5)),obR [⟨2,0⟩],.bool true]) [],.cl [.agg (pgA p15),.agg (cfA (c15 3)), aI 2] (.tup [.agg (cfA Cf0),obR [],.bool false]) [],.cl [obR [⟨1,0⟩],obR [⟨1,0⟩]] (.bool true) [],.cl [obR [⟨2,0⟩],obR [⟨2,0⟩]] (.bool true) [],K4,K4,.cl [.agg (pgA p15),.agg (cfA (c15 5)), aI 0] (.bool false) []] [] (.bool true) []):=aj (cj (rf (0:Int)) (cj (rf (3:Int)) (cj (rf (0:Int)) (cj (rf (0:Int)) (cj (rf (2:Nat)) (cj (show ∀(i:Nat),i<2-> ∀(j:Nat),j<1->List.getD [aI 1,aI 2] ((i+0)*1+j) AV.junk=aI (List.getD [(1:Int),(2:Int)] i (0:Int)) from(fun i hi j hj=>match i,hi,j,hj with |0,_,0,_=>rfl |1,_,0,_=>rfl)) (cj (rf (0:Nat)) (cj (rf (0:Int)) (cj h0 (cj (dt ((0:Int)<3)) (pu (cj (pD) (cj (rf (0:Nat)) (cj (rf (3:Nat)) (cj (pC) (cj (rf (0:Int)) (cj (rf (3:Int)) (cj (rf (0:Int)) (cj (rf (0:Int)) (cj (rf (2:Nat)) (cj (rr 2 1 fun i j=>aI (List.getD [(1:Int),(2:Int)] i (0:Int))) (cj (rf (0:Nat)) (cj (rr 0 1 fun i j=>aI (List.getD [] i (0:Int))) (cj (rf (0:Int)) (cj (rf (0:Nat)) (cj (rr 0 8 fun i j=>ao enC [] i j) (wn (cj h1 (cj (i6 (0+1)) (cj (dt ((0:Int)+1<3)) (pu (cj (pD) (cj (rf (0:Nat)) (cj (rf (3:Nat)) (cj (pC) (IL (cj (rf (1:Nat)) (cj (rr 1 8 fun i j=>ao enC [e15 (0:Int) (0:Int) (1:Int) false false] i j) (wn (cj h2 (cj (i6 (0+1+1)) (cj (dt ((0:Int)+1+1<3)) (pu (cj (pD) (cj (rf (0:Nat)) (cj (rf (3:Nat)) (cj (pC) (cj (rf (0:Int)) (cj (rf (3:Int)) (cj (rf (0:Int)) (cj (rf (0:Int)) (cj (rf (2:Nat)) (cj (rr 2 1 fun i j=>aI (List.getD [(1:Int),(2:Int)] i (0:Int))) (cj (rf (0:Nat)) (cj (rr 0 1 fun i j=>aI (List.getD [] i (0:Int))) (cj (rf (2:Int)) (cj (rf (2:Nat)) (cj (rr 2 8 fun i j=>ao enC [e15 (0:Int) (0:Int) (1:Int) false false,e15 (1:Int) (0:Int) (2:Int) false false] i j) (wn (cj h3 (cj (i6 (0+1+1+1)) (cj (df ((0:Int)+1+1+1<3)) (pu (cj (pD) (cj (rf (0:Nat)) (cj (rf (3:Nat)) (cj (pC) (wm (cj (rf (3:Nat)) (cj (rr 3 8 fun i j=>ao enC [e15 (0:Int) (0:Int) (1:Int) false false,e15 (1:Int) (0:Int) (2:Int) false false,e15 (2:Int) (0:Int) (-1:Int) true false] i j) (cj (rf (0:Nat)) (cj (rr 0 1 fun i j=>aI (List.getD [] i (0:Int))) (cj (rf (0:Int)) (cj (rf (1:Int)) (cj h4 (pu (cj (pD) (cj (rf (0:Nat)) (cj (rf (3:Nat)) (cj (pC) (wm (cj (rf (3:Nat)) (cj (rr 3 8 fun i j=>ao enC [e15 (0:Int) (0:Int) (1:Int) false false,e15 (1:Int) (1:Int) (2:Int) true true,e15 (2:Int) (0:Int) (-1:Int) true false] i j) (wn (cj h5 (pu (cj (pD) (cj (rf (0:Nat)) (cj (rf (3:Nat)) (cj (pC) (wm (cj (rf (3:Nat)) (cj (rr 3 8 fun i j=>ao enC [e15 (0:Int) (0:Int) (1:Int) false false,e15 (1:Int) (0:Int) (2:Int) false false,e15 (2:Int) (0:Int) (-1:Int) true false] i j) (cj (rf (0:Nat)) (cj (rr 0 1 fun i j=>aI (List.getD [] i (0:Int))) (cj (rf (0:Int)) (cj (rf (2:Int)) (cj h6 (cj (pv ((0:Int)<=1∧(1:Int)<(3:Nat))) (cj (pv ((0:Int)<=1∧(1:Int)<(3:Nat))) (cj (rf (1:Nat)) (cj (rr 1 2 fun i j=>ao obC [Ob.mk (1:Int) (0:Int)] i j) (cj (rf (1:Nat)) (cj (show ∀(i:Nat),i<1-> ∀(j:Nat),j<2->List.getD [aI 1,aI 0] ((i+0)*2+j) AV.junk=ao obC [Ob.mk (1:Int) (0:Int)] i j from(fun i hi j hj=>match i,hi,j,hj with |0,_,0,_=>rfl |0,_,1,_=>rfl)) (cj h7 (cj (rf (1:Nat)) (cj (rr 1 2 fun i j=>ao obC [Ob.mk (2:Int) (0:Int)] i j) (cj (rf (1:Nat)) (cj (show ∀(i:Nat),i<1-> ∀(j:Nat),j<2->List.getD [aI 2,aI 0] ((i+0)*2+j) AV.junk=ao obC [Ob.mk (2:Int) (0:Int)] i j from(fun i hi j hj=>match i,hi,j,hj with |0,_,0,_=>rfl |0,_,1,_=>rfl)) (cj h8 (pu (cj (pD) (cj (rf (0:Nat)) (cj (rf (3:Nat)) (cj (pC) (wm (IK (cj h9 (pu (cj (pD) (cj (rf (0:Nat)) (cj (rf (3:Nat)) (cj (pC) (wm (IK (cj ha (pu (cj (pD) (cj (rf (0:Nat)) (cj (rf (3:Nat)) (cj (pC) (IL (cj (rf (1:Nat)) (cj (rr 1 8 fun i j=>ao enC [e15 (0:Int) (0:Int) (1:Int) false true] i j) (wn (cj hb (cj (rf true) trivial)))))))))))))))))))))))))))))))))))))))))))))))))))))))))))))))))))))))))))))))))))))))))))))))))))))))))))))))))))))))))))))))))))))))))
theorem fj{o:Option (Cf×List Ob)}{x:Cf}{q:List Ob}(e:o=some (x,q)):dmT o=(x,q,true):=by rw[e];rfl
theorem kI{o:Option (Cf×List Ob)}(e:o=none):dmT o=(Cf0,[],false):=by rw[e];rfl
theorem Bm{p:Pg}{c x:Cf}{o:List Ob}{b:Bool}{i:Int}(hk:BOk p c)(e:dmT (doO p c i)=(x,o,b)):pC_ 9 [.agg (pgA p),.agg (cfA c),.int .i64 i] (.tup [.agg (cfA x),obR o,.bool b]) []:=by
 have h:=nl p c i hk
 rw[e] at h
 exact h
theorem Ou{p:Pg}{c x:Cf}{o:List Ob}{b:Bool}{i:Int}(hk:BOk p c)(e:dmT (adrO p c i)=(x,o,b)):pC_ 14 [.agg (pgA p),.agg (cfA c),.int .i64 i] (.tup [.agg (cfA x),obR o,.bool b]) []:=by
 have h:=Bn p c i hk
 rw[e] at h
 exact h
theorem Ot{p:Pg}{c:Cf}{b:Bool}{i:Int}(hk:BOk p c)(e:(dmT (doO p c i)).2.2=b):pC_ 17 [.agg (pgA p),.agg (cfA c),.int .i64 i] (.bool b) []:=by
 have h:=Gi p c i hk
 rw[e] at h
 exact h
theorem Lp{p:Pg}{c:Cf}{b:Bool}{i:Int}(hk:BOk p c)(e:(dmT (adrO p c i)).2.2=b):pC_ 18 [.agg (pgA p),.agg (cfA c),.int .i64 i] (.bool b) []:=by
 have h:=Gh p c i hk
 rw[e] at h
 exact h
theorem nX:pC_ 11 [] (.bool true) []:=by
 have hP:OkP p15:=KW (by kernel_rfl)
 have hw:p15.win<=90:=by decide
 have i0:XOk p15 (c15 0):= .beg (L8 (by kernel_rfl)) rfl
 have e1:ftO p15 (c15 0) 0=some (c15 1):=by kernel_rfl
 have i1:=XOk.ftO hP i0 e1
 have e2:ftO p15 (c15 1) 0=some (c15 2):=by kernel_rfl
 have i2:=XOk.ftO hP i1 e2
 have e3:ftO p15 (c15 2) 0=some (c15 3):=by kernel_rfl
 have i3:=XOk.ftO hP i2 e3
 have e4:doO p15 (c15 3) 1=some (c15 4,[⟨1,0⟩]):=by kernel_rfl
 have i4:=XOk.doO hP hw i3 e4
 have e5:adrO p15 (c15 4) 0=some (c15 5,[⟨2,0⟩]):=by kernel_rfl
 have i5:=XOk.adrO hP i4 e5
 exact PureC.vc (zA (Dc (s15 0)) (rfE (i0.ok hP hw).m e1) (rfE (i1.ok hP hw).m e2) (rfE (i2.ok hP hw).m e3) (Bm (i3.ok hP hw) (fj e4)) (Ou (i4.ok hP hw) (fj e5)) (Bm (i3.ok hP hw) (by kernel_rfl)) (soC _ (by decide)) (soC _ (by decide)) (Ot (i3.ok hP hw) (by kernel_rfl)) (Lp (i3.ok hP hw) (by kernel_rfl)) (Lp (i5.ok hP hw) (by kernel_rfl)))
theorem Pj{m z w:List Int}{i:Int}{x:Cf}{o:List Ob}(e:doO (bz m) (wkC m z w) i=some (x,o)):CfS x:=by
 have hP:=eO m
 have hw:=eN m
 have hL:=kb m z w
 have he:=(Liv.doO hP (gB m z w) hL.1 e).2
 exact CfS.of hP (by omega) (Inv.doO hP (by omega) (gB m z w) e) (by have:=hL.1.e;omega)
theorem P0{m z w:List Int}{i:Int}{x:Cf}{o:List Ob}(e:adrO (bz m) (wkC m z w) i=some (x,o)):CfS x:=by
 have hP:=eO m
 have hw:=eN m
 have hL:=kb m z w
 have he:=(Liv.adrO (gB m z w) hL.1 e).2
 exact CfS.of hP (by omega) (Inv.adrO hP (gB m z w) e) (by have:=hL.1.e;omega)
theorem tq(m z w:List Int)(i:Int):pC_ 10 [.agg (cfA (dmT (doO (bz m) (wkC m z w) i)).1),.agg (cfA (dmT (doO (bz m) (wkC m z w) i)).1)] (.bool true) []:=by
 cases e:doO (bz m) (wkC m z w) i with
 |some q=>exact(Pj (x:=q.1) (o:=q.2) e).self
 |none=>exact sm0
theorem tt(m z w:List Int)(i:Int):pC_ 10 [.agg (cfA (dmT (adrO (bz m) (wkC m z w) i)).1),.agg (cfA (dmT (adrO (bz m) (wkC m z w) i)).1)] (.bool true) []:=by
 cases e:adrO (bz m) (wkC m z w) i with
 |some q=>exact(P0 (x:=q.1) (o:=q.2) e).self
 |none=>exact sm0
theorem G3{p:Pg}{c x:Cf}{i:Int}{o:List Ob}(e:doO p c i=some (x,o)):o.length<=1:=by
 unfold doO at e
 split at e
 ·have e2:=congrArg (fun q:Cf×List Ob=>q.2) (Option.some.inj e)
  replace e2:(dmV p c i.toNat).2=o:=e2
  rw[<-e2]
  unfold dmV
  repeat' split
  all_goals first |exact aB _ |exact bb _
 ·cases e
theorem Hn{p:Pg}{c x:Cf}{i:Int}{o:List Ob}(e:adrO p c i=some (x,o)):o.length<=1:=by
 unfold adrO at e
 split at e
 ·have e2:=congrArg (fun q:Cf×List Ob=>q.2) (Option.some.inj e)
  replace e2:(qi p c i.toNat).2=o:=e2
  rw[<-e2]
  unfold qi
  repeat' split
  all_goals first |exact aB _ |exact bb _
 ·cases e
theorem wB(p:Pg)(c:Cf)(i:Int):(dmT (doO p c i)).2.1.length<1000000000:=by
 cases e:doO p c i with
 |some q=>have:=G3 (x:=q.1) (o:=q.2) e;show q.2.length<_;omega
 |none=>show(0:Nat)<_;decide
theorem wD(p:Pg)(c:Cf)(i:Int):(dmT (adrO p c i)).2.1.length<1000000000:=by
 cases e:adrO p c i with
 |some q=>have:=Hn (x:=q.1) (o:=q.2) e;show q.2.length<_;omega
 |none=>show(0:Nat)<_;decide
def pcH(p:Pg)(c:Cf):List (Nat×Blk):=[(0,⟨0,false,28,.box (pgA p)⟩),(1,⟨0,false,36,.box (cfA c)⟩)]
def etS(raw:Int)(p:Pg)(c:Cf)(B:List Int)(g:Int):Sm:=⟨[(3,.int .i64 raw),(9,.bptr 0 0),(12,.bptr 1 0),(14,bR B),(15,.int .i64 g)],pcH p c,2⟩
theorem AA(B:List Int): ∀(i:Nat),i<B.length->AV.int IntKind.u8 (B.getD i 0)=AV.int IntKind.u8 (B.getD i 0):=(fun _ _=>rfl)
theorem J3(B:List Int):(!ByteArray.toList (Go.strOfNums B)==ByteArray.toList (Go.strOfNums B))=false:=by rw[cY];rfl
theorem IJ(raw:Int)(B:List Int)(g:Int){Z:Prop}(z:Z):(RF raw (RF B.length (RR B.length 1 (fun i j=>AV.int IntKind.u8 (B.getD i 0)) (RF (g+1) Z)))):=⟨rfl,rfl,fun _ _ _ _=>rfl,rfl,z⟩
theorem jk(c:Cf){Z:Prop}(z:Z):(RR c.s.m.length 1 (fun i j=>aI (List.getD c.s.m i 0)) (RF c.s.st.length (RR c.s.st.length 1 (fun i j=>aI (List.getD c.s.st i 0)) (RF c.s.pc (RF c.b.length (RR c.b.length 8 (fun i j=>ao enC c.b i j) (RF c.r.length (RR c.r.length 1 (fun i j=>aI (c.r.getD i 0)) (RF c.e Z))))))))):=⟨fun _ _ _ _=>rfl,rfl,fun _ _ _ _=>rfl,rfl,rfl,fun _ _ _ _=>rfl,rfl,fun _ _ _ _=>rfl,rfl,z⟩
theorem jj(p:Pg)(c:Cf){Z:Prop}(z:Z):(RF p.ls.length (RR p.ls.length 2 (fun i j=>ao lbC p.ls i j) (RF p.is.length (RR p.is.length 9 (fun i j=>ao inC p.is i j) (RF c.s.r0 (RF c.s.r1 (RF c.s.r2 (RF c.s.r3 (RF c.s.m.length Z))))))))):=⟨rfl,fun _ _ _ _=>rfl,rfl,fun _ _ _ _=>rfl,rfl,rfl,rfl,rfl,rfl,z⟩
theorem ig(p:Pg){Z:Prop}(z:Z):(RF p.W (RF p.win (RF p.fuel (RF p.r0 (RF p.r1 (RF p.r2 (RF p.r3 (RF p.ms.length (RR p.ms.length 3 (fun i j=>ao mmC p.ms i j) Z))))))))):=⟨rfl,rfl,rfl,rfl,rfl,rfl,rfl,rfl,fun _ _ _ _=>rfl,z⟩
theorem DZ(c:Cf){Z:Prop}(z:Z):(RF c.b.length (RR c.b.length 8 (fun i j=>ao enC c.b i j) (RF c.r.length (RR c.r.length 1 (fun i j=>aI (c.r.getD i 0)) (RF c.e Z))))):=⟨rfl,fun _ _ _ _=>rfl,rfl,fun _ _ _ _=>rfl,rfl,z⟩
theorem DY(c:Cf){Z:Prop}(z:Z):(RF c.s.r0 (RF c.s.r1 (RF c.s.r2 (RF c.s.r3 (RF c.s.m.length (RR c.s.m.length 1 (fun i j=>aI (List.getD c.s.m i 0)) (RF c.s.st.length (RR c.s.st.length 1 (fun i j=>aI (List.getD c.s.st i 0)) (RF c.s.pc Z))))))))):=⟨rfl,rfl,rfl,rfl,rfl,fun _ _ _ _=>rfl,rfl,fun _ _ _ _=>rfl,rfl,z⟩
theorem II(w:List Ob){Z:Prop}(z:Z):(RF w.length (RR w.length 2 (fun i j=>ao obC w i j) (RF w.length (RR w.length 2 (fun i j=>ao obC w i j) Z)))):=⟨rfl,fun _ _ _ _=>rfl,rfl,fun _ _ _ _=>rfl,z⟩
theorem IG(u:Cf){Z:Prop}(z:Z):(RF u.s.m.length (RR u.s.m.length 1 (fun i j=>aI (List.getD u.s.m i 0)) (RF u.s.st.length (RR u.s.st.length 1 (fun i j=>aI (List.getD u.s.st i 0)) (RF u.s.pc (RF u.b.length (RR u.b.length 8 (fun i j=>ao enC u.b i j) (RF u.r.length (RR u.r.length 1 (fun i j=>aI (u.r.getD i 0)) Z))))))))):=⟨rfl,fun _ _ _ _=>rfl,rfl,fun _ _ _ _=>rfl,rfl,rfl,fun _ _ _ _=>rfl,rfl,fun _ _ _ _=>rfl,z⟩
theorem IF(u:Cf){Z:Prop}(z:Z):(RF u.b.length (RR u.b.length 8 (fun i j=>ao enC u.b i j) (RF u.r.length (RR u.r.length 1 (fun i j=>aI (u.r.getD i 0)) (RF u.e (RF u.s.r0 (RF u.s.r1 (RF u.s.r2 (RF u.s.r3 Z))))))))):=⟨rfl,fun _ _ _ _=>rfl,rfl,fun _ _ _ _=>rfl,rfl,rfl,rfl,rfl,rfl,z⟩
theorem IE(u:Cf){Z:Prop}(z:Z):(RF u.s.r0 (RF u.s.r1 (RF u.s.r2 (RF u.s.r3 (RF u.s.m.length (RR u.s.m.length 1 (fun i j=>aI (List.getD u.s.m i 0)) (RF u.s.st.length (RR u.s.st.length 1 (fun i j=>aI (List.getD u.s.st i 0)) (RF u.s.pc Z))))))))):=⟨rfl,rfl,rfl,rfl,rfl,fun _ _ _ _=>rfl,rfl,fun _ _ _ _=>rfl,rfl,z⟩
theorem CR(o:List Ob){Z:Prop}(z:Z):(RF o.length (RR o.length 2 (fun i j=>ao obC o i j) (RF o.length (RR o.length 2 (fun i j=>ao obC o i j) Z)))):=⟨rfl,fun _ _ _ _=>rfl,rfl,fun _ _ _ _=>rfl,z⟩
theorem CQ(x:Cf){Z:Prop}(z:Z):(RF x.s.m.length (RR x.s.m.length 1 (fun i j=>aI (List.getD x.s.m i 0)) (RF x.s.st.length (RR x.s.st.length 1 (fun i j=>aI (List.getD x.s.st i 0)) (RF x.s.pc (RF x.b.length (RR x.b.length 8 (fun i j=>ao enC x.b i j) (RF x.r.length (RR x.r.length 1 (fun i j=>aI (x.r.getD i 0)) Z))))))))):=⟨rfl,fun _ _ _ _=>rfl,rfl,fun _ _ _ _=>rfl,rfl,rfl,fun _ _ _ _=>rfl,rfl,fun _ _ _ _=>rfl,z⟩
theorem CP(x:Cf){Z:Prop}(z:Z):(RF x.b.length (RR x.b.length 8 (fun i j=>ao enC x.b i j) (RF x.r.length (RR x.r.length 1 (fun i j=>aI (x.r.getD i 0)) (RF x.e (RF x.s.r0 (RF x.s.r1 (RF x.s.r2 (RF x.s.r3 Z))))))))):=⟨rfl,fun _ _ _ _=>rfl,rfl,fun _ _ _ _=>rfl,rfl,rfl,rfl,rfl,rfl,z⟩
theorem CO(x:Cf){Z:Prop}(z:Z):(RF x.s.r0 (RF x.s.r1 (RF x.s.r2 (RF x.s.r3 (RF x.s.m.length (RR x.s.m.length 1 (fun i j=>aI (List.getD x.s.m i 0)) (RF x.s.st.length (RR x.s.st.length 1 (fun i j=>aI (List.getD x.s.st i 0)) (RF x.s.pc Z))))))))):=⟨rfl,rfl,rfl,rfl,rfl,fun _ _ _ _=>rfl,rfl,fun _ _ _ _=>rfl,rfl,z⟩
abbrev KT(x:Cf):Prop:=PureC Tryz.prog 10 [.agg (cfA x),.agg (cfA x)] (.bool true) []
abbrev KS(u:Cf):Prop:=PureC Tryz.prog 10 [.agg (cfA u),.agg (cfA u)] (.bool true) []
theorem O9(raw:Int)(p:Pg)(c:Cf)(B:List Int)(g:Int)(hg: -1<=g)(hb:c.b.length<1000)(hn:g<=(c.b.length:Int)+1)(x u:Cf)(o w:List Ob)(tb td:Bool)(hk:(g==(c.b.length:Int)+1)=false)(h0:pC_ 9 [.agg (pgA p),.agg (cfA c), aI g] (.tup [.agg (cfA x),obR o,.bool tb]) [])(h1:pC_ 13 [.agg (pgA p),.agg (cfA c), aI g] (.tup [.agg (cfA x),obR o,.bool tb]) [])(h2:pC_ 14 [.agg (pgA p),.agg (cfA c), aI g] (.tup [.agg (cfA u),obR w,.bool td]) [])(h3:pC_ 15 [.agg (pgA p),.agg (cfA c), aI g] (.tup [.agg (cfA u),obR w,.bool td]) [])(h4:KT x)(h5:pC_ 16 [obR o,obR o] (.bool true) [])(h6:KS u)(h7:pC_ 16 [obR w,obR w] (.bool true) [])(h8:pC_ 17 [.agg (pgA p),.agg (cfA c), aI g] (.bool tb) [])(h9:pC_ 18 [.agg (pgA p),.agg (cfA c), aI g] (.bool td) [])(h10:pC_ 12 [.agg (cfA c)] (bR B) []):Vc (vC_ 4 0 (etS raw p c B g) [.bd true,.bd false,.cl [.agg (pgA p),.agg (cfA c), aI g] (.tup [.agg (cfA x),obR o,.bool tb]) [],.cl [.agg (pgA p),.agg (cfA c), aI g] (.tup [.agg (cfA x),obR o,.bool tb]) [],.cl [.agg (pgA p),.agg (cfA c), aI g] (.tup [.agg (cfA u),obR w,.bool td]) [],.cl [.agg (pgA p),.agg (cfA c), aI g] (.tup [.agg (cfA u),obR w,.bool td]) [],.bd false,.cl [.agg (cfA x),.agg (cfA x)] (.bool true) [],.cl [obR o,obR o] (.bool true) [],.bd false,.cl [.agg (cfA u),.agg (cfA u)] (.bool true) [],.cl [obR w,obR w] (.bool true) [],.cl [.agg (pgA p),.agg (cfA c), aI g] (.bool tb) [],.bd false,.cl [.agg (pgA p),.agg (cfA c), aI g] (.bool td) [],.bd false,.cl [.agg (cfA c)] (bR B) [],.by_ B,.by_ B,.bd false] .nrm [(0,0),(1,1)] (etS raw p c B (g+1))):=aj (cj (i6 (c.b.length+1)) (cj (dt (g<=(↑c.b.length:Int)+1)) (cj (i6 (c.b.length+1)) (cj hk (ig p (jj p c (jk c (cj (rf g) (cj h0 (ig p (jj p c (jk c (cj (rf g) (cj h1 (ig p (jj p c (jk c (cj (rf g) (cj h2 (ig p (jj p c (jk c (cj (rf g) (cj h3 (cj (show(!tb==tb)=false from by rw[cY];rfl) (CO x (CP x (CQ x (cj (rf x.e) (cj h4 (CR o (cj h5 (cj (show(!td==td)=false from by rw[cY];rfl) (IE u (IF u (IG u (cj (rf u.e) (cj h6 (II w (cj h7 (ig p (jj p c (jk c (cj (rf g) (cj h8 (cj (show(!tb==tb)=false from by rw[cY];rfl) (ig p (jj p c (jk c (cj (rf g) (cj h9 (cj (show(!td==td)=false from by rw[cY];rfl) (DY c (DZ c (cj h10 (cj (rf B.length) (cj (AA B) (cj (rf B.length) (cj (AA B) (cj (J3 B) (cj (i6 (g+1)) (ig p (jj p c (jk c (IJ raw B g trivial)))))))))))))))))))))))))))))))))))))))))))))))))))))))))))))))))
theorem O7(raw:Int)(p:Pg)(c:Cf)(B:List Int)(g:Int)(hg: -1<=g)(hb:c.b.length<1000)(hn:g<=(c.b.length:Int)+1)(x u:Cf)(o w:List Ob)(tb td:Bool)(hk:(g==(c.b.length:Int)+1)=true)(h0:pC_ 9 [.agg (pgA p),.agg (cfA c), aI raw] (.tup [.agg (cfA x),obR o,.bool tb]) [])(h1:pC_ 13 [.agg (pgA p),.agg (cfA c), aI raw] (.tup [.agg (cfA x),obR o,.bool tb]) [])(h2:pC_ 14 [.agg (pgA p),.agg (cfA c), aI raw] (.tup [.agg (cfA u),obR w,.bool td]) [])(h3:pC_ 15 [.agg (pgA p),.agg (cfA c), aI raw] (.tup [.agg (cfA u),obR w,.bool td]) [])(h4:KT x)(h5:pC_ 16 [obR o,obR o] (.bool true) [])(h6:KS u)(h7:pC_ 16 [obR w,obR w] (.bool true) [])(h8:pC_ 17 [.agg (pgA p),.agg (cfA c), aI raw] (.bool tb) [])(h9:pC_ 18 [.agg (pgA p),.agg (cfA c), aI raw] (.bool td) [])(h10:pC_ 12 [.agg (cfA c)] (bR B) []):Vc (vC_ 4 0 (etS raw p c B g) [.bd true,.bd true,.cl [.agg (pgA p),.agg (cfA c), aI raw] (.tup [.agg (cfA x),obR o,.bool tb]) [],.cl [.agg (pgA p),.agg (cfA c), aI raw] (.tup [.agg (cfA x),obR o,.bool tb]) [],.cl [.agg (pgA p),.agg (cfA c), aI raw] (.tup [.agg (cfA u),obR w,.bool td]) [],.cl [.agg (pgA p),.agg (cfA c), aI raw] (.tup [.agg (cfA u),obR w,.bool td]) [],.bd false,.cl [.agg (cfA x),.agg (cfA x)] (.bool true) [],.cl [obR o,obR o] (.bool true) [],.bd false,.cl [.agg (cfA u),.agg (cfA u)] (.bool true) [],.cl [obR w,obR w] (.bool true) [],.cl [.agg (pgA p),.agg (cfA c), aI raw] (.bool tb) [],.bd false,.cl [.agg (pgA p),.agg (cfA c), aI raw] (.bool td) [],.bd false,.cl [.agg (cfA c)] (bR B) [],.by_ B,.by_ B,.bd false] .nrm [(0,0),(1,1)] (etS raw p c B (g+1))):=aj (cj (i6 (c.b.length+1)) (cj (dt (g<=(↑c.b.length:Int)+1)) (cj (i6 (c.b.length+1)) (cj hk (ig p (jj p c (jk c (cj (rf raw) (cj h0 (ig p (jj p c (jk c (cj (rf raw) (cj h1 (ig p (jj p c (jk c (cj (rf raw) (cj h2 (ig p (jj p c (jk c (cj (rf raw) (cj h3 (cj (show(!tb==tb)=false from by rw[cY];rfl) (CO x (CP x (CQ x (cj (rf x.e) (cj h4 (CR o (cj h5 (cj (show(!td==td)=false from by rw[cY];rfl) (IE u (IF u (IG u (cj (rf u.e) (cj h6 (II w (cj h7 (ig p (jj p c (jk c (cj (rf raw) (cj h8 (cj (show(!tb==tb)=false from by rw[cY];rfl) (ig p (jj p c (jk c (cj (rf raw) (cj h9 (cj (show(!td==td)=false from by rw[cY];rfl) (DY c (DZ c (cj h10 (cj (rf B.length) (cj (AA B) (cj (rf B.length) (cj (AA B) (cj (J3 B) (cj (i6 (g+1)) (ig p (jj p c (jk c (IJ raw B g trivial)))))))))))))))))))))))))))))))))))))))))))))))))))))))))))))))))
theorem O8(raw:Int)(p:Pg)(c:Cf)(B:List Int)(g:Int)(hb:c.b.length<1000)(hn:g=(c.b.length:Int)+2):Vc (vC_ 4 0 (etS raw p c B g) [.bd false] (.ext 0) [(0,0),(1,1)] (etS raw p c B g)):=aj (cj (i6 (c.b.length+1)) (cj (df (g<=(↑c.b.length:Int)+1)) (ig p (jj p c (jk c (cj (rf raw) (cj (rf B.length) (cj (rr B.length 1 fun i j=>AV.int IntKind.u8 (B.getD i 0)) (cj (rf g) trivial)))))))))
theorem CN(p:Pg){Z:Prop}(z:Z):(RF p.ls.length (RR p.ls.length 2 (fun i j=>ao lbC p.ls i j) (RF p.is.length (RR p.is.length 9 (fun i j=>ao inC p.is i j) Z)))):=⟨rfl,fun _ _ _ _=>rfl,rfl,fun _ _ _ _=>rfl,z⟩
theorem wW(m zs w B:List Int)(raw:Int)(p:Pg)(s s2:S8)(c:Cf)(d:List Dr)(hs:s.st=[])(h1:pC_ 6 [lR m] (.agg (pgA p)) [])(h2:pC_ 7 [.agg (pgA p),lR zs, aI 1] (.tup [.agg (s8N s),.agg (s8N s2)]) [])(h3:pC_ 8 [.agg (pgA p),.agg (s8R s),lR w] (.tup [.agg (cfA c),drR d]) [])(h6:pC_ 12 [.agg (cfA c)] (bR B) [])(h7:oL_ 4 0 (etS raw p c B (-1)).st (.ext 0) (etS raw p c B ((c.b.length:Int)+2)).st):Vc (vF_ 4 [lR m,lR zs,lR w, aI raw] [.cl [lR m] (.agg (pgA p)) [],.cl [.agg (pgA p),lR zs, aI 1] (.tup [.agg (s8N s),.agg (s8N s2)]) [],.cl [.agg (pgA p),.agg (s8R s),lR w] (.tup [.agg (cfA c),drR d]) [],.cl [.agg (cfA c)] (bR B) [],.lp [(0,0),(1,3)] (etS raw p c B (-1)) (.ext 0) (etS raw p c B ((c.b.length:Int)+2)),.cl [] (.bool true) []] [] (.bool true) []):=aj (cj (rf m.length) (cj (rr m.length 1 fun i j=>aI (m.getD i 0)) (cj h1 (ig p (CN p (cj (rf zs.length) (cj (rr zs.length 1 fun i j=>aI (zs.getD i 0)) (cj (rf (1:Int)) (cj h2 (ig p (CN p (cj (rf s.r0) (cj (rf s.r1) (cj (rf s.r2) (cj (rf s.r3) (cj (rf s.m.length) (cj (rr s.m.length 1 fun i j=>aI (s.m.getD i 0)) (cj (show s.st.length=0 from by rw[hs];rfl) (cj (rf s.pc) (cj (rf w.length) (cj (rr w.length 1 fun i j=>aI (w.getD i 0)) (cj h3 (DY c (DZ c (cj h6 (ig p (jj p c (jk c (cj (rf raw) (cj (rf B.length) (cj (rr B.length 1 fun i j=>AV.int IntKind.u8 (B.getD i 0)) (cj (rf (-1:Int)) (cj h7 (cj nX (cj (rf true) trivial)))))))))))))))))))))))))))))))))))
theorem yZ(raw:Int)(m zs w:List Int)(g:Int)(hg: -1<=g)(hn:g<=((wkC m zs w).b.length:Int)+1):Ok Tryz.prog (bY Tryz.prog 4) (lpC Tryz.prog 4 0) (etS raw (bz m) (wkC m zs w) (Cd.putL (ciL (wkC m zs w))) g).st .nrm (etS raw (bz m) (wkC m zs w) (Cd.putL (ciL (wkC m zs w))) (g+1)).st:=by
 have hB:=tC m zs w
 have hb:=(ia m zs w).b
 by_cases hk:g=((wkC m zs w).b.length:Int)+1
 ·exact Ok.vc (O7 raw _ _ _ g hg (by omega) hn _ _ _ _ _ _ (ay.2 hk) (nl (bz m) (wkC m zs w) raw hB) (Kb (bz m) (wkC m zs w) raw hB) (Bn (bz m) (wkC m zs w) raw hB) (Kc (bz m) (wkC m zs w) raw hB) (tq m zs w raw) (soC _ (wB _ _ _)) (tt m zs w raw) (soC _ (wD _ _ _)) (Gi (bz m) (wkC m zs w) raw hB) (Gh (bz m) (wkC m zs w) raw hB) (ia m zs w).rcode)
 ·exact Ok.vc (O9 raw _ _ _ g hg (by omega) hn _ _ _ _ _ _ (ae.2 hk) (nl (bz m) (wkC m zs w) g hB) (Kb (bz m) (wkC m zs w) g hB) (Bn (bz m) (wkC m zs w) g hB) (Kc (bz m) (wkC m zs w) g hB) (tq m zs w g) (soC _ (wB _ _ _)) (tt m zs w g) (soC _ (wD _ _ _)) (Gi (bz m) (wkC m zs w) g hB) (Gh (bz m) (wkC m zs w) g hB) (ia m zs w).rcode)
theorem B0(raw:Int)(m zs w:List Int):oL_ 4 0 (etS raw (bz m) (wkC m zs w) (Cd.putL (ciL (wkC m zs w))) (-1)).st (.ext 0) (etS raw (bz m) (wkC m zs w) (Cd.putL (ciL (wkC m zs w))) (((wkC m zs w).b.length:Int)+2)).st:=by
 have hb:=(ia m zs w).b
 have hrd:=yZ raw m zs w
 have key:=Ok.loop (P:=Tryz.prog) (nt:=bY Tryz.prog 4) (c:=lpC Tryz.prog 4 0) (F:=fun k=>etS raw (bz m) (wkC m zs w) (Cd.putL (ciL (wkC m zs w))) ((k:Nat)-1)) (m:=(wkC m zs w).b.length+3) (x:= .ext 0) (J:=etS raw (bz m) (wkC m zs w) (Cd.putL (ciL (wkC m zs w))) (((wkC m zs w).b.length:Int)+2)) (fun k hk=> ?_) ?_ (by simp)
 ·exact key
 ·have h:=hrd ((k:Nat)-1) (by omega) (by omega)
  rw[show((k:Nat):Int)-1+1=((k+1:Nat):Int)-1 by omega] at h
  exact h
 ·show Ok _ _ _ (etS raw (bz m) (wkC m zs w) (Cd.putL (ciL (wkC m zs w))) ((((wkC m zs w).b.length+3:Nat):Int)-1)).st _ _
  rw[show(((wkC m zs w).b.length+3:Nat):Int)-1=((wkC m zs w).b.length:Int)+2 by omega]
  exact Ok.vc (O8 raw _ _ _ _ (by omega) rfl)
theorem sU(m zs w:List Int)(raw:Int):pC_ 4 [lR m,lR zs,lR w,.int .i64 raw] (.bool true) []:=by
 have hP:=eO m
 exact PureC.vc (wW m zs w _ raw (bz m) (sA (bz m) zs) (sB (bz m) zs 1) (wkC m zs w) _ rfl (mkC m) (pz (bz m) zs 1 hP) (wM m zs w) (ia m zs w).rcode (B0 raw m zs w))
theorem walk_ExecTells(A0:Option Addr)(c0:Nat)(z0:List Int)(A1:Option Addr)(c1:Nat)(z1:List Int)(A2:Option Addr)(c2:Nat)(z2:List Int)(a3:Int)(W:World)(hc0:z0.length<=c0)(hm0:c0<=maxLen)(hr0:Rd W W.heap.size A0 (z0.map (Value.int .i64)))(hc1:z1.length<=c1)(hm1:c1<=maxLen)(hr1:Rd W W.heap.size A1 (z1.map (Value.int .i64)))(hc2:z2.length<=c2)(hm2:c2<=maxLen)(hr2:Rd W W.heap.size A2 (z2.map (Value.int .i64))):Calls Tryz.prog 4 #[.slice A0 z0.length c0,.slice A1 z1.length c1,.slice A2 z2.length c2,.int .i64 a3] W (RetB (.bool true) W):=
 (sU z0 z1 z2 a3).lawB (R:=fun g=>g<W.heap.size) (fun _ h=>h) rfl (fun j x v hx hv=>match j,hx,hv with
  |0,rfl,rfl=> .ofRd hr0 hc0 hm0
  |1,rfl,rfl=> .ofRd hr1 hc1 hm1
  |2,rfl,rfl=> .ofRd hr2 hc2 hm2
  |3,rfl,rfl=> .int _ _)
theorem lY{a b:Bool}(h:(bif a then b else false)=true):a=true∧b=true:=by
 cases a with
 |true=>exact⟨rfl,h⟩
 |false=>cases h
theorem G0{x y:En}(e0:x.pc=y.pc)(e1:x.val=y.val)(e2:x.adr=y.adr)(e3:x.frm=y.frm)(e4:x.nxt=y.nxt)(e5:x.dn=y.dn)(e6:x.kn=y.kn)(e7:x.ft=y.ft):x=y:=by
 cases x;cases y
 simp only at e0 e1 e2 e3 e4 e5 e6 e7
 subst e0 e1 e2 e3 e4 e5 e6 e7
 rfl
theorem F1{x y:En}(h:x≠y):(!bif x.pc==y.pc then bif x.val==y.val then bif x.adr==y.adr then bif x.frm==y.frm then bif x.nxt==y.nxt then bif x.dn==y.dn then bif x.kn==y.kn then bif x.ft==y.ft then true else false else false else false else false else false else false else false else false)=true:=by
 cases hb:(bif x.pc==y.pc then bif x.val==y.val then bif x.adr==y.adr then bif x.frm==y.frm then bif x.nxt==y.nxt then bif x.dn==y.dn then bif x.kn==y.kn then bif x.ft==y.ft then true else false else false else false else false else false else false else false else false) with
 |false=>rfl
 |true=>
  obtain⟨a0,hb⟩:=lY hb
  obtain⟨a1,hb⟩:=lY hb
  obtain⟨a2,hb⟩:=lY hb
  obtain⟨a3,hb⟩:=lY hb
  obtain⟨a4,hb⟩:=lY hb
  obtain⟨a5,hb⟩:=lY hb
  obtain⟨a6,hb⟩:=lY hb
  obtain⟨a7,hb⟩:=lY hb
  exact absurd (G0 (ay.1 a0) (ay.1 a1) (ay.1 a2) (ay.1 a3) (ay.1 a4) (ay.1 a5) (ay.1 a6) (ay.1 a7)) h
theorem Id(a:List En)(b:List En){Z:Prop}(z:Z):(RF a.length (RR a.length 8 (fun i j=>ao enC a i j) (RF b.length (RR b.length 8 (fun i j=>ao enC b i j) Z)))):=⟨rfl,fun _ _ _ _=>rfl,rfl,fun _ _ _ _=>rfl,z⟩
theorem Dv(a b:List En)(k:Nat)(hl:a.length=b.length)(hk:k<a.length)(hb:a.length<1000000000)(he:(a.getD k default)=(b.getD k default)):Vc (vC_ 20 0 (xcS (enR a) (enR b) k) [.bd true,.bd false] .nrm [] (xcS (enR a) (enR b) (k+1))):=aj (cj (dt ((k:Int)<a.length)) (cj (bi k a.length) (cj (bi k b.length) (cj (show(!bif (a.getD k default).pc==(b.getD k default).pc then bif (a.getD k default).val==(b.getD k default).val then bif (a.getD k default).adr==(b.getD k default).adr then bif (a.getD k default).frm==(b.getD k default).frm then bif (a.getD k default).nxt==(b.getD k default).nxt then bif (a.getD k default).dn==(b.getD k default).dn then bif (a.getD k default).kn==(b.getD k default).kn then bif (a.getD k default).ft==(b.getD k default).ft then true else false else false else false else false else false else false else false else false)=false from by rw[he];simp) (cj (i6 (k+1)) (Id a b (cj (rf ((k:Int)+1)) (cj (rf false) trivial))))))))
theorem Ld(a b:List En)(k:Nat)(hl:a.length=b.length)(hk:k<a.length)(hb:a.length<1000000000)(he:(a.getD k default)≠(b.getD k default)):Vc (vC_ 20 0 (xcS (enR a) (enR b) k) [.bd true,.bd true] .ret [] xfS):=aj (cj (dt ((k:Int)<a.length)) (cj (bi k a.length) (cj (bi k b.length) (cj (show(!bif (a.getD k default).pc==(b.getD k default).pc then bif (a.getD k default).val==(b.getD k default).val then bif (a.getD k default).adr==(b.getD k default).adr then bif (a.getD k default).frm==(b.getD k default).frm then bif (a.getD k default).nxt==(b.getD k default).nxt then bif (a.getD k default).dn==(b.getD k default).dn then bif (a.getD k default).kn==(b.getD k default).kn then bif (a.getD k default).ft==(b.getD k default).ft then true else false else false else false else false else false else false else false else false)=true from(F1 he)) (cj (rf false) trivial)))))
theorem Lg(a b:List En)(k:Nat)(hl:a.length=b.length)(hk: ¬k<a.length)(hk2:k<1000000000):Vc (vC_ 20 0 (xcS (enR a) (enR b) k) [.bd false] (.ext 0) [] (xcS (enR a) (enR b) k)):=aj (cj (df ((k:Int)<a.length)) (Id a b (cj (rf (k:Int)) (cj (rf false) trivial))))
theorem t5(a b:List En)(hl:a.length=b.length)(hb:a.length<1000000000)(h: ∀i,i<a.length->a.getD i default=b.getD i default): ∀j k,k+j=a.length->OkL Tryz.prog (bY Tryz.prog 20) (lpC Tryz.prog 20 0) (xcS (enR a) (enR b) k).st (.ext 0) (xcS (enR a) (enR b) a.length).st
 |0,k,hk=>by
  obtain rfl:k=a.length:=by omega
  exact OkL.exit (Ok.vc (Lg a b _ hl (db _) hb)) (by simp)
 |j+1,k,hk=>OkL.step (Ok.vc (Dv a b k hl (by omega) hb (h k (by omega)))) (t5 a b hl hb h j (k+1) (by omega))
theorem t4(a b:List En)(hl:a.length=b.length)(hb:a.length<1000000000): ∀j k,k+j=a.length->(∃i,k<=i∧i<a.length∧a.getD i default≠b.getD i default)->OkL Tryz.prog (bY Tryz.prog 20) (lpC Tryz.prog 20 0) (xcS (enR a) (enR b) k).st .ret (xfS).st
 |0,k,hk,h=>by obtain⟨i,h1,h2,_⟩:=h;omega
 |j+1,k,hk,h=>by
  by_cases he:(a.getD k default)=(b.getD k default)
  ·obtain⟨i,h1,h2,h3⟩:=h
   have:i≠k:=fun e=>by subst e;exact h3 he
   exact OkL.step (Ok.vc (Dv a b k hl (by omega) hb he)) (t4 a b hl hb j (k+1) (by omega) ⟨i,by omega,h2,h3⟩)
  ·exact OkL.exit (Ok.vc (Ld a b k hl (by omega) hb he)) (by simp)
theorem Le(a b:List En)(hl: ¬a.length=b.length):Vc (vF_ 20 [enR a,enR b] [.bd true] [] (.bool false) []):=aj (cj (show((a.length:Int) !=(b.length:Int))=true from(cN.2 (by omega))) (cj (rf false) trivial))
theorem Ic(a:List En)(b:List En){Z:Prop}(z:Z):(RF a.length (RR a.length 8 (fun i j=>ao enC a i j) (RF b.length (RR b.length 8 (fun i j=>ao enC b i j) (RF (0:Int) (RF false Z)))))):=⟨rfl,fun _ _ _ _=>rfl,rfl,fun _ _ _ _=>rfl,rfl,rfl,z⟩
theorem Lc(a b:List En)(n:Nat)(hl:a.length=b.length)(h:oL_ 20 0 (xcS (enR a) (enR b) 0).st (.ext 0) (xcS (enR a) (enR b) n).st):Vc (vF_ 20 [enR a,enR b] [.bd false,.lp [] (xcS (enR a) (enR b) 0) (.ext 0) (xcS (enR a) (enR b) n)] [] (.bool true) []):=aj (cj (show((a.length:Int) !=(b.length:Int))=false from(ax.2 (by omega))) (Ic a b (cj h (cj (rf true) trivial))))
theorem Lf(a b:List En)(hl:a.length=b.length)(h:oL_ 20 0 (xcS (enR a) (enR b) 0).st .ret (xfS).st):Vc (vF_ 20 [enR a,enR b] [.bd false,.lp [] (xcS (enR a) (enR b) 0) .ret xfS] [] (.bool false) []):=aj (cj (show((a.length:Int) !=(b.length:Int))=false from(ax.2 (by omega))) (Ic a b (cj h (cj (rf false) trivial))))
theorem Om(a b:List En)(hb:a.length<1000000000):pC_ 20 [enR a,enR b] (.bool (decide (a=b))) []:=by
 by_cases hl:a.length=b.length
 ·by_cases h: ∀i,i<a.length->a.getD i default=b.getD i default
  ·rw[bB (yK hl h)]
   exact PureC.vc (Lc a b _ hl (t5 a b hl hb h a.length 0 (by omega)).ok)
  ·rw[bK (fun e=>h fun i _=>by rw[e])]
   refine PureC.vc (Lf a b hl (t4 a b hl hb a.length 0 (by omega) ?_).ok)
   apply Classical.byContradiction
   intro hn
   exact h fun i hi=>Classical.byContradiction fun he=>hn ⟨i,bb _,hi,he⟩
 ·rw[bK (fun e=>hl (by rw[e]))]
  exact PureC.vc (Le a b hl)
theorem Ib(s:S8){Z:Prop}(z:Z):(RF s.r0 (RF s.r1 (RF s.r2 (RF s.r3 (RF s.m.length (RR s.m.length 1 (fun i j=>aI (s.m.getD i 0)) (RF s.st.length (RR s.st.length 1 (fun i j=>aI (s.st.getD i 0)) (RF s.pc Z))))))))):=⟨rfl,rfl,rfl,rfl,rfl,fun _ _ _ _=>rfl,rfl,fun _ _ _ _=>rfl,rfl,z⟩
theorem Ka(s:S8)(L:List Int)(hI:pC_ 54 [.agg (s8R s)] (lR L) [])(hL:pC_ 32 [lR L,lR L] (.bool true) []):Vc (vF_ 19 [.agg (s8R s),.agg (s8R s)] [.cl [.agg (s8R s)] (lR L) [],.cl [.agg (s8R s)] (lR L) [],.cl [lR L,lR L] (.bool true) []] [] (.bool true) []):=aj (Ib s (cj hI (Ib s (cj hI (cj (rf L.length) (cj (rr L.length 1 fun i j=>aI (L.getD i 0)) (cj (rf L.length) (cj (rr L.length 1 fun i j=>aI (L.getD i 0)) (cj hL (cj (rf true) trivial))))))))))
theorem C6(s:S8)(hm:s.m.length<1000000)(hst:s.st.length<1000000):pC_ 19 [.agg (s8R s),.agg (s8R s)] (.bool true) []:=by
 have h:=La (fQ s) (fQ s) (by rw[eu];omega)
 rw[bB rfl] at h
 exact PureC.vc (Ka s _ (Ma s hm hst) h)
theorem C5(l:List En)(h:l.length<1000000000):pC_ 20 [enR l,enR l] (.bool true) []:=by
 have h:=Om l l h
 rw[bB rfl] at h
 exact h
def pcK(p:Pg)(c:Cf):List (Nat×Blk):=[(0,⟨0,false,28,.box (pgA p)⟩),(1,⟨0,false,36,.box (cfA c)⟩)]
def kpS(p:Pg)(c:Cf)(k:Nat):Sm:=⟨[(6,.bool false),(7,.bptr 0 0),(10,.bptr 1 0),(36,.int .i64 c.b.length),(37,.int .i64 k)],pcK p c,2⟩
def kqS(p:Pg)(c:Cf)(k:Nat)(q:Int):Sm:=⟨[(6,.bool false),(7,.bptr 0 0),(10,.bptr 1 0),(36,.int .i64 c.b.length),(37,.int .i64 k),(12,.int .i64 k),(13,.int .i64 q)],pcK p c,2⟩
structure Kp (c:Cf) (k:Nat) (t:Int) (y:List En) (o:List Ob):Prop where
 lo:k<y.length
 hi:y.length<=c.b.length
 eq: ∀j,j<k->y.getD j default=c.b.getD j default
 ob:o.length<=1
 al:y.length=c.b.length->k+1<c.b.length->t=c.s.pc
 cu:y.length<c.b.length->k+1<y.length->t=(c.b.getD y.length default).pc
theorem cZ{l:List En}{n i:Nat}(h:i<n):(l.take n).getD i default=l.getD i default:=by
 rw[au,au,aZ,aq h]
theorem wl(c:Cf)(k:Nat){Z:Prop}(z:Z):(RF false (RF (↑c.b.length:Int) (RF (k:Int) (RF (k:Int) (RF ((0:Int)+1) Z))))):=⟨rfl,rfl,rfl,rfl,rfl,z⟩
theorem eD(c:Cf){Z:Prop}(z:Z):(RR c.s.m.length 1 (fun i j=>aI (List.getD c.s.m i 0)) (RF c.s.st.length (RR c.s.st.length 1 (fun i j=>aI (List.getD c.s.st i 0)) (RF c.s.pc (RF c.b.length (RR c.b.length 8 (fun i j=>ao enC c.b i j) (RF c.r.length (RR c.r.length 1 (fun i j=>aI (c.r.getD i 0)) (RF c.e Z))))))))):=⟨fun _ _ _ _=>rfl,rfl,fun _ _ _ _=>rfl,rfl,rfl,fun _ _ _ _=>rfl,rfl,fun _ _ _ _=>rfl,rfl,z⟩
theorem eC(p:Pg)(c:Cf){Z:Prop}(z:Z):(RF p.ls.length (RR p.ls.length 2 (fun i j=>ao lbC p.ls i j) (RF p.is.length (RR p.is.length 9 (fun i j=>ao inC p.is i j) (RF c.s.r0 (RF c.s.r1 (RF c.s.r2 (RF c.s.r3 (RF c.s.m.length Z))))))))):=⟨rfl,fun _ _ _ _=>rfl,rfl,fun _ _ _ _=>rfl,rfl,rfl,rfl,rfl,rfl,z⟩
theorem d6(p:Pg){Z:Prop}(z:Z):(RF p.W (RF p.win (RF p.fuel (RF p.r0 (RF p.r1 (RF p.r2 (RF p.r3 (RF p.ms.length (RR p.ms.length 3 (fun i j=>ao mmC p.ms i j) Z))))))))):=⟨rfl,rfl,rfl,rfl,rfl,rfl,rfl,rfl,fun _ _ _ _=>rfl,z⟩
theorem LQ(p:Pg)(c:Cf)(k:Nat)(hk:k<c.b.length)(hb:c.b.length<1000)(he:c.e=0)(h1:pC_ 9 [.agg (pgA p),.agg (cfA c), aI k] (.tup [.agg (cfA Cf0),obR [],.bool false]) []):Vc (vC_ 5 1 (kqS p c k 0) [.bd true,.cl [.agg (pgA p),.agg (cfA c), aI k] (.tup [.agg (cfA Cf0),obR [],.bool false]) [],.bd false] .nrm [(0,0),(1,1)] (kqS p c k 1)):=aj (cj (dt ((0:Int)<2)) (d6 p (eC p c (eD c (cj (rf (k:Int)) (cj h1 (cj (e0 0 1) (cj (i6 (0+1)) (d6 p (eC p c (eD c (wl c k trivial))))))))))))
theorem ji(c:Cf){Z:Prop}(z:Z):(RF c.s.r0 (RF c.s.r1 (RF c.s.r2 (RF c.s.r3 (RF c.s.m.length (RR c.s.m.length 1 (fun i j=>aI (List.getD c.s.m i 0)) (RF c.s.st.length (RR c.s.st.length 1 (fun i j=>aI (List.getD c.s.st i 0)) (RF c.s.pc Z))))))))):=⟨rfl,rfl,rfl,rfl,rfl,fun _ _ _ _=>rfl,rfl,fun _ _ _ _=>rfl,rfl,z⟩
abbrev A4(p:Pg)(c:Cf)(k:Nat)(t:Int)(y:List En)(o:List Ob):Prop:=PureC Tryz.prog 9 [.agg (pgA p),.agg (cfA c),.int .i64 k] (.tup [.agg (cfA ⟨c.s.go t,y,c.r,c.e⟩),obR o,.bool true]) []
abbrev qT(c:Cf)(k:Nat):Prop:=PureC Tryz.prog 20 [enR (c.b.take k),enR (c.b.take k)] (.bool true) []
abbrev qU(c:Cf):Prop:=PureC Tryz.prog 19 [.agg (s8R c.s),.agg (s8R c.s)] (.bool true) []
abbrev rj(p:Pg)(c:Cf)(k:Nat)(t:Int)(y:List En)(o:List Ob):Orc:= .cl [.agg (pgA p),.agg (cfA c), aI k] (.tup [.agg (cfA ⟨c.s.go t,y,c.r,c.e⟩),obR o,.bool true]) []
abbrev rh(c:Cf)(k:Nat):Orc:= .cl [enR (c.b.take k),enR (c.b.take k)] (.bool true) []
abbrev ri(c:Cf):Orc:= .cl [.agg (s8R c.s),.agg (s8R c.s)] (.bool true) []
theorem LU(p:Pg)(c:Cf)(k:Nat)(hk:k<c.b.length)(hb:c.b.length<1000)(he:c.e=0)(t:Int)(y:List En)(o:List Ob)(hK:Kp c k t y o)(hlo:k<y.length)(hhi:y.length<=c.b.length)(hob:o.length<=1)(hl:y.length=c.b.length)(hn:k+1<c.b.length)(ht:t=c.s.pc)(h1:A4 p c k t y o)(h2:qU c)(h3:qT c k):Vc (vC_ 5 1 (kqS p c k 0) [.bd true,rj p c k t y o,.bd false,ri c,.bd false,.bd false,.bd false,.bd false,rh c k,.bd true,.bd true,.bd false,.bd false] .nrm [(0,0),(1,1)] (kqS p c k 1)):=aj (cj (dt ((0:Int)<2)) (d6 p (eC p c (eD c (cj (rf (k:Int)) (cj h1 (cj (e0 0 1) (ji c (ji c (cj h2 (cj (df ((y.length:Int)<=k)) (cj (df ((y.length:Int)>c.b.length)) (cj (df ((o.length:Int)>1)) (cj (show(c.e !=(0:Int))=false from(ax.2 (by omega))) (cj (pv ((0:Int)<=k∧(k:Int)<=y.length)) (cj (pv ((0:Int)<=k∧(k:Int)<=c.b.length)) (cj (pv (k=(List.take k c.b).length)) (cj (show ∀(i:Nat),i<k-> ∀(j:Nat),j<8->ao enC y i j=ao enC (List.take k c.b) i j from(fun i hi j hj=>by show enC (y.getD i default) j=enC ((c.b.take k).getD i default) j;rw[cZ (show i<k by omega),hK.eq i (by omega)])) (cj (pv (k=(List.take k c.b).length)) (cj (show ∀(i:Nat),i<k-> ∀(j:Nat),j<8->ao enC c.b i j=ao enC (List.take k c.b) i j from(fun i hi j hj=>by show enC (c.b.getD i default) j=enC ((c.b.take k).getD i default) j;rw[cZ (show i<k by omega)])) (cj h3 (cj (e1 y.length c.b.length) (cj (i6 (k+1)) (cj (dt ((k:Int)+1<c.b.length)) (cj (show(t !=c.s.pc)=false from(ax.2 (by omega))) (cj (df ((y.length:Int)<c.b.length)) (cj (i6 (0+1)) (d6 p (eC p c (eD c (wl c k trivial)))))))))))))))))))))))))))))))
theorem LT(p:Pg)(c:Cf)(k:Nat)(hk:k<c.b.length)(hb:c.b.length<1000)(he:c.e=0)(t:Int)(y:List En)(o:List Ob)(hK:Kp c k t y o)(hlo:k<y.length)(hhi:y.length<=c.b.length)(hob:o.length<=1)(hl:y.length=c.b.length)(hn: ¬k+1<c.b.length)(h1:A4 p c k t y o)(h2:qU c)(h3:qT c k):Vc (vC_ 5 1 (kqS p c k 0) [.bd true,rj p c k t y o,.bd false,ri c,.bd false,.bd false,.bd false,.bd false,rh c k,.bd true,.bd false,.bd false] .nrm [(0,0),(1,1)] (kqS p c k 1)):=aj (cj (dt ((0:Int)<2)) (d6 p (eC p c (eD c (cj (rf (k:Int)) (cj h1 (cj (e0 0 1) (ji c (ji c (cj h2 (cj (df ((y.length:Int)<=k)) (cj (df ((y.length:Int)>c.b.length)) (cj (df ((o.length:Int)>1)) (cj (show(c.e !=(0:Int))=false from(ax.2 (by omega))) (cj (pv ((0:Int)<=k∧(k:Int)<=y.length)) (cj (pv ((0:Int)<=k∧(k:Int)<=c.b.length)) (cj (pv (k=(List.take k c.b).length)) (cj (show ∀(i:Nat),i<k-> ∀(j:Nat),j<8->ao enC y i j=ao enC (List.take k c.b) i j from(fun i hi j hj=>by show enC (y.getD i default) j=enC ((c.b.take k).getD i default) j;rw[cZ (show i<k by omega),hK.eq i (by omega)])) (cj (pv (k=(List.take k c.b).length)) (cj (show ∀(i:Nat),i<k-> ∀(j:Nat),j<8->ao enC c.b i j=ao enC (List.take k c.b) i j from(fun i hi j hj=>by show enC (c.b.getD i default) j=enC ((c.b.take k).getD i default) j;rw[cZ (show i<k by omega)])) (cj h3 (cj (e1 y.length c.b.length) (cj (i6 (k+1)) (cj (df ((k:Int)+1<c.b.length)) (cj (df ((y.length:Int)<c.b.length)) (cj (i6 (0+1)) (d6 p (eC p c (eD c (wl c k trivial))))))))))))))))))))))))))))))
theorem LS(p:Pg)(c:Cf)(k:Nat)(hk:k<c.b.length)(hb:c.b.length<1000)(he:c.e=0)(t:Int)(y:List En)(o:List Ob)(hK:Kp c k t y o)(hlo:k<y.length)(hhi:y.length<=c.b.length)(hob:o.length<=1)(hl:y.length<c.b.length)(hn:k+1<y.length)(ht:t=(c.b.getD y.length default).pc)(h1:A4 p c k t y o)(h2:qU c)(h3:qT c k):Vc (vC_ 5 1 (kqS p c k 0) [.bd true,rj p c k t y o,.bd false,ri c,.bd false,.bd false,.bd false,.bd false,rh c k,.bd false,.bd true,.bd true,.bd false] .nrm [(0,0),(1,1)] (kqS p c k 1)):=aj (cj (dt ((0:Int)<2)) (d6 p (eC p c (eD c (cj (rf (k:Int)) (cj h1 (cj (e0 0 1) (ji c (ji c (cj h2 (cj (df ((y.length:Int)<=k)) (cj (df ((y.length:Int)>c.b.length)) (cj (df ((o.length:Int)>1)) (cj (show(c.e !=(0:Int))=false from(ax.2 (by omega))) (cj (pv ((0:Int)<=k∧(k:Int)<=y.length)) (cj (pv ((0:Int)<=k∧(k:Int)<=c.b.length)) (cj (pv (k=(List.take k c.b).length)) (cj (show ∀(i:Nat),i<k-> ∀(j:Nat),j<8->ao enC y i j=ao enC (List.take k c.b) i j from(fun i hi j hj=>by show enC (y.getD i default) j=enC ((c.b.take k).getD i default) j;rw[cZ (show i<k by omega),hK.eq i (by omega)])) (cj (pv (k=(List.take k c.b).length)) (cj (show ∀(i:Nat),i<k-> ∀(j:Nat),j<8->ao enC c.b i j=ao enC (List.take k c.b) i j from(fun i hi j hj=>by show enC (c.b.getD i default) j=enC ((c.b.take k).getD i default) j;rw[cZ (show i<k by omega)])) (cj h3 (cj (e0 y.length c.b.length) (cj (dt ((y.length:Int)<c.b.length)) (cj (i6 (k+1)) (cj (dt ((y.length:Int)>k+1)) (cj (bi y.length c.b.length) (cj (show(t !=(c.b.getD y.length default).pc)=false from(ax.2 (by omega))) (cj (i6 (0+1)) (d6 p (eC p c (eD c (wl c k trivial))))))))))))))))))))))))))))))))
theorem LR(p:Pg)(c:Cf)(k:Nat)(hk:k<c.b.length)(hb:c.b.length<1000)(he:c.e=0)(t:Int)(y:List En)(o:List Ob)(hK:Kp c k t y o)(hlo:k<y.length)(hhi:y.length<=c.b.length)(hob:o.length<=1)(hl:y.length<c.b.length)(hn: ¬k+1<y.length)(h1:A4 p c k t y o)(h2:qU c)(h3:qT c k):Vc (vC_ 5 1 (kqS p c k 0) [.bd true,rj p c k t y o,.bd false,ri c,.bd false,.bd false,.bd false,.bd false,rh c k,.bd false,.bd true,.bd false] .nrm [(0,0),(1,1)] (kqS p c k 1)):=aj (cj (dt ((0:Int)<2)) (d6 p (eC p c (eD c (cj (rf (k:Int)) (cj h1 (cj (e0 0 1) (ji c (ji c (cj h2 (cj (df ((y.length:Int)<=k)) (cj (df ((y.length:Int)>c.b.length)) (cj (df ((o.length:Int)>1)) (cj (show(c.e !=(0:Int))=false from(ax.2 (by omega))) (cj (pv ((0:Int)<=k∧(k:Int)<=y.length)) (cj (pv ((0:Int)<=k∧(k:Int)<=c.b.length)) (cj (pv (k=(List.take k c.b).length)) (cj (show ∀(i:Nat),i<k-> ∀(j:Nat),j<8->ao enC y i j=ao enC (List.take k c.b) i j from(fun i hi j hj=>by show enC (y.getD i default) j=enC ((c.b.take k).getD i default) j;rw[cZ (show i<k by omega),hK.eq i (by omega)])) (cj (pv (k=(List.take k c.b).length)) (cj (show ∀(i:Nat),i<k-> ∀(j:Nat),j<8->ao enC c.b i j=ao enC (List.take k c.b) i j from(fun i hi j hj=>by show enC (c.b.getD i default) j=enC ((c.b.take k).getD i default) j;rw[cZ (show i<k by omega)])) (cj h3 (cj (e0 y.length c.b.length) (cj (dt ((y.length:Int)<c.b.length)) (cj (i6 (k+1)) (cj (df ((y.length:Int)>k+1)) (cj (i6 (0+1)) (d6 p (eC p c (eD c (wl c k trivial))))))))))))))))))))))))))))))
theorem wk(c:Cf)(k:Nat){Z:Prop}(z:Z):(RF false (RF (↑c.b.length:Int) (RF (k:Int) (RF (k:Int) (RF ((1:Int)+1) Z))))):=⟨rfl,rfl,rfl,rfl,rfl,z⟩
abbrev xK(p:Pg)(c:Cf)(k:Nat)(x:Cf)(w:List Ob)(tb:Bool):Prop:=PureC Tryz.prog 9 [.agg (pgA p),.agg (cfA c),.int .i64 k] (.tup [.agg (cfA x),obR w,.bool tb]) []
abbrev x8(p:Pg)(c:Cf)(k:Nat)(x:Cf)(w:List Ob)(tb:Bool):Orc:= .cl [.agg (pgA p),.agg (cfA c), aI k] (.tup [.agg (cfA x),obR w,.bool tb]) []
theorem LL(p:Pg)(c:Cf)(k:Nat)(hk:k<c.b.length)(hb:c.b.length<1000)(he:c.e=0)(x:Cf)(w:List Ob)(tb:Bool)(h0:xK p c k x w tb)(h1:pC_ 14 [.agg (pgA p),.agg (cfA c), aI k] (.tup [.agg (cfA Cf0),obR [],.bool false]) []):Vc (vC_ 5 1 (kqS p c k 1) [.bd true,x8 p c k x w tb,.bd true,.cl [.agg (pgA p),.agg (cfA c), aI k] (.tup [.agg (cfA Cf0),obR [],.bool false]) []] .nrm [(0,0),(1,1)] (kqS p c k 2)):=aj (cj (dt ((1:Int)<2)) (d6 p (eC p c (eD c (cj (rf (k:Int)) (cj h0 (cj (e1 1 1) (d6 p (eC p c (eD c (cj (rf (k:Int)) (cj h1 (cj (i6 (1+1)) (d6 p (eC p c (eD c (wk c k trivial)))))))))))))))))
abbrev A3(p:Pg)(c:Cf)(k:Nat)(t:Int)(y:List En)(o:List Ob):Prop:=PureC Tryz.prog 14 [.agg (pgA p),.agg (cfA c),.int .i64 k] (.tup [.agg (cfA ⟨c.s.go t,y,c.r,c.e⟩),obR o,.bool true]) []
theorem LP(p:Pg)(c:Cf)(k:Nat)(hk:k<c.b.length)(hb:c.b.length<1000)(he:c.e=0)(x:Cf)(w:List Ob)(tb:Bool)(h0:xK p c k x w tb)(t:Int)(y:List En)(o:List Ob)(hK:Kp c k t y o)(hlo:k<y.length)(hhi:y.length<=c.b.length)(hob:o.length<=1)(hl:y.length=c.b.length)(hn:k+1<c.b.length)(ht:t=c.s.pc)(h1:A3 p c k t y o)(h2:qU c)(h3:qT c k):Vc (vC_ 5 1 (kqS p c k 1) [.bd true,x8 p c k x w tb,.bd true,rj p c k t y o,ri c,.bd false,.bd false,.bd false,.bd false,rh c k,.bd true,.bd true,.bd false,.bd false] .nrm [(0,0),(1,1)] (kqS p c k 2)):=aj (cj (dt ((1:Int)<2)) (d6 p (eC p c (eD c (cj (rf (k:Int)) (cj h0 (cj (e1 1 1) (d6 p (eC p c (eD c (cj (rf (k:Int)) (cj h1 (ji c (ji c (cj h2 (cj (df ((y.length:Int)<=k)) (cj (df ((y.length:Int)>c.b.length)) (cj (df ((o.length:Int)>1)) (cj (show(c.e !=(0:Int))=false from(ax.2 (by omega))) (cj (pv ((0:Int)<=k∧(k:Int)<=y.length)) (cj (pv ((0:Int)<=k∧(k:Int)<=c.b.length)) (cj (pv (k=(List.take k c.b).length)) (cj (show ∀(i:Nat),i<k-> ∀(j:Nat),j<8->ao enC y i j=ao enC (List.take k c.b) i j from(fun i hi j hj=>by show enC (y.getD i default) j=enC ((c.b.take k).getD i default) j;rw[cZ (show i<k by omega),hK.eq i (by omega)])) (cj (pv (k=(List.take k c.b).length)) (cj (show ∀(i:Nat),i<k-> ∀(j:Nat),j<8->ao enC c.b i j=ao enC (List.take k c.b) i j from(fun i hi j hj=>by show enC (c.b.getD i default) j=enC ((c.b.take k).getD i default) j;rw[cZ (show i<k by omega)])) (cj h3 (cj (e1 y.length c.b.length) (cj (i6 (k+1)) (cj (dt ((k:Int)+1<c.b.length)) (cj (show(t !=c.s.pc)=false from(ax.2 (by omega))) (cj (df ((y.length:Int)<c.b.length)) (cj (i6 (1+1)) (d6 p (eC p c (eD c (wk c k trivial))))))))))))))))))))))))))))))))))))
theorem LO(p:Pg)(c:Cf)(k:Nat)(hk:k<c.b.length)(hb:c.b.length<1000)(he:c.e=0)(x:Cf)(w:List Ob)(tb:Bool)(h0:xK p c k x w tb)(t:Int)(y:List En)(o:List Ob)(hK:Kp c k t y o)(hlo:k<y.length)(hhi:y.length<=c.b.length)(hob:o.length<=1)(hl:y.length=c.b.length)(hn: ¬k+1<c.b.length)(h1:A3 p c k t y o)(h2:qU c)(h3:qT c k):Vc (vC_ 5 1 (kqS p c k 1) [.bd true,x8 p c k x w tb,.bd true,rj p c k t y o,ri c,.bd false,.bd false,.bd false,.bd false,rh c k,.bd true,.bd false,.bd false] .nrm [(0,0),(1,1)] (kqS p c k 2)):=aj (cj (dt ((1:Int)<2)) (d6 p (eC p c (eD c (cj (rf (k:Int)) (cj h0 (cj (e1 1 1) (d6 p (eC p c (eD c (cj (rf (k:Int)) (cj h1 (ji c (ji c (cj h2 (cj (df ((y.length:Int)<=k)) (cj (df ((y.length:Int)>c.b.length)) (cj (df ((o.length:Int)>1)) (cj (show(c.e !=(0:Int))=false from(ax.2 (by omega))) (cj (pv ((0:Int)<=k∧(k:Int)<=y.length)) (cj (pv ((0:Int)<=k∧(k:Int)<=c.b.length)) (cj (pv (k=(List.take k c.b).length)) (cj (show ∀(i:Nat),i<k-> ∀(j:Nat),j<8->ao enC y i j=ao enC (List.take k c.b) i j from(fun i hi j hj=>by show enC (y.getD i default) j=enC ((c.b.take k).getD i default) j;rw[cZ (show i<k by omega),hK.eq i (by omega)])) (cj (pv (k=(List.take k c.b).length)) (cj (show ∀(i:Nat),i<k-> ∀(j:Nat),j<8->ao enC c.b i j=ao enC (List.take k c.b) i j from(fun i hi j hj=>by show enC (c.b.getD i default) j=enC ((c.b.take k).getD i default) j;rw[cZ (show i<k by omega)])) (cj h3 (cj (e1 y.length c.b.length) (cj (i6 (k+1)) (cj (df ((k:Int)+1<c.b.length)) (cj (df ((y.length:Int)<c.b.length)) (cj (i6 (1+1)) (d6 p (eC p c (eD c (wk c k trivial)))))))))))))))))))))))))))))))))))
theorem LN(p:Pg)(c:Cf)(k:Nat)(hk:k<c.b.length)(hb:c.b.length<1000)(he:c.e=0)(x:Cf)(w:List Ob)(tb:Bool)(h0:xK p c k x w tb)(t:Int)(y:List En)(o:List Ob)(hK:Kp c k t y o)(hlo:k<y.length)(hhi:y.length<=c.b.length)(hob:o.length<=1)(hl:y.length<c.b.length)(hn:k+1<y.length)(ht:t=(c.b.getD y.length default).pc)(h1:A3 p c k t y o)(h2:qU c)(h3:qT c k):Vc (vC_ 5 1 (kqS p c k 1) [.bd true,x8 p c k x w tb,.bd true,rj p c k t y o,ri c,.bd false,.bd false,.bd false,.bd false,rh c k,.bd false,.bd true,.bd true,.bd false] .nrm [(0,0),(1,1)] (kqS p c k 2)):=aj (cj (dt ((1:Int)<2)) (d6 p (eC p c (eD c (cj (rf (k:Int)) (cj h0 (cj (e1 1 1) (d6 p (eC p c (eD c (cj (rf (k:Int)) (cj h1 (ji c (ji c (cj h2 (cj (df ((y.length:Int)<=k)) (cj (df ((y.length:Int)>c.b.length)) (cj (df ((o.length:Int)>1)) (cj (show(c.e !=(0:Int))=false from(ax.2 (by omega))) (cj (pv ((0:Int)<=k∧(k:Int)<=y.length)) (cj (pv ((0:Int)<=k∧(k:Int)<=c.b.length)) (cj (pv (k=(List.take k c.b).length)) (cj (show ∀(i:Nat),i<k-> ∀(j:Nat),j<8->ao enC y i j=ao enC (List.take k c.b) i j from(fun i hi j hj=>by show enC (y.getD i default) j=enC ((c.b.take k).getD i default) j;rw[cZ (show i<k by omega),hK.eq i (by omega)])) (cj (pv (k=(List.take k c.b).length)) (cj (show ∀(i:Nat),i<k-> ∀(j:Nat),j<8->ao enC c.b i j=ao enC (List.take k c.b) i j from(fun i hi j hj=>by show enC (c.b.getD i default) j=enC ((c.b.take k).getD i default) j;rw[cZ (show i<k by omega)])) (cj h3 (cj (e0 y.length c.b.length) (cj (dt ((y.length:Int)<c.b.length)) (cj (i6 (k+1)) (cj (dt ((y.length:Int)>k+1)) (cj (bi y.length c.b.length) (cj (show(t !=(c.b.getD y.length default).pc)=false from(ax.2 (by omega))) (cj (i6 (1+1)) (d6 p (eC p c (eD c (wk c k trivial)))))))))))))))))))))))))))))))))))))
theorem LM(p:Pg)(c:Cf)(k:Nat)(hk:k<c.b.length)(hb:c.b.length<1000)(he:c.e=0)(x:Cf)(w:List Ob)(tb:Bool)(h0:xK p c k x w tb)(t:Int)(y:List En)(o:List Ob)(hK:Kp c k t y o)(hlo:k<y.length)(hhi:y.length<=c.b.length)(hob:o.length<=1)(hl:y.length<c.b.length)(hn: ¬k+1<y.length)(h1:A3 p c k t y o)(h2:qU c)(h3:qT c k):Vc (vC_ 5 1 (kqS p c k 1) [.bd true,x8 p c k x w tb,.bd true,rj p c k t y o,ri c,.bd false,.bd false,.bd false,.bd false,rh c k,.bd false,.bd true,.bd false] .nrm [(0,0),(1,1)] (kqS p c k 2)):=aj (cj (dt ((1:Int)<2)) (d6 p (eC p c (eD c (cj (rf (k:Int)) (cj h0 (cj (e1 1 1) (d6 p (eC p c (eD c (cj (rf (k:Int)) (cj h1 (ji c (ji c (cj h2 (cj (df ((y.length:Int)<=k)) (cj (df ((y.length:Int)>c.b.length)) (cj (df ((o.length:Int)>1)) (cj (show(c.e !=(0:Int))=false from(ax.2 (by omega))) (cj (pv ((0:Int)<=k∧(k:Int)<=y.length)) (cj (pv ((0:Int)<=k∧(k:Int)<=c.b.length)) (cj (pv (k=(List.take k c.b).length)) (cj (show ∀(i:Nat),i<k-> ∀(j:Nat),j<8->ao enC y i j=ao enC (List.take k c.b) i j from(fun i hi j hj=>by show enC (y.getD i default) j=enC ((c.b.take k).getD i default) j;rw[cZ (show i<k by omega),hK.eq i (by omega)])) (cj (pv (k=(List.take k c.b).length)) (cj (show ∀(i:Nat),i<k-> ∀(j:Nat),j<8->ao enC c.b i j=ao enC (List.take k c.b) i j from(fun i hi j hj=>by show enC (c.b.getD i default) j=enC ((c.b.take k).getD i default) j;rw[cZ (show i<k by omega)])) (cj h3 (cj (e0 y.length c.b.length) (cj (dt ((y.length:Int)<c.b.length)) (cj (i6 (k+1)) (cj (df ((y.length:Int)>k+1)) (cj (i6 (1+1)) (d6 p (eC p c (eD c (wk c k trivial)))))))))))))))))))))))))))))))))))
theorem OB(p:Pg)(c:Cf)(k:Nat):Vc (vC_ 5 1 (kqS p c k 2) [.bd false] (.ext 2) [(0,0),(1,1)] (kqS p c k 2)):=aj (cj (df ((2:Int)<2)) (d6 p (eC p c (eD c (cj (rf false) (cj (rf (↑c.b.length:Int)) (cj (rf (k:Int)) (cj (rf (k:Int)) (cj (rf (2:Int)) trivial)))))))))
theorem GT{c:Cf}{b:List En}{k:Nat}(hk:k<c.b.length)(hb:b.length=c.b.length)(hj: ∀j,j<k->b.getD j default=c.b.getD j default)(t:Int){o:List Ob}(ho:o.length<=1): ∃u y,goV ⟨c.s,b,c.r,c.e⟩ k t=⟨c.s.go u,y,c.r,c.e⟩∧Kp c k u y o:=by
 unfold Px.goV
 show ∃u y,(if(b.getD k default).nxt=t then(⟨c.s,b,c.r,c.e⟩:Cf) else⟨c.s.go t,(b.set k ((b.getD k default).to t)).take (k+1),c.r,c.e⟩)=_∧_
 split
 ·exact⟨c.s.pc,b,rfl,by omega,by omega,hj,ho,fun _ _=>rfl,fun h=>by omega⟩
 ·have hl:((b.set k ((b.getD k default).to t)).take (k+1)).length=k+1:=by rw[aM,az];omega
  refine⟨t,_,rfl,by omega,by omega,fun j hjk=> ?_,ho,fun h=>by omega,fun h=>by omega⟩
  rw[cZ (by omega), <-hj j hjk]
  simp[List.getD,b9,show ¬k=j by omega]
theorem wR{c:Cf}{k:Nat}(hk:k<c.b.length)(e:En){o:List Ob}(ho:o.length<=1): ∃u y,(⟨c.s,c.b.set k e,c.r,c.e⟩:Cf)=⟨c.s.go u,y,c.r,c.e⟩∧Kp c k u y o:=
 ⟨c.s.pc,_,rfl,by rw[az];omega,by rw[az];omega,fun j hj=>by simp[List.getD,b9,show ¬k=j by omega],ho,fun _ _=>rfl,fun h=>by rw[az] at h;omega⟩
theorem C4{l:List En}{k:Nat}(e:En)(j:Nat)(h:j<k):(l.set k e).getD j default=l.getD j default:=by simp[List.getD,b9,show ¬k=j by omega]
theorem LV{p:Pg}{c x:Cf}{k:Nat}{o:List Ob}(hk:k<c.b.length)(e:doO p c k=some (x,o)): ∃t y,x=⟨c.s.go t,y,c.r,c.e⟩∧Kp c k t y o:=by
 unfold doO at e
 split at e
 ·rw[aC,ai] at e
  have hU: ∀(g:En->En) {o:List Ob},o.length<=1-> ∃t y,upE c k g=⟨c.s.go t,y,c.r,c.e⟩∧Kp c k t y o:=fun g _ ho=>wR hk _ ho
  have hG: ∀(t:Int) {o:List Ob},o.length<=1-> ∃u y,goV (upE c k En.done) k t=⟨c.s.go u,y,c.r,c.e⟩∧Kp c k u y o:=fun t _ ho=>GT hk az (fun j hj=>C4 _ j hj) t ho
  unfold dmV at e
  repeat' split at e
  all_goals
   cases e
   first
   |exact hU _ (bb _)
   |exact hU _ (aB _)
   |exact hG _ (aB _)
 ·cases e
theorem yG(p:Pg)(l:List En)(i a:Int): ∀j k q,hzG p l i a k j=some q->k<=q
 |0,_,_,e=>by cases e
 |j+1,k,q,e=>by
  unfold hzG at e
  split at e
  ·cases e;exact aB _
  ·have:=yG p l i a j (k+1) q e
   omega
theorem LW{p:Pg}{c x:Cf}{k:Nat}{o:List Ob}(hk:k<c.b.length)(e:adrO p c k=some (x,o)): ∃t y,x=⟨c.s.go t,y,c.r,c.e⟩∧Kp c k t y o:=by
 unfold adrO at e
 split at e
 ·rw[aC,ai] at e
  unfold qi at e
  split at e
  ·cases e;exact wR hk _ (bb _)
  ·split at e
   ·rename_i h hz
    cases e
    obtain⟨q,rfl,hq⟩:=nE hz
    rw[aC]
    have hl:(upE c k fun e=>e.ad (adV p c k (enX p c k))).b.length=c.b.length:=az
    have hkq:k<q:=by
     unfold hzV at hz
     split at hz
     ·rename_i q2 h2
      have e2:((q2:Nat):Int)=(q:Nat):=congrArg Prod.fst hz
      have h3:=yG p _ _ _ _ _ _ h2
      rw[hl] at h3
      unfold hz0 at h3
      omega
     ·cases hz
    refine⟨_,_,rfl,by rw[aM];omega,by rw[aM];omega,fun j hj=> ?_,aB _,fun h=>by rw[aM] at h;omega,fun h h2=> ?_⟩
    ·rw[cZ (by omega)];exact C4 _ j hj
    ·rw[aM,iX (by omega)] at h2 ⊢
     exact kY (l:=c.b) (k:=k) (g:=fun e=>e.ad (adV p c k (enX p c k))) (fun _=>rfl) q
   ·cases e;exact wR hk _ (aB _)
 ·cases e
theorem OC(p:Pg)(c:Cf)(k:Nat)(hk:k<c.b.length)(hb:c.b.length<1000)(h:oL_ 5 1 (kqS p c k 0).st (.ext 2) (kqS p c k 2).st):Vc (vC_ 5 0 (kpS p c k) [.bd true,.lp [(0,0),(1,1)] (kqS p c k 0) (.ext 2) (kqS p c k 2)] .nrm [(0,0),(1,1)] (kpS p c (k+1))):=aj (cj (dt ((k:Int)<c.b.length)) (d6 p (eC p c (eD c (cj (rf false) (cj (rf (↑c.b.length:Int)) (cj (rf (k:Int)) (cj (rf (k:Int)) (cj (rf (0:Int)) (cj h (cj (i6 (k+1)) (d6 p (eC p c (eD c (cj (rf false) (cj (rf (↑c.b.length:Int)) (cj (rf ((k:Int)+1)) trivial)))))))))))))))))
theorem OD(p:Pg)(c:Cf)(k:Nat)(hk: ¬k<c.b.length):Vc (vC_ 5 0 (kpS p c k) [.bd false] (.ext 0) [(0,0),(1,1)] (kpS p c k)):=aj (cj (df ((k:Int)<c.b.length)) (d6 p (eC p c (eD c (cj (rf false) (cj (rf (↑c.b.length:Int)) (cj (rf (k:Int)) trivial)))))))
theorem ID(p:Pg){Z:Prop}(z:Z):(RF p.ls.length (RR p.ls.length 2 (fun i j=>ao lbC p.ls i j) (RF p.is.length (RR p.is.length 9 (fun i j=>ao inC p.is i j) Z)))):=⟨rfl,fun _ _ _ _=>rfl,rfl,fun _ _ _ _=>rfl,z⟩
theorem yz(m zs w:List Int)(p:Pg)(s s2:S8)(c:Cf)(d:List Dr)(n:Nat)(hs:s.st=[])(hb:c.b.length<1000)(h1:pC_ 6 [lR m] (.agg (pgA p)) [])(h2:pC_ 7 [.agg (pgA p),lR zs, aI 1] (.tup [.agg (s8N s),.agg (s8N s2)]) [])(h3:pC_ 8 [.agg (pgA p),.agg (s8R s),lR w] (.tup [.agg (cfA c),drR d]) [])(h4:oL_ 5 0 (kpS p c 0).st (.ext 0) (kpS p c n).st):Vc (vF_ 5 [lR m,lR zs,lR w] [.cl [lR m] (.agg (pgA p)) [],.cl [.agg (pgA p),lR zs, aI 1] (.tup [.agg (s8N s),.agg (s8N s2)]) [],.cl [.agg (pgA p),.agg (s8R s),lR w] (.tup [.agg (cfA c),drR d]) [],.lp [(0,0),(1,3)] (kpS p c 0) (.ext 0) (kpS p c n),.cl [] (.bool true) []] [] (.bool true) []):=aj (cj (rf m.length) (cj (rr m.length 1 fun i j=>aI (m.getD i 0)) (cj h1 (d6 p (ID p (cj (rf zs.length) (cj (rr zs.length 1 fun i j=>aI (zs.getD i 0)) (cj (rf (1:Int)) (cj h2 (d6 p (ID p (cj (rf s.r0) (cj (rf s.r1) (cj (rf s.r2) (cj (rf s.r3) (cj (rf s.m.length) (cj (rr s.m.length 1 fun i j=>aI (s.m.getD i 0)) (cj (show s.st.length=0 from by rw[hs];rfl) (cj (rf s.pc) (cj (rf w.length) (cj (rr w.length 1 fun i j=>aI (w.getD i 0)) (cj h3 (d6 p (eC p c (eD c (cj (rf false) (cj (rf (↑c.b.length:Int)) (cj (rf (0:Int)) (cj h4 (cj nX (cj (rf true) trivial)))))))))))))))))))))))))))))))
theorem kq0(m zs w:List Int)(k:Nat)(hk:k<(wkC m zs w).b.length)(he:(wkC m zs w).e=0):Ok Tryz.prog (bY Tryz.prog 5) (lpC Tryz.prog 5 1) (kqS (bz m) (wkC m zs w) k 0).st .nrm (kqS (bz m) (wkC m zs w) k 1).st:=by
 have hok:=tC m zs w
 have hS:=ia m zs w
 have hb:(wkC m zs w).b.length<1000:=by have:=hS.b;omega
 have hs7:=C6 (wkC m zs w).s (by have:=hS.m;omega) (by have:=hS.st;omega)
 have hse:=C5 ((wkC m zs w).b.take k) (by rw[aM];omega)
 have h1:=nl (bz m) (wkC m zs w) k hok
 cases e:doO (bz m) (wkC m zs w) k with
 |none=>
  rw[kI e] at h1
  exact Ok.vc (LQ _ _ k hk hb he h1)
 |some r=>
  obtain⟨x,o⟩:=r
  rw[fj e] at h1
  obtain⟨t,y,rfl,hK⟩:=LV hk e
  have hlo:=hK.lo
  have hhi:=hK.hi
  have hob:=hK.ob
  by_cases hl:y.length=(wkC m zs w).b.length
  ·by_cases hn:k+1<(wkC m zs w).b.length
   ·exact Ok.vc (LU _ _ k hk hb he t y o hK hlo hhi hob hl hn (hK.al hl hn) h1 hs7 hse)
   ·exact Ok.vc (LT _ _ k hk hb he t y o hK hlo hhi hob hl hn h1 hs7 hse)
  ·by_cases hn:k+1<y.length
   ·exact Ok.vc (LS _ _ k hk hb he t y o hK hlo hhi hob (by omega) hn (hK.cu (by omega) hn) h1 hs7 hse)
   ·exact Ok.vc (LR _ _ k hk hb he t y o hK hlo hhi hob (by omega) hn h1 hs7 hse)
theorem kq1(m zs w:List Int)(k:Nat)(hk:k<(wkC m zs w).b.length)(he:(wkC m zs w).e=0):Ok Tryz.prog (bY Tryz.prog 5) (lpC Tryz.prog 5 1) (kqS (bz m) (wkC m zs w) k 1).st .nrm (kqS (bz m) (wkC m zs w) k 2).st:=by
 have hok:=tC m zs w
 have hS:=ia m zs w
 have hb:(wkC m zs w).b.length<1000:=by have:=hS.b;omega
 have hs7:=C6 (wkC m zs w).s (by have:=hS.m;omega) (by have:=hS.st;omega)
 have hse:=C5 ((wkC m zs w).b.take k) (by rw[aM];omega)
 have h1:=Bn (bz m) (wkC m zs w) k hok
 cases e:adrO (bz m) (wkC m zs w) k with
 |none=>
  rw[kI e] at h1
  exact Ok.vc (LL _ _ k hk hb he _ _ _ (nl (bz m) (wkC m zs w) k hok) h1)
 |some r=>
  obtain⟨x,o⟩:=r
  rw[fj e] at h1
  obtain⟨t,y,rfl,hK⟩:=LW hk e
  have hlo:=hK.lo
  have hhi:=hK.hi
  have hob:=hK.ob
  by_cases hl:y.length=(wkC m zs w).b.length
  ·by_cases hn:k+1<(wkC m zs w).b.length
   ·exact Ok.vc (LP _ _ k hk hb he _ _ _ (nl (bz m) (wkC m zs w) k hok) t y o hK hlo hhi hob hl hn (hK.al hl hn) h1 hs7 hse)
   ·exact Ok.vc (LO _ _ k hk hb he _ _ _ (nl (bz m) (wkC m zs w) k hok) t y o hK hlo hhi hob hl hn h1 hs7 hse)
  ·by_cases hn:k+1<y.length
   ·exact Ok.vc (LN _ _ k hk hb he _ _ _ (nl (bz m) (wkC m zs w) k hok) t y o hK hlo hhi hob (by omega) hn (hK.cu (by omega) hn) h1 hs7 hse)
   ·exact Ok.vc (LM _ _ k hk hb he _ _ _ (nl (bz m) (wkC m zs w) k hok) t y o hK hlo hhi hob (by omega) hn h1 hs7 hse)
theorem BG(m zs w:List Int)(k:Nat)(hk:k<(wkC m zs w).b.length)(he:(wkC m zs w).e=0):oL_ 5 1 (kqS (bz m) (wkC m zs w) k 0).st (.ext 2) (kqS (bz m) (wkC m zs w) k 2).st:=
 Ok.loop (P:=Tryz.prog) (nt:=bY Tryz.prog 5) (c:=lpC Tryz.prog 5 1) (F:=fun q=>kqS (bz m) (wkC m zs w) k (q:Nat)) (m:=2) (x:= .ext 2) (J:=kqS (bz m) (wkC m zs w) k 2) (fun q hq=>match q,hq with
  |0,_=>kq0 m zs w k hk he
  |1,_=>kq1 m zs w k hk he) (Ok.vc (OB _ _ k)) (by simp)
theorem BH(m zs w:List Int):oL_ 5 0 (kpS (bz m) (wkC m zs w) 0).st (.ext 0) (kpS (bz m) (wkC m zs w) (wkC m zs w).b.length).st:=by
 have hb:(wkC m zs w).b.length<1000:=by have:=(ia m zs w).b;omega
 exact Ok.loop (P:=Tryz.prog) (nt:=bY Tryz.prog 5) (c:=lpC Tryz.prog 5 0) (F:=fun k=>kpS (bz m) (wkC m zs w) k) (m:=(wkC m zs w).b.length) (x:= .ext 0) (J:=kpS (bz m) (wkC m zs w) (wkC m zs w).b.length) (fun k hk=>Ok.vc (OC _ _ k hk hb (BG m zs w k hk (Decidable.byContradiction fun h=>by have h2:=((kb m zs w).1.fin h).1;rw[h2] at hk;exact absurd hk (cA _))))) (Ok.vc (OD _ _ _ (db _))) (by simp)
theorem sW(m zs w:List Int):pC_ 5 [lR m,lR zs,lR w] (.bool true) []:=by
 have hP:=eO m
 exact PureC.vc (yz m zs w (bz m) (sA (bz m) zs) (sB (bz m) zs 1) (wkC m zs w) _ _ rfl (by have:=(ia m zs w).b;omega) (mkC m) (pz (bz m) zs 1 hP) (wM m zs w) (BH m zs w))
theorem walk_ExecKeeps(A0:Option Addr)(c0:Nat)(z0:List Int)(A1:Option Addr)(c1:Nat)(z1:List Int)(A2:Option Addr)(c2:Nat)(z2:List Int)(W:World)(hc0:z0.length<=c0)(hm0:c0<=maxLen)(hr0:Rd W W.heap.size A0 (z0.map (Value.int .i64)))(hc1:z1.length<=c1)(hm1:c1<=maxLen)(hr1:Rd W W.heap.size A1 (z1.map (Value.int .i64)))(hc2:z2.length<=c2)(hm2:c2<=maxLen)(hr2:Rd W W.heap.size A2 (z2.map (Value.int .i64))):Calls Tryz.prog 5 #[.slice A0 z0.length c0,.slice A1 z1.length c1,.slice A2 z2.length c2] W (RetB (.bool true) W):=
 (sW z0 z1 z2).lawB (R:=fun g=>g<W.heap.size) (fun _ h=>h) rfl (fun j x v hx hv=>match j,hx,hv with
  |0,rfl,rfl=> .ofRd hr0 hc0 hm0
  |1,rfl,rfl=> .ofRd hr1 hc1 hm1
  |2,rfl,rfl=> .ofRd hr2 hc2 hm2)
def pcO(p:Pg)(c:Cf):List (Nat×Blk):=[(0,⟨0,false,28,.box (pgA p)⟩),(1,⟨0,false,36,.box (cfA c)⟩)]
def eoS(p:Pg)(c:Cf)(k:Nat):Sm:=⟨[(6,.bool false),(7,.bptr 0 0),(10,.bptr 1 0),(43,.int .i64 c.b.length),(44,.int .i64 k)],pcO p c,2⟩
def eqS(p:Pg)(c:Cf)(k:Nat)(q:Nat):Sm:=⟨[(6,.bool false),(7,.bptr 0 0),(10,.bptr 1 0),(43,.int .i64 c.b.length),(44,.int .i64 k),(12,.int .i64 k),(13,.int .i64 q)],pcO p c,2⟩
theorem zZ(c:Cf)(k:Nat)(q:Nat){Z:Prop}(z:Z):(RF false (RF (↑c.b.length:Int) (RF (k:Int) (RF (k:Int) (RF ((q:Int)+1) Z))))):=⟨rfl,rfl,rfl,rfl,rfl,z⟩
theorem iB(c:Cf){Z:Prop}(z:Z):(RR c.s.m.length 1 (fun i j=>aI (List.getD c.s.m i 0)) (RF c.s.st.length (RR c.s.st.length 1 (fun i j=>aI (List.getD c.s.st i 0)) (RF c.s.pc (RF c.b.length (RR c.b.length 8 (fun i j=>ao enC c.b i j) (RF c.r.length (RR c.r.length 1 (fun i j=>aI (c.r.getD i 0)) (RF c.e Z))))))))):=⟨fun _ _ _ _=>rfl,rfl,fun _ _ _ _=>rfl,rfl,rfl,fun _ _ _ _=>rfl,rfl,fun _ _ _ _=>rfl,rfl,z⟩
theorem iA(p:Pg)(c:Cf){Z:Prop}(z:Z):(RF p.ls.length (RR p.ls.length 2 (fun i j=>ao lbC p.ls i j) (RF p.is.length (RR p.is.length 9 (fun i j=>ao inC p.is i j) (RF c.s.r0 (RF c.s.r1 (RF c.s.r2 (RF c.s.r3 (RF c.s.m.length Z))))))))):=⟨rfl,fun _ _ _ _=>rfl,rfl,fun _ _ _ _=>rfl,rfl,rfl,rfl,rfl,rfl,z⟩
theorem gb(p:Pg){Z:Prop}(z:Z):(RF p.W (RF p.win (RF p.fuel (RF p.r0 (RF p.r1 (RF p.r2 (RF p.r3 (RF p.ms.length (RR p.ms.length 3 (fun i j=>ao mmC p.ms i j) Z))))))))):=⟨rfl,rfl,rfl,rfl,rfl,rfl,rfl,rfl,fun _ _ _ _=>rfl,z⟩
theorem Pe(p:Pg)(c:Cf)(k q:Nat)(hk:k<c.b.length)(hq:q<k)(hb:c.b.length<1000)(x y:Cf)(u w:List Ob)(tb:Bool)(h0:pC_ 9 [.agg (pgA p),.agg (cfA c), aI k] (.tup [.agg (cfA x),obR u,.bool false]) [])(h1:pC_ 9 [.agg (pgA p),.agg (cfA c), aI q] (.tup [.agg (cfA y),obR w,.bool tb]) []):Vc (vC_ 3 1 (eqS p c k q) [.bd true,.cl [.agg (pgA p),.agg (cfA c), aI k] (.tup [.agg (cfA x),obR u,.bool false]) [],.cl [.agg (pgA p),.agg (cfA c), aI q] (.tup [.agg (cfA y),obR w,.bool tb]) []] .nrm [(0,0),(1,1)] (eqS p c k (q+1))):=aj (cj (dt ((q:Int)<k)) (gb p (iA p c (iB c (cj (rf (k:Int)) (cj h0 (gb p (iA p c (iB c (cj (rf (q:Int)) (cj h1 (cj (i6 (q+1)) (gb p (iA p c (iB c (zZ c k q trivial))))))))))))))))
abbrev FG(p:Pg)(c:Cf)(k:Nat)(x:Cf)(u:List Ob):Prop:=PureC Tryz.prog 9 [.agg (pgA p),.agg (cfA c),.int .i64 k] (.tup [.agg (cfA x),obR u,.bool true]) []
abbrev F0(p:Pg)(c:Cf)(k:Nat)(x:Cf)(u:List Ob):Orc:= .cl [.agg (pgA p),.agg (cfA c), aI k] (.tup [.agg (cfA x),obR u,.bool true]) []
theorem Pd(p:Pg)(c:Cf)(k q:Nat)(hk:k<c.b.length)(hq:q<k)(hb:c.b.length<1000)(x y:Cf)(u w:List Ob)(h0:FG p c k x u)(h1:pC_ 9 [.agg (pgA p),.agg (cfA c), aI q] (.tup [.agg (cfA y),obR w,.bool false]) []):Vc (vC_ 3 1 (eqS p c k q) [.bd true,F0 p c k x u,.cl [.agg (pgA p),.agg (cfA c), aI q] (.tup [.agg (cfA y),obR w,.bool false]) []] .nrm [(0,0),(1,1)] (eqS p c k (q+1))):=aj (cj (dt ((q:Int)<k)) (gb p (iA p c (iB c (cj (rf (k:Int)) (cj h0 (gb p (iA p c (iB c (cj (rf (q:Int)) (cj h1 (cj (i6 (q+1)) (gb p (iA p c (iB c (zZ c k q trivial))))))))))))))))
theorem Pc(p:Pg)(c:Cf)(k q:Nat)(hk:k<c.b.length)(hq:q<k)(hb:c.b.length<1000)(x y:Cf)(u w:List Ob)(hl:y.b.length<=k)(h0:FG p c k x u)(h1:pC_ 9 [.agg (pgA p),.agg (cfA c), aI q] (.tup [.agg (cfA y),obR w,.bool true]) []):Vc (vC_ 3 1 (eqS p c k q) [.bd true,F0 p c k x u,.cl [.agg (pgA p),.agg (cfA c), aI q] (.tup [.agg (cfA y),obR w,.bool true]) [],.bd true] .nrm [(0,0),(1,1)] (eqS p c k (q+1))):=aj (cj (dt ((q:Int)<k)) (gb p (iA p c (iB c (cj (rf (k:Int)) (cj h0 (gb p (iA p c (iB c (cj (rf (q:Int)) (cj h1 (cj (dt ((↑y.b.length:Int)<=k)) (cj (i6 (q+1)) (gb p (iA p c (iB c (zZ c k q trivial)))))))))))))))))
theorem zY(p:Pg){Z:Prop}(z:Z):(RF p.ls.length (RR p.ls.length 2 (fun i j=>ao lbC p.ls i j) (RF p.is.length (RR p.is.length 9 (fun i j=>ao inC p.is i j) Z)))):=⟨rfl,fun _ _ _ _=>rfl,rfl,fun _ _ _ _=>rfl,z⟩
theorem Pb(p:Pg)(c:Cf)(k q:Nat)(hk:k<c.b.length)(hq:q<k)(hb:c.b.length<1000)(x y:Cf)(u w:List Ob)(t:Cf)(g h:List Ob)(hl: ¬y.b.length<=k)(h0:FG p c k x u)(h1:pC_ 9 [.agg (pgA p),.agg (cfA c), aI q] (.tup [.agg (cfA y),obR w,.bool true]) [])(h2:pC_ 9 [.agg (pgA p),.agg (cfA x), aI q] (.tup [.agg (cfA t),obR g,.bool true]) [])(h3:pC_ 9 [.agg (pgA p),.agg (cfA y), aI k] (.tup [.agg (cfA t),obR h,.bool true]) [])(h4:pC_ 10 [.agg (cfA t),.agg (cfA t)] (.bool true) []):Vc (vC_ 3 1 (eqS p c k q) [.bd true,F0 p c k x u,.cl [.agg (pgA p),.agg (cfA c), aI q] (.tup [.agg (cfA y),obR w,.bool true]) [],.bd false,.cl [.agg (pgA p),.agg (cfA x), aI q] (.tup [.agg (cfA t),obR g,.bool true]) [],.cl [.agg (pgA p),.agg (cfA y), aI k] (.tup [.agg (cfA t),obR h,.bool true]) [],.cl [.agg (cfA t),.agg (cfA t)] (.bool true) []] .nrm [(0,0),(1,1)] (eqS p c k (q+1))):=aj (cj (dt ((q:Int)<k)) (gb p (iA p c (iB c (cj (rf (k:Int)) (cj h0 (gb p (iA p c (iB c (cj (rf (q:Int)) (cj h1 (cj (df ((↑y.b.length:Int)<=k)) (gb p (zY p (cj (rf x.s.r0) (cj (rf x.s.r1) (cj (rf x.s.r2) (cj (rf x.s.r3) (cj (rf x.s.m.length) (cj (rr x.s.m.length 1 fun i j=>aI (List.getD x.s.m i 0)) (cj (rf x.s.st.length) (cj (rr x.s.st.length 1 fun i j=>aI (List.getD x.s.st i 0)) (cj (rf x.s.pc) (cj (rf x.b.length) (cj (rr x.b.length 8 fun i j=>ao enC x.b i j) (cj (rf x.r.length) (cj (rr x.r.length 1 fun i j=>aI (x.r.getD i 0)) (cj (rf x.e) (cj (rf (q:Int)) (cj h2 (gb p (zY p (cj (rf y.s.r0) (cj (rf y.s.r1) (cj (rf y.s.r2) (cj (rf y.s.r3) (cj (rf y.s.m.length) (cj (rr y.s.m.length 1 fun i j=>aI (List.getD y.s.m i 0)) (cj (rf y.s.st.length) (cj (rr y.s.st.length 1 fun i j=>aI (List.getD y.s.st i 0)) (cj (rf y.s.pc) (cj (rf y.b.length) (cj (rr y.b.length 8 fun i j=>ao enC y.b i j) (cj (rf y.r.length) (cj (rr y.r.length 1 fun i j=>aI (y.r.getD i 0)) (cj (rf y.e) (cj (rf (k:Int)) (cj h3 (cj (rf t.s.r0) (cj (rf t.s.r1) (cj (rf t.s.r2) (cj (rf t.s.r3) (cj (rf t.s.m.length) (cj (rr t.s.m.length 1 fun i j=>aI (List.getD t.s.m i 0)) (cj (rf t.s.st.length) (cj (rr t.s.st.length 1 fun i j=>aI (List.getD t.s.st i 0)) (cj (rf t.s.pc) (cj (rf t.b.length) (cj (rr t.b.length 8 fun i j=>ao enC t.b i j) (cj (rf t.r.length) (cj (rr t.r.length 1 fun i j=>aI (t.r.getD i 0)) (cj (rf t.e) (cj (rf t.s.r0) (cj (rf t.s.r1) (cj (rf t.s.r2) (cj (rf t.s.r3) (cj (rf t.s.m.length) (cj (rr t.s.m.length 1 fun i j=>aI (List.getD t.s.m i 0)) (cj (rf t.s.st.length) (cj (rr t.s.st.length 1 fun i j=>aI (List.getD t.s.st i 0)) (cj (rf t.s.pc) (cj (rf t.b.length) (cj (rr t.b.length 8 fun i j=>ao enC t.b i j) (cj (rf t.r.length) (cj (rr t.r.length 1 fun i j=>aI (t.r.getD i 0)) (cj (rf t.e) (cj h4 (cj (i6 (q+1)) (gb p (iA p c (iB c (zZ c k q trivial))))))))))))))))))))))))))))))))))))))))))))))))))))))))))))))))))))))))))))))))))
theorem Pa(p:Pg)(c:Cf)(k:Nat):Vc (vC_ 3 1 (eqS p c k k) [.bd false] (.ext 2) [(0,0),(1,1)] (eqS p c k k)):=aj (cj (df ((k:Int)<k)) (gb p (iA p c (iB c (cj (rf false) (cj (rf (↑c.b.length:Int)) (cj (rf (k:Int)) (cj (rf (k:Int)) (cj (rf (k:Int)) trivial)))))))))
theorem Pf(p:Pg)(c:Cf)(k:Nat)(hk:k<c.b.length)(hb:c.b.length<1000)(h:oL_ 3 1 (eqS p c k 0).st (.ext 2) (eqS p c k k).st):Vc (vC_ 3 0 (eoS p c k) [.bd true,.lp [(0,0),(1,1)] (eqS p c k 0) (.ext 2) (eqS p c k k)] .nrm [(0,0),(1,1)] (eoS p c (k+1))):=aj (cj (dt ((k:Int)<c.b.length)) (gb p (iA p c (iB c (cj (rf false) (cj (rf (↑c.b.length:Int)) (cj (rf (k:Int)) (cj (rf (k:Int)) (cj (rf (0:Int)) (cj h (cj (i6 (k+1)) (gb p (iA p c (iB c (cj (rf false) (cj (rf (↑c.b.length:Int)) (cj (rf ((k:Int)+1)) trivial)))))))))))))))))
theorem Ph(p:Pg)(c:Cf)(k:Nat)(hk: ¬k<c.b.length):Vc (vC_ 3 0 (eoS p c k) [.bd false] (.ext 0) [(0,0),(1,1)] (eoS p c k)):=aj (cj (df ((k:Int)<c.b.length)) (gb p (iA p c (iB c (cj (rf false) (cj (rf (↑c.b.length:Int)) (cj (rf (k:Int)) trivial)))))))
theorem xV(m zs w:List Int)(p:Pg)(s s2:S8)(c:Cf)(d:List Dr)(n:Nat)(hs:s.st=[])(hb:c.b.length<1000)(h1:pC_ 6 [lR m] (.agg (pgA p)) [])(h2:pC_ 7 [.agg (pgA p),lR zs, aI 1] (.tup [.agg (s8N s),.agg (s8N s2)]) [])(h3:pC_ 8 [.agg (pgA p),.agg (s8R s),lR w] (.tup [.agg (cfA c),drR d]) [])(h4:oL_ 3 0 (eoS p c 0).st (.ext 0) (eoS p c n).st):Vc (vF_ 3 [lR m,lR zs,lR w] [.cl [lR m] (.agg (pgA p)) [],.cl [.agg (pgA p),lR zs, aI 1] (.tup [.agg (s8N s),.agg (s8N s2)]) [],.cl [.agg (pgA p),.agg (s8R s),lR w] (.tup [.agg (cfA c),drR d]) [],.lp [(0,0),(1,3)] (eoS p c 0) (.ext 0) (eoS p c n),.cl [] (.bool true) []] [] (.bool true) []):=aj (cj (rf m.length) (cj (rr m.length 1 fun i j=>aI (m.getD i 0)) (cj h1 (gb p (zY p (cj (rf zs.length) (cj (rr zs.length 1 fun i j=>aI (zs.getD i 0)) (cj (rf (1:Int)) (cj h2 (gb p (zY p (cj (rf s.r0) (cj (rf s.r1) (cj (rf s.r2) (cj (rf s.r3) (cj (rf s.m.length) (cj (rr s.m.length 1 fun i j=>aI (s.m.getD i 0)) (cj (show s.st.length=0 from by rw[hs];rfl) (cj (rf s.pc) (cj (rf w.length) (cj (rr w.length 1 fun i j=>aI (w.getD i 0)) (cj h3 (gb p (iA p c (iB c (cj (rf false) (cj (rf (↑c.b.length:Int)) (cj (rf (0:Int)) (cj h4 (cj nX (cj (rf true) trivial)))))))))))))))))))))))))))))))
theorem y0(m zs w:List Int)(k q:Nat)(hk:k<(wkC m zs w).b.length)(hq:q<k):Ok Tryz.prog (bY Tryz.prog 3) (lpC Tryz.prog 3 1) (eqS (bz m) (wkC m zs w) k q).st .nrm (eqS (bz m) (wkC m zs w) k (q+1)).st:=by
 have hP:=eO m
 have hw:(bz m).win<=90:=by have:=eN m;omega
 have hI:=gB m zs w
 have hL:=kb m zs w
 have hok:=tC m zs w
 have hX:=C2 m zs w
 have hb:(wkC m zs w).b.length<1000:=by have:=(ia m zs w).b;omega
 have h0:=nl (bz m) (wkC m zs w) k hok
 have h1:=nl (bz m) (wkC m zs w) q hok
 cases ea:doO (bz m) (wkC m zs w) k with
 |none=>
  rw[kI ea] at h0
  exact Ok.vc (Pe _ _ k q hk hq hb _ _ _ _ _ h0 h1)
 |some r=>
  obtain⟨x,u⟩:=r
  rw[fj ea] at h0
  cases eb:doO (bz m) (wkC m zs w) q with
  |none=>
   rw[kI eb] at h1
   exact Ok.vc (Pd _ _ k q hk hq hb _ _ _ _ h0 h1)
  |some r2=>
   obtain⟨y,v⟩:=r2
   rw[fj eb] at h1
   by_cases hl:y.b.length<=k
   ·exact Ok.vc (Pc _ _ k q hk hq hb _ _ _ _ hl h0 h1)
   ·obtain⟨t,g,h,e3,e4⟩:=B3 hq ea eb (by omega)
    have hIx:=XOk.doO hP hw hX ea
    have hIy:=XOk.doO hP hw hX eb
    have hLx:=Liv.doO hP hI hL.1 ea
    have hLt:=Liv.doO hP hIx.I hLx.1 e3
    have hSt:CfS t:=CfS.of hP (by have:=eN m;omega) (XOk.doO hP hw hIx e3).I (by have:=hL.1.e;omega)
    exact Ok.vc (Pb _ _ k q hk hq hb _ _ _ _ t g h hl h0 h1 (Bm (hIx.ok hP hw) (fj e3)) (Bm (hIy.ok hP hw) (fj e4)) hSt.self)
theorem B1(m zs w:List Int)(k:Nat)(hk:k<(wkC m zs w).b.length):oL_ 3 1 (eqS (bz m) (wkC m zs w) k 0).st (.ext 2) (eqS (bz m) (wkC m zs w) k k).st:=
 Ok.loop (P:=Tryz.prog) (nt:=bY Tryz.prog 3) (c:=lpC Tryz.prog 3 1) (F:=fun q=>eqS (bz m) (wkC m zs w) k q) (m:=k) (x:= .ext 2) (J:=eqS (bz m) (wkC m zs w) k k) (fun q hq=>y0 m zs w k q hk hq) (Ok.vc (Pa _ _ k)) (by simp)
theorem B2(m zs w:List Int):oL_ 3 0 (eoS (bz m) (wkC m zs w) 0).st (.ext 0) (eoS (bz m) (wkC m zs w) (wkC m zs w).b.length).st:=by
 have hb:(wkC m zs w).b.length<1000:=by have:=(ia m zs w).b;omega
 exact Ok.loop (P:=Tryz.prog) (nt:=bY Tryz.prog 3) (c:=lpC Tryz.prog 3 0) (F:=fun k=>eoS (bz m) (wkC m zs w) k) (m:=(wkC m zs w).b.length) (x:= .ext 0) (J:=eoS (bz m) (wkC m zs w) (wkC m zs w).b.length) (fun k hk=>Ok.vc (Pf _ _ k hk hb (B1 m zs w k hk))) (Ok.vc (Ph _ _ _ (db _))) (by simp)
theorem sV(m zs w:List Int):pC_ 3 [lR m,lR zs,lR w] (.bool true) []:=by
 have hP:=eO m
 exact PureC.vc (xV m zs w (bz m) (sA (bz m) zs) (sB (bz m) zs 1) (wkC m zs w) _ _ rfl (by have:=(ia m zs w).b;omega) (mkC m) (pz (bz m) zs 1 hP) (wM m zs w) (B2 m zs w))
theorem walk_ExecOrder(A0:Option Addr)(c0:Nat)(z0:List Int)(A1:Option Addr)(c1:Nat)(z1:List Int)(A2:Option Addr)(c2:Nat)(z2:List Int)(W:World)(hc0:z0.length<=c0)(hm0:c0<=maxLen)(hr0:Rd W W.heap.size A0 (z0.map (Value.int .i64)))(hc1:z1.length<=c1)(hm1:c1<=maxLen)(hr1:Rd W W.heap.size A1 (z1.map (Value.int .i64)))(hc2:z2.length<=c2)(hm2:c2<=maxLen)(hr2:Rd W W.heap.size A2 (z2.map (Value.int .i64))):Calls Tryz.prog 3 #[.slice A0 z0.length c0,.slice A1 z1.length c1,.slice A2 z2.length c2] W (RetB (.bool true) W):=
 (sV z0 z1 z2).lawB (R:=fun g=>g<W.heap.size) (fun _ h=>h) rfl (fun j x v hx hv=>match j,hx,hv with
  |0,rfl,rfl=> .ofRd hr0 hc0 hm0
  |1,rfl,rfl=> .ofRd hr1 hc1 hm1
  |2,rfl,rfl=> .ofRd hr2 hc2 hm2)
end
end Go.Proofs.YtlfldlnohmobmaaGreat.Px
