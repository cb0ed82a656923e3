import Derived.Test.YtdanmboalfmifaaMbH
import Derived.Test.YtdanmboalfmifaaMbD
set_option linter.unusedVariables false
set_option linter.unusedSimpArgs false
set_option maxRecDepth 100000
namespace Go.Proofs.Ytdanmboalfmifaa.Px
section
open Go.RowKit Go.Proofs.Ytdanmboalfmifaa.Rx
def bxW(t:TypeId)(cs:List AV):Blk:=⟨0,false,t,.box cs⟩
def j4:List AV:=[.junk,.junk,.junk,.junk]
def w1S(p:Pg)(c:Cf)(S:List Int)(tb:Bool)(M K:List Int)(Y:List En)(k:Nat):Sm:=⟨[(7,.bptr 0 0),(10,.bptr 1 0),(12,.str (strOfNums S)),(13,.bptr 2 0),(14,.bool tb),(49,.int .i64 M.length),(50,.int .i64 k)],
 [(0,bxW 33 (pgA p)),(1,bxW 43 (cfA c)),(2,bxW 43 (j4++[.own 3 0 1 0 M.length,.own 4 0 1 0 K.length,.junk,.own 5 0 8 0 Y.length,.junk,.junk])),(3,aZ M),(4,aZ K),(5,enB Y)],6⟩
def w2S(p:Pg)(c:Cf)(S:List Int)(tb:Bool)(K:List Int)(Y:List En)(k:Nat):Sm:=⟨[(7,.bptr 0 0),(10,.bptr 1 0),(12,.str (strOfNums S)),(13,.bptr 2 0),(14,.bool tb),(64,.int .i64 Y.length),(65,.int .i64 k)],
 [(0,bxW 33 (pgA p)),(1,bxW 43 (cfA c)),(2,bxW 43 (j4++[.junk,.own 3 0 1 0 K.length,.junk,.own 4 0 8 0 Y.length,.junk,.junk])),(3,aZ K),(4,enB Y)],5⟩
def w3S(p:Pg)(c:Cf)(S:List Int)(tb:Bool)(K:List Int)(k:Nat):Sm:=⟨[(7,.bptr 0 0),(10,.bptr 1 0),(12,.str (strOfNums S)),(13,.bptr 2 0),(14,.bool tb),(77,.int .i64 K.length),(78,.int .i64 k)],
 [(0,bxW 33 (pgA p)),(1,bxW 43 (cfA c)),(2,bxW 43 (j4++[.junk,.own 3 0 1 0 K.length,.junk,.junk,.junk,.junk])),(3,aZ K)],4⟩
def kh(M:List Int):Nat->List Int
 |0=>M
 |k+1=>(kh M k).set k ((kh M k).getD k 0+1)
def n77(Y:List En):Nat->List En
 |0=>Y
 |k+1=>(n77 Y k).set k (((n77 Y k).getD k default).to 77)
theorem nz{m:List Int}{n:Nat}{v:Int}(i:Nat)(hi:i<m.length)(j:Nat)(hj:j<1):(bif Nat.ble 0 j&&Nat.blt j 1&&Nat.beq i n then[AV.int .i64 v].getD (j-0) .junk else AV.int .i64 (m.getD i 0))= .int .i64 ((m.set n v).getD i 0):=by
 obtain rfl:j=0:=by omega
 show(bif Nat.beq i n then AV.int .i64 v else AV.int .i64 (m.getD i 0))=_
 cases hb:Nat.beq i n with
 |true=>
  have e:=aj hb
  subst e
  show AV.int .i64 v=_
  simp[List.getD,hi]
 |false=>
  have hne: ¬i=n:=fun e=>by subst e;simp at hb
  show AV.int .i64 (m.getD i 0)=AV.int .i64 ((m.set n v).getD i 0)
  simp[List.getD,cd,Ne.symm hne]
theorem xw{b:List En}{K q:Nat}{v:AV}{e2:En}(hk:K<b.length)(hv: ∀j,j<8->(bif Nat.ble q j&&Nat.blt j (q+1) then[v].getD (j-q) .junk else enC (b.getD K default) j)=enC e2 j)(i j:Nat)(hj:j<8):(bif Nat.ble q j&&Nat.blt j (q+1)&&Nat.beq i K then[v].getD (j-q) .junk else an enC b i j)=an enC (b.set K e2) i j:=by
 cases hq:Nat.beq i K with
 |true=>
  obtain rfl:=aj hq
  rw[de hk,Bool.and_true]
  exact hv j hj
 |false=>
  rw[e9 (i:=i) (k:=K) hq,Bool.and_false];rfl
theorem Du(S:List Int)(tb:Bool)(K:List Int)(Y:List En){Z:Prop}(z:Z):(RF K.length (RR K.length 1 (fun i j=>aI (K.getD i 0)) (RF Y.length (RR Y.length 8 (fun i j=>an enC Y i j) (RF (Go.strOfNums S) (RF tb Z)))))):=⟨rfl,fun _ _ _ _=>rfl,rfl,fun _ _ _ _=>rfl,rfl,rfl,z⟩
theorem kX(c:Cf){Z:Prop}(z:Z):(RR c.s.m.length 1 (fun i j=>aI (List.getD c.s.m i 0)) (RF c.s.st.length (RR c.s.st.length 1 (fun i j=>aI (List.getD c.s.st i 0)) (RF c.s.pc (RF c.b.length (RR c.b.length 8 (fun i j=>an enC c.b i j) (RF c.r.length (RR c.r.length 1 (fun i j=>aI (c.r.getD i 0)) (RF c.e Z))))))))):=⟨fun _ _ _ _=>rfl,rfl,fun _ _ _ _=>rfl,rfl,rfl,fun _ _ _ _=>rfl,rfl,fun _ _ _ _=>rfl,rfl,z⟩
theorem kW(p:Pg)(c:Cf){Z:Prop}(z:Z):(RF p.ls.length (RR p.ls.length 2 (fun i j=>an lbC p.ls i j) (RF p.is.length (RR p.is.length 9 (fun i j=>an inC p.is i j) (RF c.s.r0 (RF c.s.r1 (RF c.s.r2 (RF c.s.r3 (RF c.s.m.length Z))))))))):=⟨rfl,fun _ _ _ _=>rfl,rfl,fun _ _ _ _=>rfl,rfl,rfl,rfl,rfl,rfl,z⟩
theorem jp(p:Pg){Z:Prop}(z:Z):(RF p.W (RF p.win (RF p.fuel (RF p.r0 (RF p.r1 (RF p.r2 (RF p.r3 (RF p.ms.length (RR p.ms.length 3 (fun i j=>an mmC p.ms i j) Z))))))))):=⟨rfl,rfl,rfl,rfl,rfl,rfl,rfl,rfl,fun _ _ _ _=>rfl,z⟩
theorem Hh(p:Pg)(c:Cf)(S:List Int)(tb:Bool)(M K:List Int)(Y:List En)(k:Nat)(hk:k<M.length)(hM:M.length<10000)(hv: -1000000<=M.getD k 0∧M.getD k 0<=1000000):Vc (vC_ 5 0 (w1S p c S tb M K Y k) [.bd true] .nrm [(0,0),(1,1),(2,2),(3,3),(4,4),(5,5)] (w1S p c S tb (M.set k (M.getD k 0+1)) K Y (k+1))):=al (cj (dt ((k:Int)<M.length)) (cj (bi k M.length) (cj (pv (k+0<M.length)) (cj (show inK IntKind.i64 (M.getD (k+0) (0:Int)+1) from(show inK .i64 (M.getD k 0+1) from fu (by omega) (by omega))) (cj (bi k M.length) (cj (pv (k+0<M.length)) (cj (i6 (k+1)) (jp p (kW p c (kX c (cj (rf (0:Nat)) (cj (show M.length=(List.set M k (M.getD k 0+1)).length from aq.symm) (cj (rf (0:Nat)) (cj (rf K.length) (cj (rf (0:Nat)) (cj (rf Y.length) (cj (show M.length=(List.set M k (M.getD k 0+1)).length from aq.symm) (cj (show ∀(i:Nat),i<M.length-> ∀(j:Nat),j<1->(bif Nat.ble (0:Nat) j&&Nat.blt j (1:Nat)&&Nat.beq i (k+0) then List.getD [aI (M.getD (k+0) 0+1)] (j-0) AV.junk else aI (M.getD i 0))=aI (List.getD (List.set M k (M.getD k 0+1)) i 0) from(fun i hi j hj=>nz (n:=k) i hi j hj)) (Du S tb K Y (cj (show(M.length:Int)=(↑((List.set M k (M.getD k 0+1)).length):Int) from by rw[aq]) (cj (rf ((k:Int)+1)) trivial)))))))))))))))))))))
theorem Hi(p:Pg)(c:Cf)(S:List Int)(tb:Bool)(M K:List Int)(Y:List En)(k:Nat)(hk: ¬k<M.length):Vc (vC_ 5 0 (w1S p c S tb M K Y k) [.bd false] (.ext 0) [(0,0),(1,1),(2,2),(3,3),(4,4),(5,5)] (w1S p c S tb M K Y k)):=al (cj (df ((k:Int)<M.length)) (jp p (kW p c (kX c (cj (rf (0:Nat)) (cj (rf M.length) (cj (rf (0:Nat)) (cj (rf K.length) (cj (rf (0:Nat)) (cj (rf Y.length) (cj (rf M.length) (cj (rr M.length 1 fun i j=>aI (M.getD i 0)) (Du S tb K Y (cj (rf (M.length:Int)) (cj (rf (k:Int)) trivial)))))))))))))))
theorem Hf(p:Pg)(c:Cf)(S:List Int)(tb:Bool)(K:List Int)(Y:List En)(k:Nat)(hk:k<Y.length)(hY:Y.length<10000):Vc (vC_ 5 1 (w2S p c S tb K Y k) [.bd true] .nrm [(0,0),(1,1),(2,2),(3,3),(4,4)] (w2S p c S tb K (Y.set k ((Y.getD k default).to 77)) (k+1))):=al (cj (dt ((k:Int)<Y.length)) (cj (bi k Y.length) (cj (pv (k+0<Y.length)) (cj (i6 (k+1)) (jp p (kW p c (kX c (cj (rf (0:Nat)) (cj (rf K.length) (cj (rf (0:Nat)) (cj (show Y.length=(List.set Y k (En.to (77:Int) (Y.getD k default))).length from aq.symm) (cj (rf K.length) (cj (rr K.length 1 fun i j=>aI (K.getD i 0)) (cj (show Y.length=(List.set Y k (En.to (77:Int) (Y.getD k default))).length from aq.symm) (cj (show ∀(i:Nat),i<Y.length-> ∀(j:Nat),j<8->(bif Nat.ble (4:Nat) j&&Nat.blt j (5:Nat)&&Nat.beq i (k+0) then List.getD [aI 77] (j-4) AV.junk else an enC Y i j)=an enC (List.set Y k (En.to (77:Int) (Y.getD k default))) i j from(fun i _ j hj=>xw (b:=Y) (K:=k) (q:=4) (v:= aI 77) (e2:=(Y.getD k default).to 77) hk (fun j hj=>(match j,hj with |0,_=>rfl |1,_=>rfl |2,_=>rfl |3,_=>rfl |4,_=>rfl |5,_=>rfl |6,_=>rfl |7,_=>rfl)) i j hj)) (cj (rf (Go.strOfNums S)) (cj (rf tb) (cj (show(Y.length:Int)=(↑((List.set Y k (En.to (77:Int) (Y.getD k default))).length):Int) from by rw[aq]) (cj (rf ((k:Int)+1)) trivial)))))))))))))))))))
theorem Hg(p:Pg)(c:Cf)(S:List Int)(tb:Bool)(K:List Int)(Y:List En)(k:Nat)(hk: ¬k<Y.length):Vc (vC_ 5 1 (w2S p c S tb K Y k) [.bd false] (.ext 2) [(0,0),(1,1),(2,2),(3,3),(4,4)] (w2S p c S tb K Y k)):=al (cj (df ((k:Int)<Y.length)) (jp p (kW p c (kX c (cj (rf (0:Nat)) (cj (rf K.length) (cj (rf (0:Nat)) (cj (rf Y.length) (cj (rf K.length) (cj (rr K.length 1 fun i j=>aI (K.getD i 0)) (cj (rf Y.length) (cj (rr Y.length 8 fun i j=>an enC Y i j) (cj (rf (Go.strOfNums S)) (cj (rf tb) (cj (rf (Y.length:Int)) (cj (rf (k:Int)) trivial))))))))))))))))
theorem Hd(p:Pg)(c:Cf)(S:List Int)(tb:Bool)(K:List Int)(k:Nat)(hk:k<K.length)(hM:K.length<10000)(hv: -1000000<=K.getD k 0∧K.getD k 0<=1000000):Vc (vC_ 5 2 (w3S p c S tb K k) [.bd true] .nrm [(0,0),(1,1),(2,2),(3,3)] (w3S p c S tb (K.set k (K.getD k 0+1)) (k+1))):=al (cj (dt ((k:Int)<K.length)) (cj (bi k K.length) (cj (pv (k+0<K.length)) (cj (show inK IntKind.i64 (K.getD (k+0) (0:Int)+1) from(show inK .i64 (K.getD k 0+1) from fu (by omega) (by omega))) (cj (bi k K.length) (cj (pv (k+0<K.length)) (cj (i6 (k+1)) (jp p (kW p c (kX c (cj (rf (0:Nat)) (cj (show K.length=(List.set K k (K.getD k 0+1)).length from aq.symm) (cj (show K.length=(List.set K k (K.getD k 0+1)).length from aq.symm) (cj (show ∀(i:Nat),i<K.length-> ∀(j:Nat),j<1->(bif Nat.ble (0:Nat) j&&Nat.blt j (1:Nat)&&Nat.beq i (k+0) then List.getD [aI (K.getD (k+0) 0+1)] (j-0) AV.junk else aI (K.getD i 0))=aI (List.getD (List.set K k (K.getD k 0+1)) i 0) from(fun i hi j hj=>nz (n:=k) i hi j hj)) (cj (rf (Go.strOfNums S)) (cj (rf tb) (cj (show(K.length:Int)=(↑((List.set K k (K.getD k 0+1)).length):Int) from by rw[aq]) (cj (rf ((k:Int)+1)) trivial))))))))))))))))))
theorem He(p:Pg)(c:Cf)(S:List Int)(tb:Bool)(K:List Int)(k:Nat)(hk: ¬k<K.length):Vc (vC_ 5 2 (w3S p c S tb K k) [.bd false] (.ext 4) [(0,0),(1,1),(2,2),(3,3)] (w3S p c S tb K k)):=al (cj (df ((k:Int)<K.length)) (jp p (kW p c (kX c (cj (rf (0:Nat)) (cj (rf K.length) (cj (rf K.length) (cj (rr K.length 1 fun i j=>aI (K.getD i 0)) (cj (rf (Go.strOfNums S)) (cj (rf tb) (cj (rf (K.length:Int)) (cj (rf (k:Int)) trivial))))))))))))
theorem Eo(S:List Int): ∀(i:Nat),i<S.length->AV.int IntKind.u8 (S.getD i 0)=AV.int IntKind.u8 (S.getD i 0):=(fun _ _=>rfl)
theorem Dt(c:Cf){Z:Prop}(z:Z):(RF c.b.length (RR c.b.length 8 (fun i j=>an enC c.b i j) (RF c.r.length (RR c.r.length 1 (fun i j=>aI (c.r.getD i 0)) (RF c.e Z))))):=⟨rfl,fun _ _ _ _=>rfl,rfl,fun _ _ _ _=>rfl,rfl,z⟩
theorem Ds(m:List Int)(s:S8)(c:Cf){Z:Prop}(z:Z):(RF c.s.r0 (RF c.s.r1 (RF c.s.r2 (RF c.s.r3 (RF c.s.m.length (RR c.s.m.length 1 (fun i j=>aI (List.getD c.s.m i 0)) (RF c.s.st.length (RR c.s.st.length 1 (fun i j=>aI (List.getD c.s.st i 0)) (RF c.s.pc Z))))))))):=⟨rfl,rfl,rfl,rfl,rfl,fun _ _ _ _=>rfl,rfl,fun _ _ _ _=>rfl,rfl,z⟩
theorem Dq(p:Pg){Z:Prop}(z:Z):(RF p.ls.length (RR p.ls.length 2 (fun i j=>an lbC p.ls i j) (RF p.is.length (RR p.is.length 9 (fun i j=>an inC p.is i j) Z)))):=⟨rfl,fun _ _ _ _=>rfl,rfl,fun _ _ _ _=>rfl,z⟩
theorem BQ(m zs w S M1 K1:List Int)(p:Pg)(s s2:S8)(c x:Cf)(d:List Dr)(tb:Bool)(Y1:List En)(k1 k2 k3:Nat)(hs:s.st=[])(h1:pC_ 12 [lR m] (.agg (pgA p)) [])(h2:pC_ 13 [.agg (pgA p),lR zs, aI 1] (.tup [.agg (s8N s),.agg (s8N s2)]) [])(h3:pC_ 14 [.agg (pgA p),.agg (s8R s),lR w] (.tup [.agg (cfA c),drR d]) [])(h4:pC_ 17 [.agg (cfA c)] (bR S) [])(h5:pC_ 8 [.agg (pgA p),.agg (cfA c)] (.tup [.agg (s8A x.s (.own 0 0 1 0 x.s.m.length) (.own 1 0 1 0 x.s.st.length)++[.own 2 0 8 0 x.b.length,.own 3 0 1 0 x.r.length, aI x.e]),.bool tb]) [aZ x.s.m,aZ x.s.st,enB x.b,aZ x.r])(hl1:oL_ 5 0 (w1S p c S tb x.s.m x.s.st x.b 0).st (.ext 0) (w1S p c S tb M1 x.s.st x.b k1).st)(hl2:oL_ 5 1 (w2S p c S tb x.s.st x.b 0).st (.ext 2) (w2S p c S tb x.s.st Y1 k2).st)(hl3:oL_ 5 2 (w3S p c S tb x.s.st 0).st (.ext 4) (w3S p c S tb K1 k3).st)(h6:pC_ 8 [.agg (pgA p),.agg (cfA c)] (.tup [.agg (cfA x),.bool tb]) [])(h7:pC_ 18 [.agg (pgA p),.agg (cfA c)] (.tup [.agg (cfA x),.bool tb]) [])(h8:pC_ 10 [.agg (cfA x),.agg (cfA x)] (.bool true) [])(hW:pC_ 11 [] (.bool true) [])(hf:kT [aZ x.s.m,aZ x.s.st,enB x.b,aZ x.r]):Vc (vF_ 5 [lR m,lR zs,lR w] [.cl [lR m] (.agg (pgA p)) [],.cl [.agg (pgA p),lR zs, aI 1] (.tup [.agg (s8N s),.agg (s8N s2)]) [],.cl [.agg (pgA p),.agg (s8R s),lR w] (.tup [.agg (cfA c),drR d]) [],.cl [.agg (cfA c)] (bR S) [],.by_ S,.cr [.agg (pgA p),.agg (cfA c)] (.tup [.agg (s8A x.s (.own 0 0 1 0 x.s.m.length) (.own 1 0 1 0 x.s.st.length)++[.own 2 0 8 0 x.b.length,.own 3 0 1 0 x.r.length, aI x.e]),.bool tb]) [aZ x.s.m,aZ x.s.st,enB x.b,aZ x.r],.lp [(0,0),(1,3),(2,8),(3,4),(4,5),(5,6)] (w1S p c S tb x.s.m x.s.st x.b 0) (.ext 0) (w1S p c S tb M1 x.s.st x.b k1),.lp [(0,0),(1,1),(2,2),(3,4),(4,5)] (w2S p c S tb x.s.st x.b 0) (.ext 2) (w2S p c S tb x.s.st Y1 k2),.lp [(0,0),(1,1),(2,2),(3,3)] (w3S p c S tb x.s.st 0) (.ext 4) (w3S p c S tb K1 k3),.cl [.agg (pgA p),.agg (cfA c)] (.tup [.agg (cfA x),.bool tb]) [],.cl [.agg (pgA p),.agg (cfA c)] (.tup [.agg (cfA x),.bool tb]) [],.bd true,.cl [.agg (cfA c)] (bR S) [],.by_ S,.bd true,.cl [.agg (cfA x),.agg (cfA x)] (.bool true) [],.cl [] (.bool true) []] [] (.bool true) []):=al (cj (rf m.length) (cj (rr m.length 1 fun i j=>aI (m.getD i 0)) (cj h1 (jp p (Dq p (cj (rf zs.length) (cj (rr zs.length 1 fun i j=>aI (zs.getD i 0)) (cj (rf (1:Int)) (cj h2 (jp p (Dq p (cj (rf s.r0) (cj (rf s.r1) (cj (rf s.r2) (cj (rf s.r3) (cj (rf s.m.length) (cj (rr s.m.length 1 fun i j=>aI (s.m.getD i 0)) (cj (show s.st.length=0 from by rw[hs];rfl) (cj (rf s.pc) (cj (rf w.length) (cj (rr w.length 1 fun i j=>aI (w.getD i 0)) (cj h3 (Ds m s c (Dt c (cj h4 (cj (rf S.length) (cj (Eo S) (jp p (kW p c (kX c (cj hf (cj h5 (jp p (kW p c (kX c (cj (rf (0:Nat)) (cj (rf x.s.m.length) (cj (rf (0:Nat)) (cj (rf x.s.st.length) (cj (rf (0:Nat)) (cj (rf x.b.length) (cj (rf x.s.m.length) (cj (rr x.s.m.length 1 fun i j=>aI (List.getD x.s.m i 0)) (cj (rf x.s.st.length) (cj (rr x.s.st.length 1 fun i j=>aI (List.getD x.s.st i 0)) (cj (rf x.b.length) (cj (rr x.b.length 8 fun i j=>an enC x.b i j) (cj (rf (Go.strOfNums S)) (cj (rf tb) (cj (rf (↑(x.s.m.length):Int)) (cj (rf (0:Int)) (cj hl1 (jp p (kW p c (kX c (cj (rf (0:Nat)) (cj (rf x.s.st.length) (cj (rf (0:Nat)) (cj (rf x.b.length) (cj (rf x.s.st.length) (cj (rr x.s.st.length 1 fun i j=>aI (List.getD x.s.st i 0)) (cj (rf x.b.length) (cj (rr x.b.length 8 fun i j=>an enC x.b i j) (cj (rf (Go.strOfNums S)) (cj (rf tb) (cj (rf (↑x.b.length:Int)) (cj (rf (0:Int)) (cj hl2 (jp p (kW p c (kX c (cj (rf (0:Nat)) (cj (rf x.s.st.length) (cj (rf x.s.st.length) (cj (rr x.s.st.length 1 fun i j=>aI (List.getD x.s.st i 0)) (cj (rf (Go.strOfNums S)) (cj (rf tb) (cj (rf (↑(x.s.st.length):Int)) (cj (rf (0:Int)) (cj hl3 (jp p (kW p c (kX c (cj h6 (jp p (kW p c (kX c (cj h7 (cj (show(tb==tb)=true from(gj _)) (Ds m s c (Dt c (cj h4 (cj (rf S.length) (cj (Eo S) (cj (show(ByteArray.toList (Go.strOfNums S)==ByteArray.toList (Go.strOfNums S))=true from(gj _)) (cj (rf x.s.r0) (cj (rf x.s.r1) (cj (rf x.s.r2) (cj (rf x.s.r3) (cj (rf x.s.m.length) (cj (rr x.s.m.length 1 fun i j=>aI (List.getD x.s.m i 0)) (cj (rf x.s.st.length) (cj (rr x.s.st.length 1 fun i j=>aI (List.getD x.s.st i 0)) (cj (rf x.s.pc) (cj (rf x.b.length) (cj (rr x.b.length 8 fun i j=>an enC x.b i j) (cj (rf x.r.length) (cj (rr x.r.length 1 fun i j=>aI (x.r.getD i 0)) (cj (rf x.e) (cj (rf x.s.r0) (cj (rf x.s.r1) (cj (rf x.s.r2) (cj (rf x.s.r3) (cj (rf x.s.m.length) (cj (rr x.s.m.length 1 fun i j=>aI (List.getD x.s.m i 0)) (cj (rf x.s.st.length) (cj (rr x.s.st.length 1 fun i j=>aI (List.getD x.s.st i 0)) (cj (rf x.s.pc) (cj (rf x.b.length) (cj (rr x.b.length 8 fun i j=>an enC x.b i j) (cj (rf x.r.length) (cj (rr x.r.length 1 fun i j=>aI (x.r.getD i 0)) (cj (rf x.e) (cj h8 (cj hW (cj (rf true) trivial))))))))))))))))))))))))))))))))))))))))))))))))))))))))))))))))))))))))))))))))))))))))))))))))))))))))))))))))))))))))))))))
theorem hJ(M:List Int): ∀k,(kh M k).length=M.length
 |0=>rfl
 |k+1=>by rw[kh,aq,hJ M k]
theorem oz(M:List En): ∀k,(n77 M k).length=M.length
 |0=>rfl
 |k+1=>by rw[n77,aq,oz M k]
theorem v5{l:List Int}{A B:Int}(hA:A<=0)(hB:0<=B)(h: ∀x∈l,A<=x∧x<=B)(n:Nat):A<=l.getD n 0∧l.getD n 0<=B:=by
 rw[au]
 cases hq:l[n]? with
 |none=>exact⟨hA,hB⟩
 |some x=>exact h x (aT hq)
theorem oF{M:List Int}(h: ∀x∈M,0<=x∧x<65536): ∀k:Nat, ∀x∈kh M k,0<=x∧x<=65536+(k:Int)
 |0,x,hx=>by have:=h x hx;omega
 |k+1,x,hx=>by
  have ih:=oF h k
  rcases bQ hx with h1 |rfl
  ·have:=ih x h1;omega
  ·have:=v5 (dx 0) (by omega) ih k;omega
theorem xj(p:Pg)(c:Cf)(S:List Int)(tb:Bool)(M K:List Int)(Y:List En)(hM:M.length<1000)(hb: ∀x∈M,0<=x∧x<65536):oL_ 5 0 (w1S p c S tb M K Y 0).st (.ext 0) (w1S p c S tb (kh M M.length) K Y M.length).st:=
 Ok.loop (P:=Try.prog) (nt:=cN Try.prog 5) (c:=lpC Try.prog 5 0) (F:=fun k=>w1S p c S tb (kh M k) K Y k) (m:=M.length) (x:= .ext 0) (J:=w1S p c S tb (kh M M.length) K Y M.length) (fun k hk=>by
  have hl:=hJ M k
  have hv:=v5 (dx 0) (by omega) (oF hb k) k
  exact Ok.vc (Hh p c S tb (kh M k) K Y k (by omega) (by omega) (by omega))) (Ok.vc (Hi p c S tb _ K Y _ (by rw[hJ];omega))) (by simp)
theorem xi(p:Pg)(c:Cf)(S:List Int)(tb:Bool)(K:List Int)(Y:List En)(hY:Y.length<1000):oL_ 5 1 (w2S p c S tb K Y 0).st (.ext 2) (w2S p c S tb K (n77 Y Y.length) Y.length).st:=
 Ok.loop (P:=Try.prog) (nt:=cN Try.prog 5) (c:=lpC Try.prog 5 1) (F:=fun k=>w2S p c S tb K (n77 Y k) k) (m:=Y.length) (x:= .ext 2) (J:=w2S p c S tb K (n77 Y Y.length) Y.length) (fun k hk=>by
  have hl:=oz Y k
  exact Ok.vc (Hf p c S tb K (n77 Y k) k (by omega) (by omega))) (Ok.vc (Hg p c S tb K _ _ (by rw[oz];omega))) (by simp)
theorem xh(p:Pg)(c:Cf)(S:List Int)(tb:Bool)(K:List Int)(hM:K.length<1000)(hb: ∀x∈K,0<=x∧x<65536):oL_ 5 2 (w3S p c S tb K 0).st (.ext 4) (w3S p c S tb (kh K K.length) K.length).st:=
 Ok.loop (P:=Try.prog) (nt:=cN Try.prog 5) (c:=lpC Try.prog 5 2) (F:=fun k=>w3S p c S tb (kh K k) k) (m:=K.length) (x:= .ext 4) (J:=w3S p c S tb (kh K K.length) K.length) (fun k hk=>by
  have hl:=hJ K k
  have hv:=v5 (dx 0) (by omega) (oF hb k) k
  exact Ok.vc (Hd p c S tb (kh K k) k (by omega) (by omega) (by omega))) (Ok.vc (He p c S tb _ _ (by rw[hJ];omega))) (by simp)
theorem CF(x:Cf):kT [aZ x.s.m,aZ x.s.st,enB x.b,aZ x.r]:=by
 intro b hb m n f h i hi j hj
 simp only[bN,dO,or_false] at hb
 rcases hb with rfl |rfl |rfl |rfl
 ·cases h;rfl
 ·cases h;rfl
 ·cases h;exact sH _ _ _ hj
 ·cases h;rfl
theorem A9(m zs w:List Int):(∀q∈(rtT (rtO (bB m) (wkC m zs w))).1.s.m,0<=q∧q<65536)∧(∀q∈(rtT (rtO (bB m) (wkC m zs w))).1.s.st,0<=q∧q<65536)∧(rtT (rtO (bB m) (wkC m zs w))).1.s.m.length<1000∧(rtT (rtO (bB m) (wkC m zs w))).1.s.st.length<1000∧(rtT (rtO (bB m) (wkC m zs w))).1.b.length<1000:=by
 have hP:=eG m
 cases e:rtO (bB m) (wkC m zs w) with
 |none=>
  show(∀q∈([]:List Int),0<=q∧q<65536)∧(∀q∈([]:List Int),0<=q∧q<65536)∧(0:Nat)<1000∧(0:Nat)<1000∧(0:Nat)<1000
  exact⟨fun _ h=>(nomatch h),fun _ h=>(nomatch h),by decide,by decide,by decide⟩
 |some x=>
  have hI:=Inv.rtO hP (jr m zs w) e
  have hS:=EB e
  have hl:=hP.len
  refine⟨hI.mem,fun q hq=> ?_, ?_, ?_, ?_⟩
  ·have:=hI.stk q hq;omega
  ·have:=hS.m;show x.s.m.length<1000;omega
  ·have:=hS.st;show x.s.st.length<1000;omega
  ·have:=hS.b;show x.b.length<1000;omega
theorem u6(hO:tW)(m zs w:List Int):pC_ 5 [lR m,lR zs,lR w] (.bool true) []:=by
 have hP:=eG m
 have hr:=jW m zs w
 obtain⟨b1,b2,b3,b4,b5⟩:=A9 m zs w
 exact PureC.vc (BQ m zs w _ _ _ (bB m) (sA (bB m) zs) (sB (bB m) zs 1) (wkC m zs w) _ _ _ _ _ _ _ rfl (mkC m) (ip (bB m) zs 1 hP) (ns m zs w) (uy m zs w).rcode (hO (bB m) (wkC m zs w) hr) (xj _ _ _ _ _ _ _ b3 b1) (xi _ _ _ _ _ _ b5) (xh _ _ _ _ _ b4 b2) (Ca (bB m) (wkC m zs w) hr) (EI (bB m) (wkC m zs w) hr) (rC m zs w) (mN hO) (CF _))
theorem walk_RetiOwn(A0:Option Addr)(c0:Nat)(z0:List Int)(A1:Option Addr)(c1:Nat)(z1:List Int)(A2:Option Addr)(c2:Nat)(z2:List Int)(W:World)(hc0:z0.length<=c0)(hm0:c0<=maxLen)(hr0:Rd W W.heap.size A0 (z0.map (Value.int .i64)))(hc1:z1.length<=c1)(hm1:c1<=maxLen)(hr1:Rd W W.heap.size A1 (z1.map (Value.int .i64)))(hc2:z2.length<=c2)(hm2:c2<=maxLen)(hr2:Rd W W.heap.size A2 (z2.map (Value.int .i64))):Calls Try.prog 5 #[.slice A0 z0.length c0,.slice A1 z1.length c1,.slice A2 z2.length c2] W (RetB (.bool true) W):=
 (u6 yd z0 z1 z2).lawB (R:=fun g=>g<W.heap.size) (fun _ h=>h) rfl (fun j x v hx hv=>match j,hx,hv with
  |0,rfl,rfl=> .ofRd hr0 hc0 hm0
  |1,rfl,rfl=> .ofRd hr1 hc1 hm1
  |2,rfl,rfl=> .ofRd hr2 hc2 hm2)
def cdH(c d:Cf):List (Nat×Blk):=[(0,⟨0,false,43,.box (cfA c)⟩),(1,⟨0,false,43,.box (cfA d)⟩)]
def o1S(c d:Cf)(t k:Nat):Sm:=⟨[(6,.bool false),(10,.bptr 0 0),(12,.bptr 1 0),(14,.int .i64 t),(89,.int .i64 d.s.m.length),(90,.int .i64 k)],cdH c d,2⟩
def o2S(c d:Cf)(t k:Nat):Sm:=⟨[(6,.bool false),(10,.bptr 0 0),(12,.bptr 1 0),(14,.int .i64 t),(16,.int .i64 k)],cdH c d,2⟩
theorem k0(d:Cf){Z:Prop}(z:Z):(RF d.s.m.length (RR d.s.m.length 1 (fun i j=>aI (List.getD d.s.m i 0)) (RF d.s.st.length (RR d.s.st.length 1 (fun i j=>aI (List.getD d.s.st i 0)) (RF d.s.pc (RF d.b.length (RR d.b.length 8 (fun i j=>an enC d.b i j) (RF d.r.length (RR d.r.length 1 (fun i j=>aI (d.r.getD i 0)) Z))))))))):=⟨rfl,fun _ _ _ _=>rfl,rfl,fun _ _ _ _=>rfl,rfl,rfl,fun _ _ _ _=>rfl,rfl,fun _ _ _ _=>rfl,z⟩
theorem kZ(c:Cf)(d:Cf){Z:Prop}(z:Z):(RF c.b.length (RR c.b.length 8 (fun i j=>an enC c.b i j) (RF c.r.length (RR c.r.length 1 (fun i j=>aI (c.r.getD i 0)) (RF c.e (RF d.s.r0 (RF d.s.r1 (RF d.s.r2 (RF d.s.r3 Z))))))))):=⟨rfl,fun _ _ _ _=>rfl,rfl,fun _ _ _ _=>rfl,rfl,rfl,rfl,rfl,rfl,z⟩
theorem iJ(c:Cf){Z:Prop}(z:Z):(RF c.s.r0 (RF c.s.r1 (RF c.s.r2 (RF c.s.r3 (RF c.s.m.length (RR c.s.m.length 1 (fun i j=>aI (List.getD c.s.m i 0)) (RF c.s.st.length (RR c.s.st.length 1 (fun i j=>aI (List.getD c.s.st i 0)) (RF c.s.pc Z))))))))):=⟨rfl,rfl,rfl,rfl,rfl,fun _ _ _ _=>rfl,rfl,fun _ _ _ _=>rfl,rfl,z⟩
theorem HS(c d:Cf)(t k:Nat)(hl:d.s.m.length=c.s.m.length)(hk:k<d.s.m.length)(ht:t<1000)(hb:d.s.m.length<1000)(he:(d.s.m.getD k 0)=(c.s.m.getD k 0)):Vc (vC_ 4 0 (o1S c d t k) [.bd true,.bd false] .nrm [(0,0),(1,1)] (o1S c d t (k+1))):=al (cj (dt ((k:Int)<(↑(d.s.m.length):Int))) (cj (bi k (↑(d.s.m.length):Int)) (cj (bi k (↑(c.s.m.length):Int)) (cj (aw.2 he) (cj (i6 (k+1)) (iJ c (kZ c d (k0 d (cj (rf d.e) (cj (rf false) (cj (rf (t:Int)) (cj (rf (↑(d.s.m.length):Int)) (cj (rf ((k:Int)+1)) trivial)))))))))))))
theorem HT(c d:Cf)(t k:Nat)(hl:d.s.m.length=c.s.m.length)(hk:k<d.s.m.length)(ht:t<1000)(hb:d.s.m.length<1000)(he:(d.s.m.getD k 0)≠(c.s.m.getD k 0)):Vc (vC_ 4 0 (o1S c d t k) [.bd true,.bd true] .nrm [(0,0),(1,1)] (o1S c d (t+1) (k+1))):=al (cj (dt ((k:Int)<(↑(d.s.m.length):Int))) (cj (bi k (↑(d.s.m.length):Int)) (cj (bi k (↑(c.s.m.length):Int)) (cj (bG.2 he) (cj (i6 (t+1)) (cj (i6 (k+1)) (iJ c (kZ c d (k0 d (cj (rf d.e) (cj (rf false) (cj (rf ((t:Int)+1)) (cj (rf (↑(d.s.m.length):Int)) (cj (rf ((k:Int)+1)) trivial))))))))))))))
theorem HU(c d:Cf)(t k:Nat)(hk: ¬k<d.s.m.length):Vc (vC_ 4 0 (o1S c d t k) [.bd false] (.ext 0) [(0,0),(1,1)] (o1S c d t k)):=al (cj (df ((k:Int)<(↑(d.s.m.length):Int))) (iJ c (kZ c d (k0 d (cj (rf d.e) (cj (rf false) (cj (rf (t:Int)) (cj (rf (↑(d.s.m.length):Int)) (cj (rf (k:Int)) trivial)))))))))
theorem Fm(c d:Cf)(t:Nat)(ht:t<1000)(he:d.s.r0=c.s.r0):Vc (vC_ 4 1 (o2S c d t 0) [.bd true,.ix 0,.ix 0,.bd false] .nrm [(0,0),(1,1)] (o2S c d t 1)):=al (cj (dt (((0:Nat):Int)<4)) (cj (rf ((0:Nat):Int)) (cj (rf ((0:Nat):Int)) (cj (aw.2 he) (cj (i6 ((0:Nat)+1)) (iJ c (kZ c d (k0 d (cj (rf d.e) (cj (rf false) (cj (rf (t:Int)) (cj (rf ((1:Nat):Int)) trivial))))))))))))
theorem Fn(c d:Cf)(t:Nat)(ht:t<1000)(he:d.s.r0≠c.s.r0):Vc (vC_ 4 1 (o2S c d t 0) [.bd true,.ix 0,.ix 0,.bd true] .nrm [(0,0),(1,1)] (o2S c d (t+1) 1)):=al (cj (dt (((0:Nat):Int)<4)) (cj (rf ((0:Nat):Int)) (cj (rf ((0:Nat):Int)) (cj (bG.2 he) (cj (i6 (t+1)) (cj (i6 ((0:Nat)+1)) (iJ c (kZ c d (k0 d (cj (rf d.e) (cj (rf false) (cj (rf ((t:Int)+1)) (cj (rf ((1:Nat):Int)) trivial)))))))))))))
theorem Fk(c d:Cf)(t:Nat)(ht:t<1000)(he:d.s.r1=c.s.r1):Vc (vC_ 4 1 (o2S c d t 1) [.bd true,.ix 1,.ix 1,.bd false] .nrm [(0,0),(1,1)] (o2S c d t 2)):=al (cj (dt (((1:Nat):Int)<4)) (cj (rf ((1:Nat):Int)) (cj (rf ((1:Nat):Int)) (cj (aw.2 he) (cj (i6 ((1:Nat)+1)) (iJ c (kZ c d (k0 d (cj (rf d.e) (cj (rf false) (cj (rf (t:Int)) (cj (rf ((2:Nat):Int)) trivial))))))))))))
theorem Fl(c d:Cf)(t:Nat)(ht:t<1000)(he:d.s.r1≠c.s.r1):Vc (vC_ 4 1 (o2S c d t 1) [.bd true,.ix 1,.ix 1,.bd true] .nrm [(0,0),(1,1)] (o2S c d (t+1) 2)):=al (cj (dt (((1:Nat):Int)<4)) (cj (rf ((1:Nat):Int)) (cj (rf ((1:Nat):Int)) (cj (bG.2 he) (cj (i6 (t+1)) (cj (i6 ((1:Nat)+1)) (iJ c (kZ c d (k0 d (cj (rf d.e) (cj (rf false) (cj (rf ((t:Int)+1)) (cj (rf ((2:Nat):Int)) trivial)))))))))))))
theorem Fi(c d:Cf)(t:Nat)(ht:t<1000)(he:d.s.r2=c.s.r2):Vc (vC_ 4 1 (o2S c d t 2) [.bd true,.ix 2,.ix 2,.bd false] .nrm [(0,0),(1,1)] (o2S c d t 3)):=al (cj (dt (((2:Nat):Int)<4)) (cj (rf ((2:Nat):Int)) (cj (rf ((2:Nat):Int)) (cj (aw.2 he) (cj (i6 ((2:Nat)+1)) (iJ c (kZ c d (k0 d (cj (rf d.e) (cj (rf false) (cj (rf (t:Int)) (cj (rf ((3:Nat):Int)) trivial))))))))))))
theorem Fj(c d:Cf)(t:Nat)(ht:t<1000)(he:d.s.r2≠c.s.r2):Vc (vC_ 4 1 (o2S c d t 2) [.bd true,.ix 2,.ix 2,.bd true] .nrm [(0,0),(1,1)] (o2S c d (t+1) 3)):=al (cj (dt (((2:Nat):Int)<4)) (cj (rf ((2:Nat):Int)) (cj (rf ((2:Nat):Int)) (cj (bG.2 he) (cj (i6 (t+1)) (cj (i6 ((2:Nat)+1)) (iJ c (kZ c d (k0 d (cj (rf d.e) (cj (rf false) (cj (rf ((t:Int)+1)) (cj (rf ((3:Nat):Int)) trivial)))))))))))))
theorem Dv(d:Cf)(t:Nat){Z:Prop}(z:Z):(RF d.e (RF false (RF (t:Int) (RF ((4:Nat):Int) Z)))):=⟨rfl,rfl,rfl,rfl,z⟩
theorem Fg(c d:Cf)(t:Nat)(ht:t<1000)(he:d.s.r3=c.s.r3):Vc (vC_ 4 1 (o2S c d t 3) [.bd true,.ix 3,.ix 3,.bd false] .nrm [(0,0),(1,1)] (o2S c d t 4)):=al (cj (dt (((3:Nat):Int)<4)) (cj (rf ((3:Nat):Int)) (cj (rf ((3:Nat):Int)) (cj (aw.2 he) (cj (i6 ((3:Nat)+1)) (iJ c (kZ c d (k0 d (Dv d t trivial)))))))))
theorem Fh(c d:Cf)(t:Nat)(ht:t<1000)(he:d.s.r3≠c.s.r3):Vc (vC_ 4 1 (o2S c d t 3) [.bd true,.ix 3,.ix 3,.bd true] .nrm [(0,0),(1,1)] (o2S c d (t+1) 4)):=al (cj (dt (((3:Nat):Int)<4)) (cj (rf ((3:Nat):Int)) (cj (rf ((3:Nat):Int)) (cj (bG.2 he) (cj (i6 (t+1)) (cj (i6 ((3:Nat)+1)) (iJ c (kZ c d (k0 d (cj (rf d.e) (cj (rf false) (cj (rf ((t:Int)+1)) (cj (rf ((4:Nat):Int)) trivial)))))))))))))
theorem HR(c d:Cf)(t:Nat):Vc (vC_ 4 1 (o2S c d t 4) [.bd false] (.ext 2) [(0,0),(1,1)] (o2S c d t 4)):=al (cj (df (((4:Nat):Int)<4)) (iJ c (kZ c d (k0 d (Dv d t trivial)))))
theorem xa(m:List Int)(s:S8)(c:Cf){Z:Prop}(z:Z):(RR c.s.m.length 1 (fun i j=>aI (List.getD c.s.m i 0)) (RF c.s.st.length (RR c.s.st.length 1 (fun i j=>aI (List.getD c.s.st i 0)) (RF c.s.pc (RF c.b.length (RR c.b.length 8 (fun i j=>an enC c.b i j) (RF c.r.length (RR c.r.length 1 (fun i j=>aI (c.r.getD i 0)) (RF c.e Z))))))))):=⟨fun _ _ _ _=>rfl,rfl,fun _ _ _ _=>rfl,rfl,rfl,fun _ _ _ _=>rfl,rfl,fun _ _ _ _=>rfl,rfl,z⟩
theorem w9(m:List Int)(p:Pg)(s:S8)(c:Cf){Z:Prop}(z:Z):(RF p.ls.length (RR p.ls.length 2 (fun i j=>an lbC p.ls i j) (RF p.is.length (RR p.is.length 9 (fun i j=>an inC p.is i j) (RF c.s.r0 (RF c.s.r1 (RF c.s.r2 (RF c.s.r3 (RF c.s.m.length Z))))))))):=⟨rfl,fun _ _ _ _=>rfl,rfl,fun _ _ _ _=>rfl,rfl,rfl,rfl,rfl,rfl,z⟩
theorem kY(p:Pg){Z:Prop}(z:Z):(RF p.W (RF p.win (RF p.fuel (RF p.r0 (RF p.r1 (RF p.r2 (RF p.r3 (RF p.ms.length (RR p.ms.length 3 (fun i j=>an mmC p.ms i j) Z))))))))):=⟨rfl,rfl,rfl,rfl,rfl,rfl,rfl,rfl,fun _ _ _ _=>rfl,z⟩
theorem w8(w:List Int)(s:S8){Z:Prop}(z:Z):(RF s.pc (RF w.length (RR w.length 1 (fun i j=>aI (w.getD i 0)) Z))):=⟨rfl,rfl,fun _ _ _ _=>rfl,z⟩
theorem w7(m:List Int)(p:Pg)(s:S8){Z:Prop}(z:Z):(RF p.ls.length (RR p.ls.length 2 (fun i j=>an lbC p.ls i j) (RF p.is.length (RR p.is.length 9 (fun i j=>an inC p.is i j) (RF s.r0 (RF s.r1 (RF s.r2 (RF s.r3 (RF s.m.length Z))))))))):=⟨rfl,fun _ _ _ _=>rfl,rfl,fun _ _ _ _=>rfl,rfl,rfl,rfl,rfl,rfl,z⟩
theorem w5(zs:List Int)(p:Pg){Z:Prop}(z:Z):(RF p.ls.length (RR p.ls.length 2 (fun i j=>an lbC p.ls i j) (RF p.is.length (RR p.is.length 9 (fun i j=>an inC p.is i j) (RF zs.length (RR zs.length 1 (fun i j=>aI (zs.getD i 0)) (RF (1:Int) Z))))))):=⟨rfl,fun _ _ _ _=>rfl,rfl,fun _ _ _ _=>rfl,rfl,fun _ _ _ _=>rfl,rfl,z⟩
abbrev xY(zs:List Int)(p:Pg)(s:S8)(s2:S8):Prop:=PureC Try.prog 13 [.agg (pgA p),lR zs,.int .i64 1] (.tup [.agg (s8N s),.agg (s8N s2)]) []
abbrev xX(w:List Int)(p:Pg)(s:S8)(c:Cf)(ds:List Dr):Prop:=PureC Try.prog 14 [.agg (pgA p),.agg (s8R s),lR w] (.tup [.agg (cfA c),drR ds]) []
abbrev xZ(m:List Int)(p:Pg):Prop:=PureC Try.prog 12 [lR m] (.agg (pgA p)) []
abbrev xW:Prop:=PureC Try.prog 11 [] (.bool true) []
abbrev yh(zs:List Int)(p:Pg)(s:S8)(s2:S8):Orc:= .cl [.agg (pgA p),lR zs, aI 1] (.tup [.agg (s8N s),.agg (s8N s2)]) []
abbrev yg(w:List Int)(p:Pg)(s:S8)(c:Cf)(ds:List Dr):Orc:= .cl [.agg (pgA p),.agg (s8R s),lR w] (.tup [.agg (cfA c),drR ds]) []
theorem HM(m zs w:List Int)(p:Pg)(s s2:S8)(c:Cf)(ds:List Dr)(hs:s.st=[])(h1:xZ m p)(h2:xY zs p s s2)(h3:xX w p s c ds)(hW:xW)(x:Cf)(h4:pC_ 8 [.agg (pgA p),.agg (cfA c)] (.tup [.agg (cfA x),.bool false]) []):Vc (vF_ 4 [lR m,lR zs,lR w] [.cl [lR m] (.agg (pgA p)) [],yh zs p s s2,yg w p s c ds,.cl [.agg (pgA p),.agg (cfA c)] (.tup [.agg (cfA x),.bool false]) [],.cl [] (.bool true) []] [] (.bool true) []):=al (cj (rf m.length) (cj (rr m.length 1 fun i j=>aI (m.getD i 0)) (cj h1 (kY p (w5 zs p (cj h2 (kY p (w7 m p s (cj (rr s.m.length 1 fun i j=>aI (s.m.getD i 0)) (cj (show s.st.length=0 from by rw[hs];rfl) (w8 w s (cj h3 (kY p (w9 m p s c (xa m s c (cj h4 (cj hW (cj (rf true) trivial))))))))))))))))))
theorem HQ(m zs w:List Int)(p:Pg)(s s2:S8)(c:Cf)(ds:List Dr)(hs:s.st=[])(h1:xZ m p)(h2:xY zs p s s2)(h3:xX w p s c ds)(hW:xW)(t xe:Int)(hl:0<c.b.length)(ht:t=(c.b.getD 0 default).pc)(he: ¬xe=0)(h4:pC_ 8 [.agg (pgA p),.agg (cfA c)] (.tup [.agg (cfA ⟨c.s.go t,[],[],xe⟩),.bool true]) []):Vc (vF_ 4 [lR m,lR zs,lR w] [.cl [lR m] (.agg (pgA p)) [],yh zs p s s2,yg w p s c ds,.cl [.agg (pgA p),.agg (cfA c)] (.tup [.agg (cfA ⟨c.s.go t,[],[],xe⟩),.bool true]) [],.bd true,.bd true,.bd true,.bd true,.bd true,.cl [] (.bool true) []] [] (.bool true) []):=al (cj (rf m.length) (cj (rr m.length 1 fun i j=>aI (m.getD i 0)) (cj h1 (kY p (w5 zs p (cj h2 (kY p (w7 m p s (cj (rr s.m.length 1 fun i j=>aI (s.m.getD i 0)) (cj (show s.st.length=0 from by rw[hs];rfl) (w8 w s (cj h3 (kY p (w9 m p s c (xa m s c (cj h4 (cj (bG.2 he) (cj (e1 (0:Nat) 0) (cj (e1 (0:Nat) 0) (cj (show(bif c.s.r0==c.s.r0 then bif c.s.r1==c.s.r1 then bif c.s.r2==c.s.r2 then bif c.s.r3==c.s.r3 then true else false else false else false else false)=true from by simp) (cj (pv ((0:Int)<=0∧(0:Int)<c.b.length)) (cj (ax.2 ht) (cj hW (cj (rf true) trivial))))))))))))))))))))))))
theorem zB(c:Cf){Z:Prop}(z:Z):(RF ((ay c.b).length) (RR ((ay c.b).length) 8 (fun i j=>an enC (ay c.b) i j) (RF ((ay c.b).length) (RR ((ay c.b).length) 8 (fun i j=>an enC (ay c.b) i j) Z)))):=⟨rfl,fun _ _ _ _=>rfl,rfl,fun _ _ _ _=>rfl,z⟩
theorem zA(t1:Nat){Z:Prop}(z:Z):(RF (0:Int) (RF false (RF (t1:Int) (RF (0:Int) Z)))):=⟨rfl,rfl,rfl,rfl,z⟩
theorem ry(m:List Int)(c:Cf)(sd:S8)(dr:List Int){Z:Prop}(z:Z):(RF sd.m.length (RR sd.m.length 1 (fun i j=>aI (sd.m.getD i 0)) (RF sd.st.length (RR sd.st.length 1 (fun i j=>aI (sd.st.getD i 0)) (RF sd.pc (RF ((ay c.b).length) (RR ((ay c.b).length) 8 (fun i j=>an enC (ay c.b) i j) (RF dr.length (RR dr.length 1 (fun i j=>aI (dr.getD i 0)) Z))))))))):=⟨rfl,fun _ _ _ _=>rfl,rfl,fun _ _ _ _=>rfl,rfl,rfl,fun _ _ _ _=>rfl,rfl,fun _ _ _ _=>rfl,z⟩
theorem rx(c:Cf)(sd:S8){Z:Prop}(z:Z):(RF c.b.length (RR c.b.length 8 (fun i j=>an enC c.b i j) (RF c.r.length (RR c.r.length 1 (fun i j=>aI (c.r.getD i 0)) (RF c.e (RF sd.r0 (RF sd.r1 (RF sd.r2 (RF sd.r3 Z))))))))):=⟨rfl,fun _ _ _ _=>rfl,rfl,fun _ _ _ _=>rfl,rfl,rfl,rfl,rfl,rfl,z⟩
theorem zy(m:List Int)(sd:S8){Z:Prop}(z:Z):(RF (0:Int) (RF false (RF (0:Int) (RF (↑sd.m.length:Int) (RF (0:Int) Z))))):=⟨rfl,rfl,rfl,rfl,rfl,z⟩
abbrev E6(c:Cf)(sd:S8)(dr:List Int)(t1:Nat)(k1:Nat):Prop:=Ok Try.prog (cN Try.prog 4) (.loop (lpC Try.prog 4 0)) (o1S c ⟨sd,ay c.b,dr,0⟩ 0 0).st (.ext 0) (o1S c ⟨sd,ay c.b,dr,0⟩ t1 k1).st
abbrev E5(c:Cf)(sd:S8)(dr:List Int)(t1:Nat)(t2:Nat):Prop:=Ok Try.prog (cN Try.prog 4) (.loop (lpC Try.prog 4 1)) (o2S c ⟨sd,ay c.b,dr,0⟩ t1 0).st (.ext 2) (o2S c ⟨sd,ay c.b,dr,0⟩ t2 4).st
abbrev E7(p:Pg)(c:Cf)(sd:S8)(dr:List Int):Prop:=PureC Try.prog 8 [.agg (pgA p),.agg (cfA c)] (.tup [.agg (cfA ⟨sd,ay c.b,dr,0⟩),.bool true]) []
abbrev E4(c:Cf):Prop:=PureC Try.prog 15 [enR (ay c.b),enR (ay c.b)] (.bool true) []
theorem HN(m zs w:List Int)(p:Pg)(s s2:S8)(c:Cf)(ds:List Dr)(hs:s.st=[])(h1:xZ m p)(h2:xY zs p s s2)(h3:xX w p s c ds)(hW:xW)(sd:S8)(dr:List Int)(t1 k1 t2:Nat)(hm:sd.m.length=c.s.m.length)(hmb:sd.m.length<1000)(hsb:c.s.st.length<1000)(hsb2:sd.st.length<1000)(hp:sd.pc=c.s.pc)(hr:dr.length=c.r.length)(hst:sd.st.length=c.s.st.length)(ht:t2<=1)(h4:E7 p c sd dr)(h5:E6 c sd dr t1 k1)(h6:E5 c sd dr t1 t2)(h7:pC_ 16 [enR c.b] (enR (ay c.b)) [])(h8:E4 c):Vc (vF_ 4 [lR m,lR zs,lR w] [.cl [lR m] (.agg (pgA p)) [],yh zs p s s2,yg w p s c ds,.cl [.agg (pgA p),.agg (cfA c)] (.tup [.agg (cfA ⟨sd,ay c.b,dr,0⟩),.bool true]) [],.bd false,.bd false,.lp [(0,3),(1,4)] (o1S c ⟨sd,ay c.b,dr,0⟩ 0 0) (.ext 0) (o1S c ⟨sd,ay c.b,dr,0⟩ t1 k1),.lp [(0,0),(1,1)] (o2S c ⟨sd,ay c.b,dr,0⟩ t1 0) (.ext 2) (o2S c ⟨sd,ay c.b,dr,0⟩ t2 4),.bd false,.bd true,.cl [enR c.b] (enR (ay c.b)) [],.cl [enR (ay c.b),enR (ay c.b)] (.bool true) [],.bd true,.bd true,.cl [] (.bool true) []] [] (.bool true) []):=al (cj (rf m.length) (cj (rr m.length 1 fun i j=>aI (m.getD i 0)) (cj h1 (kY p (w5 zs p (cj h2 (kY p (w7 m p s (cj (rr s.m.length 1 fun i j=>aI (s.m.getD i 0)) (cj (show s.st.length=0 from by rw[hs];rfl) (w8 w s (cj h3 (kY p (w9 m p s c (xa m s c (cj h4 (cj (n0 (0:Int) 0) (cj (show((↑sd.m.length:Int) !=(↑(c.s.m.length):Int))=false from(aw.2 (by omega))) (iJ c (rx c sd (ry m c sd dr (zy m sd (cj h5 (iJ c (rx c sd (ry m c sd dr (zA t1 (cj h6 (cj (show((↑sd.st.length:Int) !=(↑(c.s.st.length):Int))=false from(aw.2 (by omega))) (cj (show decide ((t2:Int)<=1)=true from(bL (by omega))) (cj (rf c.b.length) (cj (rr c.b.length 8 fun i j=>an enC c.b i j) (cj h7 (zB c (cj h8 (cj (ax.2 hp) (cj (show((dr.length:Int)==(↑c.r.length:Int))=true from(ax.2 (by omega))) (cj hW (cj (rf true) trivial)))))))))))))))))))))))))))))))))))))))
theorem HO(m zs w:List Int)(p:Pg)(s s2:S8)(c:Cf)(ds:List Dr)(hs:s.st=[])(h1:xZ m p)(h2:xY zs p s s2)(h3:xX w p s c ds)(hW:xW)(sd:S8)(dr:List Int)(t1 k1 t2:Nat)(hm:sd.m.length=c.s.m.length)(hmb:sd.m.length<1000)(hsb:c.s.st.length<1000)(hsb2:sd.st.length<1000)(hp:sd.pc=c.s.pc)(hr:dr.length=c.r.length)(hst: ¬sd.st.length=c.s.st.length)(ht:t2+1<=1)(h4:E7 p c sd dr)(h5:E6 c sd dr t1 k1)(h6:E5 c sd dr t1 t2)(h7:pC_ 16 [enR c.b] (enR (ay c.b)) [])(h8:E4 c):Vc (vF_ 4 [lR m,lR zs,lR w] [.cl [lR m] (.agg (pgA p)) [],yh zs p s s2,yg w p s c ds,.cl [.agg (pgA p),.agg (cfA c)] (.tup [.agg (cfA ⟨sd,ay c.b,dr,0⟩),.bool true]) [],.bd false,.bd false,.lp [(0,3),(1,4)] (o1S c ⟨sd,ay c.b,dr,0⟩ 0 0) (.ext 0) (o1S c ⟨sd,ay c.b,dr,0⟩ t1 k1),.lp [(0,0),(1,1)] (o2S c ⟨sd,ay c.b,dr,0⟩ t1 0) (.ext 2) (o2S c ⟨sd,ay c.b,dr,0⟩ t2 4),.bd true,.bd true,.cl [enR c.b] (enR (ay c.b)) [],.cl [enR (ay c.b),enR (ay c.b)] (.bool true) [],.bd true,.bd true,.cl [] (.bool true) []] [] (.bool true) []):=al (cj (rf m.length) (cj (rr m.length 1 fun i j=>aI (m.getD i 0)) (cj h1 (kY p (w5 zs p (cj h2 (kY p (w7 m p s (cj (rr s.m.length 1 fun i j=>aI (s.m.getD i 0)) (cj (show s.st.length=0 from by rw[hs];rfl) (w8 w s (cj h3 (kY p (w9 m p s c (xa m s c (cj h4 (cj (n0 (0:Int) 0) (cj (show((↑sd.m.length:Int) !=(↑(c.s.m.length):Int))=false from(aw.2 (by omega))) (iJ c (rx c sd (ry m c sd dr (zy m sd (cj h5 (iJ c (rx c sd (ry m c sd dr (zA t1 (cj h6 (cj (show((↑sd.st.length:Int) !=(↑(c.s.st.length):Int))=true from(bG.2 (by omega))) (cj (i6 (t2+1)) (cj (show decide ((t2:Int)+1<=1)=true from(bL (by omega))) (cj (rf c.b.length) (cj (rr c.b.length 8 fun i j=>an enC c.b i j) (cj h7 (zB c (cj h8 (cj (ax.2 hp) (cj (show((dr.length:Int)==(↑c.r.length:Int))=true from(ax.2 (by omega))) (cj hW (cj (rf true) trivial))))))))))))))))))))))))))))))))))))))))
def dfM(a b:List Int):Nat->Nat
 |0=>0
 |k+1=>dfM a b k+if a.getD k 0=b.getD k 0 then 0 else 1
def dfR(a b:S8):Nat->Nat
 |0=>0
 |k+1=>dfR a b k+if a.reg (k:Int)=b.reg (k:Int) then 0 else 1
theorem sw(q:Prop)[Decidable q]:(if q then 0 else 1:Nat)<=1:=by split<;>omega
theorem qZ(a b:List Int): ∀k,dfM a b k<=k
 |0=>aB _
 |k+1=>by
  have:=qZ a b k
  unfold dfM
  split<;>omega
theorem ig(a:List Int): ∀k,dfM a a k=0
 |0=>rfl
 |k+1=>by unfold dfM;rw[ig a k,ai rfl]
theorem sK(l:List Int)(n:Nat)(v:Int)(hn:n<l.length): ∀k,dfM (l.set n v) l k<=if n<k then 1 else 0
 |0=>cc _
 |k+1=>by
  have:=sK l n v hn k
  unfold dfM
  rw[yE l n k v hn]
  by_cases h:n=k
  ·subst h
   rw[ah (b8 _)] at this
   rw[ai (cI _)]
   exact dN this (sw _)
  ·rw[ah h,ai rfl]
   split at this
   ·rw[ai (by omega)];omega
   ·omega
theorem ws(a b:S8): ∀k,dfR a b k<=k
 |0=>aB _
 |k+1=>by
  have:=ws a b k
  unfold dfR
  split<;>omega
theorem ic(a b:S8)(h: ∀n,a.reg n=b.reg n): ∀k,dfR a b k=0
 |0=>rfl
 |k+1=>by unfold dfR;rw[ic a b h k,ai (h _)]
theorem sJ(s:S8)(d v:Int)(hd:0<=d∧d<4): ∀k:Nat,k<=4->dfR (s.set d v) s k<=if d<k then 1 else 0
 |0,_=>cc _
 |k+1,hk=>by
  have:=sJ s d v hd k (by omega)
  unfold dfR
  rw[xv hd ⟨by omega,by omega⟩]
  by_cases h:d=(k:Int)
  ·rw[ai h]
   rw[ah (by omega)] at this
   have h9:d<((k+1:Nat):Int):=by omega
   rw[ai h9]
   exact dN this (sw _)
  ·rw[ah h,ai rfl]
   split at this
   ·rw[ai (by omega)];omega
   ·omega
theorem xK{p:Pg}{c x:Cf}(hP:OkP p)(hI:Inv p c)(e:rtO p c=some x):(¬x.e=0∧x=⟨c.s.go (c.b.getD 0 default).pc,[],[],x.e⟩)∨(∃s2,x=⟨s2,ay c.b,c.r,0⟩∧s2.pc=c.s.pc∧s2.m.length=c.s.m.length∧dfM s2.m c.s.m s2.m.length+dfR s2 c.s 4+(if s2.st.length=c.s.st.length then 0 else 1)<=1):=by
 unfold rtO at e
 split at e
 ·rename_i hc
  obtain⟨he,hl,hdn,hkn⟩:=gh hc
  obtain⟨hi,_⟩:=oP hP c 0
  obtain⟨hk,_,_,hd,_⟩:=hi
  obtain rfl:=Option.some.inj e
  unfold rtV
  split
  ·exact .inl ⟨by show ¬(2:Int)=0;decide,rfl⟩
  ·rename_i hf
   have hf2:(c.b.getD 0 default).ft=false:=by
    cases hq:(c.b.getD 0 default).ft with
    |false=>rfl
    |true=>exact absurd (.inl hq) hf
   split
   ·exact .inl ⟨by show ¬(1:Int)=0;decide,rfl⟩
   ·refine .inr ?_
    rw[he]
    split
    ·refine⟨_,rfl,rfl,rfl, ?_⟩
     have h1:=sJ c.s (enX p c 0).d (c.b.getD 0 default).val hd 4 (by omega)
     rw[ai (by have:=hd.2;omega)] at h1
     show dfM c.s.m c.s.m _+_+(if c.s.st.length=c.s.st.length then 0 else 1)<=1
     rw[ig,ai rfl]
     omega
    ·split
     ·rename_i k3
      have ha:0<=(c.b.getD 0 default).adr∧(c.b.getD 0 default).adr<c.s.m.length:=⟨(hI.be _ (cW hl)).adr.1,(hI.et 0 hl).sto k3 (hkn k3) hf2⟩
      refine⟨_,rfl,rfl,aq, ?_⟩
      have h1:=sK c.s.m (c.b.getD 0 default).adr.toNat (c.b.getD 0 default).val (by omega) (c.s.m.set (c.b.getD 0 default).adr.toNat (c.b.getD 0 default).val).length
      have h2:dfM (c.s.m.set (c.b.getD 0 default).adr.toNat (c.b.getD 0 default).val) c.s.m (c.s.m.set (c.b.getD 0 default).adr.toNat (c.b.getD 0 default).val).length<=1:=by split at h1<;>omega
      exact bF (dN (dN h2 (iQ (ic _ _ (fun _=>rfl) 4))) (iQ (ai rfl))) (aB _)
     ·split
      ·refine⟨_,rfl,rfl,rfl, ?_⟩
       exact bF (dN (dN (iQ (ig _ _)) (iQ (ic _ _ (fun _=>rfl) 4))) (sw _)) (aB _)
      ·split
       ·refine⟨_,rfl,rfl,rfl, ?_⟩
        exact bF (dN (dN (iQ (ig _ _)) (iQ (ic _ _ (fun _=>rfl) 4))) (sw _)) (aB _)
       ·refine⟨_,rfl,rfl,rfl, ?_⟩
        rw[ig,ic _ _ (fun _=>rfl),ai rfl]
        omega
 ·cases e
theorem yj(c d:Cf)(hl:d.s.m.length=c.s.m.length)(hb:d.s.m.length<1000):oL_ 4 0 (o1S c d 0 0).st (.ext 0) (o1S c d (dfM d.s.m c.s.m d.s.m.length) d.s.m.length).st:=
 Ok.loop (P:=Try.prog) (nt:=cN Try.prog 4) (c:=lpC Try.prog 4 0) (F:=fun k=>o1S c d (dfM d.s.m c.s.m k) k) (m:=d.s.m.length) (x:= .ext 0) (J:=o1S c d (dfM d.s.m c.s.m d.s.m.length) d.s.m.length) (fun k hk=>by
  have h1:=qZ d.s.m c.s.m k
  by_cases he:d.s.m.getD k 0=c.s.m.getD k 0
  ·have h2:=Ok.vc (HS c d (dfM d.s.m c.s.m k) k hl hk (by omega) hb he)
   show Ok _ _ _ _ _ (o1S c d (dfM d.s.m c.s.m k+if d.s.m.getD k 0=c.s.m.getD k 0 then 0 else 1) (k+1)).st
   rw[ai he];exact h2
  ·have h2:=Ok.vc (HT c d (dfM d.s.m c.s.m k) k hl hk (by omega) hb he)
   show Ok _ _ _ _ _ (o1S c d (dfM d.s.m c.s.m k+if d.s.m.getD k 0=c.s.m.getD k 0 then 0 else 1) (k+1)).st
   rw[ah he];exact h2) (Ok.vc (HU c d _ _ (b8 _))) (by simp)
theorem yi(c d:Cf)(t:Nat)(ht:t<900):oL_ 4 1 (o2S c d t 0).st (.ext 2) (o2S c d (t+dfR d.s c.s 4) 4).st:=
 Ok.loop (P:=Try.prog) (nt:=cN Try.prog 4) (c:=lpC Try.prog 4 1) (F:=fun k=>o2S c d (t+dfR d.s c.s k) k) (m:=4) (x:= .ext 2) (J:=o2S c d (t+dfR d.s c.s 4) 4) (fun k hk=>by
  have h1:=ws d.s c.s k
  show Ok _ _ _ _ _ (o2S c d (t+(dfR d.s c.s k+if d.s.reg (k:Int)=c.s.reg (k:Int) then 0 else 1)) (k+1)).st
  rw[<-cL]
  by_cases he:d.s.reg (k:Int)=c.s.reg (k:Int)
  ·rw[ai he]
   exact match k,hk,he,h1 with
    |0,_,he,h1=>Ok.vc (Fm c d _ (by omega) he)
    |1,_,he,h1=>Ok.vc (Fk c d _ (by omega) he)
    |2,_,he,h1=>Ok.vc (Fi c d _ (by omega) he)
    |3,_,he,h1=>Ok.vc (Fg c d _ (by omega) he)
  ·rw[ah he]
   exact match k,hk,he,h1 with
    |0,_,he,h1=>Ok.vc (Fn c d _ (by omega) he)
    |1,_,he,h1=>Ok.vc (Fl c d _ (by omega) he)
    |2,_,he,h1=>Ok.vc (Fj c d _ (by omega) he)
    |3,_,he,h1=>Ok.vc (Fh c d _ (by omega) he)) (Ok.vc (HR c d _)) (by simp)
theorem px(hO:tW)(m zs w:List Int):pC_ 4 [lR m,lR zs,lR w] (.bool true) []:=by
 have hP:=eG m
 have hI:=jr m zs w
 have hS:=uy m zs w
 have h4:=Ca (bB m) (wkC m zs w) (jW m zs w)
 have hW:=mN hO
 cases e:rtO (bB m) (wkC m zs w) with
 |none=>
  rw[e] at h4
  exact PureC.vc (HM m zs w (bB m) (sA (bB m) zs) (sB (bB m) zs 1) (wkC m zs w) _ rfl (mkC m) (ip (bB m) zs 1 hP) (ns m zs w) hW _ h4)
 |some x=>
  rw[e] at h4
  have h4:pC_ 8 [.agg (pgA (bB m)),.agg (cfA (wkC m zs w))] (.tup [.agg (cfA x),.bool true]) []:=h4
  have hl:0<(wkC m zs w).b.length:=by
   unfold rtO at e
   split at e
   ·rename_i hc;exact(gh hc).2.1
   ·cases e
  have hx:=Inv.rtO hP hI e
  rcases xK hP hI e with⟨h1,h2⟩|⟨s2,h2,h3,h5,h6⟩
  ·rw[h2] at h4
   exact PureC.vc (HQ m zs w (bB m) (sA (bB m) zs) (sB (bB m) zs 1) (wkC m zs w) _ rfl (mkC m) (ip (bB m) zs 1 hP) (ns m zs w) hW _ _ hl rfl h1 h4)
  ·rw[h2] at h4
   have hb:=hS.m
   have hst:=hx.st
   have hst0:=hS.st
   have hbl:=hS.b
   rw[h2] at hst
   have hst:s2.st.length<=4:=hst
   have hdM:=qZ s2.m (wkC m zs w).s.m s2.m.length
   have hpp:=zN (wkC m zs w).b (by omega) (jW m zs w).frm
   have hse:=Ed (ay (wkC m zs w).b) (by rw[dA];omega)
   have L1:=yj (wkC m zs w) ⟨s2,ay (wkC m zs w).b,(wkC m zs w).r,0⟩ h5 (by show s2.m.length<1000;omega)
   have L2:=yi (wkC m zs w) ⟨s2,ay (wkC m zs w).b,(wkC m zs w).r,0⟩ (dfM s2.m (wkC m zs w).s.m s2.m.length) (by omega)
   by_cases hq:s2.st.length=(wkC m zs w).s.st.length
   ·rw[ai hq] at h6
    exact PureC.vc (HN m zs w (bB m) (sA (bB m) zs) (sB (bB m) zs 1) (wkC m zs w) _ rfl (mkC m) (ip (bB m) zs 1 hP) (ns m zs w) hW s2 _ _ _ _ h5 (by omega) (by omega) (by omega) h3 rfl hq h6 h4 L1 L2 hpp hse)
   ·rw[ah hq] at h6
    exact PureC.vc (HO m zs w (bB m) (sA (bB m) zs) (sB (bB m) zs 1) (wkC m zs w) _ rfl (mkC m) (ip (bB m) zs 1 hP) (ns m zs w) hW s2 _ _ _ _ h5 (by omega) (by omega) (by omega) h3 rfl hq h6 h4 L1 L2 hpp hse)
theorem walk_RetiOldest(A0:Option Addr)(c0:Nat)(z0:List Int)(A1:Option Addr)(c1:Nat)(z1:List Int)(A2:Option Addr)(c2:Nat)(z2:List Int)(W:World)(hc0:z0.length<=c0)(hm0:c0<=maxLen)(hr0:Rd W W.heap.size A0 (z0.map (Value.int .i64)))(hc1:z1.length<=c1)(hm1:c1<=maxLen)(hr1:Rd W W.heap.size A1 (z1.map (Value.int .i64)))(hc2:z2.length<=c2)(hm2:c2<=maxLen)(hr2:Rd W W.heap.size A2 (z2.map (Value.int .i64))):Calls Try.prog 4 #[.slice A0 z0.length c0,.slice A1 z1.length c1,.slice A2 z2.length c2] W (RetB (.bool true) W):=
 (px yd z0 z1 z2).lawB (R:=fun g=>g<W.heap.size) (fun _ h=>h) rfl (fun j x v hx hv=>match j,hx,hv with
  |0,rfl,rfl=> .ofRd hr0 hc0 hm0
  |1,rfl,rfl=> .ofRd hr1 hc1 hm1
  |2,rfl,rfl=> .ofRd hr2 hc2 hm2)
end
end Go.Proofs.Ytdanmboalfmifaa.Px
