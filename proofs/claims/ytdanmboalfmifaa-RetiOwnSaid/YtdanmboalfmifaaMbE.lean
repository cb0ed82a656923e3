import Derived.Test.YtdanmboalfmifaaMbD
set_option linter.unusedVariables false
set_option linter.unusedSimpArgs false
set_option maxRecDepth 100000
namespace Go.Proofs.Ytdanmboalfmifaa.Px
section
open Go.RowKit Go.Proofs.Ytdanmboalfmifaa.Rx
def ldF(p:Pg)(l:List En)(a:Int):Nat->Option (Int×Int×Bool)
 |0=>none
 |k+1=>if(enI p l k).kind=3∧(l.getD k default).kn=true∧(l.getD k default).adr=a then some (if(l.getD k default).dn then((l.getD k default).val,(k:Int),true) else(0,0,false)) else ldF p l a k
def ldV(p:Pg)(m:List Int)(l:List En)(i a:Int):Int×Int×Bool:=match ldF p l a (cl0 i l.length) with
 |some x=>x
 |none=>if 0<=a∧a<m.length then(m.getD a.toNat 0, -1,true) else(0, -1,true)
def ldS(p:Pg)(m:List Int)(l:List En)(a i:Int):Sm:=⟨[(5,pgP p),(1,lR m),(2,enR l),(4,.int .i64 a),(13,.int .i64 i),(10,.int .i64 0),(11,.int .i64 0),(12,.bool false)],[],0⟩
def uz(a b c:Nat)(x:Int×Int×Bool):Sm:=⟨[(a,.int .i64 x.1),(b,.int .i64 x.2.1),(c,.bool x.2.2)],[],0⟩
def hzB(p:Pg)(l:List En)(i a:Int)(k:Nat):Prop:=(enI p l k).kind=2∧(l.getD k default).kn=true∧(l.getD k default).adr=a∧(l.getD k default).frm<i
instance(p:Pg)(l:List En)(i a:Int)(k:Nat):Decidable (hzB p l i a k):=inferInstanceAs (Decidable (_∧_))
def hzG(p:Pg)(l:List En)(i a:Int):Nat->Nat->Option Nat
 |_,0=>none
 |k,j+1=>if hzB p l i a k then some k else hzG p l i a (k+1) j
def hz0(i:Int)(n:Nat):Nat:=(min (max i (-1)) (n:Int)+1).toNat
def hzV(p:Pg)(l:List En)(i a:Int):Int×Bool:=match hzG p l i a (hz0 i l.length) (l.length-hz0 i l.length) with
 |some k=>((k:Int),true)
 |none=>(0,false)
def hzS(p:Pg)(l:List En)(i a:Int)(k:Nat):Sm:=⟨[(4,pgP p),(1,enR l),(2,.int .i64 i),(3,.int .i64 a),(10,.int .i64 k),(8,.int .i64 0),(9,.bool false)],[],0⟩
theorem Aq(k:Nat){Z:Prop}(z:Z):(RF ((k:Int)-1) (RF (0:Int) (RF (0:Int) (RF false Z)))):=⟨rfl,rfl,rfl,rfl,z⟩
theorem o2(p:Pg)(m:List Int)(l:List En)(a:Int){Z:Prop}(z:Z):(RF p.ls.length (RR p.ls.length 2 (fun i j=>an lbC p.ls i j) (RF p.is.length (RR p.is.length 9 (fun i j=>an inC p.is i j) (RF m.length (RR m.length 1 (fun i j=>aI (m.getD i 0)) (RF l.length (RR l.length 8 (fun i j=>an enC l i j) (RF a Z))))))))):=⟨rfl,fun _ _ _ _=>rfl,rfl,fun _ _ _ _=>rfl,rfl,fun _ _ _ _=>rfl,rfl,fun _ _ _ _=>rfl,rfl,z⟩
theorem eJ(p:Pg){Z:Prop}(z:Z):(RF p.W (RF p.win (RF p.fuel (RF p.r0 (RF p.r1 (RF p.r2 (RF p.r3 (RF p.ms.length (RR p.ms.length 3 (fun i j=>an mmC p.ms i j) Z))))))))):=⟨rfl,rfl,rfl,rfl,rfl,rfl,rfl,rfl,fun _ _ _ _=>rfl,z⟩
theorem mZ(p:Pg)(l:List En)(k:Nat){Z:Prop}(z:Z):(RF p.ls.length (RR p.ls.length 2 (fun i j=>an lbC p.ls i j) (RF p.is.length (RR p.is.length 9 (fun i j=>an inC p.is i j) (RF ((l.getD k default).pc) Z))))):=⟨rfl,fun _ _ _ _=>rfl,rfl,fun _ _ _ _=>rfl,rfl,z⟩
abbrev nc(p:Pg)(l:List En)(k:Nat):Orc:= .cl [.agg (pgA p), aI (l.getD k default).pc] (.agg (inA (enI p l k))) []
theorem FJ(p:Pg)(m:List Int)(l:List En)(a:Int)(k:Nat)(hk:k<l.length)(hb:l.length<1000000)(hk3: ¬(enI p l k).kind=3):Vc (vC_ 61 0 (ldS p m l a k) [.bd true,nc p l k,.bd false] .nrm [] (ldS p m l a ((k:Int)-1))):=al (cj (dt ((k:Int)>=0)) (cj (bi k l.length) (eJ p (mZ p l k (cj (bv p (l.getD k default).pc) (cj (aa.2 hk3) (cj (i6 (k-1)) (eJ p (o2 p m l a (Aq k trivial))))))))))
theorem FI(p:Pg)(m:List Int)(l:List En)(a:Int)(k:Nat)(hk:k<l.length)(hb:l.length<1000000)(hk3:(enI p l k).kind=3)(hn:(l.getD k default).kn=false):Vc (vC_ 61 0 (ldS p m l a k) [.bd true,nc p l k,.bd true,.lv (.bool false)] .nrm [] (ldS p m l a ((k:Int)-1))):=al (cj (dt ((k:Int)>=0)) (cj (bi k l.length) (eJ p (mZ p l k (cj (bv p (l.getD k default).pc) (cj (ax.2 hk3) (cj (bi k l.length) (cj (congrArg (fun b=>some (AV.bool b)) hn) (cj (i6 (k-1)) (eJ p (o2 p m l a (Aq k trivial))))))))))))
theorem FK(p:Pg)(m:List Int)(l:List En)(a:Int)(k:Nat)(hk:k<l.length)(hb:l.length<1000000)(hk3:(enI p l k).kind=3)(hn:(l.getD k default).kn=true)(ha: ¬(l.getD k default).adr=a):Vc (vC_ 61 0 (ldS p m l a k) [.bd true,nc p l k,.bd true,.lv (.bool true),.bd false] .nrm [] (ldS p m l a ((k:Int)-1))):=al (cj (dt ((k:Int)>=0)) (cj (bi k l.length) (eJ p (mZ p l k (cj (bv p (l.getD k default).pc) (cj (ax.2 hk3) (cj (bi k l.length) (cj (congrArg (fun b=>some (AV.bool b)) hn) (cj (bi k l.length) (cj (aa.2 ha) (cj (i6 (k-1)) (eJ p (o2 p m l a (Aq k trivial))))))))))))))
theorem H5(p:Pg)(m:List Int)(l:List En)(a:Int)(k:Nat)(hk:k<l.length)(hb:l.length<1000000)(hk3:(enI p l k).kind=3)(hn:(l.getD k default).kn=true)(ha:(l.getD k default).adr=a)(hd:(l.getD k default).dn=true):Vc (vC_ 61 0 (ldS p m l a k) [.bd true,nc p l k,.bd true,.lv (.bool true),.bd true,.lv (.bool true)] .ret [] (uz 10 11 12 ((l.getD k default).val,(k:Int),true))):=al (cj (dt ((k:Int)>=0)) (cj (bi k l.length) (eJ p (mZ p l k (cj (bv p (l.getD k default).pc) (cj (ax.2 hk3) (cj (bi k l.length) (cj (congrArg (fun b=>some (AV.bool b)) hn) (cj (bi k l.length) (cj (ax.2 ha) (cj (bi k l.length) (cj (congrArg (fun b=>some (AV.bool b)) hd) (cj (bi k l.length) (cj (rf ((l.getD k default).val)) (cj (rf (k:Int)) (cj (rf true) trivial))))))))))))))))
theorem t9{Z:Prop}(z:Z):(RF (0:Int) (RF (0:Int) (RF false Z))):=⟨rfl,rfl,rfl,z⟩
theorem H4(p:Pg)(m:List Int)(l:List En)(a:Int)(k:Nat)(hk:k<l.length)(hb:l.length<1000000)(hk3:(enI p l k).kind=3)(hn:(l.getD k default).kn=true)(ha:(l.getD k default).adr=a)(hd:(l.getD k default).dn=false):Vc (vC_ 61 0 (ldS p m l a k) [.bd true,nc p l k,.bd true,.lv (.bool true),.bd true,.lv (.bool false)] .ret [] (uz 10 11 12 (0,0,false))):=al (cj (dt ((k:Int)>=0)) (cj (bi k l.length) (eJ p (mZ p l k (cj (bv p (l.getD k default).pc) (cj (ax.2 hk3) (cj (bi k l.length) (cj (congrArg (fun b=>some (AV.bool b)) hn) (cj (bi k l.length) (cj (ax.2 ha) (cj (bi k l.length) (cj (congrArg (fun b=>some (AV.bool b)) hd) (t9 trivial)))))))))))))
theorem Ci(p:Pg)(m:List Int)(l:List En)(a:Int):Vc (vC_ 61 0 (ldS p m l a (-1)) [.b false] (.ext 0) [] (ldS p m l a (-1))):=al (cj (df ((-1:Int)>=0)) (eJ p (o2 p m l a (cj (rf (-1:Int)) (cj (rf (0:Int)) (cj (rf (0:Int)) (cj (rf false) trivial)))))))
theorem lD(p:Pg)(m:List Int)(l:List En)(a:Int)(hb:l.length<1000000)(x:Int×Int×Bool): ∀k,k<=l.length->ldF p l a k=some x->OkL Try.prog (cN Try.prog 61) (lpC Try.prog 61 0) (ldS p m l a ((k:Int)-1)).st .ret (uz 10 11 12 x).st
 |0,_,h=>by cases h
 |k+1,hk,h=>by
  rw[sg]
  unfold ldF at h
  by_cases hk3:(enI p l k).kind=3
  ·cases hn:(l.getD k default).kn with
   |false=>
    rw[ah (by rw[hn];simp)] at h
    exact OkL.step (Ok.vc (FI p m l a k (by omega) hb hk3 hn)) (lD p m l a hb x k (by omega) h)
   |true=>
    by_cases ha:(l.getD k default).adr=a
    ·rw[ai ⟨hk3,hn,ha⟩] at h
     cases hd:(l.getD k default).dn with
     |true=>
      rw[ai hd,af] at h
      subst h
      exact OkL.exit (Ok.vc (H5 p m l a k (by omega) hb hk3 hn ha hd)) (by simp)
     |false=>
      rw[ah (by rw[hd];simp),af] at h
      subst h
      exact OkL.exit (Ok.vc (H4 p m l a k (by omega) hb hk3 hn ha hd)) (by simp)
    ·rw[ah fun e=>ha e.2.2] at h
     exact OkL.step (Ok.vc (FK p m l a k (by omega) hb hk3 hn ha)) (lD p m l a hb x k (by omega) h)
  ·rw[ah fun e=>hk3 e.1] at h
   exact OkL.step (Ok.vc (FJ p m l a k (by omega) hb hk3)) (lD p m l a hb x k (by omega) h)
theorem lC(p:Pg)(m:List Int)(l:List En)(a:Int)(hb:l.length<1000000): ∀k,k<=l.length->ldF p l a k=none->OkL Try.prog (cN Try.prog 61) (lpC Try.prog 61 0) (ldS p m l a ((k:Int)-1)).st (.ext 0) (ldS p m l a (-1)).st
 |0,_,_=>OkL.exit (Ok.vc (Ci p m l a)) (by simp)
 |k+1,hk,h=>by
  rw[sg]
  unfold ldF at h
  by_cases hk3:(enI p l k).kind=3
  ·cases hn:(l.getD k default).kn with
   |false=>
    rw[ah (by rw[hn];simp)] at h
    exact OkL.step (Ok.vc (FI p m l a k (by omega) hb hk3 hn)) (lC p m l a hb k (by omega) h)
   |true=>
    by_cases ha:(l.getD k default).adr=a
    ·rw[ai ⟨hk3,hn,ha⟩] at h
     cases h
    ·rw[ah fun e=>ha e.2.2] at h
     exact OkL.step (Ok.vc (FK p m l a k (by omega) hb hk3 hn ha)) (lC p m l a hb k (by omega) h)
  ·rw[ah fun e=>hk3 e.1] at h
   exact OkL.step (Ok.vc (FJ p m l a k (by omega) hb hk3)) (lC p m l a hb k (by omega) h)
theorem xz(l:List En)(i:Int)(n:Nat)(hE:(if(l.length:Int)<(if i<0 then 0 else i) then(l.length:Int) else(if i<0 then 0 else i))=(n:Int)):(if(l.length:Int)<if i<0 then(0:Int) else i then(l.length:Int) else if i<0 then(0:Int) else i)-1=(n:Int)-1:=by rw[hE]
theorem Ch(p:Pg)(m:List Int)(l:List En)(i a:Int)(n:Nat)(x:Int×Int×Bool)(hE:(if(l.length:Int)<(if i<0 then 0 else i) then(l.length:Int) else(if i<0 then 0 else i))=(n:Int))(hn:n<1000000)(h:oL_ 61 0 (ldS p m l a ((n:Int)-1)).st .ret (uz 10 11 12 x).st):Vc (vF_ 61 [.agg (pgA p),lR m,enR l, aI i, aI a] [.fz,.lp [] (ldS p m l a ((n:Int)-1)) .ret (uz 10 11 12 x)] [] (.tup [aI x.1, aI x.2.1,.bool x.2.2]) []):=al (cj (show inK IntKind.i64 ((if(l.length:Int)<if i<0 then(0:Int) else i then(l.length:Int) else if i<0 then(0:Int) else i)-1) from by rw[hE];exact fu (by omega) (by omega)) (eJ p (o2 p m l a (cj (xz l i n hE) (t9 (cj h (cj (rf (Prod.fst x)) (cj (rf (Prod.fst (Prod.snd x))) (cj (rf (Prod.snd (Prod.snd x))) trivial)))))))))
theorem Dk{Z:Prop}(z:Z):(RF (0:Int) (RF (-1:Int) (RF true Z))):=⟨rfl,rfl,rfl,z⟩
abbrev BK(p:Pg)(m:List Int)(l:List En)(a:Int)(n:Nat):Prop:=Ok Try.prog (cN Try.prog 61) (.loop (lpC Try.prog 61 0)) (ldS p m l a ((n:Int)-1)).st (.ext 0) (ldS p m l a (-1)).st
theorem vM(p:Pg)(m:List Int)(l:List En)(i a:Int)(n:Nat)(hE:(if(l.length:Int)<(if i<0 then 0 else i) then(l.length:Int) else(if i<0 then 0 else i))=(n:Int))(hn:n<1000000)(h:BK p m l a n)(ha:a<0):Vc (vF_ 61 [.agg (pgA p),lR m,enR l, aI i, aI a] [.fz,.lp [] (ldS p m l a ((n:Int)-1)) (.ext 0) (ldS p m l a (-1)),.bd true] [] (.tup [aI 0, aI (-1),.bool true]) []):=al (cj (show inK IntKind.i64 ((if(l.length:Int)<if i<0 then(0:Int) else i then(l.length:Int) else if i<0 then(0:Int) else i)-1) from by rw[hE];exact fu (by omega) (by omega)) (eJ p (o2 p m l a (cj (xz l i n hE) (t9 (cj h (cj (dt (a<0)) (Dk trivial))))))))
theorem vL(p:Pg)(m:List Int)(l:List En)(i a:Int)(n:Nat)(hE:(if(l.length:Int)<(if i<0 then 0 else i) then(l.length:Int) else(if i<0 then 0 else i))=(n:Int))(hn:n<1000000)(h:BK p m l a n)(h0:0<=a)(ha: ¬a<m.length):Vc (vF_ 61 [.agg (pgA p),lR m,enR l, aI i, aI a] [.fz,.lp [] (ldS p m l a ((n:Int)-1)) (.ext 0) (ldS p m l a (-1)),.bd false,.bd true] [] (.tup [aI 0, aI (-1),.bool true]) []):=al (cj (show inK IntKind.i64 ((if(l.length:Int)<if i<0 then(0:Int) else i then(l.length:Int) else if i<0 then(0:Int) else i)-1) from by rw[hE];exact fu (by omega) (by omega)) (eJ p (o2 p m l a (cj (xz l i n hE) (t9 (cj h (cj (df (a<0)) (cj (dt (a>=(m.length:Int))) (Dk trivial)))))))))
theorem yu(p:Pg)(m:List Int)(l:List En)(i a:Int)(n:Nat)(hE:(if(l.length:Int)<(if i<0 then 0 else i) then(l.length:Int) else(if i<0 then 0 else i))=(n:Int))(hn:n<1000000)(h:BK p m l a n)(h0:0<=a)(ha:a<m.length):Vc (vF_ 61 [.agg (pgA p),lR m,enR l, aI i, aI a] [.fz,.lp [] (ldS p m l a ((n:Int)-1)) (.ext 0) (ldS p m l a (-1)),.bd false,.bd false] [] (.tup [aI (m.getD a.toNat 0), aI (-1),.bool true]) []):=al (cj (show inK IntKind.i64 ((if(l.length:Int)<if i<0 then(0:Int) else i then(l.length:Int) else if i<0 then(0:Int) else i)-1) from by rw[hE];exact fu (by omega) (by omega)) (eJ p (o2 p m l a (cj (xz l i n hE) (t9 (cj h (cj (df (a<0)) (cj (df (a>=(m.length:Int))) (cj (bi a m.length) (cj (rf (m.getD (Int.toNat a) (0:Int))) (cj (rf (-1:Int)) (cj (rf true) trivial))))))))))))
theorem xR(p:Pg)(m:List Int)(l:List En)(i a:Int)(hb:l.length<1000000):pC_ 61 [.agg (pgA p),lR m,enR l,.int .i64 i,.int .i64 a] (.tup [.int .i64 (ldV p m l i a).1,.int .i64 (ldV p m l i a).2.1,.bool (ldV p m l i a).2.2]) []:=by
 have hE:=wA i l.length
 have hle:=jg i l.length
 unfold ldV
 cases h:ldF p l a (cl0 i l.length) with
 |some x=>exact PureC.vc (Ch p m l i a _ x hE (by omega) (lD p m l a hb x _ hle h).ok)
 |none=>
  have hl:=(lC p m l a hb _ hle h).ok
  by_cases ha:0<=a∧a<m.length
  ·rw[ai ha]
   exact PureC.vc (yu p m l i a _ hE (by omega) hl ha.1 ha.2)
  ·rw[ah ha]
   by_cases h0:a<0
   ·exact PureC.vc (vM p m l i a _ hE (by omega) hl h0)
   ·exact PureC.vc (vL p m l i a _ hE (by omega) hl (by omega) (by omega))
theorem wX(p:Pg)(l:List En)(i:Int)(a:Int)(k:Nat){Z:Prop}(z:Z):(RF p.ls.length (RR p.ls.length 2 (fun i j=>an lbC p.ls i j) (RF p.is.length (RR p.is.length 9 (fun i j=>an inC p.is i j) (RF l.length (RR l.length 8 (fun i j=>an enC l i j) (RF i (RF a (RF ((k:Int)+1) Z))))))))):=⟨rfl,fun _ _ _ _=>rfl,rfl,fun _ _ _ _=>rfl,rfl,fun _ _ _ _=>rfl,rfl,rfl,rfl,z⟩
theorem F1(p:Pg)(l:List En)(i a:Int)(k:Nat)(hk:k<l.length)(hb:l.length<1000000)(hk3: ¬(enI p l k).kind=2):Vc (vC_ 66 0 (hzS p l i a k) [.bd true,nc p l k,.bd false] .nrm [] (hzS p l i a (k+1))):=al (cj (dt ((k:Int)<l.length)) (cj (bi k l.length) (eJ p (mZ p l k (cj (bv p (l.getD k default).pc) (cj (aa.2 hk3) (cj (i6 (k+1)) (eJ p (wX p l i a k (cj (rf (0:Int)) (cj (rf false) trivial)))))))))))
theorem F0(p:Pg)(l:List En)(i a:Int)(k:Nat)(hk:k<l.length)(hb:l.length<1000000)(hk3:(enI p l k).kind=2)(hn:(l.getD k default).kn=false):Vc (vC_ 66 0 (hzS p l i a k) [.bd true,nc p l k,.bd true,.lv (.bool false)] .nrm [] (hzS p l i a (k+1))):=al (cj (dt ((k:Int)<l.length)) (cj (bi k l.length) (eJ p (mZ p l k (cj (bv p (l.getD k default).pc) (cj (ax.2 hk3) (cj (bi k l.length) (cj (congrArg (fun b=>some (AV.bool b)) hn) (cj (i6 (k+1)) (eJ p (wX p l i a k (cj (rf (0:Int)) (cj (rf false) trivial)))))))))))))
theorem F3(p:Pg)(l:List En)(i a:Int)(k:Nat)(hk:k<l.length)(hb:l.length<1000000)(hk3:(enI p l k).kind=2)(hn:(l.getD k default).kn=true)(ha: ¬(l.getD k default).adr=a):Vc (vC_ 66 0 (hzS p l i a k) [.bd true,nc p l k,.bd true,.lv (.bool true),.bd false] .nrm [] (hzS p l i a (k+1))):=al (cj (dt ((k:Int)<l.length)) (cj (bi k l.length) (eJ p (mZ p l k (cj (bv p (l.getD k default).pc) (cj (ax.2 hk3) (cj (bi k l.length) (cj (congrArg (fun b=>some (AV.bool b)) hn) (cj (bi k l.length) (cj (aa.2 ha) (cj (i6 (k+1)) (eJ p (wX p l i a k (cj (rf (0:Int)) (cj (rf false) trivial)))))))))))))))
theorem F2(p:Pg)(l:List En)(i a:Int)(k:Nat)(hk:k<l.length)(hb:l.length<1000000)(hk3:(enI p l k).kind=2)(hn:(l.getD k default).kn=true)(ha:(l.getD k default).adr=a)(hf: ¬(l.getD k default).frm<i):Vc (vC_ 66 0 (hzS p l i a k) [.bd true,nc p l k,.bd true,.lv (.bool true),.bd true,.bd false] .nrm [] (hzS p l i a (k+1))):=al (cj (dt ((k:Int)<l.length)) (cj (bi k l.length) (eJ p (mZ p l k (cj (bv p (l.getD k default).pc) (cj (ax.2 hk3) (cj (bi k l.length) (cj (congrArg (fun b=>some (AV.bool b)) hn) (cj (bi k l.length) (cj (ax.2 ha) (cj (bi k l.length) (cj (bC hf) (cj (i6 (k+1)) (eJ p (wX p l i a k (cj (rf (0:Int)) (cj (rf false) trivial)))))))))))))))))
theorem Ii(p:Pg)(l:List En)(i a:Int)(k:Nat)(hk:k<l.length)(hb:l.length<1000000)(hk3:(enI p l k).kind=2)(hn:(l.getD k default).kn=true)(ha:(l.getD k default).adr=a)(hf:(l.getD k default).frm<i):Vc (vC_ 66 0 (hzS p l i a k) [.bd true,nc p l k,.bd true,.lv (.bool true),.bd true,.bd true] .ret [] (vbS 8 9 ((k:Int),true))):=al (cj (dt ((k:Int)<l.length)) (cj (bi k l.length) (eJ p (mZ p l k (cj (bv p (l.getD k default).pc) (cj (ax.2 hk3) (cj (bi k l.length) (cj (congrArg (fun b=>some (AV.bool b)) hn) (cj (bi k l.length) (cj (ax.2 ha) (cj (bi k l.length) (cj (bL hf) (cj (rf (k:Int)) (cj (rf true) trivial))))))))))))))
theorem Cy(p:Pg)(l:List En)(i a:Int)(k:Nat)(hk: ¬k<l.length):Vc (vC_ 66 0 (hzS p l i a k) [.b false] (.ext 0) [] (hzS p l i a k)):=al (cj (df ((k:Int)<l.length)) (eJ p (cj (rf p.ls.length) (cj (rr p.ls.length 2 fun i j=>an lbC p.ls i j) (cj (rf p.is.length) (cj (rr p.is.length 9 fun i j=>an inC p.is i j) (cj (rf l.length) (cj (rr l.length 8 fun i j=>an enC l i j) (cj (rf i) (cj (rf a) (cj (rf (k:Int)) (cj (rf (0:Int)) (cj (rf false) trivial)))))))))))))
theorem sE(p:Pg)(l:List En)(i a:Int)(hb:l.length<1000000)(q:Nat): ∀j k,k+j=max k l.length->hzG p l i a k j=some q->OkL Try.prog (cN Try.prog 66) (lpC Try.prog 66 0) (hzS p l i a k).st .ret (vbS 8 9 ((q:Int),true)).st
 |0,k,_,h=>by cases h
 |j+1,k,hk,h=>by
  unfold hzG at h
  by_cases hz:hzB p l i a k
  ·rw[ai hz] at h
   obtain⟨hk3,hn,ha,hf⟩:=hz
   rw[af] at h
   subst h
   exact OkL.exit (Ok.vc (Ii p l i a k (by omega) hb hk3 hn ha hf)) (by simp)
  ·rw[ah hz] at h
   refine OkL.step ?_ (sE p l i a hb q j (k+1) (by omega) h)
   by_cases hk3:(enI p l k).kind=2
   ·cases hn:(l.getD k default).kn with
    |false=>exact Ok.vc (F0 p l i a k (by omega) hb hk3 hn)
    |true=>
     by_cases ha:(l.getD k default).adr=a
     ·exact Ok.vc (F2 p l i a k (by omega) hb hk3 hn ha fun hf=>hz ⟨hk3,hn,ha,hf⟩)
     ·exact Ok.vc (F3 p l i a k (by omega) hb hk3 hn ha)
   ·exact Ok.vc (F1 p l i a k (by omega) hb hk3)
theorem sD(p:Pg)(l:List En)(i a:Int)(hb:l.length<1000000): ∀j k,k+j=max k l.length->hzG p l i a k j=none->OkL Try.prog (cN Try.prog 66) (lpC Try.prog 66 0) (hzS p l i a k).st (.ext 0) (hzS p l i a (max k l.length)).st
 |0,k,hk,_=>by
  rw[show max k l.length=k by omega]
  exact OkL.exit (Ok.vc (Cy p l i a k (by omega))) (by simp)
 |j+1,k,hk,h=>by
  rw[show max k l.length=max (k+1) l.length by omega]
  unfold hzG at h
  by_cases hz:hzB p l i a k
  ·rw[ai hz] at h
   obtain⟨hk3,hn,ha,hf⟩:=hz
   cases h
  ·rw[ah hz] at h
   refine OkL.step ?_ (sD p l i a hb j (k+1) (by omega) h)
   by_cases hk3:(enI p l k).kind=2
   ·cases hn:(l.getD k default).kn with
    |false=>exact Ok.vc (F0 p l i a k (by omega) hb hk3 hn)
    |true=>
     by_cases ha:(l.getD k default).adr=a
     ·exact Ok.vc (F2 p l i a k (by omega) hb hk3 hn ha fun hf=>hz ⟨hk3,hn,ha,hf⟩)
     ·exact Ok.vc (F3 p l i a k (by omega) hb hk3 hn ha)
   ·exact Ok.vc (F1 p l i a k (by omega) hb hk3)
theorem mxI(a b:Int):(if a<b then b else a)=max a b:=by split<;>omega
theorem Cz(i:Int)(n:Nat):(if(n:Int)<(if i< -1 then -1 else i) then(n:Int) else(if i< -1 then -1 else i))+1=(hz0 i n:Int):=by
 unfold hz0;rw[mxI,mnI];omega
theorem Dj(p:Pg)(l:List En)(i:Int)(a:Int){Z:Prop}(z:Z):(RF p.ls.length (RR p.ls.length 2 (fun i j=>an lbC p.ls i j) (RF p.is.length (RR p.is.length 9 (fun i j=>an inC p.is i j) (RF l.length (RR l.length 8 (fun i j=>an enC l i j) (RF i (RF a Z)))))))):=⟨rfl,fun _ _ _ _=>rfl,rfl,fun _ _ _ _=>rfl,rfl,fun _ _ _ _=>rfl,rfl,rfl,z⟩
theorem F4(p:Pg)(l:List En)(i a:Int)(n:Nat)(q:Nat)(hE:(if(l.length:Int)<(if i< -1 then -1 else i) then(l.length:Int) else(if i< -1 then -1 else i))+1=(n:Int))(hn:n<1000001)(h:oL_ 66 0 (hzS p l i a n).st .ret (vbS 8 9 ((q:Int),true)).st):Vc (vF_ 66 [.agg (pgA p),enR l, aI i, aI a] [.fz,.lp [] (hzS p l i a n) .ret (vbS 8 9 ((q:Int),true))] [] (.tup [aI q,.bool true]) []):=al (cj (show inK IntKind.i64 ((if(l.length:Int)<if i<(-1:Int) then(-1:Int) else i then(l.length:Int) else if i<(-1:Int) then(-1:Int) else i)+1) from by rw[hE];exact fu (by omega) (by omega)) (eJ p (Dj p l i a (cj (show(if(l.length:Int)<if i<(-1:Int) then(-1:Int) else i then(l.length:Int) else if i<(-1:Int) then(-1:Int) else i)+1=(n:Int) from by first |exact hE |rw[hE]) (cj (rf (0:Int)) (cj (rf false) (cj h (cj (rf (q:Int)) (cj (rf true) trivial)))))))))
theorem F5(p:Pg)(l:List En)(i a:Int)(n:Nat)(N:Nat)(hE:(if(l.length:Int)<(if i< -1 then -1 else i) then(l.length:Int) else(if i< -1 then -1 else i))+1=(n:Int))(hn:n<1000001)(h:oL_ 66 0 (hzS p l i a n).st (.ext 0) (hzS p l i a N).st):Vc (vF_ 66 [.agg (pgA p),enR l, aI i, aI a] [.fz,.lp [] (hzS p l i a n) (.ext 0) (hzS p l i a N)] [] (.tup [aI 0,.bool false]) []):=al (cj (show inK IntKind.i64 ((if(l.length:Int)<if i<(-1:Int) then(-1:Int) else i then(l.length:Int) else if i<(-1:Int) then(-1:Int) else i)+1) from by rw[hE];exact fu (by omega) (by omega)) (eJ p (Dj p l i a (cj (show(if(l.length:Int)<if i<(-1:Int) then(-1:Int) else i then(l.length:Int) else if i<(-1:Int) then(-1:Int) else i)+1=(n:Int) from by first |exact hE |rw[hE]) (cj (rf (0:Int)) (cj (rf false) (cj h (cj (rf (0:Int)) (cj (rf false) trivial)))))))))
theorem Hw(p:Pg)(l:List En)(i a:Int)(hb:l.length<1000000):pC_ 66 [.agg (pgA p),enR l,.int .i64 i,.int .i64 a] (.tup [.int .i64 (hzV p l i a).1,.bool (hzV p l i a).2]) []:=by
 have hE:=Cz i l.length
 have hle:hz0 i l.length<=l.length+1:=by unfold hz0;omega
 unfold hzV
 cases h:hzG p l i a (hz0 i l.length) (l.length-hz0 i l.length) with
 |some q=>exact PureC.vc (F4 p l i a _ q hE (by omega) (sE p l i a hb q _ _ (by omega) h).ok)
 |none=>exact PureC.vc (F5 p l i a _ _ hE (by omega) (sD p l i a hb _ _ (by omega) h).ok)
def dQ(l:List Int)(pc:Int):List Int:=(l++[pc]).drop (l.length-1)
def da(p:Pg)(n:Int):Int:=min n (p.is.length:Int)
def reG(p:Pg)(l:List En):Nat->Nat->List Int->Option (List Int)
 |_,0,st=>some st
 |k,j+1,st=>if(enI p l k).kind=8 then(if 4<=st.length then none else reG p l (k+1) j (st++[(l.getD k default).pc+1]))
  else if(enI p l k).kind=9 then(if st.length=0 then none else reG p l (k+1) j (st.take (st.length-1))) else reG p l (k+1) j st
def reV(p:Pg)(st:List Int)(l:List En)(i:Int):Option (List Int):=reG p l 0 (cl0 i l.length) st
def reS(p:Pg)(l:List En)(i:Int)(L:List Int)(N:Nat)(g:Nat->Nat->AV)(k:Nat):Sm:=⟨[(4,pgP p),(2,enR l),(3,.int .i64 i),(10,.own 0 0 1 0 L.length),(11,.int .i64 k),(8,.nils),(9,.bool false)],[(0,⟨0,false,3,.rows 1 N g⟩)],1⟩
def nS:Sm:=⟨[(8,.nils),(9,.bool false)],[],0⟩
theorem rU(l:List Int):(if(((0+l.length+1:Nat)):Int)-2<0 then 0 else((0+l.length+1:Nat):Int)-2)=((l.length-1:Nat):Int):=by split<;>omega
theorem l8(l:List Int):Int.toNat (if(((0+l.length+1:Nat)):Int)-2<0 then 0 else((0+l.length+1:Nat):Int)-2)=l.length-1:=by rw[rU,aK]
theorem pD(l:List Int)(pc:Int):(dQ l pc).length=l.length+1-(l.length-1):=by unfold dQ;rw[List.length_drop,aJ];rfl
theorem jy{l:List Int}{x:Int}{g:Nat->Nat->AV}(hg:g 0 0= .int .i64 x)(i:Nat)(hi:i<l.length+1)(a:AV)(ha:i<l.length->a= .int .i64 (l.getD i 0)):(bif Nat.blt i l.length then a else g (i-l.length) 0)= .int .i64 ((l++[x]).getD i 0):=by
 refine dK (fun h=> ?_) (fun h=> ?_)
 ·rw[ha h]
  simp[List.getD,bh h]
 ·obtain rfl:i=l.length:=by omega
  rw[bT,hg]
  simp[List.getD]
theorem tK(l:List Int)(n i:Nat):(l.drop n).getD i 0=l.getD (i+n) 0:=by
 rw[au,au,di,iR]
theorem vf(l:List Int)(pc:Int){g:Nat->Nat->AV}(hg:g 0 0= .int .i64 pc){E:Nat}(hE:E=l.length-1){i:Nat}(hi:i+E<l.length+1):(bif Nat.blt (i+E) (0+l.length) then(bif Nat.blt (i+E) 0 then AV.junk else .int .i64 (l.getD (i+E-0) 0)) else g (i+E-(0+l.length)) 0)= .int .i64 ((dQ l pc).getD i 0):=by
 subst hE
 unfold dQ
 rw[tK,bg]
 exact jy hg _ hi _ fun _=>rfl
theorem x9(l:List Int)(pc:Int)(hb:l.length<1000000):Vc (vF_ 64 [lR l, aI pc] [] [] (lR (dQ l pc)) []):=al (cj (ap 0 l.length 8) (cj (ap (0+l.length) 1 8) (cj (i6 ((↑((0:Nat)+l.length+1):Int)-2)) (cj (show((0:Int)<=if(↑((0:Nat)+l.length+1):Int)-2<0 then(0:Int) else(↑((0:Nat)+l.length+1):Int)-2)∧(if(↑((0:Nat)+l.length+1):Int)-2<0 then(0:Int) else(↑((0:Nat)+l.length+1):Int)-2)<(↑((0:Nat)+l.length+1):Int)∧(↑((0:Nat)+l.length+1):Int)<=(↑((0:Nat)+l.length+1):Int) from by rw[rU];omega) (cj (show(0:Nat)+l.length+1-Int.toNat (if(↑((0:Nat)+l.length+1):Int)-2<0 then(0:Int) else(↑((0:Nat)+l.length+1):Int)-2)=(dQ l pc).length from by rw[l8,pD,bg]) (cj (show ∀(i:Nat),i<0+l.length+1-Int.toNat (if(↑((0:Nat)+l.length+1):Int)-2<0 then(0:Int) else(↑((0:Nat)+l.length+1):Int)-2)-> ∀(j:Nat),j<1->(bif Nat.blt (i+((0:Nat)+Int.toNat (if(↑((0:Nat)+l.length+1):Int)-2<0 then(0:Int) else(↑((0:Nat)+l.length+1):Int)-2))) ((0:Nat)+l.length) then aI (l.getD (i+((0:Nat)+Int.toNat (if(↑((0:Nat)+l.length+1):Int)-2<0 then(0:Int) else(↑((0:Nat)+l.length+1):Int)-2))-0) (0:Int)) else List.getD [aI pc] ((i+((0:Nat)+Int.toNat (if(↑((0:Nat)+l.length+1):Int)-2<0 then(0:Int) else(↑((0:Nat)+l.length+1):Int)-2))-((0:Nat)+l.length)+0)*1+j) AV.junk)=aI (List.getD (dQ l pc) i 0) from(fun i hi j hj=>by obtain rfl:j=0:=(by omega);exact vf l pc (g:=fun a b=>[AV.int .i64 pc].getD ((a+0)*1+b) .junk) rfl (by rw[l8,bg]) (by rw[l8] at hi ⊢;omega))) trivial))))))
theorem qE(l:List Int)(pc:Int)(hb:l.length<1000000):pC_ 64 [lR l,.int .i64 pc] (lR (dQ l pc)) []:=PureC.vc (x9 l pc hb)
theorem wW(p:Pg)(l:List En)(i:Int){Z:Prop}(z:Z):(RF p.ms.length (RR p.ms.length 3 (fun i j=>an mmC p.ms i j) (RF p.ls.length (RR p.ls.length 2 (fun i j=>an lbC p.ls i j) (RF p.is.length (RR p.is.length 9 (fun i j=>an inC p.is i j) (RF l.length (RR l.length 8 (fun i j=>an enC l i j) (RF i Z))))))))):=⟨rfl,fun _ _ _ _=>rfl,rfl,fun _ _ _ _=>rfl,rfl,fun _ _ _ _=>rfl,rfl,fun _ _ _ _=>rfl,rfl,z⟩
theorem wV(p:Pg)(N:Nat)(g:Nat->Nat->AV){Z:Prop}(z:Z):(RF N (RR N 1 (fun i j=>g i j) (RF p.W (RF p.win (RF p.fuel (RF p.r0 (RF p.r1 (RF p.r2 (RF p.r3 Z))))))))):=⟨rfl,fun _ _ _ _=>rfl,rfl,rfl,rfl,rfl,rfl,rfl,rfl,z⟩
theorem t8(p:Pg)(l:List En)(k:Nat){Z:Prop}(z:Z):(RF p.ls.length (RR p.ls.length 2 (fun i j=>an lbC p.ls i j) (RF p.is.length (RR p.is.length 9 (fun i j=>an inC p.is i j) (RF ((l.getD k default).pc) Z))))):=⟨rfl,fun _ _ _ _=>rfl,rfl,fun _ _ _ _=>rfl,rfl,z⟩
theorem sT(p:Pg){Z:Prop}(z:Z):(RF p.W (RF p.win (RF p.fuel (RF p.r0 (RF p.r1 (RF p.r2 (RF p.r3 (RF p.ms.length (RR p.ms.length 3 (fun i j=>an mmC p.ms i j) Z))))))))):=⟨rfl,rfl,rfl,rfl,rfl,rfl,rfl,rfl,fun _ _ _ _=>rfl,z⟩
abbrev vv(p:Pg)(l:List En)(k:Nat):Orc:= .cl [.agg (pgA p), aI (l.getD k default).pc] (.agg (inA (enI p l k))) []
theorem ER(p:Pg)(l:List En)(i:Int)(L:List Int)(N:Nat)(g:Nat->Nat->AV)(k:Nat)(hk:(k:Int)<i)(hl:k<l.length)(hb:l.length<1000000)(hL:L.length<=1000000)(hLN:L.length<=N)(h8: ¬(enI p l k).kind=8)(h9: ¬(enI p l k).kind=9):Vc (vC_ 63 0 (reS p l i L N g k) [.bd true,.bd true,vv p l k,.bd false,.bd false] .nrm [(0,0)] (reS p l i L N g (k+1))):=al (cj (dt ((k:Int)<i)) (cj (dt ((k:Int)<l.length)) (cj (bi k l.length) (sT p (t8 p l k (cj (bv p (l.getD k default).pc) (cj (aa.2 h8) (cj (aa.2 h9) (cj (i6 (k+1)) (wV p N g (wW p l i (cj (rf (0:Nat)) (cj (rf L.length) (cj (rf ((k:Int)+1)) (cj (rf false) trivial)))))))))))))))
theorem EV(p:Pg)(l:List En)(i:Int)(L:List Int)(N:Nat)(g:Nat->Nat->AV)(k:Nat)(hk:(k:Int)<i)(hl:k<l.length)(hb:l.length<1000000)(hL:L.length<=1000000)(hLN:L.length<=N)(h8:(enI p l k).kind=8)(h4:4<=L.length):Vc (vC_ 63 0 (reS p l i L N g k) [.bd true,.bd true,vv p l k,.bd true,.bd true] .ret [] nS):=al (cj (dt ((k:Int)<i)) (cj (dt ((k:Int)<l.length)) (cj (bi k l.length) (sT p (t8 p l k (cj (bv p (l.getD k default).pc) (cj (ax.2 h8) (cj (dt ((L.length:Int)>=4)) (cj (rf false) trivial)))))))))
theorem EW(p:Pg)(l:List En)(i:Int)(L:List Int)(N:Nat)(g:Nat->Nat->AV)(k:Nat)(hk:(k:Int)<i)(hl:k<l.length)(hb:l.length<1000000)(hL:L.length<=1000000)(hLN:L.length<=N)(h8:(enI p l k).kind=8)(h4: ¬4<=L.length)(hp: -1<=(l.getD k default).pc∧(l.getD k default).pc<=1000000):Vc (vC_ 63 0 (reS p l i L N g k) [.bd true,.bd true,vv p l k,.bd true,.bd false,.sh] .nrm [(0,0)] (reS p l i (L++[(l.getD k default).pc+1]) (L.length+1) (fun a b=>bif Nat.blt a L.length then g a b else[AV.int .i64 ((l.getD k default).pc+1)].getD ((a-L.length)*1+b) .junk) (k+1))):=al (cj (dt ((k:Int)<i)) (cj (dt ((k:Int)<l.length)) (cj (bi k l.length) (sT p (t8 p l k (cj (bv p (l.getD k default).pc) (cj (ax.2 h8) (cj (df ((L.length:Int)>=4)) (cj (bi k l.length) (cj (i6 ((l.getD k default).pc+1)) (cj (ap L.length 1 8) (cj (i6 (k+1)) (cj (rf (L.length+1)) (cj (rr (L.length+1) 1 fun i j=>bif Nat.blt i L.length then g i j else List.getD [aI ((l.getD k default).pc+1)] ((i-L.length)*1+j) AV.junk) (sT p (cj (rf p.ls.length) (cj (rr p.ls.length 2 fun i j=>an lbC p.ls i j) (cj (rf p.is.length) (cj (rr p.is.length 9 fun i j=>an inC p.is i j) (cj (rf l.length) (cj (rr l.length 8 fun i j=>an enC l i j) (cj (rf i) (cj (rf (0:Nat)) (cj (pv (L.length+1=(L++[(l.getD k default).pc+1]).length)) (cj (rf ((k:Int)+1)) (cj (rf false) trivial))))))))))))))))))))))))))
theorem ET(p:Pg)(l:List En)(i:Int)(L:List Int)(N:Nat)(g:Nat->Nat->AV)(k:Nat)(hk:(k:Int)<i)(hl:k<l.length)(hb:l.length<1000000)(hL:L.length<=1000000)(hLN:L.length<=N)(h8: ¬(enI p l k).kind=8)(h9:(enI p l k).kind=9)(h4:L.length=0):Vc (vC_ 63 0 (reS p l i L N g k) [.bd true,.bd true,vv p l k,.bd false,.bd true,.bd true] .ret [] nS):=al (cj (dt ((k:Int)<i)) (cj (dt ((k:Int)<l.length)) (cj (bi k l.length) (sT p (t8 p l k (cj (bv p (l.getD k default).pc) (cj (aa.2 h8) (cj (ax.2 h9) (cj (e1 L.length 0) (cj (rf false) trivial))))))))))
theorem EU(p:Pg)(l:List En)(i:Int)(L:List Int)(N:Nat)(g:Nat->Nat->AV)(k:Nat)(hk:(k:Int)<i)(hl:k<l.length)(hb:l.length<1000000)(hL:L.length<=1000000)(hLN:L.length<=N)(h8: ¬(enI p l k).kind=8)(h9:(enI p l k).kind=9)(h4: ¬L.length=0):Vc (vC_ 63 0 (reS p l i L N g k) [.bd true,.bd true,vv p l k,.bd false,.bd true,.bd false] .nrm [(0,0)] (reS p l i (L.take (L.length-1)) N g (k+1))):=al (cj (dt ((k:Int)<i)) (cj (dt ((k:Int)<l.length)) (cj (bi k l.length) (sT p (t8 p l k (cj (bv p (l.getD k default).pc) (cj (aa.2 h8) (cj (ax.2 h9) (cj (e0 L.length 0) (cj (i6 (L.length-1)) (cj (pv ((0:Int)<=L.length-1∧(L.length:Int)-1<=L.length)) (cj (i6 (k+1)) (wV p N g (wW p l i (cj (rf (0:Nat)) (cj (pv (Int.toNat ((L.length:Int)-1)=(List.take (L.length-1) L).length)) (cj (rf ((k:Int)+1)) (cj (rf false) trivial))))))))))))))))))
theorem Di(L:List Int)(k:Nat){Z:Prop}(z:Z):(RF (0:Nat) (RF L.length (RF (k:Int) (RF false Z)))):=⟨rfl,rfl,rfl,rfl,z⟩
theorem ES(p:Pg)(l:List En)(i:Int)(L:List Int)(N:Nat)(g:Nat->Nat->AV)(k:Nat)(hk: ¬(k:Int)<i):Vc (vC_ 63 0 (reS p l i L N g k) [.bd false] (.ext 0) [(0,0)] (reS p l i L N g k)):=al (cj (df ((k:Int)<i)) (wV p N g (wW p l i (Di L k trivial))))
theorem HD(p:Pg)(l:List En)(i:Int)(L:List Int)(N:Nat)(g:Nat->Nat->AV)(k:Nat)(hk:(k:Int)<i)(hl: ¬k<l.length):Vc (vC_ 63 0 (reS p l i L N g k) [.bd true,.bd false] (.ext 0) [(0,0)] (reS p l i L N g k)):=al (cj (dt ((k:Int)<i)) (cj (df ((k:Int)<l.length)) (wV p N g (wW p l i (Di L k trivial)))))
def gOk(L:List Int)(N:Nat)(g:Nat->Nat->AV):Prop:=L.length<=N∧ ∀a,a<L.length->g a 0= .int .i64 (L.getD a 0)
theorem pT{L:List Int}{N:Nat}{g:Nat->Nat->AV}(h:gOk L N g)(x:Int):gOk (L++[x]) (L.length+1) (fun a b=>bif Nat.blt a L.length then g a b else[AV.int .i64 x].getD ((a-L.length)*1+b) .junk):=by
 refine⟨by simp,fun a ha=> ?_⟩
 rw[aJ] at ha
 exact jy (g:=fun a b=>[AV.int .i64 x].getD (a*1+b) .junk) rfl a ha _ (h.2 a)
theorem pS{L:List Int}{N:Nat}{g:Nat->Nat->AV}(h:gOk L N g)(n:Nat):gOk (L.take n) N g:=by
 refine⟨by have:=h.1;rw[aS];omega,fun a ha=> ?_⟩
 rw[aS] at ha
 rw[h.2 a (by omega),au,au,a9,ai (by omega)]
theorem zU{l:List En}(h: ∀e∈l, -1<=e.pc∧e.pc<=1000000){k:Nat}(hk:k<l.length): -1<=(l.getD k default).pc∧(l.getD k default).pc<=1000000:=h _ (by simp[List.getD,hk])
theorem lw(p:Pg)(l:List En)(i:Int)(hb:l.length<1000000)(hpc: ∀e∈l, -1<=e.pc∧e.pc<=1000000): ∀j k L N g,k+j=cl0 i l.length->gOk L N g->L.length+j<=1000000->reG p l k j L=none->OkL Try.prog (cN Try.prog 63) (lpC Try.prog 63 0) (reS p l i L N g k).st .ret (nS).st
 |0,k,L,N,g,_,_,_,h=>by cases h
 |j+1,k,L,N,g,hk,hg,hL,h=>by
  have hl:=oQ (i:=i) (n:=l.length) (k:=k) (by omega)
  unfold reG at h
  by_cases h8:(enI p l k).kind=8
  ·rw[ai h8] at h
   by_cases h4:4<=L.length
   ·exact OkL.exit (Ok.vc (EV p l i L N g k hl.1 hl.2 hb (by omega) hg.1 h8 h4)) (by simp)
   ·rw[ah h4] at h
    exact OkL.step (Ok.vc (EW p l i L N g k hl.1 hl.2 hb (by omega) hg.1 h8 h4 (zU hpc hl.2))) (lw p l i hb hpc j (k+1) _ _ _ (by omega) (pT hg _) (by rw[aJ,bH];omega) h)
  ·rw[ah h8] at h
   by_cases h9:(enI p l k).kind=9
   ·rw[ai h9] at h
    by_cases h4:L.length=0
    ·exact OkL.exit (Ok.vc (ET p l i L N g k hl.1 hl.2 hb (by omega) hg.1 h8 h9 h4)) (by simp)
    ·rw[ah h4] at h
     exact OkL.step (Ok.vc (EU p l i L N g k hl.1 hl.2 hb (by omega) hg.1 h8 h9 h4)) (lw p l i hb hpc j (k+1) _ _ _ (by omega) (pS hg _) (by rw[aS];omega) h)
   ·rw[ah h9] at h
    exact OkL.step (Ok.vc (ER p l i L N g k hl.1 hl.2 hb (by omega) hg.1 h8 h9)) (lw p l i hb hpc j (k+1) _ _ _ (by omega) hg (by omega) h)
theorem jB(p:Pg)(l:List En)(i:Int)(L':List Int)(hb:l.length<1000000)(hpc: ∀e∈l, -1<=e.pc∧e.pc<=1000000): ∀j k L N g,k+j=cl0 i l.length->gOk L N g->L.length+j<=1000000->reG p l k j L=some L'-> ∃N' g',gOk L' N' g'∧L'.length<=1000000∧OkL Try.prog (cN Try.prog 63) (lpC Try.prog 63 0) (reS p l i L N g k).st (.ext 0) (reS p l i L' N' g' (cl0 i l.length)).st
 |0,k,L,N,g,hk,hg,hL,h=>by
  obtain rfl:L=L':=Option.some.inj h
  obtain rfl:k=cl0 i l.length:=by omega
  refine⟨N,g,hg,by omega, ?_⟩
  rcases sL i l.length with h1 |h1
  ·exact OkL.exit (Ok.vc (ES p l i _ N g _ h1)) (by simp)
  ·by_cases h2:((cl0 i l.length:Nat):Int)<i
   ·exact OkL.exit (Ok.vc (HD p l i _ N g _ h2 h1)) (by simp)
   ·exact OkL.exit (Ok.vc (ES p l i _ N g _ h2)) (by simp)
 |j+1,k,L,N,g,hk,hg,hL,h=>by
  have hl:=oQ (i:=i) (n:=l.length) (k:=k) (by omega)
  unfold reG at h
  by_cases h8:(enI p l k).kind=8
  ·rw[ai h8] at h
   by_cases h4:4<=L.length
   ·rw[ai h4] at h;cases h
   ·rw[ah h4] at h
    obtain⟨N',g',q1,q2,q3⟩:=jB p l i L' hb hpc j (k+1) _ _ _ (by omega) (pT hg _) (by rw[aJ,bH];omega) h
    exact⟨N',g',q1,q2,OkL.step (Ok.vc (EW p l i L N g k hl.1 hl.2 hb (by omega) hg.1 h8 h4 (zU hpc hl.2))) q3⟩
  ·rw[ah h8] at h
   by_cases h9:(enI p l k).kind=9
   ·rw[ai h9] at h
    by_cases h4:L.length=0
    ·rw[ai h4] at h;cases h
    ·rw[ah h4] at h
     obtain⟨N',g',q1,q2,q3⟩:=jB p l i L' hb hpc j (k+1) _ _ _ (by omega) (pS hg _) (by rw[aS];omega) h
     exact⟨N',g',q1,q2,OkL.step (Ok.vc (EU p l i L N g k hl.1 hl.2 hb (by omega) hg.1 h8 h9 h4)) q3⟩
   ·rw[ah h9] at h
    obtain⟨N',g',q1,q2,q3⟩:=jB p l i L' hb hpc j (k+1) _ _ _ (by omega) hg (by omega) h
    exact⟨N',g',q1,q2,OkL.step (Ok.vc (ER p l i L N g k hl.1 hl.2 hb (by omega) hg.1 h8 h9)) q3⟩
theorem Dh(p:Pg)(l:List En)(i:Int){Z:Prop}(z:Z):(RR p.ms.length 3 (fun i j=>an mmC p.ms i j) (RF p.ls.length (RR p.ls.length 2 (fun i j=>an lbC p.ls i j) (RF p.is.length (RR p.is.length 9 (fun i j=>an inC p.is i j) (RF l.length (RR l.length 8 (fun i j=>an enC l i j) (RF i (RF (0:Nat) Z))))))))):=⟨fun _ _ _ _=>rfl,rfl,fun _ _ _ _=>rfl,rfl,fun _ _ _ _=>rfl,rfl,fun _ _ _ _=>rfl,rfl,rfl,z⟩
theorem Dg(p:Pg)(st:List Int){Z:Prop}(z:Z):(RR (0+st.length) 1 (fun i j=>aI (st.getD i 0)) (RF p.W (RF p.win (RF p.fuel (RF p.r0 (RF p.r1 (RF p.r2 (RF p.r3 (RF p.ms.length Z))))))))):=⟨fun _ _ _ _=>rfl,rfl,rfl,rfl,rfl,rfl,rfl,rfl,rfl,z⟩
theorem BA(p:Pg)(st:List Int)(l:List En)(i:Int)(hst:st.length<=1000000)(h:oL_ 63 0 (reS p l i st st.length (dz st) 0).st .ret (nS).st):Vc (vF_ 63 [.agg (pgA p),lR st,enR l, aI i] [.fz,.lp [(0,1)] (reS p l i st st.length (dz st) 0) .ret nS] [] (.tup [.nils,.bool false]) []):=al (cj (ap 0 st.length 8) (cj (za st.length) (Dg p st (Dh p l i (cj (za st.length) (cj (rf (0:Int)) (cj (rf false) (cj h (cj (rf false) trivial)))))))))
theorem Bx(p:Pg)(st:List Int)(l:List En)(i:Int)(L:List Int)(N:Nat)(g:Nat->Nat->AV)(n:Nat)(hst:st.length<=1000000)(hg: ∀a,a<L.length->g a 0= aI (L.getD a 0))(h:oL_ 63 0 (reS p l i st st.length (dz st) 0).st (.ext 0) (reS p l i L N g n).st):Vc (vF_ 63 [.agg (pgA p),lR st,enR l, aI i] [.fz,.lp [(0,1)] (reS p l i st st.length (dz st) 0) (.ext 0) (reS p l i L N g n)] [] (.tup [lR L,.bool true]) []):=al (cj (ap 0 st.length 8) (cj (za st.length) (Dg p st (Dh p l i (cj (za st.length) (cj (rf (0:Int)) (cj (rf false) (cj h (cj (rf L.length) (cj (show ∀(i:Nat),i<L.length-> ∀(j:Nat),j<1->g (i+0) j=aI (L.getD i 0) from(fun i hi j hj=>by obtain rfl:j=0:=(by omega);exact hg i hi)) (cj (rf true) trivial)))))))))))
theorem u0(p:Pg)(st:List Int)(l:List En)(i:Int)(L:List Int)(hb:l.length<900000)(hst:st.length<=1000)(hpc: ∀e∈l, -1<=e.pc∧e.pc<=1000000)(h:reV p st l i=some L):pC_ 63 [.agg (pgA p),lR st,enR l,.int .i64 i] (.tup [lR L,.bool true]) []:=by
 have hle:=jg i l.length
 obtain⟨N',g',q1,q2,q3⟩:=jB p l i L (by omega) hpc _ 0 st st.length (dz st) (by omega) ⟨aB _,fun a _=>rfl⟩ (by omega) h
 exact PureC.vc (Bx p st l i L N' g' _ (by omega) q1.2 q3.ok)
theorem pu(p:Pg)(st:List Int)(l:List En)(i:Int)(hb:l.length<900000)(hst:st.length<=1000)(hpc: ∀e∈l, -1<=e.pc∧e.pc<=1000000)(h:reV p st l i=none):pC_ 63 [.agg (pgA p),lR st,enR l,.int .i64 i] (.tup [.nils,.bool false]) []:=by
 have hle:=jg i l.length
 exact PureC.vc (BA p st l i (by omega) (lw p l i (by omega) hpc _ 0 st st.length (dz st) (by omega) ⟨aB _,fun a _=>rfl⟩ (by omega) h).ok)
theorem Cn(p:Pg)(n:Int):Vc (vF_ 51 [.agg (pgA p), aI n] [.fz] [] (aI (da p n)) []):=al (cj (show(if(↑p.is.length:Int)<n then(↑p.is.length:Int) else n)=da p n from by unfold da;rw[mnI]) trivial)
theorem EM(p:Pg)(n:Int):pC_ 51 [.agg (pgA p),.int .i64 n] (.int .i64 (da p n)) []:=PureC.vc (Cn p n)
def cfA(c:Cf):List AV:=s8R c.s++[enR c.b,lR c.r,.int .i64 c.e]
def Cf0:Cf:=⟨⟨0,0,0,0,[],[],0⟩,[],[],0⟩
def gsV(p:Pg)(c:Cf):Int:=
 if c.e≠0∨c.s.pc= -1∨p.win<=(c.b.length:Int) then 0
 else if(atI p c.s.pc).kind=5 then 2 else if(atI p c.s.pc).kind=7 then(p.is.length:Int)+1 else if(atI p c.s.pc).kind=9∧c.r.length=0 then(p.is.length:Int)+1 else 1
def S8.go(s:S8)(pc:Int):S8:={s with pc:=pc}
def br(l:List Int):Int:=l.getD ((l.length:Int)-1).toNat 0
def ftB(p:Pg)(c:Cf):Bool:=match reV p c.s.st c.b c.b.length with
 |none=>true
 |some L=>decide (4<=L.length)
def ftE(p:Pg)(c:Cf)(g:Int):En:=
 if(atI p c.s.pc).kind=5 then⟨c.s.pc,0,0, -1,if g=1 then(atI p c.s.pc).tg else c.s.pc+1,false,false,false⟩
 else if(atI p c.s.pc).kind=6 then⟨c.s.pc,0,0, -1,(atI p c.s.pc).tg,true,false,false⟩
 else if(atI p c.s.pc).kind=7 then⟨c.s.pc,0,0, -1,g,false,false,false⟩
 else if(atI p c.s.pc).kind=9 then⟨c.s.pc,0,0, -1,if c.r.length=0 then g else br c.r,false,false,false⟩
 else if(atI p c.s.pc).kind=8 then⟨c.s.pc,0,0, -1,(atI p c.s.pc).tg,true,false,ftB p c⟩
 else if(atI p c.s.pc).kind=11∨(atI p c.s.pc).kind=12 then⟨c.s.pc,0,0, -1, -1,true,false,false⟩
 else⟨c.s.pc,0,0, -1,c.s.pc+1,false,false,false⟩
def ftR(p:Pg)(c:Cf):List Int:=if(atI p c.s.pc).kind=9 then c.r.take ((c.r.length:Int)-1).toNat else if(atI p c.s.pc).kind=8 then dQ c.r (c.s.pc+1) else c.r
def ftD(p:Pg)(c:Cf)(g:Int):Cf:=⟨c.s.go (ftE p c g).nxt,c.b++[ftE p c g],ftR p c,c.e⟩
def ocA(o:Option Cf):List AV:=match o with
 |some c=>[.agg (cfA c),.bool true]
 |none=>[.agg (cfA Cf0),.bool false]
theorem Ec(l:List En)(e:En){g:Nat->Nat->AV}(hg: ∀j,j<8->g 0 j=enC e j): ∀i,i<l.length+1-> ∀j,j<8->(bif Nat.blt i l.length then an enC l i j else g (i-l.length) j)=an enC (l++[e]) i j:=fun i hi j hj=>
 dK (fun h=>(ci h).symm) (fun h=>by
  obtain rfl:i=l.length:=by omega
  rw[cn,bT,hg j hj])
theorem km(l:List Int)(n i:Nat)(h:i<n):(l.take n).getD i 0=l.getD i 0:=by
 rw[au,au,a9,ai h]
theorem oU(b:List En)(e:En)(L:List AV)(h: ∀j,j<8->L.getD j .junk=enC e j): ∀i,i<0+b.length+1-> ∀j,j<8->(bif Nat.blt (i+0) (0+b.length) then bif Nat.blt (i+0) 0 then AV.junk else an enC b (i+0-0) j else L.getD ((i+0-(0+b.length)+0)*8+j) .junk)=an enC (b++[e]) i j:=by
 intro i hi j hj
 simp only[bg,cA,fy] at hi ⊢
 exact Ec b e (g:=fun a j=>L.getD (a*8+j) .junk) (fun j hj=>by simp only[Nat.zero_mul,bg];exact h j hj) i hi j hj
theorem Im(p:Pg)(c:Cf)(hl:p.is.length<1000)(hb:c.b.length<1000000)(h0: ¬c.e=0):Vc (vF_ 42 [.agg (pgA p),.agg (cfA c)] [.fv,.fv,.bd true] [] (aI 0) []):=al (cj (bG.2 h0) (cj (rf (0:Int)) trivial))
theorem Ik(p:Pg)(c:Cf)(hl:p.is.length<1000)(hb:c.b.length<1000000)(h0:c.e=0)(h1:c.s.pc= -1):Vc (vF_ 42 [.agg (pgA p),.agg (cfA c)] [.fv,.fv,.bd false,.bd true] [] (aI 0) []):=al (cj (aw.2 h0) (cj (ax.2 h1) (cj (rf (0:Int)) trivial)))
theorem Ij(p:Pg)(c:Cf)(hl:p.is.length<1000)(hb:c.b.length<1000000)(h0:c.e=0)(h1: ¬c.s.pc= -1)(hw:p.win<=(c.b.length:Int)):Vc (vF_ 42 [.agg (pgA p),.agg (cfA c)] [.fv,.fv,.bd false,.bd false,.bd true] [] (aI 0) []):=al (cj (aw.2 h0) (cj (aa.2 h1) (cj (dt ((↑c.b.length:Int)>=p.win)) (cj (rf (0:Int)) trivial))))
theorem gB(p:Pg)(c:Cf){Z:Prop}(z:Z):(RF p.ls.length (RR p.ls.length 2 (fun i j=>an lbC p.ls i j) (RF p.is.length (RR p.is.length 9 (fun i j=>an inC p.is i j) (RF c.s.pc Z))))):=⟨rfl,fun _ _ _ _=>rfl,rfl,fun _ _ _ _=>rfl,rfl,z⟩
theorem dH(p:Pg){Z:Prop}(z:Z):(RF p.W (RF p.win (RF p.fuel (RF p.r0 (RF p.r1 (RF p.r2 (RF p.r3 (RF p.ms.length (RR p.ms.length 3 (fun i j=>an mmC p.ms i j) Z))))))))):=⟨rfl,rfl,rfl,rfl,rfl,rfl,rfl,rfl,fun _ _ _ _=>rfl,z⟩
abbrev gW(p:Pg)(c:Cf):Orc:= .cl [.agg (pgA p), aI c.s.pc] (.agg (inA (atI p c.s.pc))) []
theorem Iq(p:Pg)(c:Cf)(hl:p.is.length<1000)(hb:c.b.length<1000000)(h0:c.e=0)(h1: ¬c.s.pc= -1)(hw: ¬p.win<=(c.b.length:Int))(k5:(atI p c.s.pc).kind=5):Vc (vF_ 42 [.agg (pgA p),.agg (cfA c)] [.fv,.fv,.bd false,.bd false,.bd false,gW p c,.bd true] [] (aI 2) []):=al (cj (aw.2 h0) (cj (aa.2 h1) (cj (df ((↑c.b.length:Int)>=p.win)) (dH p (gB p c (cj (bv p c.s.pc) (cj (ax.2 k5) (cj (rf (2:Int)) trivial))))))))
theorem Ip(p:Pg)(c:Cf)(hl:p.is.length<1000)(hb:c.b.length<1000000)(h0:c.e=0)(h1: ¬c.s.pc= -1)(hw: ¬p.win<=(c.b.length:Int))(k5: ¬(atI p c.s.pc).kind=5)(k7:(atI p c.s.pc).kind=7):Vc (vF_ 42 [.agg (pgA p),.agg (cfA c)] [.fv,.fv,.bd false,.bd false,.bd false,gW p c,.bd false,.bd true] [] (aI (p.is.length+1)) []):=al (cj (aw.2 h0) (cj (aa.2 h1) (cj (df ((↑c.b.length:Int)>=p.win)) (dH p (gB p c (cj (bv p c.s.pc) (cj (aa.2 k5) (cj (ax.2 k7) (cj (i6 (p.is.length+1)) (cj (rf ((↑p.is.length:Int)+1)) trivial))))))))))
theorem Io(p:Pg)(c:Cf)(hl:p.is.length<1000)(hb:c.b.length<1000000)(h0:c.e=0)(h1: ¬c.s.pc= -1)(hw: ¬p.win<=(c.b.length:Int))(k5: ¬(atI p c.s.pc).kind=5)(k7: ¬(atI p c.s.pc).kind=7)(k9:(atI p c.s.pc).kind=9)(hr:c.r.length=0):Vc (vF_ 42 [.agg (pgA p),.agg (cfA c)] [.fv,.fv,.bd false,.bd false,.bd false,gW p c,.bd false,.bd false,.bd true,.bd true] [] (aI (p.is.length+1)) []):=al (cj (aw.2 h0) (cj (aa.2 h1) (cj (df ((↑c.b.length:Int)>=p.win)) (dH p (gB p c (cj (bv p c.s.pc) (cj (aa.2 k5) (cj (aa.2 k7) (cj (ax.2 k9) (cj (e1 c.r.length 0) (cj (i6 (p.is.length+1)) (cj (rf ((↑p.is.length:Int)+1)) trivial))))))))))))
theorem F6(p:Pg)(c:Cf)(hl:p.is.length<1000)(hb:c.b.length<1000000)(h0:c.e=0)(h1: ¬c.s.pc= -1)(hw: ¬p.win<=(c.b.length:Int))(k5: ¬(atI p c.s.pc).kind=5)(k7: ¬(atI p c.s.pc).kind=7)(k9:(atI p c.s.pc).kind=9)(hr: ¬c.r.length=0):Vc (vF_ 42 [.agg (pgA p),.agg (cfA c)] [.fv,.fv,.bd false,.bd false,.bd false,gW p c,.bd false,.bd false,.bd true,.bd false] [] (aI 1) []):=al (cj (aw.2 h0) (cj (aa.2 h1) (cj (df ((↑c.b.length:Int)>=p.win)) (dH p (gB p c (cj (bv p c.s.pc) (cj (aa.2 k5) (cj (aa.2 k7) (cj (ax.2 k9) (cj (e0 c.r.length 0) (cj (rf (1:Int)) trivial)))))))))))
theorem Il(p:Pg)(c:Cf)(hl:p.is.length<1000)(hb:c.b.length<1000000)(h0:c.e=0)(h1: ¬c.s.pc= -1)(hw: ¬p.win<=(c.b.length:Int))(k5: ¬(atI p c.s.pc).kind=5)(k7: ¬(atI p c.s.pc).kind=7)(k9: ¬(atI p c.s.pc).kind=9):Vc (vF_ 42 [.agg (pgA p),.agg (cfA c)] [.fv,.fv,.bd false,.bd false,.bd false,gW p c,.bd false,.bd false,.bd false] [] (aI 1) []):=al (cj (aw.2 h0) (cj (aa.2 h1) (cj (df ((↑c.b.length:Int)>=p.win)) (dH p (gB p c (cj (bv p c.s.pc) (cj (aa.2 k5) (cj (aa.2 k7) (cj (aa.2 k9) (cj (rf (1:Int)) trivial))))))))))
theorem jz(p:Pg)(c:Cf)(hl:p.is.length<1000)(hb:c.b.length<1000000):pC_ 42 [.agg (pgA p),.agg (cfA c)] (.int .i64 (gsV p c)) []:=by
 unfold gsV
 by_cases h0:c.e=0
 ·by_cases h1:c.s.pc= -1
  ·rw[ai (.inr (.inl h1))];exact PureC.vc (Ik p c hl hb h0 h1)
  ·by_cases hw:p.win<=(c.b.length:Int)
   ·rw[ai (.inr (.inr hw))];exact PureC.vc (Ij p c hl hb h0 h1 hw)
   ·rw[ah (by rintro(h |h |h);exact h h0;exact h1 h;exact hw h)]
    by_cases k5:(atI p c.s.pc).kind=5
    ·rw[ai k5];exact PureC.vc (Iq p c hl hb h0 h1 hw k5)
    ·rw[ah k5]
     by_cases k7:(atI p c.s.pc).kind=7
     ·rw[ai k7];exact PureC.vc (Ip p c hl hb h0 h1 hw k5 k7)
     ·rw[ah k7]
      by_cases k9:(atI p c.s.pc).kind=9
      ·by_cases hr:c.r.length=0
       ·rw[ai ⟨k9,hr⟩];exact PureC.vc (Io p c hl hb h0 h1 hw k5 k7 k9 hr)
       ·rw[ah fun e=>hr e.2];exact PureC.vc (F6 p c hl hb h0 h1 hw k5 k7 k9 hr)
      ·rw[ah fun e=>k9 e.1];exact PureC.vc (Il p c hl hb h0 h1 hw k5 k7 k9)
 ·rw[ai (.inl h0)];exact PureC.vc (Im p c hl hb h0)
theorem Df{Z:Prop}(z:Z):(RF (0:Int) (RF (0:Int) (RF (0:Int) (RF (0:Int) (RF (0:Nat) (RF (0:Nat) (RF (0:Int) (RF (0:Nat) (RF (0:Nat) Z))))))))):=⟨rfl,rfl,rfl,rfl,rfl,rfl,rfl,rfl,rfl,z⟩
theorem CC(p:Pg)(c:Cf)(g:Int)(hl:p.is.length<1000)(hb:c.b.length<1000000)(hg:g<0):Vc (vF_ 45 [.agg (pgA p),.agg (cfA c), aI g] [.fv,.bd true] [] (.tup [.agg (cfA Cf0),.bool false]) []):=al (cj (dt (g<0)) (Df (cj (rf (0:Int)) (cj (rf false) trivial))))
theorem jU(c:Cf){Z:Prop}(z:Z):(RR c.s.m.length 1 (fun i j=>aI (List.getD c.s.m i 0)) (RF c.s.st.length (RR c.s.st.length 1 (fun i j=>aI (List.getD c.s.st i 0)) (RF c.s.pc (RF c.b.length (RR c.b.length 8 (fun i j=>an enC c.b i j) (RF c.r.length (RR c.r.length 1 (fun i j=>aI (c.r.getD i 0)) (RF c.e Z))))))))):=⟨fun _ _ _ _=>rfl,rfl,fun _ _ _ _=>rfl,rfl,rfl,fun _ _ _ _=>rfl,rfl,fun _ _ _ _=>rfl,rfl,z⟩
theorem jT(p:Pg)(c:Cf){Z:Prop}(z:Z):(RF p.ls.length (RR p.ls.length 2 (fun i j=>an lbC p.ls i j) (RF p.is.length (RR p.is.length 9 (fun i j=>an inC p.is i j) (RF c.s.r0 (RF c.s.r1 (RF c.s.r2 (RF c.s.r3 (RF c.s.m.length Z))))))))):=⟨rfl,fun _ _ _ _=>rfl,rfl,fun _ _ _ _=>rfl,rfl,rfl,rfl,rfl,rfl,z⟩
abbrev j9(p:Pg)(c:Cf):Orc:= .cl [.agg (pgA p),.agg (cfA c)] (aI (gsV p c)) []
theorem CB(p:Pg)(c:Cf)(g:Int)(hl:p.is.length<1000)(hb:c.b.length<1000000)(h0:0<=g)(hg:gsV p c<=g):Vc (vF_ 45 [.agg (pgA p),.agg (cfA c), aI g] [.fv,.bd false,j9 p c,.bd true] [] (.tup [.agg (cfA Cf0),.bool false]) []):=al (cj (df (g<0)) (dH p (jT p c (jU c (cj (jz p c hl hb) (cj (dt (g>=gsV p c)) (Df (cj (rf (0:Int)) (cj (rf false) trivial)))))))))
theorem o0(c:Cf){Z:Prop}(z:Z):(RF c.r.length (RR c.r.length 1 (fun i j=>aI (c.r.getD i 0)) (RF c.e (RF true Z)))):=⟨rfl,fun _ _ _ _=>rfl,rfl,rfl,z⟩
theorem t5(p:Pg)(c:Cf){Z:Prop}(z:Z):(RF c.s.r0 (RF c.s.r1 (RF c.s.r2 (RF c.s.r3 (RF c.s.m.length (RR c.s.m.length 1 (fun i j=>aI (List.getD c.s.m i 0)) (RF c.s.st.length (RR c.s.st.length 1 (fun i j=>aI (List.getD c.s.st i 0)) (RF ((atI p c.s.pc).tg) Z))))))))):=⟨rfl,rfl,rfl,rfl,rfl,fun _ _ _ _=>rfl,rfl,fun _ _ _ _=>rfl,rfl,z⟩
theorem Gc(p:Pg)(c:Cf)(g:Int)(hl:p.is.length<1000)(hb:c.b.length<1000000)(h0:0<=g)(hg: ¬gsV p c<=g)(hpc: -1<=c.s.pc∧c.s.pc<=1000)(hr:c.r.length<1000)(k5:(atI p c.s.pc).kind=5)(g1:g=1):Vc (vF_ 45 [.agg (pgA p),.agg (cfA c), aI g] [.fv,.bd false,j9 p c,.bd false,gW p c,.bd true,.bd true] [] (.tup [.agg (cfA ⟨c.s.go (atI p c.s.pc).tg,c.b++[⟨c.s.pc,0,0, -1,(atI p c.s.pc).tg,false,false,false⟩],c.r,c.e⟩),.bool true]) []):=al (cj (df (g<0)) (dH p (jT p c (jU c (cj (jz p c hl hb) (cj (df (g>=gsV p c)) (dH p (gB p c (cj (bv p c.s.pc) (cj (i6 (c.s.pc+1)) (cj (ax.2 k5) (cj (e1 g 1) (cj (ap 0 c.b.length 48) (cj (ap (0+c.b.length) 1 48) (t5 p c (cj (pv ((0:Nat)+c.b.length+1=(c.b++[En.mk c.s.pc (0:Int) (0:Int) (-1:Int) (atI p c.s.pc).tg false false false]).length)) (cj (show ∀(i:Nat),i<0+c.b.length+1-> ∀(j:Nat),j<8->(bif Nat.blt (i+0) ((0:Nat)+c.b.length) then bif Nat.blt (i+0) (0:Nat) then AV.junk else an enC c.b (i+0-0) j else List.getD [aI c.s.pc,aI 0,aI 0,aI (-1:Int),aI (atI p c.s.pc).tg,AV.bool false,AV.bool false,AV.bool false] ((i+0-((0:Nat)+c.b.length)+0)*8+j) AV.junk)=an enC (c.b++[En.mk c.s.pc (0:Int) (0:Int) (-1:Int) (atI p c.s.pc).tg false false false]) i j from(oU c.b _ _ (fun j hj=>match j,hj with |0,_=>rfl |1,_=>rfl |2,_=>rfl |3,_=>rfl |4,_=>rfl |5,_=>rfl |6,_=>rfl |7,_=>rfl))) (o0 c trivial))))))))))))))))))
theorem Ek(c:Cf): ∀(i:Nat),i<0+c.b.length+1-> ∀(j:Nat),j<8->(bif Nat.blt (i+0) ((0:Nat)+c.b.length) then bif Nat.blt (i+0) (0:Nat) then AV.junk else an enC c.b (i+0-0) j else List.getD [aI c.s.pc,aI 0,aI 0,aI (-1:Int),aI (c.s.pc+1),AV.bool false,AV.bool false,AV.bool false] ((i+0-((0:Nat)+c.b.length)+0)*8+j) AV.junk)=an enC (c.b++[En.mk c.s.pc (0:Int) (0:Int) (-1:Int) (c.s.pc+1) false false false]) i j:=(oU c.b _ _ (fun j hj=>match j,hj with |0,_=>rfl |1,_=>rfl |2,_=>rfl |3,_=>rfl |4,_=>rfl |5,_=>rfl |6,_=>rfl |7,_=>rfl))
theorem De(c:Cf){Z:Prop}(z:Z):(RF c.s.r0 (RF c.s.r1 (RF c.s.r2 (RF c.s.r3 (RF c.s.m.length (RR c.s.m.length 1 (fun i j=>aI (List.getD c.s.m i 0)) (RF c.s.st.length (RR c.s.st.length 1 (fun i j=>aI (List.getD c.s.st i 0)) (RF (c.s.pc+1) Z))))))))):=⟨rfl,rfl,rfl,rfl,rfl,fun _ _ _ _=>rfl,rfl,fun _ _ _ _=>rfl,rfl,z⟩
theorem Gd(p:Pg)(c:Cf)(g:Int)(hl:p.is.length<1000)(hb:c.b.length<1000000)(h0:0<=g)(hg: ¬gsV p c<=g)(hpc: -1<=c.s.pc∧c.s.pc<=1000)(hr:c.r.length<1000)(k5:(atI p c.s.pc).kind=5)(g1: ¬g=1):Vc (vF_ 45 [.agg (pgA p),.agg (cfA c), aI g] [.fv,.bd false,j9 p c,.bd false,gW p c,.bd true,.bd false] [] (.tup [.agg (cfA ⟨c.s.go (c.s.pc+1),c.b++[⟨c.s.pc,0,0, -1,(c.s.pc+1),false,false,false⟩],c.r,c.e⟩),.bool true]) []):=al (cj (df (g<0)) (dH p (jT p c (jU c (cj (jz p c hl hb) (cj (df (g>=gsV p c)) (dH p (gB p c (cj (bv p c.s.pc) (cj (i6 (c.s.pc+1)) (cj (ax.2 k5) (cj (e0 g 1) (cj (ap 0 c.b.length 48) (cj (ap (0+c.b.length) 1 48) (De c (cj (pv ((0:Nat)+c.b.length+1=(c.b++[En.mk c.s.pc (0:Int) (0:Int) (-1:Int) (c.s.pc+1) false false false]).length)) (cj (Ek c) (o0 c trivial))))))))))))))))))
theorem Iw(p:Pg)(c:Cf)(g:Int)(hl:p.is.length<1000)(hb:c.b.length<1000000)(h0:0<=g)(hg: ¬gsV p c<=g)(hpc: -1<=c.s.pc∧c.s.pc<=1000)(hr:c.r.length<1000)(k5: ¬(atI p c.s.pc).kind=5)(k6:(atI p c.s.pc).kind=6):Vc (vF_ 45 [.agg (pgA p),.agg (cfA c), aI g] [.fv,.bd false,j9 p c,.bd false,gW p c,.bd false,.bd true] [] (.tup [.agg (cfA ⟨c.s.go (atI p c.s.pc).tg,c.b++[⟨c.s.pc,0,0, -1,(atI p c.s.pc).tg,true,false,false⟩],c.r,c.e⟩),.bool true]) []):=al (cj (df (g<0)) (dH p (jT p c (jU c (cj (jz p c hl hb) (cj (df (g>=gsV p c)) (dH p (gB p c (cj (bv p c.s.pc) (cj (i6 (c.s.pc+1)) (cj (aa.2 k5) (cj (ax.2 k6) (cj (ap 0 c.b.length 48) (cj (ap (0+c.b.length) 1 48) (t5 p c (cj (pv ((0:Nat)+c.b.length+1=(c.b++[En.mk c.s.pc (0:Int) (0:Int) (-1:Int) (atI p c.s.pc).tg true false false]).length)) (cj (show ∀(i:Nat),i<0+c.b.length+1-> ∀(j:Nat),j<8->(bif Nat.blt (i+0) ((0:Nat)+c.b.length) then bif Nat.blt (i+0) (0:Nat) then AV.junk else an enC c.b (i+0-0) j else List.getD [aI c.s.pc,aI 0,aI 0,aI (-1:Int),aI (atI p c.s.pc).tg,AV.bool true,AV.bool false,AV.bool false] ((i+0-((0:Nat)+c.b.length)+0)*8+j) AV.junk)=an enC (c.b++[En.mk c.s.pc (0:Int) (0:Int) (-1:Int) (atI p c.s.pc).tg true false false]) i j from(oU c.b _ _ (fun j hj=>match j,hj with |0,_=>rfl |1,_=>rfl |2,_=>rfl |3,_=>rfl |4,_=>rfl |5,_=>rfl |6,_=>rfl |7,_=>rfl))) (o0 c trivial))))))))))))))))))
theorem Ej(c:Cf)(g:Int): ∀(i:Nat),i<0+c.b.length+1-> ∀(j:Nat),j<8->(bif Nat.blt (i+0) ((0:Nat)+c.b.length) then bif Nat.blt (i+0) (0:Nat) then AV.junk else an enC c.b (i+0-0) j else List.getD [aI c.s.pc,aI 0,aI 0,aI (-1:Int),aI g,AV.bool false,AV.bool false,AV.bool false] ((i+0-((0:Nat)+c.b.length)+0)*8+j) AV.junk)=an enC (c.b++[En.mk c.s.pc (0:Int) (0:Int) (-1:Int) g false false false]) i j:=(oU c.b _ _ (fun j hj=>match j,hj with |0,_=>rfl |1,_=>rfl |2,_=>rfl |3,_=>rfl |4,_=>rfl |5,_=>rfl |6,_=>rfl |7,_=>rfl))
theorem Dd(c:Cf)(g:Int){Z:Prop}(z:Z):(RF c.s.r0 (RF c.s.r1 (RF c.s.r2 (RF c.s.r3 (RF c.s.m.length (RR c.s.m.length 1 (fun i j=>aI (List.getD c.s.m i 0)) (RF c.s.st.length (RR c.s.st.length 1 (fun i j=>aI (List.getD c.s.st i 0)) (RF g Z))))))))):=⟨rfl,rfl,rfl,rfl,rfl,fun _ _ _ _=>rfl,rfl,fun _ _ _ _=>rfl,rfl,z⟩
theorem Iv(p:Pg)(c:Cf)(g:Int)(hl:p.is.length<1000)(hb:c.b.length<1000000)(h0:0<=g)(hg: ¬gsV p c<=g)(hpc: -1<=c.s.pc∧c.s.pc<=1000)(hr:c.r.length<1000)(k5: ¬(atI p c.s.pc).kind=5)(k6: ¬(atI p c.s.pc).kind=6)(k7:(atI p c.s.pc).kind=7):Vc (vF_ 45 [.agg (pgA p),.agg (cfA c), aI g] [.fv,.bd false,j9 p c,.bd false,gW p c,.bd false,.bd false,.bd true] [] (.tup [.agg (cfA ⟨c.s.go g,c.b++[⟨c.s.pc,0,0, -1,g,false,false,false⟩],c.r,c.e⟩),.bool true]) []):=al (cj (df (g<0)) (dH p (jT p c (jU c (cj (jz p c hl hb) (cj (df (g>=gsV p c)) (dH p (gB p c (cj (bv p c.s.pc) (cj (i6 (c.s.pc+1)) (cj (aa.2 k5) (cj (aa.2 k6) (cj (ax.2 k7) (cj (ap 0 c.b.length 48) (cj (ap (0+c.b.length) 1 48) (Dd c g (cj (pv ((0:Nat)+c.b.length+1=(c.b++[En.mk c.s.pc (0:Int) (0:Int) (-1:Int) g false false false]).length)) (cj (Ej c g) (o0 c trivial)))))))))))))))))))
theorem F8(p:Pg)(c:Cf)(g:Int)(hl:p.is.length<1000)(hb:c.b.length<1000000)(h0:0<=g)(hg: ¬gsV p c<=g)(hpc: -1<=c.s.pc∧c.s.pc<=1000)(hr:c.r.length<1000)(k5: ¬(atI p c.s.pc).kind=5)(k6: ¬(atI p c.s.pc).kind=6)(k7: ¬(atI p c.s.pc).kind=7)(k9:(atI p c.s.pc).kind=9)(hz:c.r.length=0):Vc (vF_ 45 [.agg (pgA p),.agg (cfA c), aI g] [.fv,.bd false,j9 p c,.bd false,gW p c,.bd false,.bd false,.bd false,.bd true,.bd false] [] (.tup [.agg (cfA ⟨c.s.go g,c.b++[⟨c.s.pc,0,0, -1,g,false,false,false⟩],c.r,c.e⟩),.bool true]) []):=al (cj (df (g<0)) (dH p (jT p c (jU c (cj (jz p c hl hb) (cj (df (g>=gsV p c)) (dH p (gB p c (cj (bv p c.s.pc) (cj (i6 (c.s.pc+1)) (cj (aa.2 k5) (cj (aa.2 k6) (cj (aa.2 k7) (cj (ax.2 k9) (cj (df ((↑c.r.length:Int)>0)) (cj (ap 0 c.b.length 48) (cj (ap (0+c.b.length) 1 48) (Dd c g (cj (pv ((0:Nat)+c.b.length+1=(c.b++[En.mk c.s.pc (0:Int) (0:Int) (-1:Int) g false false false]).length)) (cj (Ej c g) (o0 c trivial)))))))))))))))))))))
theorem Iu(p:Pg)(c:Cf)(g:Int)(hl:p.is.length<1000)(hb:c.b.length<1000000)(h0:0<=g)(hg: ¬gsV p c<=g)(hpc: -1<=c.s.pc∧c.s.pc<=1000)(hr:c.r.length<1000)(k5: ¬(atI p c.s.pc).kind=5)(k6: ¬(atI p c.s.pc).kind=6)(k7: ¬(atI p c.s.pc).kind=7)(k9:(atI p c.s.pc).kind=9)(hz: ¬c.r.length=0):Vc (vF_ 45 [.agg (pgA p),.agg (cfA c), aI g] [.fv,.bd false,j9 p c,.bd false,gW p c,.bd false,.bd false,.bd false,.bd true,.bd true] [] (.tup [.agg (cfA ⟨c.s.go (br c.r),c.b++[⟨c.s.pc,0,0, -1,(br c.r),false,false,false⟩],(c.r.take ((c.r.length:Int)-1).toNat),c.e⟩),.bool true]) []):=al (cj (df (g<0)) (dH p (jT p c (jU c (cj (jz p c hl hb) (cj (df (g>=gsV p c)) (dH p (gB p c (cj (bv p c.s.pc) (cj (i6 (c.s.pc+1)) (cj (aa.2 k5) (cj (aa.2 k6) (cj (aa.2 k7) (cj (ax.2 k9) (cj (dt ((↑c.r.length:Int)>0)) (cj (i6 (c.r.length-1)) (cj (bi (c.r.length-1) c.r.length) (cj (i6 (c.r.length-1)) (cj (pv ((0:Int)<=c.r.length-1∧(↑c.r.length:Int)-1<=c.r.length)) (cj (ap 0 (Int.toNat ((↑c.r.length:Int)-1)) 8) (cj (ap 0 c.b.length 48) (cj (ap (0+c.b.length) 1 48) (cj (rf c.s.r0) (cj (rf c.s.r1) (cj (rf c.s.r2) (cj (rf c.s.r3) (cj (rf c.s.m.length) (cj (rr c.s.m.length 1 fun i j=>aI (List.getD c.s.m i 0)) (cj (rf c.s.st.length) (cj (rr c.s.st.length 1 fun i j=>aI (List.getD c.s.st i 0)) (cj (rf (br c.r)) (cj (pv ((0:Nat)+c.b.length+1=(c.b++[En.mk c.s.pc (0:Int) (0:Int) (-1:Int) (br c.r) false false false]).length)) (cj (show ∀(i:Nat),i<0+c.b.length+1-> ∀(j:Nat),j<8->(bif Nat.blt (i+0) ((0:Nat)+c.b.length) then bif Nat.blt (i+0) (0:Nat) then AV.junk else an enC c.b (i+0-0) j else List.getD [aI c.s.pc,aI 0,aI 0,aI (-1:Int),aI (c.r.getD (Int.toNat (c.r.length-1)) 0),AV.bool false,AV.bool false,AV.bool false] ((i+0-((0:Nat)+c.b.length)+0)*8+j) AV.junk)=an enC (c.b++[En.mk c.s.pc (0:Int) (0:Int) (-1:Int) (br c.r) false false false]) i j from(oU c.b _ _ (fun j hj=>match j,hj with |0,_=>rfl |1,_=>rfl |2,_=>rfl |3,_=>rfl |4,_=>rfl |5,_=>rfl |6,_=>rfl |7,_=>rfl))) (cj (pv ((0:Nat)+Int.toNat ((↑c.r.length:Int)-1)=(List.take (Int.toNat (c.r.length-1)) c.r).length)) (cj (show ∀(i:Nat),i<0+Int.toNat ((↑c.r.length:Int)-1)-> ∀(j:Nat),j<1->aI (c.r.getD (i+0-0) 0)=aI (List.getD (List.take (Int.toNat (c.r.length-1)) c.r) i 0) from(fun i hi j hj=>by rw[km _ _ _ (by omega)];rfl)) (cj (rf c.e) (cj (rf true) trivial)))))))))))))))))))))))))))))))))))))
theorem Ap(c:Cf){Z:Prop}(z:Z):(RF ((dQ c.r (c.s.pc+1)).length) (RR ((dQ c.r (c.s.pc+1)).length) 1 (fun i j=>aI (List.getD (dQ c.r (c.s.pc+1)) i 0)) (RF c.e (RF true Z)))):=⟨rfl,fun _ _ _ _=>rfl,rfl,rfl,z⟩
theorem t7(c:Cf){Z:Prop}(z:Z):(RF c.r.length (RR c.r.length 1 (fun i j=>aI (c.r.getD i 0)) (RF (c.s.pc+1) Z))):=⟨rfl,fun _ _ _ _=>rfl,rfl,z⟩
theorem t6(p:Pg)(c:Cf){Z:Prop}(z:Z):(RF p.ls.length (RR p.ls.length 2 (fun i j=>an lbC p.ls i j) (RF p.is.length (RR p.is.length 9 (fun i j=>an inC p.is i j) (RF c.s.st.length (RR c.s.st.length 1 (fun i j=>aI (List.getD c.s.st i 0)) (RF c.b.length (RR c.b.length 8 (fun i j=>an enC c.b i j) (RF (↑c.b.length:Int) Z))))))))):=⟨rfl,fun _ _ _ _=>rfl,rfl,fun _ _ _ _=>rfl,rfl,fun _ _ _ _=>rfl,rfl,fun _ _ _ _=>rfl,rfl,z⟩
abbrev BW(c:Cf):Orc:= .cl [lR c.r, aI (c.s.pc+1)] (lR (dQ c.r (c.s.pc+1))) []
theorem Ga(p:Pg)(c:Cf)(g:Int)(hl:p.is.length<1000)(hb:c.b.length<1000000)(h0:0<=g)(hg: ¬gsV p c<=g)(hpc: -1<=c.s.pc∧c.s.pc<=1000)(hr:c.r.length<1000)(k5: ¬(atI p c.s.pc).kind=5)(k6: ¬(atI p c.s.pc).kind=6)(k7: ¬(atI p c.s.pc).kind=7)(k9: ¬(atI p c.s.pc).kind=9)(k8:(atI p c.s.pc).kind=8)(hst:c.s.st.length<=1000)(hbp: ∀e∈c.b, -1<=e.pc∧e.pc<=1000000)(hb9:c.b.length<900000)(hv:reV p c.s.st c.b c.b.length=none):Vc (vF_ 45 [.agg (pgA p),.agg (cfA c), aI g] [.fv,.bd false,j9 p c,.bd false,gW p c,.bd false,.bd false,.bd false,.bd false,.bd true,.cl [.agg (pgA p),lR c.s.st,enR c.b, aI c.b.length] (.tup [.nils,.bool false]) [],BW c] [] (.tup [.agg (cfA ⟨c.s.go (atI p c.s.pc).tg,c.b++[⟨c.s.pc,0,0, -1,(atI p c.s.pc).tg,true,false,true⟩],(dQ c.r (c.s.pc+1)),c.e⟩),.bool true]) []):=al (cj (df (g<0)) (dH p (jT p c (jU c (cj (jz p c hl hb) (cj (df (g>=gsV p c)) (dH p (gB p c (cj (bv p c.s.pc) (cj (i6 (c.s.pc+1)) (cj (aa.2 k5) (cj (aa.2 k6) (cj (aa.2 k7) (cj (aa.2 k9) (cj (ax.2 k8) (dH p (t6 p c (cj (pu p c.s.st c.b c.b.length hb9 hst hbp hv) (cj (i6 (c.s.pc+1)) (t7 c (cj (qE c.r (c.s.pc+1) (by omega)) (cj (ap 0 c.b.length 48) (cj (ap (0+c.b.length) 1 48) (t5 p c (cj (pv ((0:Nat)+c.b.length+1=(c.b++[En.mk c.s.pc (0:Int) (0:Int) (-1:Int) (atI p c.s.pc).tg true false true]).length)) (cj (show ∀(i:Nat),i<0+c.b.length+1-> ∀(j:Nat),j<8->(bif Nat.blt (i+0) ((0:Nat)+c.b.length) then bif Nat.blt (i+0) (0:Nat) then AV.junk else an enC c.b (i+0-0) j else List.getD [aI c.s.pc,aI 0,aI 0,aI (-1:Int),aI (atI p c.s.pc).tg,AV.bool true,AV.bool false,AV.bool true] ((i+0-((0:Nat)+c.b.length)+0)*8+j) AV.junk)=an enC (c.b++[En.mk c.s.pc (0:Int) (0:Int) (-1:Int) (atI p c.s.pc).tg true false true]) i j from(oU c.b _ _ (fun j hj=>match j,hj with |0,_=>rfl |1,_=>rfl |2,_=>rfl |3,_=>rfl |4,_=>rfl |5,_=>rfl |6,_=>rfl |7,_=>rfl))) (Ap c trivial)))))))))))))))))))))))))))
theorem Gb(p:Pg)(c:Cf)(g:Int)(hl:p.is.length<1000)(hb:c.b.length<1000000)(h0:0<=g)(hg: ¬gsV p c<=g)(hpc: -1<=c.s.pc∧c.s.pc<=1000)(hr:c.r.length<1000)(L:List Int)(k5: ¬(atI p c.s.pc).kind=5)(k6: ¬(atI p c.s.pc).kind=6)(k7: ¬(atI p c.s.pc).kind=7)(k9: ¬(atI p c.s.pc).kind=9)(k8:(atI p c.s.pc).kind=8)(hst:c.s.st.length<=1000)(hbp: ∀e∈c.b, -1<=e.pc∧e.pc<=1000000)(hb9:c.b.length<900000)(hv:reV p c.s.st c.b c.b.length=some L)(h4:4<=L.length):Vc (vF_ 45 [.agg (pgA p),.agg (cfA c), aI g] [.fv,.bd false,j9 p c,.bd false,gW p c,.bd false,.bd false,.bd false,.bd false,.bd true,.cl [.agg (pgA p),lR c.s.st,enR c.b, aI c.b.length] (.tup [lR L,.bool true]) [],.bd true,BW c] [] (.tup [.agg (cfA ⟨c.s.go (atI p c.s.pc).tg,c.b++[⟨c.s.pc,0,0, -1,(atI p c.s.pc).tg,true,false,true⟩],(dQ c.r (c.s.pc+1)),c.e⟩),.bool true]) []):=al (cj (df (g<0)) (dH p (jT p c (jU c (cj (jz p c hl hb) (cj (df (g>=gsV p c)) (dH p (gB p c (cj (bv p c.s.pc) (cj (i6 (c.s.pc+1)) (cj (aa.2 k5) (cj (aa.2 k6) (cj (aa.2 k7) (cj (aa.2 k9) (cj (ax.2 k8) (dH p (t6 p c (cj (u0 p c.s.st c.b c.b.length L hb9 hst hbp hv) (cj (dt ((L.length:Int)>=4)) (cj (i6 (c.s.pc+1)) (t7 c (cj (qE c.r (c.s.pc+1) (by omega)) (cj (ap 0 c.b.length 48) (cj (ap (0+c.b.length) 1 48) (t5 p c (cj (pv ((0:Nat)+c.b.length+1=(c.b++[En.mk c.s.pc (0:Int) (0:Int) (-1:Int) (atI p c.s.pc).tg true false true]).length)) (cj (show ∀(i:Nat),i<0+c.b.length+1-> ∀(j:Nat),j<8->(bif Nat.blt (i+0) ((0:Nat)+c.b.length) then bif Nat.blt (i+0) (0:Nat) then AV.junk else an enC c.b (i+0-0) j else List.getD [aI c.s.pc,aI 0,aI 0,aI (-1:Int),aI (atI p c.s.pc).tg,AV.bool true,AV.bool false,AV.bool (bif !true then true else true)] ((i+0-((0:Nat)+c.b.length)+0)*8+j) AV.junk)=an enC (c.b++[En.mk c.s.pc (0:Int) (0:Int) (-1:Int) (atI p c.s.pc).tg true false true]) i j from(oU c.b _ _ (fun j hj=>match j,hj with |0,_=>rfl |1,_=>rfl |2,_=>rfl |3,_=>rfl |4,_=>rfl |5,_=>rfl |6,_=>rfl |7,_=>rfl))) (Ap c trivial))))))))))))))))))))))))))))
theorem F9(p:Pg)(c:Cf)(g:Int)(hl:p.is.length<1000)(hb:c.b.length<1000000)(h0:0<=g)(hg: ¬gsV p c<=g)(hpc: -1<=c.s.pc∧c.s.pc<=1000)(hr:c.r.length<1000)(L:List Int)(k5: ¬(atI p c.s.pc).kind=5)(k6: ¬(atI p c.s.pc).kind=6)(k7: ¬(atI p c.s.pc).kind=7)(k9: ¬(atI p c.s.pc).kind=9)(k8:(atI p c.s.pc).kind=8)(hst:c.s.st.length<=1000)(hbp: ∀e∈c.b, -1<=e.pc∧e.pc<=1000000)(hb9:c.b.length<900000)(hv:reV p c.s.st c.b c.b.length=some L)(h4: ¬4<=L.length):Vc (vF_ 45 [.agg (pgA p),.agg (cfA c), aI g] [.fv,.bd false,j9 p c,.bd false,gW p c,.bd false,.bd false,.bd false,.bd false,.bd true,.cl [.agg (pgA p),lR c.s.st,enR c.b, aI c.b.length] (.tup [lR L,.bool true]) [],.bd false,BW c] [] (.tup [.agg (cfA ⟨c.s.go (atI p c.s.pc).tg,c.b++[⟨c.s.pc,0,0, -1,(atI p c.s.pc).tg,true,false,false⟩],(dQ c.r (c.s.pc+1)),c.e⟩),.bool true]) []):=al (cj (df (g<0)) (dH p (jT p c (jU c (cj (jz p c hl hb) (cj (df (g>=gsV p c)) (dH p (gB p c (cj (bv p c.s.pc) (cj (i6 (c.s.pc+1)) (cj (aa.2 k5) (cj (aa.2 k6) (cj (aa.2 k7) (cj (aa.2 k9) (cj (ax.2 k8) (dH p (t6 p c (cj (u0 p c.s.st c.b c.b.length L hb9 hst hbp hv) (cj (df ((L.length:Int)>=4)) (cj (i6 (c.s.pc+1)) (t7 c (cj (qE c.r (c.s.pc+1) (by omega)) (cj (ap 0 c.b.length 48) (cj (ap (0+c.b.length) 1 48) (t5 p c (cj (pv ((0:Nat)+c.b.length+1=(c.b++[En.mk c.s.pc (0:Int) (0:Int) (-1:Int) (atI p c.s.pc).tg true false false]).length)) (cj (show ∀(i:Nat),i<0+c.b.length+1-> ∀(j:Nat),j<8->(bif Nat.blt (i+0) ((0:Nat)+c.b.length) then bif Nat.blt (i+0) (0:Nat) then AV.junk else an enC c.b (i+0-0) j else List.getD [aI c.s.pc,aI 0,aI 0,aI (-1:Int),aI (atI p c.s.pc).tg,AV.bool true,AV.bool false,AV.bool (bif !true then true else false)] ((i+0-((0:Nat)+c.b.length)+0)*8+j) AV.junk)=an enC (c.b++[En.mk c.s.pc (0:Int) (0:Int) (-1:Int) (atI p c.s.pc).tg true false false]) i j from(oU c.b _ _ (fun j hj=>match j,hj with |0,_=>rfl |1,_=>rfl |2,_=>rfl |3,_=>rfl |4,_=>rfl |5,_=>rfl |6,_=>rfl |7,_=>rfl))) (Ap c trivial))))))))))))))))))))))))))))
theorem Ei(c:Cf): ∀(i:Nat),i<0+c.b.length+1-> ∀(j:Nat),j<8->(bif Nat.blt (i+0) ((0:Nat)+c.b.length) then bif Nat.blt (i+0) (0:Nat) then AV.junk else an enC c.b (i+0-0) j else List.getD [aI c.s.pc,aI 0,aI 0,aI (-1:Int),aI (-1:Int),AV.bool true,AV.bool false,AV.bool false] ((i+0-((0:Nat)+c.b.length)+0)*8+j) AV.junk)=an enC (c.b++[En.mk c.s.pc (0:Int) (0:Int) (-1:Int) (-1:Int) true false false]) i j:=(oU c.b _ _ (fun j hj=>match j,hj with |0,_=>rfl |1,_=>rfl |2,_=>rfl |3,_=>rfl |4,_=>rfl |5,_=>rfl |6,_=>rfl |7,_=>rfl))
theorem zm(c:Cf){Z:Prop}(z:Z):(RF c.s.r0 (RF c.s.r1 (RF c.s.r2 (RF c.s.r3 (RF c.s.m.length (RR c.s.m.length 1 (fun i j=>aI (List.getD c.s.m i 0)) (RF c.s.st.length (RR c.s.st.length 1 (fun i j=>aI (List.getD c.s.st i 0)) (RF (-1:Int) Z))))))))):=⟨rfl,rfl,rfl,rfl,rfl,fun _ _ _ _=>rfl,rfl,fun _ _ _ _=>rfl,rfl,z⟩
theorem Gf(p:Pg)(c:Cf)(g:Int)(hl:p.is.length<1000)(hb:c.b.length<1000000)(h0:0<=g)(hg: ¬gsV p c<=g)(hpc: -1<=c.s.pc∧c.s.pc<=1000)(hr:c.r.length<1000)(k5: ¬(atI p c.s.pc).kind=5)(k6: ¬(atI p c.s.pc).kind=6)(k7: ¬(atI p c.s.pc).kind=7)(k9: ¬(atI p c.s.pc).kind=9)(k8: ¬(atI p c.s.pc).kind=8)(k11:(atI p c.s.pc).kind=11):Vc (vF_ 45 [.agg (pgA p),.agg (cfA c), aI g] [.fv,.bd false,j9 p c,.bd false,gW p c,.bd false,.bd false,.bd false,.bd false,.bd false,.bd true] [] (.tup [.agg (cfA ⟨c.s.go (-1),c.b++[⟨c.s.pc,0,0, -1,(-1),true,false,false⟩],c.r,c.e⟩),.bool true]) []):=al (cj (df (g<0)) (dH p (jT p c (jU c (cj (jz p c hl hb) (cj (df (g>=gsV p c)) (dH p (gB p c (cj (bv p c.s.pc) (cj (i6 (c.s.pc+1)) (cj (aa.2 k5) (cj (aa.2 k6) (cj (aa.2 k7) (cj (aa.2 k9) (cj (aa.2 k8) (cj (ax.2 k11) (cj (ap 0 c.b.length 48) (cj (ap (0+c.b.length) 1 48) (zm c (cj (pv ((0:Nat)+c.b.length+1=(c.b++[En.mk c.s.pc (0:Int) (0:Int) (-1:Int) (-1:Int) true false false]).length)) (cj (Ei c) (o0 c trivial))))))))))))))))))))))
theorem Ge(p:Pg)(c:Cf)(g:Int)(hl:p.is.length<1000)(hb:c.b.length<1000000)(h0:0<=g)(hg: ¬gsV p c<=g)(hpc: -1<=c.s.pc∧c.s.pc<=1000)(hr:c.r.length<1000)(k5: ¬(atI p c.s.pc).kind=5)(k6: ¬(atI p c.s.pc).kind=6)(k7: ¬(atI p c.s.pc).kind=7)(k9: ¬(atI p c.s.pc).kind=9)(k8: ¬(atI p c.s.pc).kind=8)(k11: ¬(atI p c.s.pc).kind=11)(k12:(atI p c.s.pc).kind=12):Vc (vF_ 45 [.agg (pgA p),.agg (cfA c), aI g] [.fv,.bd false,j9 p c,.bd false,gW p c,.bd false,.bd false,.bd false,.bd false,.bd false,.bd false,.bd true] [] (.tup [.agg (cfA ⟨c.s.go (-1),c.b++[⟨c.s.pc,0,0, -1,(-1),true,false,false⟩],c.r,c.e⟩),.bool true]) []):=al (cj (df (g<0)) (dH p (jT p c (jU c (cj (jz p c hl hb) (cj (df (g>=gsV p c)) (dH p (gB p c (cj (bv p c.s.pc) (cj (i6 (c.s.pc+1)) (cj (aa.2 k5) (cj (aa.2 k6) (cj (aa.2 k7) (cj (aa.2 k9) (cj (aa.2 k8) (cj (aa.2 k11) (cj (ax.2 k12) (cj (ap 0 c.b.length 48) (cj (ap (0+c.b.length) 1 48) (zm c (cj (pv ((0:Nat)+c.b.length+1=(c.b++[En.mk c.s.pc (0:Int) (0:Int) (-1:Int) (-1:Int) true false false]).length)) (cj (Ei c) (o0 c trivial)))))))))))))))))))))))
theorem It(p:Pg)(c:Cf)(g:Int)(hl:p.is.length<1000)(hb:c.b.length<1000000)(h0:0<=g)(hg: ¬gsV p c<=g)(hpc: -1<=c.s.pc∧c.s.pc<=1000)(hr:c.r.length<1000)(k5: ¬(atI p c.s.pc).kind=5)(k6: ¬(atI p c.s.pc).kind=6)(k7: ¬(atI p c.s.pc).kind=7)(k9: ¬(atI p c.s.pc).kind=9)(k8: ¬(atI p c.s.pc).kind=8)(k11: ¬(atI p c.s.pc).kind=11)(k12: ¬(atI p c.s.pc).kind=12):Vc (vF_ 45 [.agg (pgA p),.agg (cfA c), aI g] [.fv,.bd false,j9 p c,.bd false,gW p c,.bd false,.bd false,.bd false,.bd false,.bd false,.bd false,.bd false] [] (.tup [.agg (cfA ⟨c.s.go (c.s.pc+1),c.b++[⟨c.s.pc,0,0, -1,(c.s.pc+1),false,false,false⟩],c.r,c.e⟩),.bool true]) []):=al (cj (df (g<0)) (dH p (jT p c (jU c (cj (jz p c hl hb) (cj (df (g>=gsV p c)) (dH p (gB p c (cj (bv p c.s.pc) (cj (i6 (c.s.pc+1)) (cj (aa.2 k5) (cj (aa.2 k6) (cj (aa.2 k7) (cj (aa.2 k9) (cj (aa.2 k8) (cj (aa.2 k11) (cj (aa.2 k12) (cj (ap 0 c.b.length 48) (cj (ap (0+c.b.length) 1 48) (De c (cj (pv ((0:Nat)+c.b.length+1=(c.b++[En.mk c.s.pc (0:Int) (0:Int) (-1:Int) (c.s.pc+1) false false false]).length)) (cj (Ek c) (o0 c trivial)))))))))))))))))))))))
def ftO(p:Pg)(c:Cf)(g:Int):Option Cf:=if 0<=g∧g<gsV p c then some (ftD p c g) else none
theorem Hz(p:Pg)(c:Cf)(g:Int)(hl:p.is.length<1000)(hb:c.b.length<900000)(hpc: -1<=c.s.pc∧c.s.pc<=1000)(hr:c.r.length<1000)(hst:c.s.st.length<=1000)(hbp: ∀e∈c.b, -1<=e.pc∧e.pc<=1000000):pC_ 45 [.agg (pgA p),.agg (cfA c),.int .i64 g] (.tup (ocA (ftO p c g))) []:=by
 have hb9:=hb
 replace hb:c.b.length<1000000:=by omega
 unfold ftO
 by_cases hn:g<0
 ·rw[ah (by omega)];exact PureC.vc (CC p c g hl hb hn)
 replace hn:0<=g:=by omega
 by_cases hg:gsV p c<=g
 ·rw[ah (by omega)];exact PureC.vc (CB p c g hl hb hn hg)
 rw[ai ⟨hn,by omega⟩]
 by_cases k5:(atI p c.s.pc).kind=5
 ·by_cases g1:g=1
  ·have e:ftD p c g=⟨c.s.go (atI p c.s.pc).tg,c.b++[⟨c.s.pc,0,0, -1,(atI p c.s.pc).tg,false,false,false⟩],c.r,c.e⟩:=by simp[ftD,ftE,ftR,k5,g1]
   rw[e];exact PureC.vc (Gc p c g hl hb hn hg hpc hr k5 g1)
  ·have e:ftD p c g=⟨c.s.go (c.s.pc+1),c.b++[⟨c.s.pc,0,0, -1,(c.s.pc+1),false,false,false⟩],c.r,c.e⟩:=by simp[ftD,ftE,ftR,k5,g1]
   rw[e];exact PureC.vc (Gd p c g hl hb hn hg hpc hr k5 g1)
 by_cases k6:(atI p c.s.pc).kind=6
 ·have e:ftD p c g=⟨c.s.go (atI p c.s.pc).tg,c.b++[⟨c.s.pc,0,0, -1,(atI p c.s.pc).tg,true,false,false⟩],c.r,c.e⟩:=by simp[ftD,ftE,ftR,k6]
  rw[e];exact PureC.vc (Iw p c g hl hb hn hg hpc hr k5 k6)
 by_cases k7:(atI p c.s.pc).kind=7
 ·have e:ftD p c g=⟨c.s.go g,c.b++[⟨c.s.pc,0,0, -1,g,false,false,false⟩],c.r,c.e⟩:=by simp[ftD,ftE,ftR,k7]
  rw[e];exact PureC.vc (Iv p c g hl hb hn hg hpc hr k5 k6 k7)
 by_cases k9:(atI p c.s.pc).kind=9
 ·by_cases hz:c.r.length=0
  ·have hz0:c.r=[]:=bz hz
   have e:ftD p c g=⟨c.s.go g,c.b++[⟨c.s.pc,0,0, -1,g,false,false,false⟩],c.r,c.e⟩:=by simp[ftD,ftE,ftR,k9,hz0]
   rw[e];exact PureC.vc (F8 p c g hl hb hn hg hpc hr k5 k6 k7 k9 hz)
  ·have hz0: ¬c.r=[]:=fun e=>hz (by rw[e];rfl)
   have e:ftD p c g=⟨c.s.go (br c.r),c.b++[⟨c.s.pc,0,0, -1,(br c.r),false,false,false⟩],(c.r.take ((c.r.length:Int)-1).toNat),c.e⟩:=by simp[ftD,ftE,ftR,k9,hz0]
   rw[e];exact PureC.vc (Iu p c g hl hb hn hg hpc hr k5 k6 k7 k9 hz)
 by_cases k8:(atI p c.s.pc).kind=8
 ·cases hv:reV p c.s.st c.b c.b.length with
  |none=>
   have e:ftD p c g=⟨c.s.go (atI p c.s.pc).tg,c.b++[⟨c.s.pc,0,0, -1,(atI p c.s.pc).tg,true,false,true⟩],(dQ c.r (c.s.pc+1)),c.e⟩:=by simp[ftD,ftE,ftR,k8,ftB,hv]
   rw[e];exact PureC.vc (Ga p c g hl hb hn hg hpc hr k5 k6 k7 k9 k8 hst hbp hb9 hv)
  |some L=>
   by_cases h4:4<=L.length
   ·have e:ftD p c g=⟨c.s.go (atI p c.s.pc).tg,c.b++[⟨c.s.pc,0,0, -1,(atI p c.s.pc).tg,true,false,true⟩],(dQ c.r (c.s.pc+1)),c.e⟩:=by simp[ftD,ftE,ftR,k8,ftB,hv,h4]
    rw[e];exact PureC.vc (Gb p c g hl hb hn hg hpc hr L k5 k6 k7 k9 k8 hst hbp hb9 hv h4)
   ·have e:ftD p c g=⟨c.s.go (atI p c.s.pc).tg,c.b++[⟨c.s.pc,0,0, -1,(atI p c.s.pc).tg,true,false,false⟩],(dQ c.r (c.s.pc+1)),c.e⟩:=by simp[ftD,ftE,ftR,k8,ftB,hv,h4]
    rw[e];exact PureC.vc (F9 p c g hl hb hn hg hpc hr L k5 k6 k7 k9 k8 hst hbp hb9 hv h4)
 by_cases k11:(atI p c.s.pc).kind=11
 ·have e:ftD p c g=⟨c.s.go (-1),c.b++[⟨c.s.pc,0,0, -1,(-1),true,false,false⟩],c.r,c.e⟩:=by simp[ftD,ftE,ftR,k11]
  rw[e];exact PureC.vc (Gf p c g hl hb hn hg hpc hr k5 k6 k7 k9 k8 k11)
 by_cases k12:(atI p c.s.pc).kind=12
 ·have e:ftD p c g=⟨c.s.go (-1),c.b++[⟨c.s.pc,0,0, -1,(-1),true,false,false⟩],c.r,c.e⟩:=by simp[ftD,ftE,ftR,k12]
  rw[e];exact PureC.vc (Ge p c g hl hb hn hg hpc hr k5 k6 k7 k9 k8 k11 k12)
 have e:ftD p c g=⟨c.s.go (c.s.pc+1),c.b++[⟨c.s.pc,0,0, -1,(c.s.pc+1),false,false,false⟩],c.r,c.e⟩:=by simp[ftD,ftE,ftR,k5,k6,k7,k9,k8,k11,k12]
 rw[e];exact PureC.vc (It p c g hl hb hn hg hpc hr k5 k6 k7 k9 k8 k11 k12)
def opV(p:Pg)(c:Cf)(i:Int):Bool:=if c.e=0∧0<=i∧i<c.b.length then !mL p c.b i else false
def tA(p:Pg)(c:Cf)(i:Int)(x:In):Int×Bool:=cC p c.s c.b i x.a
def tB(p:Pg)(c:Cf)(i:Int)(x:In):Int×Bool:=cC p c.s c.b i x.b
def tD(p:Pg)(c:Cf)(i:Int)(x:In):Int×Bool:=c8 p c.s c.b i x.d
def tAB(p:Pg)(c:Cf)(i:Int)(x:In):Bool:=(tA p c i x).2&&(tB p c i x).2
def enX(p:Pg)(c:Cf)(k:Nat):In:=atI p (c.b.getD k default).pc
def adV(p:Pg)(c:Cf)(i:Int)(x:In):Int:=Wd.maskV p.W ((tA p c i x).1+(tB p c i x).1)
def cnK(p:Pg)(c:Cf)(i:Int)(x:In):Bool:=
 if x.kind=1 then tAB p c i x else if x.kind=5 then tAB p c i x else if x.kind=4 then tAB p c i x&&(tD p c i x).2
 else if x.kind=2 then tAB p c i x&&(decide ((c.s.m.length:Int)<=adV p c i x)||(ldV p c.s.m c.b i (adV p c i x)).2.2)
 else if x.kind=3 then(tD p c i x).2 else if x.kind=7 then(tA p c i x).2 else x.kind==9
def cnV(p:Pg)(c:Cf)(i:Int):Bool:=opV p c i&&(!(c.b.getD i.toNat default).dn&&cnK p c i (enX p c i.toNat))
def caV(p:Pg)(c:Cf)(i:Int):Bool:=opV p c i&&(!(c.b.getD i.toNat default).kn&&((enX p c i.toNat).kind==3&&tAB p c i (enX p c i.toNat)))
def crE(p:Pg)(e:En)(l:List En):Bool:=(e.dn||(atI p e.pc).kind==10)&&((atI p e.pc).kind !=3||e.kn)
def crV(p:Pg)(c:Cf):Bool:=if c.e=0 then(match c.b with
 | []=>false
 |e::l=>crE p e l) else false
theorem HL(p:Pg)(c:Cf)(i:Int)(h0: ¬c.e=0):Vc (vF_ 59 [.agg (pgA p),.agg (cfA c), aI i] [.fv,.fv,.bd false] [] (.bool false) []):=al (cj (aa.2 h0) (cj (rf false) trivial))
theorem HJ(p:Pg)(c:Cf)(i:Int)(h0:c.e=0)(hi: ¬0<=i):Vc (vF_ 59 [.agg (pgA p),.agg (cfA c), aI i] [.fv,.fv,.bd true,.bd false] [] (.bool false) []):=al (cj (ax.2 h0) (cj (df (i>=0)) (cj (rf false) trivial)))
theorem HK(p:Pg)(c:Cf)(i:Int)(h0:c.e=0)(hi:0<=i)(hl: ¬i<c.b.length):Vc (vF_ 59 [.agg (pgA p),.agg (cfA c), aI i] [.fv,.fv,.bd true,.bd true,.bd false] [] (.bool false) []):=al (cj (ax.2 h0) (cj (dt (i>=0)) (cj (df (i<(↑c.b.length:Int))) (cj (rf false) trivial))))
theorem ch(p:Pg){Z:Prop}(z:Z):(RF p.W (RF p.win (RF p.fuel (RF p.r0 (RF p.r1 (RF p.r2 (RF p.r3 (RF p.ms.length (RR p.ms.length 3 (fun i j=>an mmC p.ms i j) Z))))))))):=⟨rfl,rfl,rfl,rfl,rfl,rfl,rfl,rfl,fun _ _ _ _=>rfl,z⟩
theorem HI(p:Pg)(c:Cf)(i:Int)(h0:c.e=0)(hi:0<=i)(hl:i<c.b.length)(hb:c.b.length<1000000):Vc (vF_ 59 [.agg (pgA p),.agg (cfA c), aI i] [.fv,.fv,.bd true,.bd true,.bd true,.cl [.agg (pgA p),enR c.b, aI i] (.bool (mL p c.b i)) []] [] (.bool (!mL p c.b i)) []):=al (cj (ax.2 h0) (cj (dt (i>=0)) (cj (dt (i<(↑c.b.length:Int))) (ch p (cj (rf p.ls.length) (cj (rr p.ls.length 2 fun i j=>an lbC p.ls i j) (cj (rf p.is.length) (cj (rr p.is.length 9 fun i j=>an inC p.is i j) (cj (rf c.b.length) (cj (rr c.b.length 8 fun i j=>an enC c.b i j) (cj (rf i) (cj (E0 p c.b i hb) (cj (rf (!mL p c.b i)) trivial)))))))))))))
theorem EL(p:Pg)(c:Cf)(i:Int)(hb:c.b.length<1000000):pC_ 59 [.agg (pgA p),.agg (cfA c),.int .i64 i] (.bool (opV p c i)) []:=by
 unfold opV
 by_cases h0:c.e=0
 ·by_cases hi:0<=i
  ·by_cases hl:i<c.b.length
   ·rw[ai ⟨h0,hi,hl⟩];exact PureC.vc (HI p c i h0 hi hl hb)
   ·rw[ah fun e=>hl e.2.2];exact PureC.vc (HK p c i h0 hi hl)
  ·rw[ah fun e=>hi e.2.1];exact PureC.vc (HJ p c i h0 hi)
 ·rw[ah fun e=>h0 e.1];exact PureC.vc (HL p c i h0)
theorem Dc(c:Cf)(i:Int)(x:In){Z:Prop}(z:Z):(RR c.b.length 8 (fun i j=>an enC c.b i j) (RF i (RF x.d Z))):=⟨fun _ _ _ _=>rfl,rfl,rfl,z⟩
theorem qt(p:Pg)(c:Cf){Z:Prop}(z:Z):(RF p.ls.length (RR p.ls.length 2 (fun i j=>an lbC p.ls i j) (RF p.is.length (RR p.is.length 9 (fun i j=>an inC p.is i j) (RF c.s.r0 (RF c.s.r1 (RF c.s.r2 (RF c.s.r3 (RF c.b.length Z))))))))):=⟨rfl,fun _ _ _ _=>rfl,rfl,fun _ _ _ _=>rfl,rfl,rfl,rfl,rfl,rfl,z⟩
theorem Db(c:Cf)(i:Int)(x:In){Z:Prop}(z:Z):(RR c.b.length 8 (fun i j=>an enC c.b i j) (RF i (RF x.b.reg (RF x.b.n Z)))):=⟨fun _ _ _ _=>rfl,rfl,rfl,rfl,z⟩
theorem Da(c:Cf)(i:Int)(x:In){Z:Prop}(z:Z):(RR c.b.length 8 (fun i j=>an enC c.b i j) (RF i (RF x.a.reg (RF x.a.n Z)))):=⟨fun _ _ _ _=>rfl,rfl,rfl,rfl,z⟩
abbrev Ff(p:Pg)(c:Cf)(i:Int)(x:In):Orc:= .cl [.agg (pgA p),.agg (rgA c.s),enR c.b, aI i,.agg (vlA x.a)] (.tup [aI (cC p c.s c.b i x.a).1,.bool (cC p c.s c.b i x.a).2]) []
abbrev Fe(p:Pg)(c:Cf)(i:Int)(x:In):Orc:= .cl [.agg (pgA p),.agg (rgA c.s),enR c.b, aI i,.agg (vlA x.b)] (.tup [aI (cC p c.s c.b i x.b).1,.bool (cC p c.s c.b i x.b).2]) []
abbrev Fd(p:Pg)(c:Cf)(i:Int)(x:In):Orc:= .cl [.agg (pgA p),.agg (rgA c.s),enR c.b, aI i, aI x.d] (.tup [aI (c8 p c.s c.b i x.d).1,.bool (c8 p c.s c.b i x.d).2]) []
theorem Hj(p:Pg)(c:Cf)(i:Int)(x:In)(hb:c.b.length<1000000)(h:(tA p c i x).2=true):Vc (vF_ 60 [.agg (pgA p),.agg (cfA c), aI i,.agg (inA x)] [.fv,.fv,.fv,Ff p c i x,Fe p c i x,Fd p c i x,.b true,.b true] [] (.tup [aI (tA p c i x).1, aI (tB p c i x).1, aI (tD p c i x).1,.bool (tB p c i x).2,.bool (tD p c i x).2]) []):=al (ch p (qt p c (Da c i x (cj (pj p c.s c.b i x.a hb) (ch p (qt p c (Db c i x (cj (pj p c.s c.b i x.b hb) (ch p (qt p c (Dc c i x (cj (uY p c.s c.b i x.d hb) (cj h (cj h (cj (rf (Prod.fst (tA p c i x))) (cj (rf (Prod.fst (tB p c i x))) (cj (rf (Prod.fst (tD p c i x))) (cj (rf (Prod.snd (tB p c i x))) (cj (rf (Prod.snd (tD p c i x))) trivial)))))))))))))))))))
theorem Hk(p:Pg)(c:Cf)(i:Int)(x:In)(hb:c.b.length<1000000)(h:(tA p c i x).2=false):Vc (vF_ 60 [.agg (pgA p),.agg (cfA c), aI i,.agg (inA x)] [.fv,.fv,.fv,Ff p c i x,Fe p c i x,Fd p c i x,.b false,.b false] [] (.tup [aI (tA p c i x).1, aI (tB p c i x).1, aI (tD p c i x).1,.bool false,.bool (tD p c i x).2]) []):=al (ch p (qt p c (Da c i x (cj (pj p c.s c.b i x.a hb) (ch p (qt p c (Db c i x (cj (pj p c.s c.b i x.b hb) (ch p (qt p c (Dc c i x (cj (uY p c.s c.b i x.d hb) (cj h (cj h (cj (rf (Prod.fst (tA p c i x))) (cj (rf (Prod.fst (tB p c i x))) (cj (rf (Prod.fst (tD p c i x))) (cj (rf false) (cj (rf (Prod.snd (tD p c i x))) trivial)))))))))))))))))))
theorem xJ(p:Pg)(c:Cf)(i:Int)(x:In)(hb:c.b.length<1000000):pC_ 60 [.agg (pgA p),.agg (cfA c),.int .i64 i,.agg (inA x)] (.tup [.int .i64 (tA p c i x).1,.int .i64 (tB p c i x).1,.int .i64 (tD p c i x).1,.bool (tAB p c i x),.bool (tD p c i x).2]) []:=by
 unfold tAB
 cases h:(tA p c i x).2 with
 |true=>rw[cM];exact PureC.vc (Hj p c i x hb h)
 |false=>exact PureC.vc (Hk p c i x hb h)
theorem ep(c:Cf){Z:Prop}(z:Z):(RR c.s.m.length 1 (fun i j=>aI (List.getD c.s.m i 0)) (RF c.s.st.length (RR c.s.st.length 1 (fun i j=>aI (List.getD c.s.st i 0)) (RF c.s.pc (RF c.b.length (RR c.b.length 8 (fun i j=>an enC c.b i j) (RF c.r.length (RR c.r.length 1 (fun i j=>aI (c.r.getD i 0)) (RF c.e Z))))))))):=⟨fun _ _ _ _=>rfl,rfl,fun _ _ _ _=>rfl,rfl,rfl,fun _ _ _ _=>rfl,rfl,fun _ _ _ _=>rfl,rfl,z⟩
theorem eo(p:Pg)(c:Cf){Z:Prop}(z:Z):(RF p.ls.length (RR p.ls.length 2 (fun i j=>an lbC p.ls i j) (RF p.is.length (RR p.is.length 9 (fun i j=>an inC p.is i j) (RF c.s.r0 (RF c.s.r1 (RF c.s.r2 (RF c.s.r3 (RF c.s.m.length Z))))))))):=⟨rfl,fun _ _ _ _=>rfl,rfl,fun _ _ _ _=>rfl,rfl,rfl,rfl,rfl,rfl,z⟩
abbrev E3(p:Pg)(c:Cf)(i:Int):Prop:=PureC Try.prog 59 [.agg (pgA p),.agg (cfA c),.int .i64 i] (.bool false) []
theorem IX(p:Pg)(c:Cf)(i:Int)(hO:E3 p c i):Vc (vF_ 43 [.agg (pgA p),.agg (cfA c), aI i] [.fv,.fv,.cl [.agg (pgA p),.agg (cfA c), aI i] (.bool false) []] [] (.bool false) []):=al (ch p (eo p c (ep c (cj (rf i) (cj hO (cj (rf false) trivial))))))
theorem jl{Z:Prop}(z:Z):(RF false (RF false (RF false Z))):=⟨rfl,rfl,rfl,z⟩
theorem jk{Z:Prop}(z:Z):(RF false (RF false (RF false (RF false Z)))):=⟨rfl,rfl,rfl,rfl,z⟩
abbrev jD(p:Pg)(c:Cf)(k:Nat):Prop:=PureC Try.prog 59 [.agg (pgA p),.agg (cfA c),.int .i64 k] (.bool true) []
abbrev jE(p:Pg)(c:Cf)(k:Nat):Orc:= .cl [.agg (pgA p),.agg (cfA c), aI k] (.bool true) []
theorem I0(p:Pg)(c:Cf)(k:Nat)(hk:k<c.b.length)(hb:c.b.length<1000000)(hO:jD p c k)(hd:(c.b.getD k default).dn=true):Vc (vF_ 43 [.agg (pgA p),.agg (cfA c), aI k] [.fv,.fv,jE p c k,.b false,.b false,.b false,.b false,.b false,.b false,.b false,.b true] [] (.bool false) []):=al (ch p (eo p c (ep c (cj (rf (k:Int)) (cj hO (jk (cj (bi k c.b.length) (jl (cj hd (cj (rf false) trivial))))))))))
theorem kV(p:Pg)(c:Cf)(k:Nat)(a:Int)(b:Int)(d:Int){Z:Prop}(z:Z):(RF (k:Int) (RF ((enX p c k).kind) (RF ((enX p c k).op) (RF ((enX p c k).d) (RF ((enX p c k).a.reg) (RF ((enX p c k).a.n) (RF ((enX p c k).b.reg) (RF ((enX p c k).b.n) (RF ((enX p c k).nm) Z))))))))):=⟨rfl,rfl,rfl,rfl,rfl,rfl,rfl,rfl,rfl,z⟩
theorem gq(p:Pg)(c:Cf)(k:Nat)(b:Int){Z:Prop}(z:Z):(RF p.ls.length (RR p.ls.length 2 (fun i j=>an lbC p.ls i j) (RF p.is.length (RR p.is.length 9 (fun i j=>an inC p.is i j) (RF ((c.b.getD k default).pc) Z))))):=⟨rfl,fun _ _ _ _=>rfl,rfl,fun _ _ _ _=>rfl,rfl,z⟩
abbrev qH(p:Pg)(c:Cf)(k:Nat)(a:Int)(b:Int)(d:Int)(ab:Bool)(so:Bool):Prop:=PureC Try.prog 60 [.agg (pgA p),.agg (cfA c),.int .i64 k,.agg (inA (enX p c k))] (.tup [.int .i64 a,.int .i64 b,.int .i64 d,.bool ab,.bool so]) []
abbrev qJ(p:Pg)(c:Cf)(k:Nat)(a:Int)(b:Int)(d:Int)(ab:Bool)(so:Bool):Orc:= .cl [.agg (pgA p),.agg (cfA c), aI k,.agg (inA (enX p c k))] (.tup [aI a, aI b, aI d,.bool ab,.bool so]) []
abbrev li(p:Pg)(c:Cf)(k:Nat):Orc:= .cl [.agg (pgA p), aI (c.b.getD k default).pc] (.agg (inA (enX p c k))) []
theorem I4(p:Pg)(c:Cf)(k:Nat)(hk:k<c.b.length)(hb:c.b.length<1000000)(hO:jD p c k)(hd:(c.b.getD k default).dn=false)(a b d:Int)(ab:Bool)(so:Bool)(hT:qH p c k a b d ab so)(k1:(enX p c k).kind=1):Vc (vF_ 43 [.agg (pgA p),.agg (cfA c), aI k] [.fv,.fv,jE p c k,.b false,.b false,.b false,.b false,.b false,.b false,.b false,.b false,li p c k,qJ p c k a b d ab so,.bd true] [] (.bool ab) []):=al (ch p (eo p c (ep c (cj (rf (k:Int)) (cj hO (jk (cj (bi k c.b.length) (jl (cj hd (cj (bi k c.b.length) (ch p (gq p c k b (cj (bv p (c.b.getD k default).pc) (ch p (eo p c (ep c (kV p c k a b d (cj (rf ((enX p c k).tg)) (cj hT (cj (ax.2 k1) (cj (rf ab) trivial)))))))))))))))))))))
theorem I2(p:Pg)(c:Cf)(k:Nat)(hk:k<c.b.length)(hb:c.b.length<1000000)(hO:jD p c k)(hd:(c.b.getD k default).dn=false)(a b d:Int)(ab:Bool)(so:Bool)(hT:qH p c k a b d ab so)(k1: ¬(enX p c k).kind=1)(k5:(enX p c k).kind=5):Vc (vF_ 43 [.agg (pgA p),.agg (cfA c), aI k] [.fv,.fv,jE p c k,.b false,.b false,.b false,.b false,.b false,.b false,.b false,.b false,li p c k,qJ p c k a b d ab so,.bd false,.bd true] [] (.bool ab) []):=al (ch p (eo p c (ep c (cj (rf (k:Int)) (cj hO (jk (cj (bi k c.b.length) (jl (cj hd (cj (bi k c.b.length) (ch p (gq p c k b (cj (bv p (c.b.getD k default).pc) (ch p (eo p c (ep c (kV p c k a b d (cj (rf ((enX p c k).tg)) (cj hT (cj (aa.2 k1) (cj (ax.2 k5) (cj (rf ab) trivial))))))))))))))))))))))
abbrev BJ(p:Pg)(c:Cf)(k:Nat)(a:Int)(b:Int)(d:Int)(so:Bool):Prop:=PureC Try.prog 60 [.agg (pgA p),.agg (cfA c),.int .i64 k,.agg (inA (enX p c k))] (.tup [.int .i64 a,.int .i64 b,.int .i64 d,.bool true,.bool so]) []
abbrev vu(p:Pg)(c:Cf)(k:Nat)(a:Int)(b:Int)(d:Int)(so:Bool):Orc:= .cl [.agg (pgA p),.agg (cfA c), aI k,.agg (inA (enX p c k))] (.tup [aI a, aI b, aI d,.bool true,.bool so]) []
theorem GD(p:Pg)(c:Cf)(k:Nat)(hk:k<c.b.length)(hb:c.b.length<1000000)(hO:jD p c k)(hd:(c.b.getD k default).dn=false)(a b d:Int)(so:Bool)(hT:BJ p c k a b d so)(k1: ¬(enX p c k).kind=1)(k5: ¬(enX p c k).kind=5)(k4:(enX p c k).kind=4):Vc (vF_ 43 [.agg (pgA p),.agg (cfA c), aI k] [.fv,.fv,jE p c k,.b false,.b false,.b false,.b false,.b false,.b false,.b false,.b false,li p c k,vu p c k a b d so,.bd false,.bd false,.bd true] [] (.bool so) []):=al (ch p (eo p c (ep c (cj (rf (k:Int)) (cj hO (jk (cj (bi k c.b.length) (jl (cj hd (cj (bi k c.b.length) (ch p (gq p c k b (cj (bv p (c.b.getD k default).pc) (ch p (eo p c (ep c (kV p c k a b d (cj (rf ((enX p c k).tg)) (cj hT (cj (aa.2 k1) (cj (aa.2 k5) (cj (ax.2 k4) (cj (rf so) trivial)))))))))))))))))))))))
abbrev zP(p:Pg)(c:Cf)(k:Nat)(a:Int)(b:Int)(d:Int)(so:Bool):Prop:=PureC Try.prog 60 [.agg (pgA p),.agg (cfA c),.int .i64 k,.agg (inA (enX p c k))] (.tup [.int .i64 a,.int .i64 b,.int .i64 d,.bool false,.bool so]) []
theorem GE(p:Pg)(c:Cf)(k:Nat)(hk:k<c.b.length)(hb:c.b.length<1000000)(hO:jD p c k)(hd:(c.b.getD k default).dn=false)(a b d:Int)(so:Bool)(hT:zP p c k a b d so)(k1: ¬(enX p c k).kind=1)(k5: ¬(enX p c k).kind=5)(k4:(enX p c k).kind=4):Vc (vF_ 43 [.agg (pgA p),.agg (cfA c), aI k] [.fv,.fv,jE p c k,.b false,.b false,.b false,.b false,.b false,.b false,.b false,.b false,li p c k,.cl [.agg (pgA p),.agg (cfA c), aI k,.agg (inA (enX p c k))] (.tup [aI a, aI b, aI d,.bool false,.bool so]) [],.bd false,.bd false,.bd true] [] (.bool false) []):=al (ch p (eo p c (ep c (cj (rf (k:Int)) (cj hO (jk (cj (bi k c.b.length) (jl (cj hd (cj (bi k c.b.length) (ch p (gq p c k b (cj (bv p (c.b.getD k default).pc) (ch p (eo p c (ep c (kV p c k a b d (cj (rf ((enX p c k).tg)) (cj hT (cj (aa.2 k1) (cj (aa.2 k5) (cj (ax.2 k4) (cj (rf false) trivial)))))))))))))))))))))))
theorem t4(p:Pg)(c:Cf)(k:Nat)(b:Int){Z:Prop}(z:Z):(RF p.ls.length (RR p.ls.length 2 (fun i j=>an lbC p.ls i j) (RF p.is.length (RR p.is.length 9 (fun i j=>an inC p.is i j) (RF c.s.m.length (RR c.s.m.length 1 (fun i j=>aI (List.getD c.s.m i 0)) (RF c.b.length (RR c.b.length 8 (fun i j=>an enC c.b i j) (RF (k:Int) Z))))))))):=⟨rfl,fun _ _ _ _=>rfl,rfl,fun _ _ _ _=>rfl,rfl,fun _ _ _ _=>rfl,rfl,fun _ _ _ _=>rfl,rfl,z⟩
abbrev vr(p:Pg)(c:Cf)(k:Nat)(a:Int)(b:Int):Orc:= .cl [.agg (pgA p),lR c.s.m,enR c.b, aI k, aI (Wd.maskV p.W (a+b))] (.tup [aI (ldV p c.s.m c.b k (Wd.maskV p.W (a+b))).1, aI (ldV p c.s.m c.b k (Wd.maskV p.W (a+b))).2.1,.bool (ldV p c.s.m c.b k (Wd.maskV p.W (a+b))).2.2]) []
abbrev vt(p:Pg)(a:Int)(b:Int):Orc:= .cl [aI p.W, aI (a+b)] (aI (Wd.maskV p.W (a+b))) []
theorem GH(p:Pg)(c:Cf)(k:Nat)(hk:k<c.b.length)(hb:c.b.length<1000000)(hO:jD p c k)(hd:(c.b.getD k default).dn=false)(a b d:Int)(so:Bool)(hT:zP p c k a b d so)(k1: ¬(enX p c k).kind=1)(k5: ¬(enX p c k).kind=5)(k4: ¬(enX p c k).kind=4)(k2:(enX p c k).kind=2)(hab: -1000000<=a+b∧a+b<=1000000)(hm:c.s.m.length<1000000):Vc (vF_ 43 [.agg (pgA p),.agg (cfA c), aI k] [.fv,.fv,jE p c k,.b false,.b false,.b false,.b false,.b false,.b false,.b false,.b false,li p c k,.cl [.agg (pgA p),.agg (cfA c), aI k,.agg (inA (enX p c k))] (.tup [aI a, aI b, aI d,.bool false,.bool so]) [],.bd false,.bd false,.bd false,.bd true,vt p a b,vr p c k a b] [] (.bool false) []):=al (ch p (eo p c (ep c (cj (rf (k:Int)) (cj hO (jk (cj (bi k c.b.length) (jl (cj hd (cj (bi k c.b.length) (ch p (gq p c k b (cj (bv p (c.b.getD k default).pc) (ch p (eo p c (ep c (kV p c k a b d (cj (rf ((enX p c k).tg)) (cj hT (cj (aa.2 k1) (cj (aa.2 k5) (cj (aa.2 k4) (cj (ax.2 k2) (cj (i6 (a+b)) (cj (rf p.W) (cj (rf (a+b)) (cj (bu p.W (a+b)) (ch p (t4 p c k b (cj (rf (Wd.maskV p.W (a+b))) (cj (xR p c.s.m c.b k (Wd.maskV p.W (a+b)) hb) (cj (rf false) trivial))))))))))))))))))))))))))))))))
theorem GF(p:Pg)(c:Cf)(k:Nat)(hk:k<c.b.length)(hb:c.b.length<1000000)(hO:jD p c k)(hd:(c.b.getD k default).dn=false)(a b d:Int)(so:Bool)(hT:BJ p c k a b d so)(k1: ¬(enX p c k).kind=1)(k5: ¬(enX p c k).kind=5)(k4: ¬(enX p c k).kind=4)(k2:(enX p c k).kind=2)(hab: -1000000<=a+b∧a+b<=1000000)(hm:c.s.m.length<1000000)(ho:(c.s.m.length:Int)<=(Wd.maskV p.W (a+b))):Vc (vF_ 43 [.agg (pgA p),.agg (cfA c), aI k] [.fv,.fv,jE p c k,.b false,.b false,.b false,.b false,.b false,.b false,.b false,.b false,li p c k,vu p c k a b d so,.bd false,.bd false,.bd false,.bd true,vt p a b,vr p c k a b,.bd true] [] (.bool true) []):=al (ch p (eo p c (ep c (cj (rf (k:Int)) (cj hO (jk (cj (bi k c.b.length) (jl (cj hd (cj (bi k c.b.length) (ch p (gq p c k b (cj (bv p (c.b.getD k default).pc) (ch p (eo p c (ep c (kV p c k a b d (cj (rf ((enX p c k).tg)) (cj hT (cj (aa.2 k1) (cj (aa.2 k5) (cj (aa.2 k4) (cj (ax.2 k2) (cj (i6 (a+b)) (cj (rf p.W) (cj (rf (a+b)) (cj (bu p.W (a+b)) (ch p (t4 p c k b (cj (rf (Wd.maskV p.W (a+b))) (cj (xR p c.s.m c.b k (Wd.maskV p.W (a+b)) hb) (cj (dt (Wd.maskV p.W (a+b)>=(↑(c.s.m.length):Int))) (cj (rf true) trivial)))))))))))))))))))))))))))))))))
theorem GG(p:Pg)(c:Cf)(k:Nat)(hk:k<c.b.length)(hb:c.b.length<1000000)(hO:jD p c k)(hd:(c.b.getD k default).dn=false)(a b d:Int)(so:Bool)(hT:BJ p c k a b d so)(k1: ¬(enX p c k).kind=1)(k5: ¬(enX p c k).kind=5)(k4: ¬(enX p c k).kind=4)(k2:(enX p c k).kind=2)(hab: -1000000<=a+b∧a+b<=1000000)(hm:c.s.m.length<1000000)(ho: ¬(c.s.m.length:Int)<=(Wd.maskV p.W (a+b))):Vc (vF_ 43 [.agg (pgA p),.agg (cfA c), aI k] [.fv,.fv,jE p c k,.b false,.b false,.b false,.b false,.b false,.b false,.b false,.b false,li p c k,vu p c k a b d so,.bd false,.bd false,.bd false,.bd true,vt p a b,vr p c k a b,.bd false] [] (.bool (ldV p c.s.m c.b k (Wd.maskV p.W (a+b))).2.2) []):=al (ch p (eo p c (ep c (cj (rf (k:Int)) (cj hO (jk (cj (bi k c.b.length) (jl (cj hd (cj (bi k c.b.length) (ch p (gq p c k b (cj (bv p (c.b.getD k default).pc) (ch p (eo p c (ep c (kV p c k a b d (cj (rf ((enX p c k).tg)) (cj hT (cj (aa.2 k1) (cj (aa.2 k5) (cj (aa.2 k4) (cj (ax.2 k2) (cj (i6 (a+b)) (cj (rf p.W) (cj (rf (a+b)) (cj (bu p.W (a+b)) (ch p (t4 p c k b (cj (rf (Wd.maskV p.W (a+b))) (cj (xR p c.s.m c.b k (Wd.maskV p.W (a+b)) hb) (cj (df (Wd.maskV p.W (a+b)>=(↑(c.s.m.length):Int))) (cj (rf (Prod.snd (Prod.snd (ldV p c.s.m c.b (k:Int) (Wd.maskV p.W (a+b)))))) trivial)))))))))))))))))))))))))))))))))
theorem I3(p:Pg)(c:Cf)(k:Nat)(hk:k<c.b.length)(hb:c.b.length<1000000)(hO:jD p c k)(hd:(c.b.getD k default).dn=false)(a b d:Int)(ab:Bool)(so:Bool)(hT:qH p c k a b d ab so)(k1: ¬(enX p c k).kind=1)(k5: ¬(enX p c k).kind=5)(k4: ¬(enX p c k).kind=4)(k2: ¬(enX p c k).kind=2)(k3:(enX p c k).kind=3):Vc (vF_ 43 [.agg (pgA p),.agg (cfA c), aI k] [.fv,.fv,jE p c k,.b false,.b false,.b false,.b false,.b false,.b false,.b false,.b false,li p c k,qJ p c k a b d ab so,.bd false,.bd false,.bd false,.bd false,.bd true] [] (.bool so) []):=al (ch p (eo p c (ep c (cj (rf (k:Int)) (cj hO (jk (cj (bi k c.b.length) (jl (cj hd (cj (bi k c.b.length) (ch p (gq p c k b (cj (bv p (c.b.getD k default).pc) (ch p (eo p c (ep c (kV p c k a b d (cj (rf ((enX p c k).tg)) (cj hT (cj (aa.2 k1) (cj (aa.2 k5) (cj (aa.2 k4) (cj (aa.2 k2) (cj (ax.2 k3) (cj (rf so) trivial)))))))))))))))))))))))))
theorem I1(p:Pg)(c:Cf)(k:Nat)(hk:k<c.b.length)(hb:c.b.length<1000000)(hO:jD p c k)(hd:(c.b.getD k default).dn=false)(a b d:Int)(ab:Bool)(so:Bool)(hT:qH p c k a b d ab so)(k1: ¬(enX p c k).kind=1)(k5: ¬(enX p c k).kind=5)(k4: ¬(enX p c k).kind=4)(k2: ¬(enX p c k).kind=2)(k3: ¬(enX p c k).kind=3)(k7:(enX p c k).kind=7):Vc (vF_ 43 [.agg (pgA p),.agg (cfA c), aI k] [.fv,.fv,jE p c k,.b false,.b false,.b false,.b false,.b false,.b false,.b false,.b false,li p c k,qJ p c k a b d ab so,.bd false,.bd false,.bd false,.bd false,.bd false,.bd true,.cl [.agg (pgA p),.agg (rgA c.s),enR c.b, aI k,.agg (vlA (enX p c k).a)] (.tup [aI (cC p c.s c.b k (enX p c k).a).1,.bool (cC p c.s c.b k (enX p c k).a).2]) []] [] (.bool (cC p c.s c.b k (enX p c k).a).2) []):=al (ch p (eo p c (ep c (cj (rf (k:Int)) (cj hO (jk (cj (bi k c.b.length) (jl (cj hd (cj (bi k c.b.length) (ch p (gq p c k b (cj (bv p (c.b.getD k default).pc) (ch p (eo p c (ep c (kV p c k a b d (cj (rf ((enX p c k).tg)) (cj hT (cj (aa.2 k1) (cj (aa.2 k5) (cj (aa.2 k4) (cj (aa.2 k2) (cj (aa.2 k3) (cj (ax.2 k7) (ch p (qt p c (cj (rr c.b.length 8 fun i j=>an enC c.b i j) (cj (rf (k:Int)) (cj (rf ((enX p c k).a.reg)) (cj (rf ((enX p c k).a.n)) (cj (pj p c.s c.b k (enX p c k).a hb) (cj (rf (Prod.snd (cC p c.s c.b (k:Int) (enX p c k).a))) trivial)))))))))))))))))))))))))))))))))
theorem IY(p:Pg)(c:Cf)(k:Nat)(hk:k<c.b.length)(hb:c.b.length<1000000)(hO:jD p c k)(hd:(c.b.getD k default).dn=false)(a b d:Int)(ab:Bool)(so:Bool)(hT:qH p c k a b d ab so)(k1: ¬(enX p c k).kind=1)(k5: ¬(enX p c k).kind=5)(k4: ¬(enX p c k).kind=4)(k2: ¬(enX p c k).kind=2)(k3: ¬(enX p c k).kind=3)(k7: ¬(enX p c k).kind=7):Vc (vF_ 43 [.agg (pgA p),.agg (cfA c), aI k] [.fv,.fv,jE p c k,.b false,.b false,.b false,.b false,.b false,.b false,.b false,.b false,li p c k,qJ p c k a b d ab so,.bd false,.bd false,.bd false,.bd false,.bd false,.bd false] [] (.bool ((enX p c k).kind==9)) []):=al (ch p (eo p c (ep c (cj (rf (k:Int)) (cj hO (jk (cj (bi k c.b.length) (jl (cj hd (cj (bi k c.b.length) (ch p (gq p c k b (cj (bv p (c.b.getD k default).pc) (ch p (eo p c (ep c (kV p c k a b d (cj (rf ((enX p c k).tg)) (cj hT (cj (aa.2 k1) (cj (aa.2 k5) (cj (aa.2 k4) (cj (aa.2 k2) (cj (aa.2 k3) (cj (aa.2 k7) (cj (rf ((enX p c k).kind==(9:Int))) trivial))))))))))))))))))))))))))
theorem oy{p:Pg}{c:Cf}{i:Int}(h:opV p c i=true): ∃k:Nat,i=(k:Int)∧k<c.b.length:=by
 unfold opV at h
 split at h
 ·exact⟨i.toNat,by omega,by omega⟩
 ·cases h
def Sml(p:Pg)(c:Cf):Prop:= ∀i x,0<=(tA p c i x).1∧(tA p c i x).1<=65535∧0<=(tB p c i x).1∧(tB p c i x).1<=65535
theorem Sml.add{p:Pg}{c:Cf}(h:Sml p c)(i:Int)(x:In): -1000000<=(tA p c i x).1+(tB p c i x).1∧(tA p c i x).1+(tB p c i x).1<=1000000:=by
 have:=h i x;omega
theorem zO(p:Pg)(c:Cf)(i:Int)(hb:c.b.length<1000000)(hm:c.s.m.length<1000000)(hv:Sml p c):pC_ 43 [.agg (pgA p),.agg (cfA c),.int .i64 i] (.bool (cnV p c i)) []:=by
 unfold cnV
 have hO:=EL p c i hb
 cases ho:opV p c i with
 |false=>rw[ho] at hO;exact PureC.vc (IX p c i hO)
 |true=>
  rw[ho] at hO
  obtain⟨k,rfl,hk⟩:=oy ho
  rw[cM,aK]
  cases hd:(c.b.getD k default).dn with
  |true=>exact PureC.vc (I0 p c k hk hb hO hd)
  |false=>
   rw[Bool.not_false,cM]
   have hT:=xJ p c k (enX p c k) hb
   have ha:=hv.add k (enX p c k)
   unfold cnK
   by_cases k1:(enX p c k).kind=1
   ·rw[ai k1];exact PureC.vc (I4 p c k hk hb hO hd _ _ _ _ _ hT k1)
   rw[ah k1]
   by_cases k5:(enX p c k).kind=5
   ·rw[ai k5];exact PureC.vc (I2 p c k hk hb hO hd _ _ _ _ _ hT k1 k5)
   rw[ah k5]
   by_cases k4:(enX p c k).kind=4
   ·rw[ai k4]
    cases hab:tAB p c k (enX p c k) with
    |false=>rw[hab] at hT;exact PureC.vc (GE p c k hk hb hO hd _ _ _ _ hT k1 k5 k4)
    |true=>rw[hab] at hT;rw[cM];exact PureC.vc (GD p c k hk hb hO hd _ _ _ _ hT k1 k5 k4)
   rw[ah k4]
   by_cases k2:(enX p c k).kind=2
   ·rw[ai k2]
    cases hab:tAB p c k (enX p c k) with
    |false=>rw[hab] at hT;exact PureC.vc (GH p c k hk hb hO hd _ _ _ _ hT k1 k5 k4 k2 ha hm)
    |true=>
     rw[hab] at hT;rw[cM]
     by_cases ho:(c.s.m.length:Int)<=adV p c k (enX p c k)
     ·rw[bL ho,mT];exact PureC.vc (GF p c k hk hb hO hd _ _ _ _ hT k1 k5 k4 k2 ha hm ho)
     ·rw[bC ho,cZ];exact PureC.vc (GG p c k hk hb hO hd _ _ _ _ hT k1 k5 k4 k2 ha hm ho)
   rw[ah k2]
   by_cases k3:(enX p c k).kind=3
   ·rw[ai k3];exact PureC.vc (I3 p c k hk hb hO hd _ _ _ _ _ hT k1 k5 k4 k2 k3)
   rw[ah k3]
   by_cases k7:(enX p c k).kind=7
   ·rw[ai k7];exact PureC.vc (I1 p c k hk hb hO hd _ _ _ _ _ hT k1 k5 k4 k2 k3 k7)
   rw[ah k7];exact PureC.vc (IY p c k hk hb hO hd _ _ _ _ _ hT k1 k5 k4 k2 k3 k7)
theorem I9(p:Pg)(c:Cf)(i:Int)(hO:E3 p c i):Vc (vF_ 44 [.agg (pgA p),.agg (cfA c), aI i] [.fv,.fv,.cl [.agg (pgA p),.agg (cfA c), aI i] (.bool false) []] [] (.bool false) []):=al (ch p (eo p c (ep c (cj (rf i) (cj hO (cj (rf false) trivial))))))
theorem Jb(p:Pg)(c:Cf)(k:Nat)(hk:k<c.b.length)(hb:c.b.length<1000000)(hO:jD p c k)(hd:(c.b.getD k default).kn=true):Vc (vF_ 44 [.agg (pgA p),.agg (cfA c), aI k] [.fv,.fv,jE p c k,.b false,.b false,.b false,.b false,.b false,.b false,.b false,.b true] [] (.bool false) []):=al (ch p (eo p c (ep c (cj (rf (k:Int)) (cj hO (jk (cj (bi k c.b.length) (jl (cj hd (cj (rf false) trivial))))))))))
theorem Ja(p:Pg)(c:Cf)(k:Nat)(hk:k<c.b.length)(hb:c.b.length<1000000)(hO:jD p c k)(hd:(c.b.getD k default).kn=false)(a b d:Int)(ab so:Bool)(hT:qH p c k a b d ab so)(k3: ¬(enX p c k).kind=3):Vc (vF_ 44 [.agg (pgA p),.agg (cfA c), aI k] [.fv,.fv,jE p c k,.b false,.b false,.b false,.b false,.b false,.b false,.b false,.b false,li p c k,qJ p c k a b d ab so,.bd false] [] (.bool false) []):=al (ch p (eo p c (ep c (cj (rf (k:Int)) (cj hO (jk (cj (bi k c.b.length) (jl (cj hd (cj (bi k c.b.length) (ch p (gq p c k b (cj (bv p (c.b.getD k default).pc) (ch p (eo p c (ep c (kV p c k a b d (cj (rf ((enX p c k).tg)) (cj hT (cj (aa.2 k3) (cj (rf false) trivial)))))))))))))))))))))
theorem I8(p:Pg)(c:Cf)(k:Nat)(hk:k<c.b.length)(hb:c.b.length<1000000)(hO:jD p c k)(hd:(c.b.getD k default).kn=false)(a b d:Int)(ab so:Bool)(hT:qH p c k a b d ab so)(k3:(enX p c k).kind=3):Vc (vF_ 44 [.agg (pgA p),.agg (cfA c), aI k] [.fv,.fv,jE p c k,.b false,.b false,.b false,.b false,.b false,.b false,.b false,.b false,li p c k,qJ p c k a b d ab so,.bd true] [] (.bool ab) []):=al (ch p (eo p c (ep c (cj (rf (k:Int)) (cj hO (jk (cj (bi k c.b.length) (jl (cj hd (cj (bi k c.b.length) (ch p (gq p c k b (cj (bv p (c.b.getD k default).pc) (ch p (eo p c (ep c (kV p c k a b d (cj (rf ((enX p c k).tg)) (cj hT (cj (ax.2 k3) (cj (rf ab) trivial)))))))))))))))))))))
theorem EY(p:Pg)(c:Cf)(i:Int)(hb:c.b.length<1000000):pC_ 44 [.agg (pgA p),.agg (cfA c),.int .i64 i] (.bool (caV p c i)) []:=by
 unfold caV
 have hO:=EL p c i hb
 cases ho:opV p c i with
 |false=>rw[ho] at hO;exact PureC.vc (I9 p c i hO)
 |true=>
  rw[ho] at hO
  obtain⟨k,rfl,hk⟩:=oy ho
  rw[cM,aK]
  cases hd:(c.b.getD k default).kn with
  |true=>exact PureC.vc (Jb p c k hk hb hO hd)
  |false=>
   rw[Bool.not_false,cM]
   have hT:=xJ p c k (enX p c k) hb
   by_cases k3:(enX p c k).kind=3
   ·rw[ax.2 k3,cM];exact PureC.vc (I8 p c k hk hb hO hd _ _ _ _ _ hT k3)
   ·rw[aa.2 k3,Bool.false_and];exact PureC.vc (Ja p c k hk hb hO hd _ _ _ _ _ hT k3)
theorem IV(p:Pg)(c:Cf)(h0: ¬c.e=0):Vc (vF_ 40 [.agg (pgA p),.agg (cfA c)] [.fv,.fv,.bd true] [] (.bool false) []):=al (cj (bG.2 h0) (cj (rf false) trivial))
theorem IU(p:Pg)(c:Cf)(h0:c.e=0)(hl:c.b.length=0):Vc (vF_ 40 [.agg (pgA p),.agg (cfA c)] [.fv,.fv,.bd false,.bd true] [] (.bool false) []):=al (cj (aw.2 h0) (cj (e1 c.b.length 0) (cj (rf false) trivial)))
theorem rk(p:Pg)(c:Cf){Z:Prop}(z:Z):(RF p.ls.length (RR p.ls.length 2 (fun i j=>an lbC p.ls i j) (RF p.is.length (RR p.is.length 9 (fun i j=>an inC p.is i j) (RF ((c.b.getD 0 default).pc) Z))))):=⟨rfl,fun _ _ _ _=>rfl,rfl,fun _ _ _ _=>rfl,rfl,z⟩
abbrev r9(p:Pg)(c:Cf):Orc:= .cl [.agg (pgA p), aI (c.b.getD 0 default).pc] (.agg (inA (enX p c 0))) []
theorem GB(p:Pg)(c:Cf)(h0:c.e=0)(hl: ¬c.b.length=0)(hd:(c.b.getD 0 default).dn=true)(k3:(enX p c 0).kind=3):Vc (vF_ 40 [.agg (pgA p),.agg (cfA c)] [.fv,.fv,.bd false,.bd false,r9 p c,.b true,.b true,.b true,.bd false] [] (.bool (c.b.getD 0 default).kn) []):=al (cj (aw.2 h0) (cj (e0 c.b.length 0) (cj (pv ((0:Int)<=0∧(0:Int)<c.b.length)) (ch p (rk p c (cj (bv p (c.b.getD 0 default).pc) (cj hd (cj hd (cj hd (cj (aw.2 k3) (cj (rf ((c.b.getD 0 default).kn)) trivial)))))))))))
theorem GA(p:Pg)(c:Cf)(h0:c.e=0)(hl: ¬c.b.length=0)(hd:(c.b.getD 0 default).dn=true)(k3: ¬(enX p c 0).kind=3):Vc (vF_ 40 [.agg (pgA p),.agg (cfA c)] [.fv,.fv,.bd false,.bd false,r9 p c,.b true,.b true,.b true,.bd true] [] (.bool true) []):=al (cj (aw.2 h0) (cj (e0 c.b.length 0) (cj (pv ((0:Int)<=0∧(0:Int)<c.b.length)) (ch p (rk p c (cj (bv p (c.b.getD 0 default).pc) (cj hd (cj hd (cj hd (cj (bG.2 k3) (cj (rf true) trivial)))))))))))
theorem CM(p:Pg)(c:Cf)(h0:c.e=0)(hl: ¬c.b.length=0)(hd:(c.b.getD 0 default).dn=false)(k10:(enX p c 0).kind=10)(k3: ¬(enX p c 0).kind=3):Vc (vF_ 40 [.agg (pgA p),.agg (cfA c)] [.fv,.fv,.bd false,.bd false,r9 p c,.b false,.b false,.bd true,.b false,.bd true] [] (.bool true) []):=al (cj (aw.2 h0) (cj (e0 c.b.length 0) (cj (pv ((0:Int)<=0∧(0:Int)<c.b.length)) (ch p (rk p c (cj (bv p (c.b.getD 0 default).pc) (cj hd (cj hd (cj (e1 ((enX p c 0).kind) 10) (cj hd (cj (bG.2 k3) (cj (rf true) trivial))))))))))))
theorem GC(p:Pg)(c:Cf)(h0:c.e=0)(hl: ¬c.b.length=0)(hd:(c.b.getD 0 default).dn=false)(k10: ¬(enX p c 0).kind=10):Vc (vF_ 40 [.agg (pgA p),.agg (cfA c)] [.fv,.fv,.bd false,.bd false,r9 p c,.b false,.b false,.bd false,.b false] [] (.bool false) []):=al (cj (aw.2 h0) (cj (e0 c.b.length 0) (cj (pv ((0:Int)<=0∧(0:Int)<c.b.length)) (ch p (rk p c (cj (bv p (c.b.getD 0 default).pc) (cj hd (cj hd (cj (e0 ((enX p c 0).kind) 10) (cj hd (cj (rf false) trivial)))))))))))
theorem EX(p:Pg)(c:Cf):pC_ 40 [.agg (pgA p),.agg (cfA c)] (.bool (crV p c)) []:=by
 by_cases h0:c.e=0
 ·by_cases hl:c.b.length=0
  ·have e:crV p c=false:=by unfold crV;rw[ai h0,bz hl]
   rw[e];exact PureC.vc (IU p c h0 hl)
  ·have e:crV p c=crE p (c.b.getD 0 default) []:=by
    unfold crV;rw[ai h0]
    cases h:c.b with
    |nil=>exact absurd (by rw[h];rfl) hl
    |cons a l=>rfl
   rw[e]
   unfold crE
   show PureC _ _ _ (.bool (((c.b.getD 0 default).dn||(enX p c 0).kind==10)&&((enX p c 0).kind !=3||(c.b.getD 0 default).kn))) _
   cases hd:(c.b.getD 0 default).dn with
   |true=>
    rw[mT,cM]
    by_cases k3:(enX p c 0).kind=3
    ·rw[aw.2 k3,cZ];exact PureC.vc (GB p c h0 hl hd k3)
    ·rw[bG.2 k3,mT];exact PureC.vc (GA p c h0 hl hd k3)
   |false=>
    rw[cZ]
    by_cases k10:(enX p c 0).kind=10
    ·have k3: ¬(enX p c 0).kind=3:=by omega
     rw[ax.2 k10,cM,bG.2 k3,mT];exact PureC.vc (CM p c h0 hl hd k10 k3)
    ·rw[aa.2 k10,Bool.false_and];exact PureC.vc (GC p c h0 hl hd k10)
 ·have e:crV p c=false:=by unfold crV;rw[ah h0]
  rw[e];exact PureC.vc (IV p c h0)
theorem zl(p:Pg){Z:Prop}(z:Z):(RF p.W (RF p.win (RF p.fuel (RF p.r0 (RF p.r1 (RF p.r2 (RF p.r3 (RF p.ms.length (RR p.ms.length 3 (fun i j=>an mmC p.ms i j) Z))))))))):=⟨rfl,rfl,rfl,rfl,rfl,rfl,rfl,rfl,fun _ _ _ _=>rfl,z⟩
theorem BB(p:Pg)(l:List En)(i:Int)(L:List Int)(N:Nat)(g:Nat->Nat->AV)(n:Nat)(hg: ∀a,a<L.length->g a 0= aI (L.getD a 0))(hN:L.length<=N):Vc ((uB 0 L.length (reS p l i L N g n) [(0,0)] (reS p l i L L.length (dz L) n))):=al (cj (pv (L.length<=N)) (cj (pv ((0:Nat)+L.length<=L.length)) (cj (rf L.length) (cj (show ∀(i:Nat),i<L.length-> ∀(j:Nat),j<1->g i j=aI (L.getD i 0) from(fun i hi j hj=>by obtain rfl:j=0:=(by omega);exact hg i hi)) (zl p (cj (rf p.ls.length) (cj (rr p.ls.length 2 fun i j=>an lbC p.ls i j) (cj (rf p.is.length) (cj (rr p.is.length 9 fun i j=>an inC p.is i j) (cj (rf l.length) (cj (rr l.length 8 fun i j=>an enC l i j) (cj (rf i) (cj (rf (0:Nat)) (cj (rf L.length) (cj (rf (n:Int)) (cj (rf false) trivial))))))))))))))))
theorem Bz(p:Pg)(st:List Int)(l:List En)(i:Int)(L:List Int)(n:Nat)(hst:st.length<=1000000)(h:oL_ 63 0 (reS p l i st st.length (dz st) 0).st (.ext 0) (reS p l i L L.length (dz L) n).st):Vc (vF_ 63 [.agg (pgA p),lR st,enR l, aI i] [.fz,.lp [(0,1)] (reS p l i st st.length (dz st) 0) (.ext 0) (reS p l i L L.length (dz L) n)] [(0,0)] (.tup [.own 0 0 1 0 L.length,.bool true]) (lj [(3,L)])):=al (cj (ap 0 st.length 8) (cj (za st.length) (cj (rr (0+st.length) 1 fun i j=>aI (st.getD i 0)) (zl p (cj (rf p.ls.length) (cj (rr p.ls.length 2 fun i j=>an lbC p.ls i j) (cj (rf p.is.length) (cj (rr p.is.length 9 fun i j=>an inC p.is i j) (cj (rf l.length) (cj (rr l.length 8 fun i j=>an enC l i j) (cj (rf i) (cj (rf (0:Nat)) (cj (za st.length) (cj (rf (0:Int)) (cj (rf false) (cj h (cj (rf L.length) (cj (rr L.length 1 fun i j=>aI (L.getD i 0)) (cj (rf (0:Nat)) (cj (rf L.length) (cj (rf true) trivial)))))))))))))))))))))
theorem uZ(p:Pg)(st:List Int)(l:List En)(i:Int)(L:List Int)(hb:l.length<900000)(hst:st.length<=1000)(hpc: ∀e∈l, -1<=e.pc∧e.pc<=1000000)(h:reV p st l i=some L):pC_ 63 [.agg (pgA p),lR st,enR l,.int .i64 i] (.tup [.own 0 0 1 0 L.length,.bool true]) (lj [(3,L)]):=by
 have hle:=jg i l.length
 obtain⟨N',g',q1,q2,q3⟩:=jB p l i L (by omega) hpc _ 0 st st.length (dz st) (by omega) ⟨aB _,fun a _=>rfl⟩ (by omega) h
 exact PureC.vc (Bz p st l i L _ (by omega) (Ok.shr q3.ok (BB p l i L N' g' _ q1.2 q1.1)))
def upE(c:Cf)(k:Nat)(g:En->En):Cf:=⟨c.s,c.b.set k (g (c.b.getD k default)),c.r,c.e⟩
def En.done(e:En):En:={e with dn:=true}
def En.vl(v:Int)(e:En):En:={e with val:=v}
def En.flt(e:En):En:={e with ft:=true}
def En.ad(a:Int)(e:En):En:={e with adr:=a,kn:=true}
def En.ld(v f:Int)(e:En):En:={e with val:=v,frm:=f}
def En.to(t:Int)(e:En):En:={e with nxt:=t}
def cfO(c:Cf)(o:AV):List AV:=s8R c.s++[o,lR c.r,.int .i64 c.e]
theorem jO{i k:Nat}(h:Nat.beq (i+0) (k+0)=true):k=i:=(aj h).symm
theorem de{b:List En}{k:Nat}{e:En}(hk:k<b.length)(j:Nat):an enC (b.set k e) k j=enC e j:=by
 unfold an;simp[List.getD,hk]
theorem e9{b:List En}{i k:Nat}{e:En}(h:Nat.beq (i+0) (k+0)=false)(j:Nat):an enC (b.set k e) i j=an enC b i j:=by
 have hne: ¬i=k:=fun e=>by subst e;simp at h
 unfold an;simp[List.getD,cd,Ne.symm hne]
theorem qr(c:Cf){Z:Prop}(z:Z):(RR c.s.m.length 1 (fun i j=>aI (List.getD c.s.m i 0)) (RF c.s.st.length (RR c.s.st.length 1 (fun i j=>aI (List.getD c.s.st i 0)) (RF c.s.pc (RF c.b.length (RR c.b.length 8 (fun i j=>an enC c.b i j) (RF c.r.length (RR c.r.length 1 (fun i j=>aI (c.r.getD i 0)) (RF c.e Z))))))))):=⟨fun _ _ _ _=>rfl,rfl,fun _ _ _ _=>rfl,rfl,rfl,fun _ _ _ _=>rfl,rfl,fun _ _ _ _=>rfl,rfl,z⟩
theorem jS(p:Pg)(c:Cf){Z:Prop}(z:Z):(RF p.ls.length (RR p.ls.length 2 (fun i j=>an lbC p.ls i j) (RF p.is.length (RR p.is.length 9 (fun i j=>an inC p.is i j) (RF c.s.r0 (RF c.s.r1 (RF c.s.r2 (RF c.s.r3 (RF c.s.m.length Z))))))))):=⟨rfl,fun _ _ _ _=>rfl,rfl,fun _ _ _ _=>rfl,rfl,rfl,rfl,rfl,rfl,z⟩
theorem fD(p:Pg){Z:Prop}(z:Z):(RF p.W (RF p.win (RF p.fuel (RF p.r0 (RF p.r1 (RF p.r2 (RF p.r3 (RF p.ms.length (RR p.ms.length 3 (fun i j=>an mmC p.ms i j) Z))))))))):=⟨rfl,rfl,rfl,rfl,rfl,rfl,rfl,rfl,fun _ _ _ _=>rfl,z⟩
theorem IK(p:Pg)(c:Cf)(i:Int)(hC:pC_ 43 [.agg (pgA p),.agg (cfA c), aI i] (.bool false) []):Vc (vF_ 46 [.agg (pgA p),.agg (cfA c), aI i] [.fv,.cl [.agg (pgA p),.agg (cfA c), aI i] (.bool false) []] [] (.tup [.agg (cfA Cf0),.nils,.bool false]) []):=al (fD p (jS p c (qr c (cj (rf i) (cj hC (cj (rf (0:Int)) (cj (rf (0:Int)) (cj (rf (0:Int)) (cj (rf (0:Int)) (cj (rf (0:Nat)) (cj (rf (0:Nat)) (cj (rf (0:Int)) (cj (rf (0:Nat)) (cj (rf (0:Nat)) (cj (rf (0:Int)) (cj (rf false) trivial))))))))))))))))
theorem s9(c:Cf)(k:Nat)(hk:k<c.b.length): ∀(i:Nat),i<0+c.b.length-> ∀(j:Nat),j<8->(bif Nat.ble (5:Nat) j&&Nat.blt j (6:Nat)&&Nat.beq (i+0) (k+0) then List.getD [AV.bool true] (j-5) AV.junk else bif Nat.blt (i+0) (0:Nat) then AV.junk else an enC c.b (i+0-0) j)=an enC (List.set c.b k (En.done (c.b.getD k default))) i j:=(fun i hi j hj=>by cases hq:Nat.beq (i+0) (k+0) with |true=>obtain rfl:=jO hq;rw[de hk];exact(match j,hj with |0,_=>rfl |1,_=>rfl |2,_=>rfl |3,_=>rfl |4,_=>rfl |5,_=>rfl |6,_=>rfl |7,_=>rfl)|false=>rw[e9 hq];exact(match j,hj with |0,_=>rfl |1,_=>rfl |2,_=>rfl |3,_=>rfl |4,_=>rfl |5,_=>rfl |6,_=>rfl |7,_=>rfl))
theorem t0(c:Cf){Z:Prop}(z:Z):(RF c.r.length (RR c.r.length 1 (fun i j=>aI (c.r.getD i 0)) (RF c.e (RF true Z)))):=⟨rfl,fun _ _ _ _=>rfl,rfl,rfl,z⟩
theorem sS(c:Cf){Z:Prop}(z:Z):(RF c.s.r0 (RF c.s.r1 (RF c.s.r2 (RF c.s.r3 (RF c.s.m.length (RR c.s.m.length 1 (fun i j=>aI (List.getD c.s.m i 0)) (RF c.s.st.length (RR c.s.st.length 1 (fun i j=>aI (List.getD c.s.st i 0)) (RF c.s.pc Z))))))))):=⟨rfl,rfl,rfl,rfl,rfl,fun _ _ _ _=>rfl,rfl,fun _ _ _ _=>rfl,rfl,z⟩
theorem sR(p:Pg)(c:Cf)(k:Nat)(b:Int){Z:Prop}(z:Z):(RF ((enX p c k).b.reg) (RF ((enX p c k).b.n) (RF ((enX p c k).nm) (RF ((enX p c k).tg) Z)))):=⟨rfl,rfl,rfl,rfl,z⟩
theorem sQ(p:Pg)(c:Cf)(k:Nat)(a:Int)(d:Int){Z:Prop}(z:Z):(RF c.r.length (RR c.r.length 1 (fun i j=>aI (c.r.getD i 0)) (RF c.e (RF (k:Int) (RF ((enX p c k).kind) (RF ((enX p c k).op) (RF ((enX p c k).d) (RF ((enX p c k).a.reg) (RF ((enX p c k).a.n) Z))))))))):=⟨rfl,fun _ _ _ _=>rfl,rfl,rfl,rfl,rfl,rfl,rfl,rfl,z⟩
theorem sP(c:Cf){Z:Prop}(z:Z):(RR c.s.m.length 1 (fun i j=>aI (List.getD c.s.m i 0)) (RF c.s.st.length (RR c.s.st.length 1 (fun i j=>aI (List.getD c.s.st i 0)) (RF c.s.pc Z)))):=⟨fun _ _ _ _=>rfl,rfl,fun _ _ _ _=>rfl,rfl,z⟩
theorem sO(p:Pg)(c:Cf)(k:Nat)(b:Int){Z:Prop}(z:Z):(RF p.ls.length (RR p.ls.length 2 (fun i j=>an lbC p.ls i j) (RF p.is.length (RR p.is.length 9 (fun i j=>an inC p.is i j) (RF ((c.b.getD k default).pc) Z))))):=⟨rfl,fun _ _ _ _=>rfl,rfl,fun _ _ _ _=>rfl,rfl,z⟩
abbrev th(p:Pg)(c:Cf)(k:Nat)(a:Int)(b:Int)(d:Int)(ab:Bool)(so:Bool):Prop:=PureC Try.prog 60 [.agg (pgA p),.agg (cfA (upE c k En.done)),.int .i64 k,.agg (inA (enX p c k))] (.tup [.int .i64 a,.int .i64 b,.int .i64 d,.bool ab,.bool so]) []
abbrev ti(p:Pg)(c:Cf)(k:Nat):Prop:=PureC Try.prog 43 [.agg (pgA p),.agg (cfA c),.int .i64 k] (.bool true) []
abbrev tn(p:Pg)(c:Cf)(k:Nat)(a:Int)(b:Int)(d:Int)(ab:Bool)(so:Bool):Orc:= .cp [.agg (pgA p),.agg (cfA (upE c k En.done)), aI k,.agg (inA (enX p c k))] (.tup [aI a, aI b, aI d,.bool ab,.bool so])
abbrev tp(p:Pg)(c:Cf)(k:Nat):Orc:= .cl [.agg (pgA p), aI (c.b.getD k default).pc] (.agg (inA (enX p c k))) []
abbrev tq(p:Pg)(c:Cf)(k:Nat):Orc:= .cl [.agg (pgA p),.agg (cfA c), aI k] (.bool true) []
theorem IQ(p:Pg)(c:Cf)(k:Nat)(hk:k<c.b.length)(hb:c.b.length<900000)(a b d:Int)(ab so:Bool)(hC:ti p c k)(hT:th p c k a b d ab so)(k1:(enX p c k).kind=1):Vc (vF_ 46 [.agg (pgA p),.agg (cfA c), aI k] [.fv,tq p c k,tp p c k,tn p c k a b d ab so,.bd true,.cl [aI p.W, aI (enX p c k).op, aI a, aI b] (.tup [aI (Wd.doV p.W (enX p c k).op a b),.bool (Wd.doB p.W (enX p c k).op)]) []] [] (.tup [.agg (cfA (upE c k fun e=>e.done.vl (Wd.doV p.W (enX p c k).op a b))),.nils,.bool true]) []):=al (fD p (jS p c (qr c (cj (rf (k:Int)) (cj hC (cj (ap 0 c.b.length 48) (cj (bi k (↑((0:Nat)+c.b.length):Int)) (cj (lz k c.b.length) (cj (lz k c.b.length) (fD p (sO p c k b (cj (bv p (c.b.getD k default).pc) (fD p (jS p c (sP c (cj (pv ((0:Nat)+c.b.length=(List.set c.b k (En.done (c.b.getD k default))).length)) (cj (s9 c k hk) (sQ p c k a d (sR p c k b (cj hT (cj (ax.2 k1) (cj (rf p.W) (cj (rf ((enX p c k).op)) (cj (rf a) (cj (rf b) (cj (BE p.W (enX p c k).op a b) (cj (lz k c.b.length) (sS c (cj (pv ((0:Nat)+c.b.length=(List.set c.b k (En.vl (Wd.doV p.W (enX p c k).op a b) (En.done (c.b.getD k default)))).length)) (cj (show ∀(i:Nat),i<0+c.b.length-> ∀(j:Nat),j<8->(bif Nat.ble (1:Nat) j&&Nat.blt j (2:Nat)&&Nat.beq (i+0) (k+0) then List.getD [aI (Wd.doV p.W (enX p c k).op a b)] (j-1) AV.junk else bif Nat.ble (5:Nat) j&&Nat.blt j (6:Nat)&&Nat.beq (i+0) (k+0) then List.getD [AV.bool true] (j-5) AV.junk else bif Nat.blt (i+0) (0:Nat) then AV.junk else an enC c.b (i+0-0) j)=an enC (List.set c.b k (En.vl (Wd.doV p.W (enX p c k).op a b) (En.done (c.b.getD k default)))) i j from(fun i hi j hj=>by cases hq:Nat.beq (i+0) (k+0) with |true=>obtain rfl:=jO hq;rw[de hk];exact(match j,hj with |0,_=>rfl |1,_=>rfl |2,_=>rfl |3,_=>rfl |4,_=>rfl |5,_=>rfl |6,_=>rfl |7,_=>rfl)|false=>rw[e9 hq];exact(match j,hj with |0,_=>rfl |1,_=>rfl |2,_=>rfl |3,_=>rfl |4,_=>rfl |5,_=>rfl |6,_=>rfl |7,_=>rfl))) (t0 c trivial)))))))))))))))))))))))))))))))
theorem Gv(p:Pg)(c:Cf)(k:Nat)(hk:k<c.b.length)(hb:c.b.length<900000)(a b d:Int)(ab so:Bool)(hC:ti p c k)(hT:th p c k a b d ab so)(ha: ¬a=0)(k1: ¬(enX p c k).kind=1)(k4:(enX p c k).kind=4):Vc (vF_ 46 [.agg (pgA p),.agg (cfA c), aI k] [.fv,tq p c k,tp p c k,tn p c k a b d ab so,.bd false,.bd true,.bd true] [] (.tup [.agg (cfA (upE c k fun e=>e.done.vl b)),.nils,.bool true]) []):=al (fD p (jS p c (qr c (cj (rf (k:Int)) (cj hC (cj (ap 0 c.b.length 48) (cj (bi k (↑((0:Nat)+c.b.length):Int)) (cj (lz k c.b.length) (cj (lz k c.b.length) (fD p (sO p c k b (cj (bv p (c.b.getD k default).pc) (fD p (jS p c (sP c (cj (pv ((0:Nat)+c.b.length=(List.set c.b k (En.done (c.b.getD k default))).length)) (cj (s9 c k hk) (sQ p c k a d (sR p c k b (cj hT (cj (aa.2 k1) (cj (ax.2 k4) (cj (lz k c.b.length) (cj (n1 a 0) (cj (lz k c.b.length) (sS c (cj (pv ((0:Nat)+c.b.length=(List.set c.b k (En.vl b (En.done (c.b.getD k default)))).length)) (cj (show ∀(i:Nat),i<0+c.b.length-> ∀(j:Nat),j<8->(bif Nat.ble (1:Nat) j&&Nat.blt j (2:Nat)&&Nat.beq (i+0) (k+0) then List.getD [aI b] (j-1) AV.junk else bif Nat.ble (1:Nat) j&&Nat.blt j (2:Nat)&&Nat.beq (i+0) (k+0) then List.getD [aI d] (j-1) AV.junk else bif Nat.ble (5:Nat) j&&Nat.blt j (6:Nat)&&Nat.beq (i+0) (k+0) then List.getD [AV.bool true] (j-5) AV.junk else bif Nat.blt (i+0) (0:Nat) then AV.junk else an enC c.b (i+0-0) j)=an enC (List.set c.b k (En.vl b (En.done (c.b.getD k default)))) i j from(fun i hi j hj=>by cases hq:Nat.beq (i+0) (k+0) with |true=>obtain rfl:=jO hq;rw[de hk];exact(match j,hj with |0,_=>rfl |1,_=>rfl |2,_=>rfl |3,_=>rfl |4,_=>rfl |5,_=>rfl |6,_=>rfl |7,_=>rfl)|false=>rw[e9 hq];exact(match j,hj with |0,_=>rfl |1,_=>rfl |2,_=>rfl |3,_=>rfl |4,_=>rfl |5,_=>rfl |6,_=>rfl |7,_=>rfl))) (t0 c trivial)))))))))))))))))))))))))))))
theorem Eh(c:Cf)(k:Nat)(hk:k<c.b.length)(d:Int): ∀(i:Nat),i<0+c.b.length-> ∀(j:Nat),j<8->(bif Nat.ble (1:Nat) j&&Nat.blt j (2:Nat)&&Nat.beq (i+0) (k+0) then List.getD [aI d] (j-1) AV.junk else bif Nat.ble (5:Nat) j&&Nat.blt j (6:Nat)&&Nat.beq (i+0) (k+0) then List.getD [AV.bool true] (j-5) AV.junk else bif Nat.blt (i+0) (0:Nat) then AV.junk else an enC c.b (i+0-0) j)=an enC (List.set c.b k (En.vl d (En.done (c.b.getD k default)))) i j:=(fun i hi j hj=>by cases hq:Nat.beq (i+0) (k+0) with |true=>obtain rfl:=jO hq;rw[de hk];exact(match j,hj with |0,_=>rfl |1,_=>rfl |2,_=>rfl |3,_=>rfl |4,_=>rfl |5,_=>rfl |6,_=>rfl |7,_=>rfl)|false=>rw[e9 hq];exact(match j,hj with |0,_=>rfl |1,_=>rfl |2,_=>rfl |3,_=>rfl |4,_=>rfl |5,_=>rfl |6,_=>rfl |7,_=>rfl))
theorem Gw(p:Pg)(c:Cf)(k:Nat)(hk:k<c.b.length)(hb:c.b.length<900000)(a b d:Int)(ab so:Bool)(hC:ti p c k)(hT:th p c k a b d ab so)(ha:a=0)(k1: ¬(enX p c k).kind=1)(k4:(enX p c k).kind=4):Vc (vF_ 46 [.agg (pgA p),.agg (cfA c), aI k] [.fv,tq p c k,tp p c k,tn p c k a b d ab so,.bd false,.bd true,.bd false] [] (.tup [.agg (cfA (upE c k fun e=>e.done.vl d)),.nils,.bool true]) []):=al (fD p (jS p c (qr c (cj (rf (k:Int)) (cj hC (cj (ap 0 c.b.length 48) (cj (bi k (↑((0:Nat)+c.b.length):Int)) (cj (lz k c.b.length) (cj (lz k c.b.length) (fD p (sO p c k b (cj (bv p (c.b.getD k default).pc) (fD p (jS p c (sP c (cj (pv ((0:Nat)+c.b.length=(List.set c.b k (En.done (c.b.getD k default))).length)) (cj (s9 c k hk) (sQ p c k a d (sR p c k b (cj hT (cj (aa.2 k1) (cj (ax.2 k4) (cj (lz k c.b.length) (cj (n0 a 0) (sS c (cj (pv ((0:Nat)+c.b.length=(List.set c.b k (En.vl d (En.done (c.b.getD k default)))).length)) (cj (Eh c k hk d) (t0 c trivial))))))))))))))))))))))))))))
theorem IP(p:Pg)(c:Cf)(k:Nat)(hk:k<c.b.length)(hb:c.b.length<900000)(a b d:Int)(ab so:Bool)(hC:ti p c k)(hT:th p c k a b d ab so)(k1: ¬(enX p c k).kind=1)(k4: ¬(enX p c k).kind=4)(k3:(enX p c k).kind=3):Vc (vF_ 46 [.agg (pgA p),.agg (cfA c), aI k] [.fv,tq p c k,tp p c k,tn p c k a b d ab so,.bd false,.bd false,.bd true] [] (.tup [.agg (cfA (upE c k fun e=>e.done.vl d)),.nils,.bool true]) []):=al (fD p (jS p c (qr c (cj (rf (k:Int)) (cj hC (cj (ap 0 c.b.length 48) (cj (bi k (↑((0:Nat)+c.b.length):Int)) (cj (lz k c.b.length) (cj (lz k c.b.length) (fD p (sO p c k b (cj (bv p (c.b.getD k default).pc) (fD p (jS p c (sP c (cj (pv ((0:Nat)+c.b.length=(List.set c.b k (En.done (c.b.getD k default))).length)) (cj (s9 c k hk) (sQ p c k a d (sR p c k b (cj hT (cj (aa.2 k1) (cj (aa.2 k4) (cj (ax.2 k3) (cj (lz k c.b.length) (sS c (cj (pv ((0:Nat)+c.b.length=(List.set c.b k (En.vl d (En.done (c.b.getD k default)))).length)) (cj (Eh c k hk d) (t0 c trivial))))))))))))))))))))))))))))
theorem AW(p:Pg)(c:Cf)(k:Nat)(a:Int)(b:Int):Option.some (bif Nat.ble (6:Nat) (2:Nat)&&Nat.blt (2:Nat) (7:Nat)&&Nat.beq (k+0) (k+0) then AV.bool true else bif Nat.ble (2:Nat) (2:Nat)&&Nat.blt (2:Nat) (3:Nat)&&Nat.beq (k+0) (k+0) then aI (Wd.maskV p.W (a+b)) else aI (c.b.getD (k+0-0) default).adr)=Option.some (aI (Wd.maskV p.W (a+b))):=by rw[cz];rfl
theorem Gx(p:Pg)(c:Cf)(k:Nat)(hk:k<c.b.length)(hb:c.b.length<900000)(a b d:Int)(ab so:Bool)(hC:ti p c k)(hT:th p c k a b d ab so)(hab: -1000000<=a+b∧a+b<=1000000)(hm:c.s.m.length<1000000)(ho:(c.s.m.length:Int)<=(Wd.maskV p.W (a+b)))(k1: ¬(enX p c k).kind=1)(k4: ¬(enX p c k).kind=4)(k3: ¬(enX p c k).kind=3)(k2:(enX p c k).kind=2):Vc (vF_ 46 [.agg (pgA p),.agg (cfA c), aI k] [.fv,tq p c k,tp p c k,tn p c k a b d ab so,.bd false,.bd false,.bd false,.bd true,.cl [aI p.W, aI (a+b)] (aI (Wd.maskV p.W (a+b))) [],.lv (aI (Wd.maskV p.W (a+b))),.bd true] [] (.tup [.agg (cfA (upE c k fun e=>(e.done.ad (Wd.maskV p.W (a+b))).flt)),.nils,.bool true]) []):=al (fD p (jS p c (qr c (cj (rf (k:Int)) (cj hC (cj (ap 0 c.b.length 48) (cj (bi k (↑((0:Nat)+c.b.length):Int)) (cj (lz k c.b.length) (cj (lz k c.b.length) (fD p (sO p c k b (cj (bv p (c.b.getD k default).pc) (fD p (jS p c (sP c (cj (pv ((0:Nat)+c.b.length=(List.set c.b k (En.done (c.b.getD k default))).length)) (cj (s9 c k hk) (sQ p c k a d (sR p c k b (cj hT (cj (aa.2 k1) (cj (aa.2 k4) (cj (aa.2 k3) (cj (ax.2 k2) (cj (i6 (a+b)) (cj (rf p.W) (cj (rf (a+b)) (cj (bu p.W (a+b)) (cj (lz k c.b.length) (cj (lz k c.b.length) (cj (AW p c k a b) (cj (lz k c.b.length) (cj (dt (Wd.maskV p.W (a+b)>=(↑(c.s.m.length):Int))) (cj (lz k c.b.length) (sS c (cj (pv ((0:Nat)+c.b.length=(List.set c.b k (En.flt (En.ad (Wd.maskV p.W (a+b)) (En.done (c.b.getD k default))))).length)) (cj (show ∀(i:Nat),i<0+c.b.length-> ∀(j:Nat),j<8->(bif Nat.ble (7:Nat) j&&Nat.blt j (8:Nat)&&Nat.beq (i+0) (k+0) then List.getD [AV.bool true] (j-7) AV.junk else bif Nat.ble (6:Nat) j&&Nat.blt j (7:Nat)&&Nat.beq (i+0) (k+0) then List.getD [AV.bool true] (j-6) AV.junk else bif Nat.ble (2:Nat) j&&Nat.blt j (3:Nat)&&Nat.beq (i+0) (k+0) then List.getD [aI (Wd.maskV p.W (a+b))] (j-2) AV.junk else bif Nat.ble (5:Nat) j&&Nat.blt j (6:Nat)&&Nat.beq (i+0) (k+0) then List.getD [AV.bool true] (j-5) AV.junk else bif Nat.blt (i+0) (0:Nat) then AV.junk else an enC c.b (i+0-0) j)=an enC (List.set c.b k (En.flt (En.ad (Wd.maskV p.W (a+b)) (En.done (c.b.getD k default))))) i j from(fun i hi j hj=>by cases hq:Nat.beq (i+0) (k+0) with |true=>obtain rfl:=jO hq;rw[de hk];exact(match j,hj with |0,_=>rfl |1,_=>rfl |2,_=>rfl |3,_=>rfl |4,_=>rfl |5,_=>rfl |6,_=>rfl |7,_=>rfl)|false=>rw[e9 hq];exact(match j,hj with |0,_=>rfl |1,_=>rfl |2,_=>rfl |3,_=>rfl |4,_=>rfl |5,_=>rfl |6,_=>rfl |7,_=>rfl))) (t0 c trivial))))))))))))))))))))))))))))))))))))))
theorem Gy(p:Pg)(c:Cf)(k:Nat)(hk:k<c.b.length)(hb:c.b.length<900000)(a b d:Int)(ab so:Bool)(hC:ti p c k)(hT:th p c k a b d ab so)(hab: -1000000<=a+b∧a+b<=1000000)(hm:c.s.m.length<1000000)(ho: ¬(c.s.m.length:Int)<=(Wd.maskV p.W (a+b)))(k1: ¬(enX p c k).kind=1)(k4: ¬(enX p c k).kind=4)(k3: ¬(enX p c k).kind=3)(k2:(enX p c k).kind=2):Vc (vF_ 46 [.agg (pgA p),.agg (cfA c), aI k] [.fv,tq p c k,tp p c k,tn p c k a b d ab so,.bd false,.bd false,.bd false,.bd true,.cl [aI p.W, aI (a+b)] (aI (Wd.maskV p.W (a+b))) [],.lv (aI (Wd.maskV p.W (a+b))),.bd false,.lv (.agg (pgA p)),.lv (lR c.s.m),.lv (.own 2 1 8 0 (0+c.b.length)),.lv (aI (Wd.maskV p.W (a+b))),.cp [.agg (pgA p),lR c.s.m,enR (c.b.set k ((c.b.getD k default).done.ad (Wd.maskV p.W (a+b)))), aI k, aI (Wd.maskV p.W (a+b))] (.tup [aI (ldV p c.s.m (c.b.set k ((c.b.getD k default).done.ad (Wd.maskV p.W (a+b)))) k (Wd.maskV p.W (a+b))).1, aI (ldV p c.s.m (c.b.set k ((c.b.getD k default).done.ad (Wd.maskV p.W (a+b)))) k (Wd.maskV p.W (a+b))).2.1,.bool (ldV p c.s.m (c.b.set k ((c.b.getD k default).done.ad (Wd.maskV p.W (a+b)))) k (Wd.maskV p.W (a+b))).2.2]),.lv (.agg (cfO c (.own 2 1 8 0 (0+c.b.length)))),.lv (aI (Wd.maskV p.W (a+b)))] [] (.tup [.agg (cfA (upE c k fun e=>(e.done.ad (Wd.maskV p.W (a+b))).ld (ldV p c.s.m (c.b.set k ((c.b.getD k default).done.ad (Wd.maskV p.W (a+b)))) k (Wd.maskV p.W (a+b))).1 (ldV p c.s.m (c.b.set k ((c.b.getD k default).done.ad (Wd.maskV p.W (a+b)))) k (Wd.maskV p.W (a+b))).2.1)),(obR [⟨1,(Wd.maskV p.W (a+b))⟩]),.bool true]) []):=al (fD p (jS p c (qr c (cj (rf (k:Int)) (cj hC (cj (ap 0 c.b.length 48) (cj (bi k (↑((0:Nat)+c.b.length):Int)) (cj (lz k c.b.length) (cj (lz k c.b.length) (fD p (sO p c k b (cj (bv p (c.b.getD k default).pc) (fD p (jS p c (sP c (cj (pv ((0:Nat)+c.b.length=(List.set c.b k (En.done (c.b.getD k default))).length)) (cj (s9 c k hk) (sQ p c k a d (sR p c k b (cj hT (cj (aa.2 k1) (cj (aa.2 k4) (cj (aa.2 k3) (cj (ax.2 k2) (cj (i6 (a+b)) (cj (rf p.W) (cj (rf (a+b)) (cj (bu p.W (a+b)) (cj (lz k c.b.length) (cj (lz k c.b.length) (cj (AW p c k a b) (cj (lz k c.b.length) (cj (df (Wd.maskV p.W (a+b)>=(↑(c.s.m.length):Int))) (cj (rf (Option.some (AV.agg [aI p.W,aI p.win,aI p.fuel,aI p.r0,aI p.r1,aI p.r2,aI p.r3,AV.row (nat_lit 3) p.ms.length fun(a a_1:Nat)=>an mmC p.ms a a_1,AV.row (nat_lit 2) p.ls.length fun(a a_1:Nat)=>an lbC p.ls a a_1,AV.row (nat_lit 9) p.is.length fun(a a_1:Nat)=>an inC p.is a a_1]))) (cj (rf (Option.some (AV.row (nat_lit 1) c.s.m.length fun(a a_1:Nat)=>aI (List.getD c.s.m a (0:Int))))) (cj (rf (Option.some (AV.own (2:Nat) (1:Nat) (8:Nat) (0:Nat) ((0:Nat)+c.b.length)))) (cj (AW p c k a b) (cj (lz k c.b.length) (fD p (cj (rf p.ls.length) (cj (rr p.ls.length 2 fun i j=>an lbC p.ls i j) (cj (rf p.is.length) (cj (rr p.is.length 9 fun i j=>an inC p.is i j) (cj (rf c.s.m.length) (cj (rr c.s.m.length 1 fun i j=>aI (List.getD c.s.m i 0)) (cj (pv ((0:Nat)+c.b.length=(List.set c.b k (En.ad (Wd.maskV p.W (a+b)) (En.done (c.b.getD k default)))).length)) (cj (show ∀(i:Nat),i<0+c.b.length-> ∀(j:Nat),j<8->(bif Nat.ble (6:Nat) j&&Nat.blt j (7:Nat)&&Nat.beq (i+0) (k+0) then List.getD [AV.bool true] (j-6) AV.junk else bif Nat.ble (2:Nat) j&&Nat.blt j (3:Nat)&&Nat.beq (i+0) (k+0) then List.getD [aI (Wd.maskV p.W (a+b))] (j-2) AV.junk else bif Nat.ble (5:Nat) j&&Nat.blt j (6:Nat)&&Nat.beq (i+0) (k+0) then List.getD [AV.bool true] (j-5) AV.junk else bif Nat.blt (i+0) (0:Nat) then AV.junk else an enC c.b (i+0-0) j)=an enC (List.set c.b k (En.ad (Wd.maskV p.W (a+b)) (En.done (c.b.getD k default)))) i j from(fun i hi j hj=>by cases hq:Nat.beq (i+0) (k+0) with |true=>obtain rfl:=jO hq;rw[de hk];exact(match j,hj with |0,_=>rfl |1,_=>rfl |2,_=>rfl |3,_=>rfl |4,_=>rfl |5,_=>rfl |6,_=>rfl |7,_=>rfl)|false=>rw[e9 hq];exact(match j,hj with |0,_=>rfl |1,_=>rfl |2,_=>rfl |3,_=>rfl |4,_=>rfl |5,_=>rfl |6,_=>rfl |7,_=>rfl))) (cj (rf (k:Int)) (cj (rf (Wd.maskV p.W (a+b))) (cj (xR p c.s.m (c.b.set k ((c.b.getD k default).done.ad (Wd.maskV p.W (a+b)))) k (Wd.maskV p.W (a+b)) (by rw[aq];omega)) (cj (lz k c.b.length) (cj (lz k c.b.length) (cj (rf (Option.some (AV.agg [aI c.s.r0,aI c.s.r1,aI c.s.r2,aI c.s.r3,AV.row (nat_lit 1) c.s.m.length fun(a a_1:Nat)=>aI (List.getD c.s.m a (0:Int)),AV.row (nat_lit 1) c.s.st.length fun(a a_1:Nat)=>aI (List.getD c.s.st a (0:Int)),aI c.s.pc,AV.own (nat_lit 2) (nat_lit 1) (nat_lit 8) (nat_lit 0) ((0:Nat)+c.b.length),AV.row (nat_lit 1) c.r.length fun(a a_1:Nat)=>aI (c.r.getD a 0),aI c.e]))) (cj (show Option.some (bif Nat.ble (3:Nat) (2:Nat)&&Nat.blt (2:Nat) (4:Nat)&&Nat.beq (k+0) (k+0) then aI (Prod.fst (Prod.snd (ldV p c.s.m (List.set c.b k (En.ad (Wd.maskV p.W (a+b)) (En.done (c.b.getD k default)))) k (Wd.maskV p.W (a+b))))) else bif Nat.ble (1:Nat) (2:Nat)&&Nat.blt (2:Nat) (2:Nat)&&Nat.beq (k+0) (k+0) then AV.junk else bif Nat.ble (6:Nat) (2:Nat)&&Nat.blt (2:Nat) (7:Nat)&&Nat.beq (k+0) (k+0) then AV.bool true else bif Nat.ble (2:Nat) (2:Nat)&&Nat.blt (2:Nat) (3:Nat)&&Nat.beq (k+0) (k+0) then aI (Wd.maskV p.W (a+b)) else aI (c.b.getD (k+0-0) default).adr)=Option.some (aI (Wd.maskV p.W (a+b))) from by rw[cz];rfl) (cj (lz k c.b.length) (sS c (cj (pv ((0:Nat)+c.b.length=(List.set c.b k (En.ld (Prod.fst (ldV p c.s.m (List.set c.b k (En.ad (Wd.maskV p.W (a+b)) (En.done (c.b.getD k default)))) (k:Int) (Wd.maskV p.W (a+b)))) (Prod.fst (Prod.snd (ldV p c.s.m (List.set c.b k (En.ad (Wd.maskV p.W (a+b)) (En.done (c.b.getD k default)))) k (Wd.maskV p.W (a+b))))) (En.ad (Wd.maskV p.W (a+b)) (En.done (c.b.getD k default))))).length)) (cj (show ∀(i:Nat),i<0+c.b.length-> ∀(j:Nat),j<8->(bif Nat.ble (3:Nat) j&&Nat.blt j (4:Nat)&&Nat.beq (i+0) (k+0) then List.getD [aI (Prod.fst (Prod.snd (ldV p c.s.m (List.set c.b k (En.ad (Wd.maskV p.W (a+b)) (En.done (c.b.getD k default)))) k (Wd.maskV p.W (a+b)))))] (j-3) AV.junk else bif Nat.ble (1:Nat) j&&Nat.blt j (2:Nat)&&Nat.beq (i+0) (k+0) then List.getD [aI (Prod.fst (ldV p c.s.m (List.set c.b k (En.ad (Wd.maskV p.W (a+b)) (En.done (c.b.getD k default)))) k (Wd.maskV p.W (a+b))))] (j-1) AV.junk else bif Nat.ble (6:Nat) j&&Nat.blt j (7:Nat)&&Nat.beq (i+0) (k+0) then List.getD [AV.bool true] (j-6) AV.junk else bif Nat.ble (2:Nat) j&&Nat.blt j (3:Nat)&&Nat.beq (i+0) (k+0) then List.getD [aI (Wd.maskV p.W (a+b))] (j-2) AV.junk else bif Nat.ble (5:Nat) j&&Nat.blt j (6:Nat)&&Nat.beq (i+0) (k+0) then List.getD [AV.bool true] (j-5) AV.junk else bif Nat.blt (i+0) (0:Nat) then AV.junk else an enC c.b (i+0-0) j)=an enC (List.set c.b k (En.ld (Prod.fst (ldV p c.s.m (List.set c.b k (En.ad (Wd.maskV p.W (a+b)) (En.done (c.b.getD k default)))) (k:Int) (Wd.maskV p.W (a+b)))) (Prod.fst (Prod.snd (ldV p c.s.m (List.set c.b k (En.ad (Wd.maskV p.W (a+b)) (En.done (c.b.getD k default)))) (k:Int) (Wd.maskV p.W (a+b))))) (En.ad (Wd.maskV p.W (a+b)) (En.done (c.b.getD k default))))) i j from(fun i hi j hj=>by cases hq:Nat.beq (i+0) (k+0) with |true=>obtain rfl:=jO hq;rw[de hk];exact(match j,hj with |0,_=>rfl |1,_=>rfl |2,_=>rfl |3,_=>rfl |4,_=>rfl |5,_=>rfl |6,_=>rfl |7,_=>rfl)|false=>rw[e9 hq];exact(match j,hj with |0,_=>rfl |1,_=>rfl |2,_=>rfl |3,_=>rfl |4,_=>rfl |5,_=>rfl |6,_=>rfl |7,_=>rfl))) (cj (rf c.r.length) (cj (rr c.r.length 1 fun i j=>aI (c.r.getD i 0)) (cj (rf c.e) (cj (rf (1:Nat)) (cj (show ∀(i:Nat),i<1-> ∀(j:Nat),j<2->List.getD [aI 1,aI (Wd.maskV p.W (a+b))] ((i+0)*2+j) AV.junk=an obC [Ob.mk (1:Int) (Wd.maskV p.W (a+b))] i j from(fun i hi j hj=>match i,hi,j,hj with |0,_,0,_=>rfl |0,_,1,_=>rfl)) (cj (rf true) trivial))))))))))))))))))))))))))))))))))))))))))))))))))))))))))))))))
def goV(c:Cf)(k:Nat)(t:Int):Cf:=if(c.b.getD k default).nxt=t then c else⟨c.s.go t,(c.b.set k ((c.b.getD k default).to t)).take (k+1),c.r,c.e⟩
theorem rP{b:List En}{n i:Nat}(h:i<n)(j:Nat):an enC (b.take n) i j=an enC b i j:=by
 unfold an;rw[au,a9,ai h,au]
theorem zJ(t:Int): ∀(i:Nat),i<1-> ∀(j:Nat),j<2->List.getD [aI 3,aI t] ((i+0)*2+j) AV.junk=an obC [Ob.mk (3:Int) t] i j:=(fun i hi j hj=>match i,hi,j,hj with |0,_,0,_=>rfl |0,_,1,_=>rfl)
theorem zj(c:Cf){Z:Prop}(z:Z):(RF c.r.length (RR c.r.length 1 (fun i j=>aI (c.r.getD i 0)) (RF c.e (RF (1:Nat) Z)))):=⟨rfl,fun _ _ _ _=>rfl,rfl,rfl,z⟩
theorem zi(c:Cf){Z:Prop}(z:Z):(RF c.s.r0 (RF c.s.r1 (RF c.s.r2 (RF c.s.r3 (RF c.s.m.length (RR c.s.m.length 1 (fun i j=>aI (List.getD c.s.m i 0)) (RF c.s.st.length (RR c.s.st.length 1 (fun i j=>aI (List.getD c.s.st i 0)) Z)))))))):=⟨rfl,rfl,rfl,rfl,rfl,fun _ _ _ _=>rfl,rfl,fun _ _ _ _=>rfl,z⟩
theorem Ir(c:Cf)(k:Nat)(t:Int)(hk:k<c.b.length)(hb:c.b.length<1000000)(hn:(c.b.getD k default).nxt=t):Vc (rI Try.prog false 65 [.agg (cfO c (enO c.b)), aI k, aI t] [enB c.b] [.bd false] [] (.tup [.agg (cfA c),(obR [⟨3,t⟩])]) []):=al (cj (bi k c.b.length) (cj (pv (k+0<c.b.length)) (cj (aw.2 hn) (zi c (cj (rf c.s.pc) (cj (rf c.b.length) (cj (rr c.b.length 8 fun i j=>an enC c.b i j) (zj c (cj (zJ t) trivial)))))))))
theorem Is(c:Cf)(k:Nat)(t:Int)(hk:k<c.b.length)(hb:c.b.length<1000000)(hn: ¬(c.b.getD k default).nxt=t):Vc (rI Try.prog false 65 [.agg (cfO c (enO c.b)), aI k, aI t] [enB c.b] [.bd true] [] (.tup [.agg (cfA ⟨c.s.go t,(c.b.set k ((c.b.getD k default).to t)).take (k+1),c.r,c.e⟩),(obR [⟨3,t⟩])]) []):=al (cj (bi k c.b.length) (cj (pv (k+0<c.b.length)) (cj (bG.2 hn) (cj (bi k c.b.length) (cj (pv (k+0<c.b.length)) (cj (i6 (k+1)) (cj (pv ((0:Int)<=k+1∧(k:Int)+1<=c.b.length)) (zi c (cj (rf t) (cj (show k+nat_lit 1=(List.take (k+1) (List.set c.b k (En.to t (c.b.getD k default)))).length from by rw[aS,aq];exact(mW hk).symm) (cj (show ∀(i:Nat),i<k+nat_lit 1-> ∀(j:Nat),j<8->(bif Nat.ble (4:Nat) j&&Nat.blt j (5:Nat)&&Nat.beq (i+0) (k+0) then List.getD [aI t] (j-4) AV.junk else an enC c.b (i+0) j)=an enC (List.take (k+1) (List.set c.b k (En.to t (c.b.getD k default)))) i j from(fun i hi j hj=>by rw[rP (show i<k+1 from hi)];cases hq:Nat.beq (i+0) (k+0) with |true=>obtain rfl:=jO hq;rw[de hk];exact(match j,hj with |0,_=>rfl |1,_=>rfl |2,_=>rfl |3,_=>rfl |4,_=>rfl |5,_=>rfl |6,_=>rfl |7,_=>rfl)|false=>rw[e9 hq];exact(match j,hj with |0,_=>rfl |1,_=>rfl |2,_=>rfl |3,_=>rfl |4,_=>rfl |5,_=>rfl |6,_=>rfl |7,_=>rfl))) (zj c (cj (zJ t) trivial)))))))))))))
theorem sG(c:Cf)(k:Nat)(t:Int)(hk:k<c.b.length)(hb:c.b.length<1000000):MutC Try.prog 65 [.agg (cfO c (enO c.b)),.int .i64 k,.int .i64 t] [enB c.b] (.tup [.agg (cfA (goV c k t)),(obR [⟨3,t⟩])]) []:=by
 unfold goV
 by_cases hn:(c.b.getD k default).nxt=t
 ·rw[ai hn];exact MutC.vc (Ir c k t hk hb hn)
 ·rw[ah hn];exact MutC.vc (Is c k t hk hb hn)
theorem jw(c:Cf)(k:Nat)(hk:k<c.b.length): ∀(i:Nat),i<0+c.b.length-> ∀(j:Nat),j<8->(bif Nat.ble (5:Nat) j&&Nat.blt j (6:Nat)&&Nat.beq (i+0) (k+0) then List.getD [AV.bool true] (j-5) AV.junk else bif Nat.blt (i+0) (0:Nat) then AV.junk else an enC c.b (i+0-0) j)=an enC (List.set c.b k (En.done (c.b.getD k default))) i j:=(fun i hi j hj=>by cases hq:Nat.beq (i+0) (k+0) with |true=>obtain rfl:=jO hq;rw[de hk];exact(match j,hj with |0,_=>rfl |1,_=>rfl |2,_=>rfl |3,_=>rfl |4,_=>rfl |5,_=>rfl |6,_=>rfl |7,_=>rfl)|false=>rw[e9 hq];exact(match j,hj with |0,_=>rfl |1,_=>rfl |2,_=>rfl |3,_=>rfl |4,_=>rfl |5,_=>rfl |6,_=>rfl |7,_=>rfl))
theorem rM(c:Cf)(k:Nat)(hk:k<c.b.length): ∀(i:Nat),i<0+c.b.length-> ∀(j:Nat),j<8->(bif Nat.ble (5:Nat) j&&Nat.blt j (6:Nat)&&Nat.beq i (k+0) then List.getD [AV.bool true] (j-5) AV.junk else bif Nat.blt i (0:Nat) then AV.junk else an enC c.b (i-0) j)=an enC (List.set c.b k (En.done (c.b.getD k default))) i j:=(fun i hi j hj=>by cases hq:Nat.beq i (k+0) with |true=>obtain rfl:=jO (i:=i) hq;rw[de hk];exact(match j,hj with |0,_=>rfl |1,_=>rfl |2,_=>rfl |3,_=>rfl |4,_=>rfl |5,_=>rfl |6,_=>rfl |7,_=>rfl)|false=>rw[e9 (i:=i) hq];exact(match j,hj with |0,_=>rfl |1,_=>rfl |2,_=>rfl |3,_=>rfl |4,_=>rfl |5,_=>rfl |6,_=>rfl |7,_=>rfl))
theorem nq(c:Cf){Z:Prop}(z:Z):(RF c.s.r0 (RF c.s.r1 (RF c.s.r2 (RF c.s.r3 (RF c.s.m.length (RR c.s.m.length 1 (fun i j=>aI (List.getD c.s.m i 0)) (RF c.s.st.length (RR c.s.st.length 1 (fun i j=>aI (List.getD c.s.st i 0)) (RF c.s.pc Z))))))))):=⟨rfl,rfl,rfl,rfl,rfl,fun _ _ _ _=>rfl,rfl,fun _ _ _ _=>rfl,rfl,z⟩
theorem zk(p:Pg)(c:Cf)(k:Nat)(a:Int)(b:Int){Z:Prop}(z:Z):(RF p.W (RF ((enX p c k).op) (RF a (RF b Z)))):=⟨rfl,rfl,rfl,rfl,z⟩
theorem np(p:Pg)(c:Cf)(k:Nat)(b:Int){Z:Prop}(z:Z):(RF ((enX p c k).b.reg) (RF ((enX p c k).b.n) (RF ((enX p c k).nm) (RF ((enX p c k).tg) Z)))):=⟨rfl,rfl,rfl,rfl,z⟩
theorem no(p:Pg)(c:Cf)(k:Nat)(a:Int)(d:Int){Z:Prop}(z:Z):(RF c.r.length (RR c.r.length 1 (fun i j=>aI (c.r.getD i 0)) (RF c.e (RF (k:Int) (RF ((enX p c k).kind) (RF ((enX p c k).op) (RF ((enX p c k).d) (RF ((enX p c k).a.reg) (RF ((enX p c k).a.n) Z))))))))):=⟨rfl,fun _ _ _ _=>rfl,rfl,rfl,rfl,rfl,rfl,rfl,rfl,z⟩
theorem nl(c:Cf){Z:Prop}(z:Z):(RR c.s.m.length 1 (fun i j=>aI (List.getD c.s.m i 0)) (RF c.s.st.length (RR c.s.st.length 1 (fun i j=>aI (List.getD c.s.st i 0)) (RF c.s.pc Z)))):=⟨fun _ _ _ _=>rfl,rfl,fun _ _ _ _=>rfl,rfl,z⟩
theorem gm(p:Pg)(c:Cf){Z:Prop}(z:Z):(RF p.ls.length (RR p.ls.length 2 (fun i j=>an lbC p.ls i j) (RF p.is.length (RR p.is.length 9 (fun i j=>an inC p.is i j) (RF c.s.r0 (RF c.s.r1 (RF c.s.r2 (RF c.s.r3 (RF c.s.m.length Z))))))))):=⟨rfl,fun _ _ _ _=>rfl,rfl,fun _ _ _ _=>rfl,rfl,rfl,rfl,rfl,rfl,z⟩
theorem dF(p:Pg){Z:Prop}(z:Z):(RF p.W (RF p.win (RF p.fuel (RF p.r0 (RF p.r1 (RF p.r2 (RF p.r3 (RF p.ms.length (RR p.ms.length 3 (fun i j=>an mmC p.ms i j) Z))))))))):=⟨rfl,rfl,rfl,rfl,rfl,rfl,rfl,rfl,fun _ _ _ _=>rfl,z⟩
theorem nk(p:Pg)(c:Cf)(k:Nat)(b:Int){Z:Prop}(z:Z):(RF p.ls.length (RR p.ls.length 2 (fun i j=>an lbC p.ls i j) (RF p.is.length (RR p.is.length 9 (fun i j=>an inC p.is i j) (RF ((c.b.getD k default).pc) Z))))):=⟨rfl,fun _ _ _ _=>rfl,rfl,fun _ _ _ _=>rfl,rfl,z⟩
theorem nj(c:Cf)(b:Int){Z:Prop}(z:Z):(RR c.s.m.length 1 (fun i j=>aI (List.getD c.s.m i 0)) (RF c.s.st.length (RR c.s.st.length 1 (fun i j=>aI (List.getD c.s.st i 0)) (RF c.s.pc (RF c.b.length (RR c.b.length 8 (fun i j=>an enC c.b i j) (RF c.r.length (RR c.r.length 1 (fun i j=>aI (c.r.getD i 0)) (RF c.e Z))))))))):=⟨fun _ _ _ _=>rfl,rfl,fun _ _ _ _=>rfl,rfl,rfl,fun _ _ _ _=>rfl,rfl,fun _ _ _ _=>rfl,rfl,z⟩
abbrev nC(p:Pg)(c:Cf)(k:Nat)(a:Int)(b:Int)(d:Int)(ab:Bool)(so:Bool):Prop:=PureC Try.prog 60 [.agg (pgA p),.agg (cfA (upE c k En.done)),.int .i64 k,.agg (inA (enX p c k))] (.tup [.int .i64 a,.int .i64 b,.int .i64 d,.bool ab,.bool so]) []
abbrev nD(p:Pg)(c:Cf)(k:Nat):Prop:=PureC Try.prog 43 [.agg (pgA p),.agg (cfA c),.int .i64 k] (.bool true) []
abbrev zX(p:Pg)(c:Cf)(k:Nat)(a:Int)(b:Int):Orc:= .cl [aI p.W, aI (enX p c k).op, aI a, aI b] (.tup [aI (Wd.doV p.W (enX p c k).op a b),.bool (Wd.doB p.W (enX p c k).op)]) []
abbrev nI(p:Pg)(c:Cf)(k:Nat)(a:Int)(b:Int)(d:Int)(ab:Bool)(so:Bool):Orc:= .cp [.agg (pgA p),.agg (cfA (upE c k En.done)), aI k,.agg (inA (enX p c k))] (.tup [aI a, aI b, aI d,.bool ab,.bool so])
abbrev nJ(p:Pg)(c:Cf)(k:Nat):Orc:= .cl [.agg (pgA p), aI (c.b.getD k default).pc] (.agg (inA (enX p c k))) []
abbrev nK(p:Pg)(c:Cf)(k:Nat):Orc:= .cl [.agg (pgA p),.agg (cfA c), aI k] (.bool true) []
theorem Gt(p:Pg)(c:Cf)(k:Nat)(hk:k<c.b.length)(hb:c.b.length<900000)(a b d:Int)(ab so:Bool)(hC:nD p c k)(hT:nC p c k a b d ab so)(hp: -1<=(c.b.getD k default).pc∧(c.b.getD k default).pc<=1000000)(hz:(Wd.doV p.W (enX p c k).op a b)≠0)(k1: ¬(enX p c k).kind=1)(k4: ¬(enX p c k).kind=4)(k3: ¬(enX p c k).kind=3)(k2: ¬(enX p c k).kind=2)(k5:(enX p c k).kind=5):Vc (vF_ 46 [.agg (pgA p),.agg (cfA c), aI k] [.fv,nK p c k,nJ p c k,nI p c k a b d ab so,.bd false,.bd false,.bd false,.bd false,.bd true,zX p c k a b,.bd true,.cm [.agg (cfO (upE c k En.done) (enO (c.b.set k (c.b.getD k default).done))), aI k, aI (enX p c k).tg] [enB (c.b.set k (c.b.getD k default).done)] [(0,2)] (.tup [.agg (cfA (goV (upE c k En.done) k (enX p c k).tg)),(obR [⟨3,(enX p c k).tg⟩])]) []] [] (.tup [.agg (cfA (goV (upE c k En.done) k (enX p c k).tg)),(obR [⟨3,(enX p c k).tg⟩]),.bool true]) []):=al (dF p (gm p c (nj c b (cj (rf (k:Int)) (cj hC (cj (ap 0 c.b.length 48) (cj (bi k (↑((0:Nat)+c.b.length):Int)) (cj (lz k c.b.length) (cj (lz k c.b.length) (dF p (nk p c k b (cj (bv p (c.b.getD k default).pc) (dF p (gm p c (nl c (cj (pv ((0:Nat)+c.b.length=(List.set c.b k (En.done (c.b.getD k default))).length)) (cj (jw c k hk) (no p c k a d (np p c k b (cj hT (cj (aa.2 k1) (cj (aa.2 k4) (cj (aa.2 k3) (cj (aa.2 k2) (cj (ax.2 k5) (cj (lz k c.b.length) (cj (show inK IntKind.i64 ((c.b.getD (k+0-0) default).pc+1) from by simp only[cA,fy];exact fu (by omega) (by omega)) (zk p c k a b (cj (BE p.W (enX p c k).op a b) (cj (bG.2 hz) (cj (pv ((0:Nat)+c.b.length=(List.set c.b k (En.done (c.b.getD k default))).length)) (cj (rM c k hk) (nq c (cj (rf (0:Nat)) (cj (pv ((0:Nat)+c.b.length=(List.set c.b k (En.done (c.b.getD k default))).length)) (cj (rf c.r.length) (cj (rr c.r.length 1 fun i j=>aI (c.r.getD i 0)) (cj (rf c.e) (cj (rf (k:Int)) (cj (rf ((enX p c k).tg)) (cj (show MutC Try.prog 65 [.agg (cfO (upE c k En.done) (enO (c.b.set k (c.b.getD k default).done))), aI k, aI (enX p c k).tg] [enB (c.b.set k (c.b.getD k default).done)] (.tup [.agg (cfA (goV (upE c k En.done) k (enX p c k).tg)),(obR [⟨3,(enX p c k).tg⟩])]) [] from sG (upE c k En.done) k (enX p c k).tg (by show k<(List.set _ _ _).length;rw[aq];exact hk) (by show(List.set _ _ _).length<_;rw[aq];omega)) (cj (rf (((goV (upE c k En.done) k (enX p c k).tg).s).r0)) (cj (rf (((goV (upE c k En.done) k (enX p c k).tg).s).r1)) (cj (rf (((goV (upE c k En.done) k (enX p c k).tg).s).r2)) (cj (rf (((goV (upE c k En.done) k (enX p c k).tg).s).r3)) (cj (rf ((((goV (upE c k En.done) k (enX p c k).tg).s).m).length)) (cj (rr ((((goV (upE c k En.done) k (enX p c k).tg).s).m).length) 1 fun i j=>aI (List.getD (((goV (upE c k En.done) k (enX p c k).tg).s).m) i 0)) (cj (rf ((((goV (upE c k En.done) k (enX p c k).tg).s).st).length)) (cj (rr ((((goV (upE c k En.done) k (enX p c k).tg).s).st).length) 1 fun i j=>aI (List.getD (((goV (upE c k En.done) k (enX p c k).tg).s).st) i 0)) (cj (rf (((goV (upE c k En.done) k (enX p c k).tg).s).pc)) (cj (rf (((goV (upE c k En.done) k (enX p c k).tg).b).length)) (cj (rr (((goV (upE c k En.done) k (enX p c k).tg).b).length) 8 fun i j=>an enC ((goV (upE c k En.done) k (enX p c k).tg).b) i j) (cj (rf (((goV (upE c k En.done) k (enX p c k).tg).r).length)) (cj (rr (((goV (upE c k En.done) k (enX p c k).tg).r).length) 1 fun i j=>aI (List.getD ((goV (upE c k En.done) k (enX p c k).tg).r) i 0)) (cj (rf ((goV (upE c k En.done) k (enX p c k).tg).e)) (cj (rf (1:Nat)) (cj (rr 1 2 fun i j=>an obC [Ob.mk (3:Int) (enX p c k).tg] i j) (cj (rf true) trivial))))))))))))))))))))))))))))))))))))))))))))))))))))))))))
theorem tY(c:Cf)(k:Nat){Z:Prop}(z:Z):(RF c.r.length (RR c.r.length 1 (fun i j=>aI (c.r.getD i 0)) (RF c.e (RF (k:Int) Z)))):=⟨rfl,fun _ _ _ _=>rfl,rfl,rfl,z⟩
theorem Gu(p:Pg)(c:Cf)(k:Nat)(hk:k<c.b.length)(hb:c.b.length<900000)(a b d:Int)(ab so:Bool)(hC:nD p c k)(hT:nC p c k a b d ab so)(hp: -1<=(c.b.getD k default).pc∧(c.b.getD k default).pc<=1000000)(hz:(Wd.doV p.W (enX p c k).op a b)=0)(k1: ¬(enX p c k).kind=1)(k4: ¬(enX p c k).kind=4)(k3: ¬(enX p c k).kind=3)(k2: ¬(enX p c k).kind=2)(k5:(enX p c k).kind=5):Vc (vF_ 46 [.agg (pgA p),.agg (cfA c), aI k] [.fv,nK p c k,nJ p c k,nI p c k a b d ab so,.bd false,.bd false,.bd false,.bd false,.bd true,zX p c k a b,.bd false,.cm [.agg (cfO (upE c k En.done) (enO (c.b.set k (c.b.getD k default).done))), aI k, aI ((c.b.getD k default).pc+1)] [enB (c.b.set k (c.b.getD k default).done)] [(0,2)] (.tup [.agg (cfA (goV (upE c k En.done) k ((c.b.getD k default).pc+1))),(obR [⟨3,((c.b.getD k default).pc+1)⟩])]) []] [] (.tup [.agg (cfA (goV (upE c k En.done) k ((c.b.getD k default).pc+1))),(obR [⟨3,((c.b.getD k default).pc+1)⟩]),.bool true]) []):=al (dF p (gm p c (nj c b (cj (rf (k:Int)) (cj hC (cj (ap 0 c.b.length 48) (cj (bi k (↑((0:Nat)+c.b.length):Int)) (cj (lz k c.b.length) (cj (lz k c.b.length) (dF p (nk p c k b (cj (bv p (c.b.getD k default).pc) (dF p (gm p c (nl c (cj (pv ((0:Nat)+c.b.length=(List.set c.b k (En.done (c.b.getD k default))).length)) (cj (jw c k hk) (no p c k a d (np p c k b (cj hT (cj (aa.2 k1) (cj (aa.2 k4) (cj (aa.2 k3) (cj (aa.2 k2) (cj (ax.2 k5) (cj (lz k c.b.length) (cj (show inK IntKind.i64 ((c.b.getD (k+0-0) default).pc+1) from by simp only[cA,fy];exact fu (by omega) (by omega)) (zk p c k a b (cj (BE p.W (enX p c k).op a b) (cj (aw.2 hz) (cj (pv ((0:Nat)+c.b.length=(List.set c.b k (En.done (c.b.getD k default))).length)) (cj (rM c k hk) (nq c (cj (rf (0:Nat)) (cj (pv ((0:Nat)+c.b.length=(List.set c.b k (En.done (c.b.getD k default))).length)) (tY c k (cj (rf ((c.b.getD k default).pc+1)) (cj (show MutC Try.prog 65 [.agg (cfO (upE c k En.done) (enO (c.b.set k (c.b.getD k default).done))), aI k, aI ((c.b.getD k default).pc+1)] [enB (c.b.set k (c.b.getD k default).done)] (.tup [.agg (cfA (goV (upE c k En.done) k ((c.b.getD k default).pc+1))),(obR [⟨3,((c.b.getD k default).pc+1)⟩])]) [] from sG (upE c k En.done) k ((c.b.getD k default).pc+1) (by show k<(List.set _ _ _).length;rw[aq];exact hk) (by show(List.set _ _ _).length<_;rw[aq];omega)) (cj (rf (((goV (upE c k En.done) k ((c.b.getD k default).pc+1)).s).r0)) (cj (rf (((goV (upE c k En.done) k ((c.b.getD k default).pc+1)).s).r1)) (cj (rf (((goV (upE c k En.done) k ((c.b.getD k default).pc+1)).s).r2)) (cj (rf (((goV (upE c k En.done) k ((c.b.getD k default).pc+1)).s).r3)) (cj (rf ((((goV (upE c k En.done) k ((c.b.getD k default).pc+1)).s).m).length)) (cj (rr ((((goV (upE c k En.done) k ((c.b.getD k default).pc+1)).s).m).length) 1 fun i j=>aI (List.getD (((goV (upE c k En.done) k ((c.b.getD k default).pc+1)).s).m) i 0)) (cj (rf ((((goV (upE c k En.done) k ((c.b.getD k default).pc+1)).s).st).length)) (cj (rr ((((goV (upE c k En.done) k ((c.b.getD k default).pc+1)).s).st).length) 1 fun i j=>aI (List.getD (((goV (upE c k En.done) k ((c.b.getD k default).pc+1)).s).st) i 0)) (cj (rf (((goV (upE c k En.done) k ((c.b.getD k default).pc+1)).s).pc)) (cj (rf (((goV (upE c k En.done) k ((c.b.getD k default).pc+1)).b).length)) (cj (rr (((goV (upE c k En.done) k ((c.b.getD k default).pc+1)).b).length) 8 fun i j=>an enC ((goV (upE c k En.done) k ((c.b.getD k default).pc+1)).b) i j) (cj (rf (((goV (upE c k En.done) k ((c.b.getD k default).pc+1)).r).length)) (cj (rr (((goV (upE c k En.done) k ((c.b.getD k default).pc+1)).r).length) 1 fun i j=>aI (List.getD ((goV (upE c k En.done) k ((c.b.getD k default).pc+1)).r) i 0)) (cj (rf ((goV (upE c k En.done) k ((c.b.getD k default).pc+1)).e)) (cj (rf (1:Nat)) (cj (rr 1 2 fun i j=>an obC [Ob.mk (3:Int) ((c.b.getD k default).pc+1)] i j) (cj (rf true) trivial)))))))))))))))))))))))))))))))))))))))))))))))))))))))
theorem IM(p:Pg)(c:Cf)(k:Nat)(hk:k<c.b.length)(hb:c.b.length<900000)(a b d:Int)(ab so:Bool)(hC:nD p c k)(hT:nC p c k a b d ab so)(k1: ¬(enX p c k).kind=1)(k4: ¬(enX p c k).kind=4)(k3: ¬(enX p c k).kind=3)(k2: ¬(enX p c k).kind=2)(k5: ¬(enX p c k).kind=5)(k7:(enX p c k).kind=7):Vc (vF_ 46 [.agg (pgA p),.agg (cfA c), aI k] [.fv,nK p c k,nJ p c k,nI p c k a b d ab so,.bd false,.bd false,.bd false,.bd false,.bd false,.bd true,.cl [.agg (pgA p), aI a] (aI (da p a)) [],.cm [.agg (cfO (upE c k En.done) (enO (c.b.set k (c.b.getD k default).done))), aI k, aI (da p a)] [enB (c.b.set k (c.b.getD k default).done)] [(0,2)] (.tup [.agg (cfA (goV (upE c k En.done) k (da p a))),(obR [⟨3,(da p a)⟩])]) []] [] (.tup [.agg (cfA (goV (upE c k En.done) k (da p a))),(obR [⟨3,(da p a)⟩]),.bool true]) []):=al (dF p (gm p c (nj c b (cj (rf (k:Int)) (cj hC (cj (ap 0 c.b.length 48) (cj (bi k (↑((0:Nat)+c.b.length):Int)) (cj (lz k c.b.length) (cj (lz k c.b.length) (dF p (nk p c k b (cj (bv p (c.b.getD k default).pc) (dF p (gm p c (nl c (cj (pv ((0:Nat)+c.b.length=(List.set c.b k (En.done (c.b.getD k default))).length)) (cj (jw c k hk) (no p c k a d (np p c k b (cj hT (cj (aa.2 k1) (cj (aa.2 k4) (cj (aa.2 k3) (cj (aa.2 k2) (cj (aa.2 k5) (cj (ax.2 k7) (dF p (cj (rf p.ls.length) (cj (rr p.ls.length 2 fun i j=>an lbC p.ls i j) (cj (rf p.is.length) (cj (rr p.is.length 9 fun i j=>an inC p.is i j) (cj (rf a) (cj (EM p a) (cj (pv ((0:Nat)+c.b.length=(List.set c.b k (En.done (c.b.getD k default))).length)) (cj (rM c k hk) (nq c (cj (rf (0:Nat)) (cj (pv ((0:Nat)+c.b.length=(List.set c.b k (En.done (c.b.getD k default))).length)) (tY c k (cj (rf (da p a)) (cj (show MutC Try.prog 65 [.agg (cfO (upE c k En.done) (enO (c.b.set k (c.b.getD k default).done))), aI k, aI (da p a)] [enB (c.b.set k (c.b.getD k default).done)] (.tup [.agg (cfA (goV (upE c k En.done) k (da p a))),(obR [⟨3,(da p a)⟩])]) [] from sG (upE c k En.done) k (da p a) (by show k<(List.set _ _ _).length;rw[aq];exact hk) (by show(List.set _ _ _).length<_;rw[aq];omega)) (cj (rf ((goV (upE c k En.done) k (da p a)).s.r0)) (cj (rf ((goV (upE c k En.done) k (da p a)).s.r1)) (cj (rf ((goV (upE c k En.done) k (da p a)).s.r2)) (cj (rf ((goV (upE c k En.done) k (da p a)).s.r3)) (cj (rf (((goV (upE c k En.done) k (da p a)).s.m).length)) (cj (rr (((goV (upE c k En.done) k (da p a)).s.m).length) 1 fun i j=>aI (List.getD ((goV (upE c k En.done) k (da p a)).s.m) i 0)) (cj (rf (((goV (upE c k En.done) k (da p a)).s.st).length)) (cj (rr (((goV (upE c k En.done) k (da p a)).s.st).length) 1 fun i j=>aI (List.getD ((goV (upE c k En.done) k (da p a)).s.st) i 0)) (cj (rf ((goV (upE c k En.done) k (da p a)).s.pc)) (cj (rf ((goV (upE c k En.done) k (da p a)).b.length)) (cj (rr ((goV (upE c k En.done) k (da p a)).b.length) 8 fun i j=>an enC (goV (upE c k En.done) k (da p a)).b i j) (cj (rf ((goV (upE c k En.done) k (da p a)).r.length)) (cj (rr ((goV (upE c k En.done) k (da p a)).r.length) 1 fun i j=>aI (List.getD (goV (upE c k En.done) k (da p a)).r i 0)) (cj (rf ((goV (upE c k En.done) k (da p a)).e)) (cj (rf (1:Nat)) (cj (rr 1 2 fun i j=>an obC [Ob.mk (3:Int) (da p a)] i j) (cj (rf true) trivial))))))))))))))))))))))))))))))))))))))))))))))))))))))))))
theorem zK(c:Cf)(k:Nat)(hk:k<c.b.length): ∀(i:Nat),i<0+c.b.length-> ∀(j:Nat),j<8->(bif Nat.ble (7:Nat) j&&Nat.blt j (8:Nat)&&Nat.beq (i+0) (k+0) then List.getD [AV.bool true] (j-7) AV.junk else bif Nat.ble (5:Nat) j&&Nat.blt j (6:Nat)&&Nat.beq (i+0) (k+0) then List.getD [AV.bool true] (j-5) AV.junk else bif Nat.blt (i+0) (0:Nat) then AV.junk else an enC c.b (i+0-0) j)=an enC (List.set c.b k (En.flt (En.done (c.b.getD k default)))) i j:=(fun i hi j hj=>by cases hq:Nat.beq (i+0) (k+0) with |true=>obtain rfl:=jO hq;rw[de hk];exact(match j,hj with |0,_=>rfl |1,_=>rfl |2,_=>rfl |3,_=>rfl |4,_=>rfl |5,_=>rfl |6,_=>rfl |7,_=>rfl)|false=>rw[e9 hq];exact(match j,hj with |0,_=>rfl |1,_=>rfl |2,_=>rfl |3,_=>rfl |4,_=>rfl |5,_=>rfl |6,_=>rfl |7,_=>rfl))
theorem tZ(c:Cf){Z:Prop}(z:Z):(RF c.r.length (RR c.r.length 1 (fun i j=>aI (c.r.getD i 0)) (RF c.e (RF true Z)))):=⟨rfl,fun _ _ _ _=>rfl,rfl,rfl,z⟩
theorem qq(p:Pg)(c:Cf){Z:Prop}(z:Z):(RF p.ls.length (RR p.ls.length 2 (fun i j=>an lbC p.ls i j) (RF p.is.length (RR p.is.length 9 (fun i j=>an inC p.is i j) (RF c.s.st.length (RR c.s.st.length 1 (fun i j=>aI (List.getD c.s.st i 0)) Z)))))):=⟨rfl,fun _ _ _ _=>rfl,rfl,fun _ _ _ _=>rfl,rfl,fun _ _ _ _=>rfl,z⟩
theorem Gs(p:Pg)(c:Cf)(k:Nat)(hk:k<c.b.length)(hb:c.b.length<900000)(a b d:Int)(ab so:Bool)(hC:nD p c k)(hT:nC p c k a b d ab so)(hst:c.s.st.length<=1000)(hbp: ∀e∈(c.b.set k (c.b.getD k default).done), -1<=e.pc∧e.pc<=1000000)(hv:reV p c.s.st (c.b.set k (c.b.getD k default).done) k=none)(k1: ¬(enX p c k).kind=1)(k4: ¬(enX p c k).kind=4)(k3: ¬(enX p c k).kind=3)(k2: ¬(enX p c k).kind=2)(k5: ¬(enX p c k).kind=5)(k7: ¬(enX p c k).kind=7)(k9:(enX p c k).kind=9):Vc (vF_ 46 [.agg (pgA p),.agg (cfA c), aI k] [.fv,nK p c k,nJ p c k,nI p c k a b d ab so,.bd false,.bd false,.bd false,.bd false,.bd false,.bd false,.bd true,.cp [.agg (pgA p),lR c.s.st,enR (c.b.set k (c.b.getD k default).done), aI k] (.tup [.nils,.bool false])] [] (.tup [.agg (cfA (upE c k fun e=>e.done.flt)),.nils,.bool true]) []):=al (dF p (gm p c (nj c b (cj (rf (k:Int)) (cj hC (cj (ap 0 c.b.length 48) (cj (bi k (↑((0:Nat)+c.b.length):Int)) (cj (lz k c.b.length) (cj (lz k c.b.length) (dF p (nk p c k b (cj (bv p (c.b.getD k default).pc) (dF p (gm p c (nl c (cj (pv ((0:Nat)+c.b.length=(List.set c.b k (En.done (c.b.getD k default))).length)) (cj (jw c k hk) (no p c k a d (np p c k b (cj hT (cj (aa.2 k1) (cj (aa.2 k4) (cj (aa.2 k3) (cj (aa.2 k2) (cj (aa.2 k5) (cj (aa.2 k7) (cj (ax.2 k9) (dF p (qq p c (cj (pv ((0:Nat)+c.b.length=(List.set c.b k (En.done (c.b.getD k default))).length)) (cj (jw c k hk) (cj (rf (k:Int)) (cj (pu p c.s.st (c.b.set k (c.b.getD k default).done) k (by rw[aq];omega) hst hbp hv) (cj (lz k c.b.length) (nq c (cj (pv ((0:Nat)+c.b.length=(List.set c.b k (En.flt (En.done (c.b.getD k default)))).length)) (cj (zK c k hk) (tZ c trivial))))))))))))))))))))))))))))))))))))))
abbrev zW(p:Pg)(c:Cf)(k:Nat)(L:List Int):Orc:= .cq [.agg (pgA p),lR c.s.st,enR (c.b.set k (c.b.getD k default).done), aI k] (.tup [.own 0 0 1 0 L.length,.bool true]) [(3,L)]
theorem Gr(p:Pg)(c:Cf)(k:Nat)(hk:k<c.b.length)(hb:c.b.length<900000)(a b d:Int)(ab so:Bool)(hC:nD p c k)(hT:nC p c k a b d ab so)(L:List Int)(hst:c.s.st.length<=1000)(hbp: ∀e∈(c.b.set k (c.b.getD k default).done), -1<=e.pc∧e.pc<=1000000)(hv:reV p c.s.st (c.b.set k (c.b.getD k default).done) k=some L)(hL:L.length=0)(k1: ¬(enX p c k).kind=1)(k4: ¬(enX p c k).kind=4)(k3: ¬(enX p c k).kind=3)(k2: ¬(enX p c k).kind=2)(k5: ¬(enX p c k).kind=5)(k7: ¬(enX p c k).kind=7)(k9:(enX p c k).kind=9):Vc (vF_ 46 [.agg (pgA p),.agg (cfA c), aI k] [.fv,nK p c k,nJ p c k,nI p c k a b d ab so,.bd false,.bd false,.bd false,.bd false,.bd false,.bd false,.bd true,zW p c k L,.bd true] [] (.tup [.agg (cfA (upE c k fun e=>e.done.flt)),.nils,.bool true]) []):=al (dF p (gm p c (nj c b (cj (rf (k:Int)) (cj hC (cj (ap 0 c.b.length 48) (cj (bi k (↑((0:Nat)+c.b.length):Int)) (cj (lz k c.b.length) (cj (lz k c.b.length) (dF p (nk p c k b (cj (bv p (c.b.getD k default).pc) (dF p (gm p c (nl c (cj (pv ((0:Nat)+c.b.length=(List.set c.b k (En.done (c.b.getD k default))).length)) (cj (jw c k hk) (no p c k a d (np p c k b (cj hT (cj (aa.2 k1) (cj (aa.2 k4) (cj (aa.2 k3) (cj (aa.2 k2) (cj (aa.2 k5) (cj (aa.2 k7) (cj (ax.2 k9) (dF p (qq p c (cj (pv ((0:Nat)+c.b.length=(List.set c.b k (En.done (c.b.getD k default))).length)) (cj (jw c k hk) (cj (rf (k:Int)) (cj (uZ p c.s.st (c.b.set k (c.b.getD k default).done) k L (by rw[aq];omega) hst hbp hv) (cj (e1 L.length 0) (cj (lz k c.b.length) (nq c (cj (pv ((0:Nat)+c.b.length=(List.set c.b k (En.flt (En.done (c.b.getD k default)))).length)) (cj (zK c k hk) (tZ c trivial)))))))))))))))))))))))))))))))))))))))
theorem IL(p:Pg)(c:Cf)(k:Nat)(hk:k<c.b.length)(hb:c.b.length<900000)(a b d:Int)(ab so:Bool)(hC:nD p c k)(hT:nC p c k a b d ab so)(L:List Int)(hst:c.s.st.length<=1000)(hbp: ∀e∈(c.b.set k (c.b.getD k default).done), -1<=e.pc∧e.pc<=1000000)(hv:reV p c.s.st (c.b.set k (c.b.getD k default).done) k=some L)(hL: ¬L.length=0)(hl6:L.length<1000000)(k1: ¬(enX p c k).kind=1)(k4: ¬(enX p c k).kind=4)(k3: ¬(enX p c k).kind=3)(k2: ¬(enX p c k).kind=2)(k5: ¬(enX p c k).kind=5)(k7: ¬(enX p c k).kind=7)(k9:(enX p c k).kind=9):Vc (vF_ 46 [.agg (pgA p),.agg (cfA c), aI k] [.fv,nK p c k,nJ p c k,nI p c k a b d ab so,.bd false,.bd false,.bd false,.bd false,.bd false,.bd false,.bd true,zW p c k L,.bd false,.cm [.agg (cfO (upE c k En.done) (enO (c.b.set k (c.b.getD k default).done))), aI k, aI (br L)] [enB (c.b.set k (c.b.getD k default).done)] [(0,2)] (.tup [.agg (cfA (goV (upE c k En.done) k (br L))),(obR [⟨3,(br L)⟩])]) []] [] (.tup [.agg (cfA (goV (upE c k En.done) k (br L))),(obR [⟨3,(br L)⟩]),.bool true]) []):=al (dF p (gm p c (nj c b (cj (rf (k:Int)) (cj hC (cj (ap 0 c.b.length 48) (cj (bi k (↑((0:Nat)+c.b.length):Int)) (cj (lz k c.b.length) (cj (lz k c.b.length) (dF p (nk p c k b (cj (bv p (c.b.getD k default).pc) (dF p (gm p c (nl c (cj (pv ((0:Nat)+c.b.length=(List.set c.b k (En.done (c.b.getD k default))).length)) (cj (jw c k hk) (no p c k a d (np p c k b (cj hT (cj (aa.2 k1) (cj (aa.2 k4) (cj (aa.2 k3) (cj (aa.2 k2) (cj (aa.2 k5) (cj (aa.2 k7) (cj (ax.2 k9) (dF p (qq p c (cj (pv ((0:Nat)+c.b.length=(List.set c.b k (En.done (c.b.getD k default))).length)) (cj (jw c k hk) (cj (rf (k:Int)) (cj (uZ p c.s.st (c.b.set k (c.b.getD k default).done) k L (by rw[aq];omega) hst hbp hv) (cj (e0 L.length 0) (cj (i6 (L.length-1)) (cj (bi (L.length-1) L.length) (cj (pv (Int.toNat ((L.length:Int)-1)+0<L.length)) (cj (pv ((0:Nat)+c.b.length=(List.set c.b k (En.done (c.b.getD k default))).length)) (cj (rM c k hk) (nq c (cj (rf (0:Nat)) (cj (pv ((0:Nat)+c.b.length=(List.set c.b k (En.done (c.b.getD k default))).length)) (tY c k (cj (rf (br L)) (cj (show MutC Try.prog 65 [.agg (cfO (upE c k En.done) (enO (c.b.set k (c.b.getD k default).done))), aI k, aI (br L)] [enB (c.b.set k (c.b.getD k default).done)] (.tup [.agg (cfA (goV (upE c k En.done) k (br L))),(obR [⟨3,(br L)⟩])]) [] from sG (upE c k En.done) k (br L) (by show k<(List.set _ _ _).length;rw[aq];exact hk) (by show(List.set _ _ _).length<_;rw[aq];omega)) (cj (rf ((goV (upE c k En.done) k (br L)).s.r0)) (cj (rf ((goV (upE c k En.done) k (br L)).s.r1)) (cj (rf ((goV (upE c k En.done) k (br L)).s.r2)) (cj (rf ((goV (upE c k En.done) k (br L)).s.r3)) (cj (rf (((goV (upE c k En.done) k (br L)).s.m).length)) (cj (rr (((goV (upE c k En.done) k (br L)).s.m).length) 1 fun i j=>aI (List.getD ((goV (upE c k En.done) k (br L)).s.m) i 0)) (cj (rf (((goV (upE c k En.done) k (br L)).s.st).length)) (cj (rr (((goV (upE c k En.done) k (br L)).s.st).length) 1 fun i j=>aI (List.getD ((goV (upE c k En.done) k (br L)).s.st) i 0)) (cj (rf ((goV (upE c k En.done) k (br L)).s.pc)) (cj (rf ((goV (upE c k En.done) k (br L)).b.length)) (cj (rr ((goV (upE c k En.done) k (br L)).b.length) 8 fun i j=>an enC (goV (upE c k En.done) k (br L)).b i j) (cj (rf ((goV (upE c k En.done) k (br L)).r.length)) (cj (rr ((goV (upE c k En.done) k (br L)).r.length) 1 fun i j=>aI (List.getD (goV (upE c k En.done) k (br L)).r i 0)) (cj (rf ((goV (upE c k En.done) k (br L)).e)) (cj (rf (1:Nat)) (cj (rr 1 2 fun i j=>an obC [Ob.mk (3:Int) (br L)] i j) (cj (rf true) trivial))))))))))))))))))))))))))))))))))))))))))))))))))))))))))))))
def obX(l:List Ob):AV:=match l with
 | []=> .nils
 |o::r=>obR (o::r)
def dmV(p:Pg)(c:Cf)(k:Nat):Cf×List Ob:=
 if(enX p c k).kind=1 then(upE c k fun e=>e.done.vl (Wd.doV p.W (enX p c k).op (tA p (upE c k En.done) k (enX p c k)).1 (tB p (upE c k En.done) k (enX p c k)).1),[])
 else if(enX p c k).kind=4 then(upE c k fun e=>e.done.vl (if(tA p (upE c k En.done) k (enX p c k)).1=0 then(tD p (upE c k En.done) k (enX p c k)).1 else(tB p (upE c k En.done) k (enX p c k)).1),[])
 else if(enX p c k).kind=3 then(upE c k fun e=>e.done.vl (tD p (upE c k En.done) k (enX p c k)).1,[])
 else if(enX p c k).kind=2 then(if(c.s.m.length:Int)<=adV p (upE c k En.done) k (enX p c k) then(upE c k fun e=>(e.done.ad (adV p (upE c k En.done) k (enX p c k))).flt,[])
  else(upE c k fun e=>(e.done.ad (adV p (upE c k En.done) k (enX p c k))).ld (ldV p c.s.m (upE c k fun e=>e.done.ad (adV p (upE c k En.done) k (enX p c k))).b k (adV p (upE c k En.done) k (enX p c k))).1 (ldV p c.s.m (upE c k fun e=>e.done.ad (adV p (upE c k En.done) k (enX p c k))).b k (adV p (upE c k En.done) k (enX p c k))).2.1,[⟨1,adV p (upE c k En.done) k (enX p c k)⟩]))
 else if(enX p c k).kind=5 then(goV (upE c k En.done) k (if Wd.doV p.W (enX p c k).op (tA p (upE c k En.done) k (enX p c k)).1 (tB p (upE c k En.done) k (enX p c k)).1=0 then(c.b.getD k default).pc+1 else(enX p c k).tg),[⟨3,if Wd.doV p.W (enX p c k).op (tA p (upE c k En.done) k (enX p c k)).1 (tB p (upE c k En.done) k (enX p c k)).1=0 then(c.b.getD k default).pc+1 else(enX p c k).tg⟩])
 else if(enX p c k).kind=7 then(goV (upE c k En.done) k (da p (tA p (upE c k En.done) k (enX p c k)).1),[⟨3,da p (tA p (upE c k En.done) k (enX p c k)).1⟩])
 else match reV p c.s.st (upE c k En.done).b k with
  |none=>(upE c k fun e=>e.done.flt,[])
  |some L=>if L.length=0 then(upE c k fun e=>e.done.flt,[]) else(goV (upE c k En.done) k (br L),[⟨3,br L⟩])
def doO(p:Pg)(c:Cf)(i:Int):Option (Cf×List Ob):=if cnV p c i=true then some (dmV p c i.toNat) else none
def dmA(o:Option (Cf×List Ob)):AV:=match o with
 |some q=> .tup [.agg (cfA q.1),obX q.2,.bool true]
 |none=> .tup [.agg (cfA Cf0),.nils,.bool false]
theorem lx(p:Pg)(l:List En): ∀j k st L,reG p l k j st=some L->L.length<=st.length+j
 |0,k,st,L,h=>by cases h;omega
 |j+1,k,st,L,h=>by
  unfold reG at h
  split at h
  ·split at h
   ·cases h
   ·have:=lx p l j _ _ _ h;rw[aJ,bH] at this;omega
  ·split at h
   ·split at h
    ·cases h
    ·have:=lx p l j _ _ _ h;rw[aS] at this;omega
   ·have:=lx p l j _ _ _ h;omega
theorem AM{l:List En}{k:Nat}{g:En->En}(hg: ∀e,(g e).pc=e.pc)(hk:k<l.length)(h: ∀e∈l, -1<=e.pc∧e.pc<=1000000): ∀e∈l.set k (g (l.getD k default)), -1<=e.pc∧e.pc<=1000000:=fun e he=>by
 rcases bQ he with h1 |h1
 ·exact h e h1
 ·rw[h1,hg];exact h _ (by simp[List.getD,hk])
theorem ii{p:Pg}{c:Cf}{i:Int}(h:cnV p c i=true): ∃k:Nat,i=(k:Int)∧k<c.b.length∧(c.b.getD k default).dn=false∧cnK p c k (enX p c k)=true:=by
 unfold cnV at h
 rw[av] at h
 obtain⟨k,rfl,hk⟩:=oy h.1
 rw[aK,av] at h
 exact⟨k,rfl,hk,by simpa using h.2.1,h.2.2⟩
theorem HE(p:Pg)(c:Cf)(i:Int)(hb:c.b.length<900000)(hm:c.s.m.length<1000000)(hv:Sml p c)(hv': ∀k,Sml p (upE c k En.done))(hst:c.s.st.length<=1000)(hbp: ∀e∈c.b, -1<=e.pc∧e.pc<=1000000):pC_ 46 [.agg (pgA p),.agg (cfA c),.int .i64 i] (dmA (doO p c i)) []:=by
 have hC:=zO p c i (by omega) hm hv
 unfold doO
 cases hc:cnV p c i with
 |false=>
  rw[hc] at hC
  exact PureC.vc (IK p c i hC)
 |true=>
  rw[hc] at hC
  obtain⟨k,rfl,hk,hd,hK⟩:=ii hc
  rw[ai rfl,aK]
  have hT:=xJ p (upE c k En.done) k (enX p c k) (by show(List.set _ _ _).length<_;rw[aq];omega)
  have ha:=(hv' k).add k (enX p c k)
  have hp: -1<=(c.b.getD k default).pc∧(c.b.getD k default).pc<=1000000:=hbp _ (by simp[List.getD,hk])
  have hbs:=AM (g:=En.done) (fun e=>rfl) hk hbp
  unfold dmV
  by_cases k1:(enX p c k).kind=1
  ·rw[ai k1];exact PureC.vc (IQ p c k hk hb _ _ _ _ _ hC hT k1)
  rw[ah k1]
  by_cases k4:(enX p c k).kind=4
  ·rw[ai k4]
   by_cases h0:(tA p (upE c k En.done) k (enX p c k)).1=0
   ·rw[ai h0];exact PureC.vc (Gw p c k hk hb _ _ _ _ _ hC hT h0 k1 k4)
   ·rw[ah h0];exact PureC.vc (Gv p c k hk hb _ _ _ _ _ hC hT h0 k1 k4)
  rw[ah k4]
  by_cases k3:(enX p c k).kind=3
  ·rw[ai k3];exact PureC.vc (IP p c k hk hb _ _ _ _ _ hC hT k1 k4 k3)
  rw[ah k3]
  by_cases k2:(enX p c k).kind=2
  ·rw[ai k2]
   by_cases ho:(c.s.m.length:Int)<=adV p (upE c k En.done) k (enX p c k)
   ·rw[ai ho];exact PureC.vc (Gx p c k hk hb _ _ _ _ _ hC hT ha hm ho k1 k4 k3 k2)
   ·rw[ah ho];exact PureC.vc (Gy p c k hk hb _ _ _ _ _ hC hT ha hm ho k1 k4 k3 k2)
  rw[ah k2]
  by_cases k5:(enX p c k).kind=5
  ·rw[ai k5]
   by_cases h0:Wd.doV p.W (enX p c k).op (tA p (upE c k En.done) k (enX p c k)).1 (tB p (upE c k En.done) k (enX p c k)).1=0
   ·rw[ai h0];exact PureC.vc (Gu p c k hk hb _ _ _ _ _ hC hT hp h0 k1 k4 k3 k2 k5)
   ·rw[ah h0];exact PureC.vc (Gt p c k hk hb _ _ _ _ _ hC hT hp h0 k1 k4 k3 k2 k5)
  rw[ah k5]
  by_cases k7:(enX p c k).kind=7
  ·rw[ai k7];exact PureC.vc (IM p c k hk hb _ _ _ _ _ hC hT k1 k4 k3 k2 k5 k7)
  rw[ah k7]
  have k9:(enX p c k).kind=9:=by
   unfold cnK at hK
   rw[ah k1,ah k5,ah k4,ah k2,ah k3,ah k7] at hK
   exact ax.1 hK
  cases hv:reV p c.s.st (upE c k En.done).b k with
  |none=>exact PureC.vc (Gs p c k hk hb _ _ _ _ _ hC hT hst hbs hv k1 k4 k3 k2 k5 k7 k9)
  |some L=>
   have h6:=lx _ _ _ _ _ _ hv
   have h7:=jg k (upE c k En.done).b.length
   have h8:(upE c k En.done).b.length=c.b.length:=aq
   by_cases h0:L.length=0
   ·show PureC _ _ _ (dmA (some (if _ then _ else _))) _
    rw[ai h0];exact PureC.vc (Gr p c k hk hb _ _ _ _ _ hC hT L hst hbs hv h0 k1 k4 k3 k2 k5 k7 k9)
   ·show PureC _ _ _ (dmA (some (if _ then _ else _))) _
    rw[ah h0];exact PureC.vc (IL p c k hk hb _ _ _ _ _ hC hT L hst hbs hv h0 (by omega) k1 k4 k3 k2 k5 k7 k9)
end
end Go.Proofs.Ytdanmboalfmifaa.Px
