import Derived.Test.YtlfldlnohmobmaaGreatMbD
set_option linter.unusedVariables false
set_option linter.unusedSimpArgs false
set_option maxRecDepth 100000
namespace Go.Proofs.YtlfldlnohmobmaaGreat.Px
section
open Go.RowKit Go.Proofs.YtlfldlnohmobmaaGreat.Rx
def ldF(p:Pg)(l:List En)(a:Int):Nat->Option (Int×Int×Bool)
 |0=>none
 |k+1=>if(enI p l k).kind=3∧(l.getD k default).kn=true∧(l.getD k default).adr=a then some (if(l.getD k default).dn then((l.getD k default).val,(k:Int),true) else(0,0,false)) else ldF p l a k
def ldV(p:Pg)(m:List Int)(l:List En)(i a:Int):Int×Int×Bool:=match ldF p l a (cl0 i l.length) with
 |some x=>x
 |none=>if 0<=a∧a<m.length then(m.getD a.toNat 0, -1,true) else(0, -1,true)
def ldS(p:Pg)(m:List Int)(l:List En)(a i:Int):Sm:=⟨[(5,pgP p),(1,lR m),(2,enR l),(4,.int .i64 a),(13,.int .i64 i),(10,.int .i64 0),(11,.int .i64 0),(12,.bool false)],[],0⟩
def wO(a b c:Nat)(x:Int×Int×Bool):Sm:=⟨[(a,.int .i64 x.1),(b,.int .i64 x.2.1),(c,.bool x.2.2)],[],0⟩
def hzB(p:Pg)(l:List En)(i a:Int)(k:Nat):Prop:=(enI p l k).kind=2∧(l.getD k default).kn=true∧(l.getD k default).adr=a∧(l.getD k default).frm<i
instance(p:Pg)(l:List En)(i a:Int)(k:Nat):Decidable (hzB p l i a k):=inferInstanceAs (Decidable (_∧_))
def hzG(p:Pg)(l:List En)(i a:Int):Nat->Nat->Option Nat
 |_,0=>none
 |k,j+1=>if hzB p l i a k then some k else hzG p l i a (k+1) j
def hz0(i:Int)(n:Nat):Nat:=(min (max i (-1)) (n:Int)+1).toNat
def hzV(p:Pg)(l:List En)(i a:Int):Int×Bool:=match hzG p l i a (hz0 i l.length) (l.length-hz0 i l.length) with
 |some k=>((k:Int),true)
 |none=>(0,false)
def hzS(p:Pg)(l:List En)(i a:Int)(k:Nat):Sm:=⟨[(4,pgP p),(1,enR l),(2,.int .i64 i),(3,.int .i64 a),(10,.int .i64 k),(8,.int .i64 0),(9,.bool false)],[],0⟩
theorem DX(k:Nat){Z:Prop}(z:Z):(RF ((k:Int)-1) (RF (0:Int) (RF (0:Int) (RF false Z)))):=⟨rfl,rfl,rfl,rfl,z⟩
theorem qt(p:Pg)(m:List Int)(l:List En)(a:Int){Z:Prop}(z:Z):(RF p.ls.length (RR p.ls.length 2 (fun i j=>ao lbC p.ls i j) (RF p.is.length (RR p.is.length 9 (fun i j=>ao inC p.is i j) (RF m.length (RR m.length 1 (fun i j=>aI (m.getD i 0)) (RF l.length (RR l.length 8 (fun i j=>ao enC l i j) (RF a Z))))))))):=⟨rfl,fun _ _ _ _=>rfl,rfl,fun _ _ _ _=>rfl,rfl,fun _ _ _ _=>rfl,rfl,fun _ _ _ _=>rfl,rfl,z⟩
theorem fm(p:Pg){Z:Prop}(z:Z):(RF p.W (RF p.win (RF p.fuel (RF p.r0 (RF p.r1 (RF p.r2 (RF p.r3 (RF p.ms.length (RR p.ms.length 3 (fun i j=>ao mmC p.ms i j) Z))))))))):=⟨rfl,rfl,rfl,rfl,rfl,rfl,rfl,rfl,fun _ _ _ _=>rfl,z⟩
theorem oh(p:Pg)(l:List En)(k:Nat){Z:Prop}(z:Z):(RF p.ls.length (RR p.ls.length 2 (fun i j=>ao lbC p.ls i j) (RF p.is.length (RR p.is.length 9 (fun i j=>ao inC p.is i j) (RF ((l.getD k default).pc) Z))))):=⟨rfl,fun _ _ _ _=>rfl,rfl,fun _ _ _ _=>rfl,rfl,z⟩
abbrev ox(p:Pg)(l:List En)(k:Nat):Orc:= .cl [.agg (pgA p), aI (l.getD k default).pc] (.agg (inA (enI p l k))) []
theorem LH(p:Pg)(m:List Int)(l:List En)(a:Int)(k:Nat)(hk:k<l.length)(hb:l.length<1000000)(hk3: ¬(enI p l k).kind=3):Vc (vC_ 41 0 (ldS p m l a k) [.bd true,ox p l k,.bd false] .nrm [] (ldS p m l a ((k:Int)-1))):=aj (cj (dt ((k:Int)>=0)) (cj (bi k l.length) (fm p (oh p l k (cj (bL p (l.getD k default).pc) (cj (ae.2 hk3) (cj (i6 (k-1)) (fm p (qt p m l a (DX k trivial))))))))))
theorem LG(p:Pg)(m:List Int)(l:List En)(a:Int)(k:Nat)(hk:k<l.length)(hb:l.length<1000000)(hk3:(enI p l k).kind=3)(hn:(l.getD k default).kn=false):Vc (vC_ 41 0 (ldS p m l a k) [.bd true,ox p l k,.bd true,.lv (.bool false)] .nrm [] (ldS p m l a ((k:Int)-1))):=aj (cj (dt ((k:Int)>=0)) (cj (bi k l.length) (fm p (oh p l k (cj (bL p (l.getD k default).pc) (cj (ay.2 hk3) (cj (bi k l.length) (cj (congrArg (fun b=>some (AV.bool b)) hn) (cj (i6 (k-1)) (fm p (qt p m l a (DX k trivial))))))))))))
theorem LI(p:Pg)(m:List Int)(l:List En)(a:Int)(k:Nat)(hk:k<l.length)(hb:l.length<1000000)(hk3:(enI p l k).kind=3)(hn:(l.getD k default).kn=true)(ha: ¬(l.getD k default).adr=a):Vc (vC_ 41 0 (ldS p m l a k) [.bd true,ox p l k,.bd true,.lv (.bool true),.bd false] .nrm [] (ldS p m l a ((k:Int)-1))):=aj (cj (dt ((k:Int)>=0)) (cj (bi k l.length) (fm p (oh p l k (cj (bL p (l.getD k default).pc) (cj (ay.2 hk3) (cj (bi k l.length) (cj (congrArg (fun b=>some (AV.bool b)) hn) (cj (bi k l.length) (cj (ae.2 ha) (cj (i6 (k-1)) (fm p (qt p m l a (DX k trivial))))))))))))))
theorem OA(p:Pg)(m:List Int)(l:List En)(a:Int)(k:Nat)(hk:k<l.length)(hb:l.length<1000000)(hk3:(enI p l k).kind=3)(hn:(l.getD k default).kn=true)(ha:(l.getD k default).adr=a)(hd:(l.getD k default).dn=true):Vc (vC_ 41 0 (ldS p m l a k) [.bd true,ox p l k,.bd true,.lv (.bool true),.bd true,.lv (.bool true)] .ret [] (wO 10 11 12 ((l.getD k default).val,(k:Int),true))):=aj (cj (dt ((k:Int)>=0)) (cj (bi k l.length) (fm p (oh p l k (cj (bL p (l.getD k default).pc) (cj (ay.2 hk3) (cj (bi k l.length) (cj (congrArg (fun b=>some (AV.bool b)) hn) (cj (bi k l.length) (cj (ay.2 ha) (cj (bi k l.length) (cj (congrArg (fun b=>some (AV.bool b)) hd) (cj (bi k l.length) (cj (rf ((l.getD k default).val)) (cj (rf (k:Int)) (cj (rf true) trivial))))))))))))))))
theorem wa{Z:Prop}(z:Z):(RF (0:Int) (RF (0:Int) (RF false Z))):=⟨rfl,rfl,rfl,z⟩
theorem Oz(p:Pg)(m:List Int)(l:List En)(a:Int)(k:Nat)(hk:k<l.length)(hb:l.length<1000000)(hk3:(enI p l k).kind=3)(hn:(l.getD k default).kn=true)(ha:(l.getD k default).adr=a)(hd:(l.getD k default).dn=false):Vc (vC_ 41 0 (ldS p m l a k) [.bd true,ox p l k,.bd true,.lv (.bool true),.bd true,.lv (.bool false)] .ret [] (wO 10 11 12 (0,0,false))):=aj (cj (dt ((k:Int)>=0)) (cj (bi k l.length) (fm p (oh p l k (cj (bL p (l.getD k default).pc) (cj (ay.2 hk3) (cj (bi k l.length) (cj (congrArg (fun b=>some (AV.bool b)) hn) (cj (bi k l.length) (cj (ay.2 ha) (cj (bi k l.length) (cj (congrArg (fun b=>some (AV.bool b)) hd) (wa trivial)))))))))))))
theorem Gy(p:Pg)(m:List Int)(l:List En)(a:Int):Vc (vC_ 41 0 (ldS p m l a (-1)) [.b false] (.ext 0) [] (ldS p m l a (-1))):=aj (cj (df ((-1:Int)>=0)) (fm p (qt p m l a (cj (rf (-1:Int)) (cj (rf (0:Int)) (cj (rf (0:Int)) (cj (rf false) trivial)))))))
theorem mG(p:Pg)(m:List Int)(l:List En)(a:Int)(hb:l.length<1000000)(x:Int×Int×Bool): ∀k,k<=l.length->ldF p l a k=some x->OkL Tryz.prog (bY Tryz.prog 41) (lpC Tryz.prog 41 0) (ldS p m l a ((k:Int)-1)).st .ret (wO 10 11 12 x).st
 |0,_,h=>by cases h
 |k+1,hk,h=>by
  rw[t6]
  unfold ldF at h
  by_cases hk3:(enI p l k).kind=3
  ·cases hn:(l.getD k default).kn with
   |false=>
    rw[an (by rw[hn];simp)] at h
    exact OkL.step (Ok.vc (LG p m l a k (by omega) hb hk3 hn)) (mG p m l a hb x k (by omega) h)
   |true=>
    by_cases ha:(l.getD k default).adr=a
    ·rw[aq ⟨hk3,hn,ha⟩] at h
     cases hd:(l.getD k default).dn with
     |true=>
      rw[aq hd,ai] at h
      subst h
      exact OkL.exit (Ok.vc (OA p m l a k (by omega) hb hk3 hn ha hd)) (by simp)
     |false=>
      rw[an (by rw[hd];simp),ai] at h
      subst h
      exact OkL.exit (Ok.vc (Oz p m l a k (by omega) hb hk3 hn ha hd)) (by simp)
    ·rw[an fun e=>ha e.2.2] at h
     exact OkL.step (Ok.vc (LI p m l a k (by omega) hb hk3 hn ha)) (mG p m l a hb x k (by omega) h)
  ·rw[an fun e=>hk3 e.1] at h
   exact OkL.step (Ok.vc (LH p m l a k (by omega) hb hk3)) (mG p m l a hb x k (by omega) h)
theorem mF(p:Pg)(m:List Int)(l:List En)(a:Int)(hb:l.length<1000000): ∀k,k<=l.length->ldF p l a k=none->OkL Tryz.prog (bY Tryz.prog 41) (lpC Tryz.prog 41 0) (ldS p m l a ((k:Int)-1)).st (.ext 0) (ldS p m l a (-1)).st
 |0,_,_=>OkL.exit (Ok.vc (Gy p m l a)) (by simp)
 |k+1,hk,h=>by
  rw[t6]
  unfold ldF at h
  by_cases hk3:(enI p l k).kind=3
  ·cases hn:(l.getD k default).kn with
   |false=>
    rw[an (by rw[hn];simp)] at h
    exact OkL.step (Ok.vc (LG p m l a k (by omega) hb hk3 hn)) (mF p m l a hb k (by omega) h)
   |true=>
    by_cases ha:(l.getD k default).adr=a
    ·rw[aq ⟨hk3,hn,ha⟩] at h
     cases h
    ·rw[an fun e=>ha e.2.2] at h
     exact OkL.step (Ok.vc (LI p m l a k (by omega) hb hk3 hn ha)) (mF p m l a hb k (by omega) h)
  ·rw[an fun e=>hk3 e.1] at h
   exact OkL.step (Ok.vc (LH p m l a k (by omega) hb hk3)) (mF p m l a hb k (by omega) h)
theorem Ay(l:List En)(i:Int)(n:Nat)(hE:(if(l.length:Int)<(if i<0 then 0 else i) then(l.length:Int) else(if i<0 then 0 else i))=(n:Int)):(if(l.length:Int)<if i<0 then(0:Int) else i then(l.length:Int) else if i<0 then(0:Int) else i)-1=(n:Int)-1:=by rw[hE]
theorem Gn(p:Pg)(m:List Int)(l:List En)(i a:Int)(n:Nat)(x:Int×Int×Bool)(hE:(if(l.length:Int)<(if i<0 then 0 else i) then(l.length:Int) else(if i<0 then 0 else i))=(n:Int))(hn:n<1000000)(h:oL_ 41 0 (ldS p m l a ((n:Int)-1)).st .ret (wO 10 11 12 x).st):Vc (vF_ 41 [.agg (pgA p),lR m,enR l, aI i, aI a] [.fz,.lp [] (ldS p m l a ((n:Int)-1)) .ret (wO 10 11 12 x)] [] (.tup [aI x.1, aI x.2.1,.bool x.2.2]) []):=aj (cj (show inK IntKind.i64 ((if(l.length:Int)<if i<0 then(0:Int) else i then(l.length:Int) else if i<0 then(0:Int) else i)-1) from by rw[hE];exact fB (by omega) (by omega)) (fm p (qt p m l a (cj (Ay l i n hE) (wa (cj h (cj (rf (Prod.fst x)) (cj (rf (Prod.fst (Prod.snd x))) (cj (rf (Prod.snd (Prod.snd x))) trivial)))))))))
theorem Iy{Z:Prop}(z:Z):(RF (0:Int) (RF (-1:Int) (RF true Z))):=⟨rfl,rfl,rfl,z⟩
abbrev FF(p:Pg)(m:List Int)(l:List En)(a:Int)(n:Nat):Prop:=Ok Tryz.prog (bY Tryz.prog 41) (.loop (lpC Tryz.prog 41 0)) (ldS p m l a ((n:Int)-1)).st (.ext 0) (ldS p m l a (-1)).st
theorem yq(p:Pg)(m:List Int)(l:List En)(i a:Int)(n:Nat)(hE:(if(l.length:Int)<(if i<0 then 0 else i) then(l.length:Int) else(if i<0 then 0 else i))=(n:Int))(hn:n<1000000)(h:FF p m l a n)(ha:a<0):Vc (vF_ 41 [.agg (pgA p),lR m,enR l, aI i, aI a] [.fz,.lp [] (ldS p m l a ((n:Int)-1)) (.ext 0) (ldS p m l a (-1)),.bd true] [] (.tup [aI 0, aI (-1),.bool true]) []):=aj (cj (show inK IntKind.i64 ((if(l.length:Int)<if i<0 then(0:Int) else i then(l.length:Int) else if i<0 then(0:Int) else i)-1) from by rw[hE];exact fB (by omega) (by omega)) (fm p (qt p m l a (cj (Ay l i n hE) (wa (cj h (cj (dt (a<0)) (Iy trivial))))))))
theorem yp(p:Pg)(m:List Int)(l:List En)(i a:Int)(n:Nat)(hE:(if(l.length:Int)<(if i<0 then 0 else i) then(l.length:Int) else(if i<0 then 0 else i))=(n:Int))(hn:n<1000000)(h:FF p m l a n)(h0:0<=a)(ha: ¬a<m.length):Vc (vF_ 41 [.agg (pgA p),lR m,enR l, aI i, aI a] [.fz,.lp [] (ldS p m l a ((n:Int)-1)) (.ext 0) (ldS p m l a (-1)),.bd false,.bd true] [] (.tup [aI 0, aI (-1),.bool true]) []):=aj (cj (show inK IntKind.i64 ((if(l.length:Int)<if i<0 then(0:Int) else i then(l.length:Int) else if i<0 then(0:Int) else i)-1) from by rw[hE];exact fB (by omega) (by omega)) (fm p (qt p m l a (cj (Ay l i n hE) (wa (cj h (cj (df (a<0)) (cj (dt (a>=(m.length:Int))) (Iy trivial)))))))))
theorem Bw(p:Pg)(m:List Int)(l:List En)(i a:Int)(n:Nat)(hE:(if(l.length:Int)<(if i<0 then 0 else i) then(l.length:Int) else(if i<0 then 0 else i))=(n:Int))(hn:n<1000000)(h:FF p m l a n)(h0:0<=a)(ha:a<m.length):Vc (vF_ 41 [.agg (pgA p),lR m,enR l, aI i, aI a] [.fz,.lp [] (ldS p m l a ((n:Int)-1)) (.ext 0) (ldS p m l a (-1)),.bd false,.bd false] [] (.tup [aI (m.getD a.toNat 0), aI (-1),.bool true]) []):=aj (cj (show inK IntKind.i64 ((if(l.length:Int)<if i<0 then(0:Int) else i then(l.length:Int) else if i<0 then(0:Int) else i)-1) from by rw[hE];exact fB (by omega) (by omega)) (fm p (qt p m l a (cj (Ay l i n hE) (wa (cj h (cj (df (a<0)) (cj (df (a>=(m.length:Int))) (cj (bi a m.length) (cj (rf (m.getD (Int.toNat a) (0:Int))) (cj (rf (-1:Int)) (cj (rf true) trivial))))))))))))
theorem AP(p:Pg)(m:List Int)(l:List En)(i a:Int)(hb:l.length<1000000):pC_ 41 [.agg (pgA p),lR m,enR l,.int .i64 i,.int .i64 a] (.tup [.int .i64 (ldV p m l i a).1,.int .i64 (ldV p m l i a).2.1,.bool (ldV p m l i a).2.2]) []:=by
 have hE:=zi i l.length
 have hle:=fu i l.length
 unfold ldV
 cases h:ldF p l a (cl0 i l.length) with
 |some x=>exact PureC.vc (Gn p m l i a _ x hE (by omega) (mG p m l a hb x _ hle h).ok)
 |none=>
  have hl:=(mF p m l a hb _ hle h).ok
  by_cases ha:0<=a∧a<m.length
  ·rw[aq ha]
   exact PureC.vc (Bw p m l i a _ hE (by omega) hl ha.1 ha.2)
  ·rw[an ha]
   by_cases h0:a<0
   ·exact PureC.vc (yq p m l i a _ hE (by omega) hl h0)
   ·exact PureC.vc (yp p m l i a _ hE (by omega) hl (by omega) (by omega))
theorem zW(p:Pg)(l:List En)(i:Int)(a:Int)(k:Nat){Z:Prop}(z:Z):(RF p.ls.length (RR p.ls.length 2 (fun i j=>ao lbC p.ls i j) (RF p.is.length (RR p.is.length 9 (fun i j=>ao inC p.is i j) (RF l.length (RR l.length 8 (fun i j=>ao enC l i j) (RF i (RF a (RF ((k:Int)+1) Z))))))))):=⟨rfl,fun _ _ _ _=>rfl,rfl,fun _ _ _ _=>rfl,rfl,fun _ _ _ _=>rfl,rfl,rfl,rfl,z⟩
theorem Mn(p:Pg)(l:List En)(i a:Int)(k:Nat)(hk:k<l.length)(hb:l.length<1000000)(hk3: ¬(enI p l k).kind=2):Vc (vC_ 49 0 (hzS p l i a k) [.bd true,ox p l k,.bd false] .nrm [] (hzS p l i a (k+1))):=aj (cj (dt ((k:Int)<l.length)) (cj (bi k l.length) (fm p (oh p l k (cj (bL p (l.getD k default).pc) (cj (ae.2 hk3) (cj (i6 (k+1)) (fm p (zW p l i a k (cj (rf (0:Int)) (cj (rf false) trivial)))))))))))
theorem Ml(p:Pg)(l:List En)(i a:Int)(k:Nat)(hk:k<l.length)(hb:l.length<1000000)(hk3:(enI p l k).kind=2)(hn:(l.getD k default).kn=false):Vc (vC_ 49 0 (hzS p l i a k) [.bd true,ox p l k,.bd true,.lv (.bool false)] .nrm [] (hzS p l i a (k+1))):=aj (cj (dt ((k:Int)<l.length)) (cj (bi k l.length) (fm p (oh p l k (cj (bL p (l.getD k default).pc) (cj (ay.2 hk3) (cj (bi k l.length) (cj (congrArg (fun b=>some (AV.bool b)) hn) (cj (i6 (k+1)) (fm p (zW p l i a k (cj (rf (0:Int)) (cj (rf false) trivial)))))))))))))
theorem Mp(p:Pg)(l:List En)(i a:Int)(k:Nat)(hk:k<l.length)(hb:l.length<1000000)(hk3:(enI p l k).kind=2)(hn:(l.getD k default).kn=true)(ha: ¬(l.getD k default).adr=a):Vc (vC_ 49 0 (hzS p l i a k) [.bd true,ox p l k,.bd true,.lv (.bool true),.bd false] .nrm [] (hzS p l i a (k+1))):=aj (cj (dt ((k:Int)<l.length)) (cj (bi k l.length) (fm p (oh p l k (cj (bL p (l.getD k default).pc) (cj (ay.2 hk3) (cj (bi k l.length) (cj (congrArg (fun b=>some (AV.bool b)) hn) (cj (bi k l.length) (cj (ae.2 ha) (cj (i6 (k+1)) (fm p (zW p l i a k (cj (rf (0:Int)) (cj (rf false) trivial)))))))))))))))
theorem Mo(p:Pg)(l:List En)(i a:Int)(k:Nat)(hk:k<l.length)(hb:l.length<1000000)(hk3:(enI p l k).kind=2)(hn:(l.getD k default).kn=true)(ha:(l.getD k default).adr=a)(hf: ¬(l.getD k default).frm<i):Vc (vC_ 49 0 (hzS p l i a k) [.bd true,ox p l k,.bd true,.lv (.bool true),.bd true,.bd false] .nrm [] (hzS p l i a (k+1))):=aj (cj (dt ((k:Int)<l.length)) (cj (bi k l.length) (fm p (oh p l k (cj (bL p (l.getD k default).pc) (cj (ay.2 hk3) (cj (bi k l.length) (cj (congrArg (fun b=>some (AV.bool b)) hn) (cj (bi k l.length) (cj (ay.2 ha) (cj (bi k l.length) (cj (bK hf) (cj (i6 (k+1)) (fm p (zW p l i a k (cj (rf (0:Int)) (cj (rf false) trivial)))))))))))))))))
theorem OQ(p:Pg)(l:List En)(i a:Int)(k:Nat)(hk:k<l.length)(hb:l.length<1000000)(hk3:(enI p l k).kind=2)(hn:(l.getD k default).kn=true)(ha:(l.getD k default).adr=a)(hf:(l.getD k default).frm<i):Vc (vC_ 49 0 (hzS p l i a k) [.bd true,ox p l k,.bd true,.lv (.bool true),.bd true,.bd true] .ret [] (vbS 8 9 ((k:Int),true))):=aj (cj (dt ((k:Int)<l.length)) (cj (bi k l.length) (fm p (oh p l k (cj (bL p (l.getD k default).pc) (cj (ay.2 hk3) (cj (bi k l.length) (cj (congrArg (fun b=>some (AV.bool b)) hn) (cj (bi k l.length) (cj (ay.2 ha) (cj (bi k l.length) (cj (bB hf) (cj (rf (k:Int)) (cj (rf true) trivial))))))))))))))
theorem GP(p:Pg)(l:List En)(i a:Int)(k:Nat)(hk: ¬k<l.length):Vc (vC_ 49 0 (hzS p l i a k) [.b false] (.ext 0) [] (hzS p l i a k)):=aj (cj (df ((k:Int)<l.length)) (fm p (cj (rf p.ls.length) (cj (rr p.ls.length 2 fun i j=>ao lbC p.ls i j) (cj (rf p.is.length) (cj (rr p.is.length 9 fun i j=>ao inC p.is i j) (cj (rf l.length) (cj (rr l.length 8 fun i j=>ao enC l i j) (cj (rf i) (cj (rf a) (cj (rf (k:Int)) (cj (rf (0:Int)) (cj (rf false) trivial)))))))))))))
theorem un(p:Pg)(l:List En)(i a:Int)(hb:l.length<1000000)(q:Nat): ∀j k,k+j=max k l.length->hzG p l i a k j=some q->OkL Tryz.prog (bY Tryz.prog 49) (lpC Tryz.prog 49 0) (hzS p l i a k).st .ret (vbS 8 9 ((q:Int),true)).st
 |0,k,_,h=>by cases h
 |j+1,k,hk,h=>by
  unfold hzG at h
  by_cases hz:hzB p l i a k
  ·rw[aq hz] at h
   obtain⟨hk3,hn,ha,hf⟩:=hz
   rw[ai] at h
   subst h
   exact OkL.exit (Ok.vc (OQ p l i a k (by omega) hb hk3 hn ha hf)) (by simp)
  ·rw[an hz] at h
   refine OkL.step ?_ (un p l i a hb q j (k+1) (by omega) h)
   by_cases hk3:(enI p l k).kind=2
   ·cases hn:(l.getD k default).kn with
    |false=>exact Ok.vc (Ml p l i a k (by omega) hb hk3 hn)
    |true=>
     by_cases ha:(l.getD k default).adr=a
     ·exact Ok.vc (Mo p l i a k (by omega) hb hk3 hn ha fun hf=>hz ⟨hk3,hn,ha,hf⟩)
     ·exact Ok.vc (Mp p l i a k (by omega) hb hk3 hn ha)
   ·exact Ok.vc (Mn p l i a k (by omega) hb hk3)
theorem um(p:Pg)(l:List En)(i a:Int)(hb:l.length<1000000): ∀j k,k+j=max k l.length->hzG p l i a k j=none->OkL Tryz.prog (bY Tryz.prog 49) (lpC Tryz.prog 49 0) (hzS p l i a k).st (.ext 0) (hzS p l i a (max k l.length)).st
 |0,k,hk,_=>by
  rw[show max k l.length=k by omega]
  exact OkL.exit (Ok.vc (GP p l i a k (by omega))) (by simp)
 |j+1,k,hk,h=>by
  rw[show max k l.length=max (k+1) l.length by omega]
  unfold hzG at h
  by_cases hz:hzB p l i a k
  ·rw[aq hz] at h
   obtain⟨hk3,hn,ha,hf⟩:=hz
   cases h
  ·rw[an hz] at h
   refine OkL.step ?_ (um p l i a hb j (k+1) (by omega) h)
   by_cases hk3:(enI p l k).kind=2
   ·cases hn:(l.getD k default).kn with
    |false=>exact Ok.vc (Ml p l i a k (by omega) hb hk3 hn)
    |true=>
     by_cases ha:(l.getD k default).adr=a
     ·exact Ok.vc (Mo p l i a k (by omega) hb hk3 hn ha fun hf=>hz ⟨hk3,hn,ha,hf⟩)
     ·exact Ok.vc (Mp p l i a k (by omega) hb hk3 hn ha)
   ·exact Ok.vc (Mn p l i a k (by omega) hb hk3)
theorem mxI(a b:Int):(if a<b then b else a)=max a b:=by split<;>omega
theorem GR(i:Int)(n:Nat):(if(n:Int)<(if i< -1 then -1 else i) then(n:Int) else(if i< -1 then -1 else i))+1=(hz0 i n:Int):=by
 unfold hz0;rw[mxI,mnI];omega
theorem Ix(p:Pg)(l:List En)(i:Int)(a:Int){Z:Prop}(z:Z):(RF p.ls.length (RR p.ls.length 2 (fun i j=>ao lbC p.ls i j) (RF p.is.length (RR p.is.length 9 (fun i j=>ao inC p.is i j) (RF l.length (RR l.length 8 (fun i j=>ao enC l i j) (RF i (RF a Z)))))))):=⟨rfl,fun _ _ _ _=>rfl,rfl,fun _ _ _ _=>rfl,rfl,fun _ _ _ _=>rfl,rfl,rfl,z⟩
theorem Mq(p:Pg)(l:List En)(i a:Int)(n:Nat)(q:Nat)(hE:(if(l.length:Int)<(if i< -1 then -1 else i) then(l.length:Int) else(if i< -1 then -1 else i))+1=(n:Int))(hn:n<1000001)(h:oL_ 49 0 (hzS p l i a n).st .ret (vbS 8 9 ((q:Int),true)).st):Vc (vF_ 49 [.agg (pgA p),enR l, aI i, aI a] [.fz,.lp [] (hzS p l i a n) .ret (vbS 8 9 ((q:Int),true))] [] (.tup [aI q,.bool true]) []):=aj (cj (show inK IntKind.i64 ((if(l.length:Int)<if i<(-1:Int) then(-1:Int) else i then(l.length:Int) else if i<(-1:Int) then(-1:Int) else i)+1) from by rw[hE];exact fB (by omega) (by omega)) (fm p (Ix p l i a (cj (show(if(l.length:Int)<if i<(-1:Int) then(-1:Int) else i then(l.length:Int) else if i<(-1:Int) then(-1:Int) else i)+1=(n:Int) from by first |exact hE |rw[hE]) (cj (rf (0:Int)) (cj (rf false) (cj h (cj (rf (q:Int)) (cj (rf true) trivial)))))))))
theorem Mr(p:Pg)(l:List En)(i a:Int)(n:Nat)(N:Nat)(hE:(if(l.length:Int)<(if i< -1 then -1 else i) then(l.length:Int) else(if i< -1 then -1 else i))+1=(n:Int))(hn:n<1000001)(h:oL_ 49 0 (hzS p l i a n).st (.ext 0) (hzS p l i a N).st):Vc (vF_ 49 [.agg (pgA p),enR l, aI i, aI a] [.fz,.lp [] (hzS p l i a n) (.ext 0) (hzS p l i a N)] [] (.tup [aI 0,.bool false]) []):=aj (cj (show inK IntKind.i64 ((if(l.length:Int)<if i<(-1:Int) then(-1:Int) else i then(l.length:Int) else if i<(-1:Int) then(-1:Int) else i)+1) from by rw[hE];exact fB (by omega) (by omega)) (fm p (Ix p l i a (cj (show(if(l.length:Int)<if i<(-1:Int) then(-1:Int) else i then(l.length:Int) else if i<(-1:Int) then(-1:Int) else i)+1=(n:Int) from by first |exact hE |rw[hE]) (cj (rf (0:Int)) (cj (rf false) (cj h (cj (rf (0:Int)) (cj (rf false) trivial)))))))))
theorem N5(p:Pg)(l:List En)(i a:Int)(hb:l.length<1000000):pC_ 49 [.agg (pgA p),enR l,.int .i64 i,.int .i64 a] (.tup [.int .i64 (hzV p l i a).1,.bool (hzV p l i a).2]) []:=by
 have hE:=GR i l.length
 have hle:hz0 i l.length<=l.length+1:=by unfold hz0;omega
 unfold hzV
 cases h:hzG p l i a (hz0 i l.length) (l.length-hz0 i l.length) with
 |some q=>exact PureC.vc (Mq p l i a _ q hE (by omega) (un p l i a hb q _ _ (by omega) h).ok)
 |none=>exact PureC.vc (Mr p l i a _ _ hE (by omega) (um p l i a hb _ _ (by omega) h).ok)
def d7(l:List Int)(pc:Int):List Int:=(l++[pc]).drop (l.length-1)
def c9(p:Pg)(n:Int):Int:=min n (p.is.length:Int)
def reG(p:Pg)(l:List En):Nat->Nat->List Int->Option (List Int)
 |_,0,st=>some st
 |k,j+1,st=>if(enI p l k).kind=8 then(if 4<=st.length then none else reG p l (k+1) j (st++[(l.getD k default).pc+1]))
  else if(enI p l k).kind=9 then(if st.length=0 then none else reG p l (k+1) j (st.take (st.length-1))) else reG p l (k+1) j st
def reV(p:Pg)(st:List Int)(l:List En)(i:Int):Option (List Int):=reG p l 0 (cl0 i l.length) st
def reS(p:Pg)(l:List En)(i:Int)(L:List Int)(N:Nat)(g:Nat->Nat->AV)(k:Nat):Sm:=⟨[(4,pgP p),(2,enR l),(3,.int .i64 i),(10,.own 0 0 1 0 L.length),(11,.int .i64 k),(8,.nils),(9,.bool false)],[(0,⟨0,false,3,.rows 1 N g⟩)],1⟩
def nS:Sm:=⟨[(8,.nils),(9,.bool false)],[],0⟩
theorem tR(l:List Int):(if(((0+l.length+1:Nat)):Int)-2<0 then 0 else((0+l.length+1:Nat):Int)-2)=((l.length-1:Nat):Int):=by split<;>omega
theorem nf(l:List Int):Int.toNat (if(((0+l.length+1:Nat)):Int)-2<0 then 0 else((0+l.length+1:Nat):Int)-2)=l.length-1:=by rw[tR,aC]
theorem qZ(l:List Int)(pc:Int):(d7 l pc).length=l.length+1-(l.length-1):=by unfold d7;rw[List.length_drop,aL];rfl
theorem kj{l:List Int}{x:Int}{g:Nat->Nat->AV}(hg:g 0 0= .int .i64 x)(i:Nat)(hi:i<l.length+1)(a:AV)(ha:i<l.length->a= .int .i64 (l.getD i 0)):(bif Nat.blt i l.length then a else g (i-l.length) 0)= .int .i64 ((l++[x]).getD i 0):=by
 refine de (fun h=> ?_) (fun h=> ?_)
 ·rw[ha h]
  simp[List.getD,bu h]
 ·obtain rfl:i=l.length:=by omega
  rw[bA,hg]
  simp[List.getD]
theorem vw(l:List Int)(n i:Nat):(l.drop n).getD i 0=l.getD (i+n) 0:=by
 rw[au,au,dD,n7]
theorem xO(l:List Int)(pc:Int){g:Nat->Nat->AV}(hg:g 0 0= .int .i64 pc){E:Nat}(hE:E=l.length-1){i:Nat}(hi:i+E<l.length+1):(bif Nat.blt (i+E) (0+l.length) then(bif Nat.blt (i+E) 0 then AV.junk else .int .i64 (l.getD (i+E-0) 0)) else g (i+E-(0+l.length)) 0)= .int .i64 ((d7 l pc).getD i 0):=by
 subst hE
 unfold d7
 rw[vw,bF]
 exact kj hg _ hi _ fun _=>rfl
theorem A6(l:List Int)(pc:Int)(hb:l.length<1000000):Vc (vF_ 71 [lR l, aI pc] [] [] (lR (d7 l pc)) []):=aj (cj (ap 0 l.length 8) (cj (ap (0+l.length) 1 8) (cj (i6 ((↑((0:Nat)+l.length+1):Int)-2)) (cj (show((0:Int)<=if(↑((0:Nat)+l.length+1):Int)-2<0 then(0:Int) else(↑((0:Nat)+l.length+1):Int)-2)∧(if(↑((0:Nat)+l.length+1):Int)-2<0 then(0:Int) else(↑((0:Nat)+l.length+1):Int)-2)<(↑((0:Nat)+l.length+1):Int)∧(↑((0:Nat)+l.length+1):Int)<=(↑((0:Nat)+l.length+1):Int) from by rw[tR];omega) (cj (show(0:Nat)+l.length+1-Int.toNat (if(↑((0:Nat)+l.length+1):Int)-2<0 then(0:Int) else(↑((0:Nat)+l.length+1):Int)-2)=(d7 l pc).length from by rw[nf,qZ,bF]) (cj (show ∀(i:Nat),i<0+l.length+1-Int.toNat (if(↑((0:Nat)+l.length+1):Int)-2<0 then(0:Int) else(↑((0:Nat)+l.length+1):Int)-2)-> ∀(j:Nat),j<1->(bif Nat.blt (i+((0:Nat)+Int.toNat (if(↑((0:Nat)+l.length+1):Int)-2<0 then(0:Int) else(↑((0:Nat)+l.length+1):Int)-2))) ((0:Nat)+l.length) then aI (l.getD (i+((0:Nat)+Int.toNat (if(↑((0:Nat)+l.length+1):Int)-2<0 then(0:Int) else(↑((0:Nat)+l.length+1):Int)-2))-0) (0:Int)) else List.getD [aI pc] ((i+((0:Nat)+Int.toNat (if(↑((0:Nat)+l.length+1):Int)-2<0 then(0:Int) else(↑((0:Nat)+l.length+1):Int)-2))-((0:Nat)+l.length)+0)*1+j) AV.junk)=aI (List.getD (d7 l pc) i 0) from(fun i hi j hj=>by obtain rfl:j=0:=(by omega);exact xO l pc (g:=fun a b=>[AV.int .i64 pc].getD ((a+0)*1+b) .junk) rfl (by rw[nf,bF]) (by rw[nf] at hi ⊢;omega))) trivial))))))
theorem sH(l:List Int)(pc:Int)(hb:l.length<1000000):pC_ 71 [lR l,.int .i64 pc] (lR (d7 l pc)) []:=PureC.vc (A6 l pc hb)
theorem zV(p:Pg)(l:List En)(i:Int){Z:Prop}(z:Z):(RF p.ms.length (RR p.ms.length 3 (fun i j=>ao mmC p.ms i j) (RF p.ls.length (RR p.ls.length 2 (fun i j=>ao lbC p.ls i j) (RF p.is.length (RR p.is.length 9 (fun i j=>ao inC p.is i j) (RF l.length (RR l.length 8 (fun i j=>ao enC l i j) (RF i Z))))))))):=⟨rfl,fun _ _ _ _=>rfl,rfl,fun _ _ _ _=>rfl,rfl,fun _ _ _ _=>rfl,rfl,fun _ _ _ _=>rfl,rfl,z⟩
theorem zU(p:Pg)(N:Nat)(g:Nat->Nat->AV){Z:Prop}(z:Z):(RF N (RR N 1 (fun i j=>g i j) (RF p.W (RF p.win (RF p.fuel (RF p.r0 (RF p.r1 (RF p.r2 (RF p.r3 Z))))))))):=⟨rfl,fun _ _ _ _=>rfl,rfl,rfl,rfl,rfl,rfl,rfl,rfl,z⟩
theorem v9(p:Pg)(l:List En)(k:Nat){Z:Prop}(z:Z):(RF p.ls.length (RR p.ls.length 2 (fun i j=>ao lbC p.ls i j) (RF p.is.length (RR p.is.length 9 (fun i j=>ao inC p.is i j) (RF ((l.getD k default).pc) Z))))):=⟨rfl,fun _ _ _ _=>rfl,rfl,fun _ _ _ _=>rfl,rfl,z⟩
theorem uE(p:Pg){Z:Prop}(z:Z):(RF p.W (RF p.win (RF p.fuel (RF p.r0 (RF p.r1 (RF p.r2 (RF p.r3 (RF p.ms.length (RR p.ms.length 3 (fun i j=>ao mmC p.ms i j) Z))))))))):=⟨rfl,rfl,rfl,rfl,rfl,rfl,rfl,rfl,fun _ _ _ _=>rfl,z⟩
abbrev x7(p:Pg)(l:List En)(k:Nat):Orc:= .cl [.agg (pgA p), aI (l.getD k default).pc] (.agg (inA (enI p l k))) []
theorem Kt(p:Pg)(l:List En)(i:Int)(L:List Int)(N:Nat)(g:Nat->Nat->AV)(k:Nat)(hk:(k:Int)<i)(hl:k<l.length)(hb:l.length<1000000)(hL:L.length<=1000000)(hLN:L.length<=N)(h8: ¬(enI p l k).kind=8)(h9: ¬(enI p l k).kind=9):Vc (vC_ 44 0 (reS p l i L N g k) [.bd true,.bd true,x7 p l k,.bd false,.bd false] .nrm [(0,0)] (reS p l i L N g (k+1))):=aj (cj (dt ((k:Int)<i)) (cj (dt ((k:Int)<l.length)) (cj (bi k l.length) (uE p (v9 p l k (cj (bL p (l.getD k default).pc) (cj (ae.2 h8) (cj (ae.2 h9) (cj (i6 (k+1)) (zU p N g (zV p l i (cj (rf (0:Nat)) (cj (rf L.length) (cj (rf ((k:Int)+1)) (cj (rf false) trivial)))))))))))))))
theorem Kx(p:Pg)(l:List En)(i:Int)(L:List Int)(N:Nat)(g:Nat->Nat->AV)(k:Nat)(hk:(k:Int)<i)(hl:k<l.length)(hb:l.length<1000000)(hL:L.length<=1000000)(hLN:L.length<=N)(h8:(enI p l k).kind=8)(h4:4<=L.length):Vc (vC_ 44 0 (reS p l i L N g k) [.bd true,.bd true,x7 p l k,.bd true,.bd true] .ret [] nS):=aj (cj (dt ((k:Int)<i)) (cj (dt ((k:Int)<l.length)) (cj (bi k l.length) (uE p (v9 p l k (cj (bL p (l.getD k default).pc) (cj (ay.2 h8) (cj (dt ((L.length:Int)>=4)) (cj (rf false) trivial)))))))))
theorem Ky(p:Pg)(l:List En)(i:Int)(L:List Int)(N:Nat)(g:Nat->Nat->AV)(k:Nat)(hk:(k:Int)<i)(hl:k<l.length)(hb:l.length<1000000)(hL:L.length<=1000000)(hLN:L.length<=N)(h8:(enI p l k).kind=8)(h4: ¬4<=L.length)(hp: -1<=(l.getD k default).pc∧(l.getD k default).pc<=1000000):Vc (vC_ 44 0 (reS p l i L N g k) [.bd true,.bd true,x7 p l k,.bd true,.bd false,.sh] .nrm [(0,0)] (reS p l i (L++[(l.getD k default).pc+1]) (L.length+1) (fun a b=>bif Nat.blt a L.length then g a b else[AV.int .i64 ((l.getD k default).pc+1)].getD ((a-L.length)*1+b) .junk) (k+1))):=aj (cj (dt ((k:Int)<i)) (cj (dt ((k:Int)<l.length)) (cj (bi k l.length) (uE p (v9 p l k (cj (bL p (l.getD k default).pc) (cj (ay.2 h8) (cj (df ((L.length:Int)>=4)) (cj (bi k l.length) (cj (i6 ((l.getD k default).pc+1)) (cj (ap L.length 1 8) (cj (i6 (k+1)) (cj (rf (L.length+1)) (cj (rr (L.length+1) 1 fun i j=>bif Nat.blt i L.length then g i j else List.getD [aI ((l.getD k default).pc+1)] ((i-L.length)*1+j) AV.junk) (uE p (cj (rf p.ls.length) (cj (rr p.ls.length 2 fun i j=>ao lbC p.ls i j) (cj (rf p.is.length) (cj (rr p.is.length 9 fun i j=>ao inC p.is i j) (cj (rf l.length) (cj (rr l.length 8 fun i j=>ao enC l i j) (cj (rf i) (cj (rf (0:Nat)) (cj (pv (L.length+1=(L++[(l.getD k default).pc+1]).length)) (cj (rf ((k:Int)+1)) (cj (rf false) trivial))))))))))))))))))))))))))
theorem Kv(p:Pg)(l:List En)(i:Int)(L:List Int)(N:Nat)(g:Nat->Nat->AV)(k:Nat)(hk:(k:Int)<i)(hl:k<l.length)(hb:l.length<1000000)(hL:L.length<=1000000)(hLN:L.length<=N)(h8: ¬(enI p l k).kind=8)(h9:(enI p l k).kind=9)(h4:L.length=0):Vc (vC_ 44 0 (reS p l i L N g k) [.bd true,.bd true,x7 p l k,.bd false,.bd true,.bd true] .ret [] nS):=aj (cj (dt ((k:Int)<i)) (cj (dt ((k:Int)<l.length)) (cj (bi k l.length) (uE p (v9 p l k (cj (bL p (l.getD k default).pc) (cj (ae.2 h8) (cj (ay.2 h9) (cj (e1 L.length 0) (cj (rf false) trivial))))))))))
theorem Kw(p:Pg)(l:List En)(i:Int)(L:List Int)(N:Nat)(g:Nat->Nat->AV)(k:Nat)(hk:(k:Int)<i)(hl:k<l.length)(hb:l.length<1000000)(hL:L.length<=1000000)(hLN:L.length<=N)(h8: ¬(enI p l k).kind=8)(h9:(enI p l k).kind=9)(h4: ¬L.length=0):Vc (vC_ 44 0 (reS p l i L N g k) [.bd true,.bd true,x7 p l k,.bd false,.bd true,.bd false] .nrm [(0,0)] (reS p l i (L.take (L.length-1)) N g (k+1))):=aj (cj (dt ((k:Int)<i)) (cj (dt ((k:Int)<l.length)) (cj (bi k l.length) (uE p (v9 p l k (cj (bL p (l.getD k default).pc) (cj (ae.2 h8) (cj (ay.2 h9) (cj (e0 L.length 0) (cj (i6 (L.length-1)) (cj (pv ((0:Int)<=L.length-1∧(L.length:Int)-1<=L.length)) (cj (i6 (k+1)) (zU p N g (zV p l i (cj (rf (0:Nat)) (cj (pv (Int.toNat ((L.length:Int)-1)=(List.take (L.length-1) L).length)) (cj (rf ((k:Int)+1)) (cj (rf false) trivial))))))))))))))))))
theorem Iw(L:List Int)(k:Nat){Z:Prop}(z:Z):(RF (0:Nat) (RF L.length (RF (k:Int) (RF false Z)))):=⟨rfl,rfl,rfl,rfl,z⟩
theorem Ku(p:Pg)(l:List En)(i:Int)(L:List Int)(N:Nat)(g:Nat->Nat->AV)(k:Nat)(hk: ¬(k:Int)<i):Vc (vC_ 44 0 (reS p l i L N g k) [.bd false] (.ext 0) [(0,0)] (reS p l i L N g k)):=aj (cj (df ((k:Int)<i)) (zU p N g (zV p l i (Iw L k trivial))))
theorem Oa(p:Pg)(l:List En)(i:Int)(L:List Int)(N:Nat)(g:Nat->Nat->AV)(k:Nat)(hk:(k:Int)<i)(hl: ¬k<l.length):Vc (vC_ 44 0 (reS p l i L N g k) [.bd true,.bd false] (.ext 0) [(0,0)] (reS p l i L N g k)):=aj (cj (dt ((k:Int)<i)) (cj (df ((k:Int)<l.length)) (zU p N g (zV p l i (Iw L k trivial)))))
def gOk(L:List Int)(N:Nat)(g:Nat->Nat->AV):Prop:=L.length<=N∧ ∀a,a<L.length->g a 0= .int .i64 (L.getD a 0)
theorem rH{L:List Int}{N:Nat}{g:Nat->Nat->AV}(h:gOk L N g)(x:Int):gOk (L++[x]) (L.length+1) (fun a b=>bif Nat.blt a L.length then g a b else[AV.int .i64 x].getD ((a-L.length)*1+b) .junk):=by
 refine⟨by simp,fun a ha=> ?_⟩
 rw[aL] at ha
 exact kj (g:=fun a b=>[AV.int .i64 x].getD (a*1+b) .junk) rfl a ha _ (h.2 a)
theorem rF{L:List Int}{N:Nat}{g:Nat->Nat->AV}(h:gOk L N g)(n:Nat):gOk (L.take n) N g:=by
 refine⟨by have:=h.1;rw[aM];omega,fun a ha=> ?_⟩
 rw[aM] at ha
 rw[h.2 a (by omega),au,au,aZ,aq (by omega)]
theorem Dm{l:List En}(h: ∀e∈l, -1<=e.pc∧e.pc<=1000000){k:Nat}(hk:k<l.length): -1<=(l.getD k default).pc∧(l.getD k default).pc<=1000000:=h _ (by simp[List.getD,hk])
theorem mz(p:Pg)(l:List En)(i:Int)(hb:l.length<1000000)(hpc: ∀e∈l, -1<=e.pc∧e.pc<=1000000): ∀j k L N g,k+j=cl0 i l.length->gOk L N g->L.length+j<=1000000->reG p l k j L=none->OkL Tryz.prog (bY Tryz.prog 44) (lpC Tryz.prog 44 0) (reS p l i L N g k).st .ret (nS).st
 |0,k,L,N,g,_,_,_,h=>by cases h
 |j+1,k,L,N,g,hk,hg,hL,h=>by
  have hl:=qc (i:=i) (n:=l.length) (k:=k) (by omega)
  unfold reG at h
  by_cases h8:(enI p l k).kind=8
  ·rw[aq h8] at h
   by_cases h4:4<=L.length
   ·exact OkL.exit (Ok.vc (Kx p l i L N g k hl.1 hl.2 hb (by omega) hg.1 h8 h4)) (by simp)
   ·rw[an h4] at h
    exact OkL.step (Ok.vc (Ky p l i L N g k hl.1 hl.2 hb (by omega) hg.1 h8 h4 (Dm hpc hl.2))) (mz p l i hb hpc j (k+1) _ _ _ (by omega) (rH hg _) (by rw[aL,bV];omega) h)
  ·rw[an h8] at h
   by_cases h9:(enI p l k).kind=9
   ·rw[aq h9] at h
    by_cases h4:L.length=0
    ·exact OkL.exit (Ok.vc (Kv p l i L N g k hl.1 hl.2 hb (by omega) hg.1 h8 h9 h4)) (by simp)
    ·rw[an h4] at h
     exact OkL.step (Ok.vc (Kw p l i L N g k hl.1 hl.2 hb (by omega) hg.1 h8 h9 h4)) (mz p l i hb hpc j (k+1) _ _ _ (by omega) (rF hg _) (by rw[aM];omega) h)
   ·rw[an h9] at h
    exact OkL.step (Ok.vc (Kt p l i L N g k hl.1 hl.2 hb (by omega) hg.1 h8 h9)) (mz p l i hb hpc j (k+1) _ _ _ (by omega) hg (by omega) h)
theorem kr(p:Pg)(l:List En)(i:Int)(L':List Int)(hb:l.length<1000000)(hpc: ∀e∈l, -1<=e.pc∧e.pc<=1000000): ∀j k L N g,k+j=cl0 i l.length->gOk L N g->L.length+j<=1000000->reG p l k j L=some L'-> ∃N' g',gOk L' N' g'∧L'.length<=1000000∧OkL Tryz.prog (bY Tryz.prog 44) (lpC Tryz.prog 44 0) (reS p l i L N g k).st (.ext 0) (reS p l i L' N' g' (cl0 i l.length)).st
 |0,k,L,N,g,hk,hg,hL,h=>by
  obtain rfl:L=L':=Option.some.inj h
  obtain rfl:k=cl0 i l.length:=by omega
  refine⟨N,g,hg,by omega, ?_⟩
  rcases ur i l.length with h1 |h1
  ·exact OkL.exit (Ok.vc (Ku p l i _ N g _ h1)) (by simp)
  ·by_cases h2:((cl0 i l.length:Nat):Int)<i
   ·exact OkL.exit (Ok.vc (Oa p l i _ N g _ h2 h1)) (by simp)
   ·exact OkL.exit (Ok.vc (Ku p l i _ N g _ h2)) (by simp)
 |j+1,k,L,N,g,hk,hg,hL,h=>by
  have hl:=qc (i:=i) (n:=l.length) (k:=k) (by omega)
  unfold reG at h
  by_cases h8:(enI p l k).kind=8
  ·rw[aq h8] at h
   by_cases h4:4<=L.length
   ·rw[aq h4] at h;cases h
   ·rw[an h4] at h
    obtain⟨N',g',q1,q2,q3⟩:=kr p l i L' hb hpc j (k+1) _ _ _ (by omega) (rH hg _) (by rw[aL,bV];omega) h
    exact⟨N',g',q1,q2,OkL.step (Ok.vc (Ky p l i L N g k hl.1 hl.2 hb (by omega) hg.1 h8 h4 (Dm hpc hl.2))) q3⟩
  ·rw[an h8] at h
   by_cases h9:(enI p l k).kind=9
   ·rw[aq h9] at h
    by_cases h4:L.length=0
    ·rw[aq h4] at h;cases h
    ·rw[an h4] at h
     obtain⟨N',g',q1,q2,q3⟩:=kr p l i L' hb hpc j (k+1) _ _ _ (by omega) (rF hg _) (by rw[aM];omega) h
     exact⟨N',g',q1,q2,OkL.step (Ok.vc (Kw p l i L N g k hl.1 hl.2 hb (by omega) hg.1 h8 h9 h4)) q3⟩
   ·rw[an h9] at h
    obtain⟨N',g',q1,q2,q3⟩:=kr p l i L' hb hpc j (k+1) _ _ _ (by omega) hg (by omega) h
    exact⟨N',g',q1,q2,OkL.step (Ok.vc (Kt p l i L N g k hl.1 hl.2 hb (by omega) hg.1 h8 h9)) q3⟩
theorem Iv(p:Pg)(l:List En)(i:Int){Z:Prop}(z:Z):(RR p.ms.length 3 (fun i j=>ao mmC p.ms i j) (RF p.ls.length (RR p.ls.length 2 (fun i j=>ao lbC p.ls i j) (RF p.is.length (RR p.is.length 9 (fun i j=>ao inC p.is i j) (RF l.length (RR l.length 8 (fun i j=>ao enC l i j) (RF i (RF (0:Nat) Z))))))))):=⟨fun _ _ _ _=>rfl,rfl,fun _ _ _ _=>rfl,rfl,fun _ _ _ _=>rfl,rfl,fun _ _ _ _=>rfl,rfl,rfl,z⟩
theorem Iu(p:Pg)(st:List Int){Z:Prop}(z:Z):(RR (0+st.length) 1 (fun i j=>aI (st.getD i 0)) (RF p.W (RF p.win (RF p.fuel (RF p.r0 (RF p.r1 (RF p.r2 (RF p.r3 (RF p.ms.length Z))))))))):=⟨fun _ _ _ _=>rfl,rfl,rfl,rfl,rfl,rfl,rfl,rfl,rfl,z⟩
theorem Fs(p:Pg)(st:List Int)(l:List En)(i:Int)(hst:st.length<=1000000)(h:oL_ 44 0 (reS p l i st st.length (cQ st) 0).st .ret (nS).st):Vc (vF_ 44 [.agg (pgA p),lR st,enR l, aI i] [.fz,.lp [(0,1)] (reS p l i st st.length (cQ st) 0) .ret nS] [] (.tup [.nils,.bool false]) []):=aj (cj (ap 0 st.length 8) (cj (za st.length) (Iu p st (Iv p l i (cj (za st.length) (cj (rf (0:Int)) (cj (rf false) (cj h (cj (rf false) trivial)))))))))
theorem Fq(p:Pg)(st:List Int)(l:List En)(i:Int)(L:List Int)(N:Nat)(g:Nat->Nat->AV)(n:Nat)(hst:st.length<=1000000)(hg: ∀a,a<L.length->g a 0= aI (L.getD a 0))(h:oL_ 44 0 (reS p l i st st.length (cQ st) 0).st (.ext 0) (reS p l i L N g n).st):Vc (vF_ 44 [.agg (pgA p),lR st,enR l, aI i] [.fz,.lp [(0,1)] (reS p l i st st.length (cQ st) 0) (.ext 0) (reS p l i L N g n)] [] (.tup [lR L,.bool true]) []):=aj (cj (ap 0 st.length 8) (cj (za st.length) (Iu p st (Iv p l i (cj (za st.length) (cj (rf (0:Int)) (cj (rf false) (cj h (cj (rf L.length) (cj (show ∀(i:Nat),i<L.length-> ∀(j:Nat),j<1->g (i+0) j=aI (L.getD i 0) from(fun i hi j hj=>by obtain rfl:j=0:=(by omega);exact hg i hi)) (cj (rf true) trivial)))))))))))
theorem xy(p:Pg)(st:List Int)(l:List En)(i:Int)(L:List Int)(hb:l.length<900000)(hst:st.length<=1000)(hpc: ∀e∈l, -1<=e.pc∧e.pc<=1000000)(h:reV p st l i=some L):pC_ 44 [.agg (pgA p),lR st,enR l,.int .i64 i] (.tup [lR L,.bool true]) []:=by
 have hle:=fu i l.length
 obtain⟨N',g',q1,q2,q3⟩:=kr p l i L (by omega) hpc _ 0 st st.length (cQ st) (by omega) ⟨aB _,fun a _=>rfl⟩ (by omega) h
 exact PureC.vc (Fq p st l i L N' g' _ (by omega) q1.2 q3.ok)
theorem qO(p:Pg)(st:List Int)(l:List En)(i:Int)(hb:l.length<900000)(hst:st.length<=1000)(hpc: ∀e∈l, -1<=e.pc∧e.pc<=1000000)(h:reV p st l i=none):pC_ 44 [.agg (pgA p),lR st,enR l,.int .i64 i] (.tup [.nils,.bool false]) []:=by
 have hle:=fu i l.length
 exact PureC.vc (Fs p st l i (by omega) (mz p l i (by omega) hpc _ 0 st st.length (cQ st) (by omega) ⟨aB _,fun a _=>rfl⟩ (by omega) h).ok)
theorem GD(p:Pg)(n:Int):Vc (vF_ 43 [.agg (pgA p), aI n] [.fz] [] (aI (c9 p n)) []):=aj (cj (show(if(↑p.is.length:Int)<n then(↑p.is.length:Int) else n)=c9 p n from by unfold c9;rw[mnI]) trivial)
theorem Kl(p:Pg)(n:Int):pC_ 43 [.agg (pgA p),.int .i64 n] (.int .i64 (c9 p n)) []:=PureC.vc (GD p n)
def cfA(c:Cf):List AV:=s8R c.s++[enR c.b,lR c.r,.int .i64 c.e]
def Cf0:Cf:=⟨⟨0,0,0,0,[],[],0⟩,[],[],0⟩
def gsV(p:Pg)(c:Cf):Int:=
 if c.e≠0∨c.s.pc= -1∨p.win<=(c.b.length:Int) then 0
 else if(atI p c.s.pc).kind=5 then 2 else if(atI p c.s.pc).kind=7 then(p.is.length:Int)+1 else if(atI p c.s.pc).kind=9∧c.r.length=0 then(p.is.length:Int)+1 else 1
def S8.go(s:S8)(pc:Int):S8:={s with pc:=pc}
def bE(l:List Int):Int:=l.getD ((l.length:Int)-1).toNat 0
def ftB(p:Pg)(c:Cf):Bool:=match reV p c.s.st c.b c.b.length with
 |none=>true
 |some L=>decide (4<=L.length)
def ftE(p:Pg)(c:Cf)(g:Int):En:=
 if(atI p c.s.pc).kind=5 then⟨c.s.pc,0,0, -1,if g=1 then(atI p c.s.pc).tg else c.s.pc+1,false,false,false⟩
 else if(atI p c.s.pc).kind=6 then⟨c.s.pc,0,0, -1,(atI p c.s.pc).tg,true,false,false⟩
 else if(atI p c.s.pc).kind=7 then⟨c.s.pc,0,0, -1,g,false,false,false⟩
 else if(atI p c.s.pc).kind=9 then⟨c.s.pc,0,0, -1,if c.r.length=0 then g else bE c.r,false,false,false⟩
 else if(atI p c.s.pc).kind=8 then⟨c.s.pc,0,0, -1,(atI p c.s.pc).tg,true,false,ftB p c⟩
 else if(atI p c.s.pc).kind=11∨(atI p c.s.pc).kind=12 then⟨c.s.pc,0,0, -1, -1,true,false,false⟩
 else⟨c.s.pc,0,0, -1,c.s.pc+1,false,false,false⟩
def ftR(p:Pg)(c:Cf):List Int:=if(atI p c.s.pc).kind=9 then c.r.take ((c.r.length:Int)-1).toNat else if(atI p c.s.pc).kind=8 then d7 c.r (c.s.pc+1) else c.r
def ftD(p:Pg)(c:Cf)(g:Int):Cf:=⟨c.s.go (ftE p c g).nxt,c.b++[ftE p c g],ftR p c,c.e⟩
def ocA(o:Option Cf):List AV:=match o with
 |some c=>[.agg (cfA c),.bool true]
 |none=>[.agg (cfA Cf0),.bool false]
theorem JV(l:List En)(e:En){g:Nat->Nat->AV}(hg: ∀j,j<8->g 0 j=enC e j): ∀i,i<l.length+1-> ∀j,j<8->(bif Nat.blt i l.length then ao enC l i j else g (i-l.length) j)=ao enC (l++[e]) i j:=fun i hi j hj=>
 de (fun h=>(bW h).symm) (fun h=>by
  obtain rfl:i=l.length:=by omega
  rw[bX,bA,hg j hj])
theorem pb(l:List Int)(n i:Nat)(h:i<n):(l.take n).getD i 0=l.getD i 0:=by
 rw[au,au,aZ,aq h]
theorem qh(b:List En)(e:En)(L:List AV)(h: ∀j,j<8->L.getD j .junk=enC e j): ∀i,i<0+b.length+1-> ∀j,j<8->(bif Nat.blt (i+0) (0+b.length) then bif Nat.blt (i+0) 0 then AV.junk else ao enC b (i+0-0) j else L.getD ((i+0-(0+b.length)+0)*8+j) .junk)=ao enC (b++[e]) i j:=by
 intro i hi j hj
 simp only[bF,dd,gh] at hi ⊢
 exact JV b e (g:=fun a j=>L.getD (a*8+j) .junk) (fun j hj=>by simp only[Nat.zero_mul,bF];exact h j hj) i hi j hj
theorem OU(p:Pg)(c:Cf)(hl:p.is.length<1000)(hb:c.b.length<1000000)(h0: ¬c.e=0):Vc (vF_ 57 [.agg (pgA p),.agg (cfA c)] [.fv,.fv,.bd true] [] (aI 0) []):=aj (cj (cN.2 h0) (cj (rf (0:Int)) trivial))
theorem OS(p:Pg)(c:Cf)(hl:p.is.length<1000)(hb:c.b.length<1000000)(h0:c.e=0)(h1:c.s.pc= -1):Vc (vF_ 57 [.agg (pgA p),.agg (cfA c)] [.fv,.fv,.bd false,.bd true] [] (aI 0) []):=aj (cj (ax.2 h0) (cj (ay.2 h1) (cj (rf (0:Int)) trivial)))
theorem OR(p:Pg)(c:Cf)(hl:p.is.length<1000)(hb:c.b.length<1000000)(h0:c.e=0)(h1: ¬c.s.pc= -1)(hw:p.win<=(c.b.length:Int)):Vc (vF_ 57 [.agg (pgA p),.agg (cfA c)] [.fv,.fv,.bd false,.bd false,.bd true] [] (aI 0) []):=aj (cj (ax.2 h0) (cj (ae.2 h1) (cj (dt ((↑c.b.length:Int)>=p.win)) (cj (rf (0:Int)) trivial))))
theorem ir(p:Pg)(c:Cf){Z:Prop}(z:Z):(RF p.ls.length (RR p.ls.length 2 (fun i j=>ao lbC p.ls i j) (RF p.is.length (RR p.is.length 9 (fun i j=>ao inC p.is i j) (RF c.s.pc Z))))):=⟨rfl,fun _ _ _ _=>rfl,rfl,fun _ _ _ _=>rfl,rfl,z⟩
theorem dV(p:Pg){Z:Prop}(z:Z):(RF p.W (RF p.win (RF p.fuel (RF p.r0 (RF p.r1 (RF p.r2 (RF p.r3 (RF p.ms.length (RR p.ms.length 3 (fun i j=>ao mmC p.ms i j) Z))))))))):=⟨rfl,rfl,rfl,rfl,rfl,rfl,rfl,rfl,fun _ _ _ _=>rfl,z⟩
abbrev iP(p:Pg)(c:Cf):Orc:= .cl [.agg (pgA p), aI c.s.pc] (.agg (inA (atI p c.s.pc))) []
theorem OX(p:Pg)(c:Cf)(hl:p.is.length<1000)(hb:c.b.length<1000000)(h0:c.e=0)(h1: ¬c.s.pc= -1)(hw: ¬p.win<=(c.b.length:Int))(k5:(atI p c.s.pc).kind=5):Vc (vF_ 57 [.agg (pgA p),.agg (cfA c)] [.fv,.fv,.bd false,.bd false,.bd false,iP p c,.bd true] [] (aI 2) []):=aj (cj (ax.2 h0) (cj (ae.2 h1) (cj (df ((↑c.b.length:Int)>=p.win)) (dV p (ir p c (cj (bL p c.s.pc) (cj (ay.2 k5) (cj (rf (2:Int)) trivial))))))))
theorem OW(p:Pg)(c:Cf)(hl:p.is.length<1000)(hb:c.b.length<1000000)(h0:c.e=0)(h1: ¬c.s.pc= -1)(hw: ¬p.win<=(c.b.length:Int))(k5: ¬(atI p c.s.pc).kind=5)(k7:(atI p c.s.pc).kind=7):Vc (vF_ 57 [.agg (pgA p),.agg (cfA c)] [.fv,.fv,.bd false,.bd false,.bd false,iP p c,.bd false,.bd true] [] (aI (p.is.length+1)) []):=aj (cj (ax.2 h0) (cj (ae.2 h1) (cj (df ((↑c.b.length:Int)>=p.win)) (dV p (ir p c (cj (bL p c.s.pc) (cj (ae.2 k5) (cj (ay.2 k7) (cj (i6 (p.is.length+1)) (cj (rf ((↑p.is.length:Int)+1)) trivial))))))))))
theorem OV(p:Pg)(c:Cf)(hl:p.is.length<1000)(hb:c.b.length<1000000)(h0:c.e=0)(h1: ¬c.s.pc= -1)(hw: ¬p.win<=(c.b.length:Int))(k5: ¬(atI p c.s.pc).kind=5)(k7: ¬(atI p c.s.pc).kind=7)(k9:(atI p c.s.pc).kind=9)(hr:c.r.length=0):Vc (vF_ 57 [.agg (pgA p),.agg (cfA c)] [.fv,.fv,.bd false,.bd false,.bd false,iP p c,.bd false,.bd false,.bd true,.bd true] [] (aI (p.is.length+1)) []):=aj (cj (ax.2 h0) (cj (ae.2 h1) (cj (df ((↑c.b.length:Int)>=p.win)) (dV p (ir p c (cj (bL p c.s.pc) (cj (ae.2 k5) (cj (ae.2 k7) (cj (ay.2 k9) (cj (e1 c.r.length 0) (cj (i6 (p.is.length+1)) (cj (rf ((↑p.is.length:Int)+1)) trivial))))))))))))
theorem Ms(p:Pg)(c:Cf)(hl:p.is.length<1000)(hb:c.b.length<1000000)(h0:c.e=0)(h1: ¬c.s.pc= -1)(hw: ¬p.win<=(c.b.length:Int))(k5: ¬(atI p c.s.pc).kind=5)(k7: ¬(atI p c.s.pc).kind=7)(k9:(atI p c.s.pc).kind=9)(hr: ¬c.r.length=0):Vc (vF_ 57 [.agg (pgA p),.agg (cfA c)] [.fv,.fv,.bd false,.bd false,.bd false,iP p c,.bd false,.bd false,.bd true,.bd false] [] (aI 1) []):=aj (cj (ax.2 h0) (cj (ae.2 h1) (cj (df ((↑c.b.length:Int)>=p.win)) (dV p (ir p c (cj (bL p c.s.pc) (cj (ae.2 k5) (cj (ae.2 k7) (cj (ay.2 k9) (cj (e0 c.r.length 0) (cj (rf (1:Int)) trivial)))))))))))
theorem OT(p:Pg)(c:Cf)(hl:p.is.length<1000)(hb:c.b.length<1000000)(h0:c.e=0)(h1: ¬c.s.pc= -1)(hw: ¬p.win<=(c.b.length:Int))(k5: ¬(atI p c.s.pc).kind=5)(k7: ¬(atI p c.s.pc).kind=7)(k9: ¬(atI p c.s.pc).kind=9):Vc (vF_ 57 [.agg (pgA p),.agg (cfA c)] [.fv,.fv,.bd false,.bd false,.bd false,iP p c,.bd false,.bd false,.bd false] [] (aI 1) []):=aj (cj (ax.2 h0) (cj (ae.2 h1) (cj (df ((↑c.b.length:Int)>=p.win)) (dV p (ir p c (cj (bL p c.s.pc) (cj (ae.2 k5) (cj (ae.2 k7) (cj (ae.2 k9) (cj (rf (1:Int)) trivial))))))))))
theorem km(p:Pg)(c:Cf)(hl:p.is.length<1000)(hb:c.b.length<1000000):pC_ 57 [.agg (pgA p),.agg (cfA c)] (.int .i64 (gsV p c)) []:=by
 unfold gsV
 by_cases h0:c.e=0
 ·by_cases h1:c.s.pc= -1
  ·rw[aq (.inr (.inl h1))];exact PureC.vc (OS p c hl hb h0 h1)
  ·by_cases hw:p.win<=(c.b.length:Int)
   ·rw[aq (.inr (.inr hw))];exact PureC.vc (OR p c hl hb h0 h1 hw)
   ·rw[an (by rintro(h |h |h);exact h h0;exact h1 h;exact hw h)]
    by_cases k5:(atI p c.s.pc).kind=5
    ·rw[aq k5];exact PureC.vc (OX p c hl hb h0 h1 hw k5)
    ·rw[an k5]
     by_cases k7:(atI p c.s.pc).kind=7
     ·rw[aq k7];exact PureC.vc (OW p c hl hb h0 h1 hw k5 k7)
     ·rw[an k7]
      by_cases k9:(atI p c.s.pc).kind=9
      ·by_cases hr:c.r.length=0
       ·rw[aq ⟨k9,hr⟩];exact PureC.vc (OV p c hl hb h0 h1 hw k5 k7 k9 hr)
       ·rw[an fun e=>hr e.2];exact PureC.vc (Ms p c hl hb h0 h1 hw k5 k7 k9 hr)
      ·rw[an fun e=>k9 e.1];exact PureC.vc (OT p c hl hb h0 h1 hw k5 k7 k9)
 ·rw[aq (.inl h0)];exact PureC.vc (OU p c hl hb h0)
theorem It{Z:Prop}(z:Z):(RF (0:Int) (RF (0:Int) (RF (0:Int) (RF (0:Int) (RF (0:Nat) (RF (0:Nat) (RF (0:Int) (RF (0:Nat) (RF (0:Nat) Z))))))))):=⟨rfl,rfl,rfl,rfl,rfl,rfl,rfl,rfl,rfl,z⟩
theorem GV(p:Pg)(c:Cf)(g:Int)(hl:p.is.length<1000)(hb:c.b.length<1000000)(hg:g<0):Vc (vF_ 34 [.agg (pgA p),.agg (cfA c), aI g] [.fv,.bd true] [] (.tup [.agg (cfA Cf0),.bool false]) []):=aj (cj (dt (g<0)) (It (cj (rf (0:Int)) (cj (rf false) trivial))))
theorem kR(c:Cf){Z:Prop}(z:Z):(RR c.s.m.length 1 (fun i j=>aI (List.getD c.s.m i 0)) (RF c.s.st.length (RR c.s.st.length 1 (fun i j=>aI (List.getD c.s.st i 0)) (RF c.s.pc (RF c.b.length (RR c.b.length 8 (fun i j=>ao enC c.b i j) (RF c.r.length (RR c.r.length 1 (fun i j=>aI (c.r.getD i 0)) (RF c.e Z))))))))):=⟨fun _ _ _ _=>rfl,rfl,fun _ _ _ _=>rfl,rfl,rfl,fun _ _ _ _=>rfl,rfl,fun _ _ _ _=>rfl,rfl,z⟩
theorem kQ(p:Pg)(c:Cf){Z:Prop}(z:Z):(RF p.ls.length (RR p.ls.length 2 (fun i j=>ao lbC p.ls i j) (RF p.is.length (RR p.is.length 9 (fun i j=>ao inC p.is i j) (RF c.s.r0 (RF c.s.r1 (RF c.s.r2 (RF c.s.r3 (RF c.s.m.length Z))))))))):=⟨rfl,fun _ _ _ _=>rfl,rfl,fun _ _ _ _=>rfl,rfl,rfl,rfl,rfl,rfl,z⟩
abbrev la(p:Pg)(c:Cf):Orc:= .cl [.agg (pgA p),.agg (cfA c)] (aI (gsV p c)) []
theorem GU(p:Pg)(c:Cf)(g:Int)(hl:p.is.length<1000)(hb:c.b.length<1000000)(h0:0<=g)(hg:gsV p c<=g):Vc (vF_ 34 [.agg (pgA p),.agg (cfA c), aI g] [.fv,.bd false,la p c,.bd true] [] (.tup [.agg (cfA Cf0),.bool false]) []):=aj (cj (df (g<0)) (dV p (kQ p c (kR c (cj (km p c hl hb) (cj (dt (g>=gsV p c)) (It (cj (rf (0:Int)) (cj (rf false) trivial)))))))))
theorem qr(c:Cf){Z:Prop}(z:Z):(RF c.r.length (RR c.r.length 1 (fun i j=>aI (c.r.getD i 0)) (RF c.e (RF true Z)))):=⟨rfl,fun _ _ _ _=>rfl,rfl,rfl,z⟩
theorem v5(p:Pg)(c:Cf){Z:Prop}(z:Z):(RF c.s.r0 (RF c.s.r1 (RF c.s.r2 (RF c.s.r3 (RF c.s.m.length (RR c.s.m.length 1 (fun i j=>aI (List.getD c.s.m i 0)) (RF c.s.st.length (RR c.s.st.length 1 (fun i j=>aI (List.getD c.s.st i 0)) (RF ((atI p c.s.pc).tg) Z))))))))):=⟨rfl,rfl,rfl,rfl,rfl,fun _ _ _ _=>rfl,rfl,fun _ _ _ _=>rfl,rfl,z⟩
theorem My(p:Pg)(c:Cf)(g:Int)(hl:p.is.length<1000)(hb:c.b.length<1000000)(h0:0<=g)(hg: ¬gsV p c<=g)(hpc: -1<=c.s.pc∧c.s.pc<=1000)(hr:c.r.length<1000)(k5:(atI p c.s.pc).kind=5)(g1:g=1):Vc (vF_ 34 [.agg (pgA p),.agg (cfA c), aI g] [.fv,.bd false,la p c,.bd false,iP p c,.bd true,.bd true] [] (.tup [.agg (cfA ⟨c.s.go (atI p c.s.pc).tg,c.b++[⟨c.s.pc,0,0, -1,(atI p c.s.pc).tg,false,false,false⟩],c.r,c.e⟩),.bool true]) []):=aj (cj (df (g<0)) (dV p (kQ p c (kR c (cj (km p c hl hb) (cj (df (g>=gsV p c)) (dV p (ir p c (cj (bL p c.s.pc) (cj (i6 (c.s.pc+1)) (cj (ay.2 k5) (cj (e1 g 1) (cj (ap 0 c.b.length 48) (cj (ap (0+c.b.length) 1 48) (v5 p c (cj (pv ((0:Nat)+c.b.length+1=(c.b++[En.mk c.s.pc (0:Int) (0:Int) (-1:Int) (atI p c.s.pc).tg false false false]).length)) (cj (show ∀(i:Nat),i<0+c.b.length+1-> ∀(j:Nat),j<8->(bif Nat.blt (i+0) ((0:Nat)+c.b.length) then bif Nat.blt (i+0) (0:Nat) then AV.junk else ao enC c.b (i+0-0) j else List.getD [aI c.s.pc,aI 0,aI 0,aI (-1:Int),aI (atI p c.s.pc).tg,AV.bool false,AV.bool false,AV.bool false] ((i+0-((0:Nat)+c.b.length)+0)*8+j) AV.junk)=ao enC (c.b++[En.mk c.s.pc (0:Int) (0:Int) (-1:Int) (atI p c.s.pc).tg false false false]) i j from(qh c.b _ _ (fun j hj=>match j,hj with |0,_=>rfl |1,_=>rfl |2,_=>rfl |3,_=>rfl |4,_=>rfl |5,_=>rfl |6,_=>rfl |7,_=>rfl))) (qr c trivial))))))))))))))))))
theorem J2(c:Cf): ∀(i:Nat),i<0+c.b.length+1-> ∀(j:Nat),j<8->(bif Nat.blt (i+0) ((0:Nat)+c.b.length) then bif Nat.blt (i+0) (0:Nat) then AV.junk else ao enC c.b (i+0-0) j else List.getD [aI c.s.pc,aI 0,aI 0,aI (-1:Int),aI (c.s.pc+1),AV.bool false,AV.bool false,AV.bool false] ((i+0-((0:Nat)+c.b.length)+0)*8+j) AV.junk)=ao enC (c.b++[En.mk c.s.pc (0:Int) (0:Int) (-1:Int) (c.s.pc+1) false false false]) i j:=(qh c.b _ _ (fun j hj=>match j,hj with |0,_=>rfl |1,_=>rfl |2,_=>rfl |3,_=>rfl |4,_=>rfl |5,_=>rfl |6,_=>rfl |7,_=>rfl))
theorem Is(c:Cf){Z:Prop}(z:Z):(RF c.s.r0 (RF c.s.r1 (RF c.s.r2 (RF c.s.r3 (RF c.s.m.length (RR c.s.m.length 1 (fun i j=>aI (List.getD c.s.m i 0)) (RF c.s.st.length (RR c.s.st.length 1 (fun i j=>aI (List.getD c.s.st i 0)) (RF (c.s.pc+1) Z))))))))):=⟨rfl,rfl,rfl,rfl,rfl,fun _ _ _ _=>rfl,rfl,fun _ _ _ _=>rfl,rfl,z⟩
theorem Mz(p:Pg)(c:Cf)(g:Int)(hl:p.is.length<1000)(hb:c.b.length<1000000)(h0:0<=g)(hg: ¬gsV p c<=g)(hpc: -1<=c.s.pc∧c.s.pc<=1000)(hr:c.r.length<1000)(k5:(atI p c.s.pc).kind=5)(g1: ¬g=1):Vc (vF_ 34 [.agg (pgA p),.agg (cfA c), aI g] [.fv,.bd false,la p c,.bd false,iP p c,.bd true,.bd false] [] (.tup [.agg (cfA ⟨c.s.go (c.s.pc+1),c.b++[⟨c.s.pc,0,0, -1,(c.s.pc+1),false,false,false⟩],c.r,c.e⟩),.bool true]) []):=aj (cj (df (g<0)) (dV p (kQ p c (kR c (cj (km p c hl hb) (cj (df (g>=gsV p c)) (dV p (ir p c (cj (bL p c.s.pc) (cj (i6 (c.s.pc+1)) (cj (ay.2 k5) (cj (e0 g 1) (cj (ap 0 c.b.length 48) (cj (ap (0+c.b.length) 1 48) (Is c (cj (pv ((0:Nat)+c.b.length+1=(c.b++[En.mk c.s.pc (0:Int) (0:Int) (-1:Int) (c.s.pc+1) false false false]).length)) (cj (J2 c) (qr c trivial))))))))))))))))))
theorem O6(p:Pg)(c:Cf)(g:Int)(hl:p.is.length<1000)(hb:c.b.length<1000000)(h0:0<=g)(hg: ¬gsV p c<=g)(hpc: -1<=c.s.pc∧c.s.pc<=1000)(hr:c.r.length<1000)(k5: ¬(atI p c.s.pc).kind=5)(k6:(atI p c.s.pc).kind=6):Vc (vF_ 34 [.agg (pgA p),.agg (cfA c), aI g] [.fv,.bd false,la p c,.bd false,iP p c,.bd false,.bd true] [] (.tup [.agg (cfA ⟨c.s.go (atI p c.s.pc).tg,c.b++[⟨c.s.pc,0,0, -1,(atI p c.s.pc).tg,true,false,false⟩],c.r,c.e⟩),.bool true]) []):=aj (cj (df (g<0)) (dV p (kQ p c (kR c (cj (km p c hl hb) (cj (df (g>=gsV p c)) (dV p (ir p c (cj (bL p c.s.pc) (cj (i6 (c.s.pc+1)) (cj (ae.2 k5) (cj (ay.2 k6) (cj (ap 0 c.b.length 48) (cj (ap (0+c.b.length) 1 48) (v5 p c (cj (pv ((0:Nat)+c.b.length+1=(c.b++[En.mk c.s.pc (0:Int) (0:Int) (-1:Int) (atI p c.s.pc).tg true false false]).length)) (cj (show ∀(i:Nat),i<0+c.b.length+1-> ∀(j:Nat),j<8->(bif Nat.blt (i+0) ((0:Nat)+c.b.length) then bif Nat.blt (i+0) (0:Nat) then AV.junk else ao enC c.b (i+0-0) j else List.getD [aI c.s.pc,aI 0,aI 0,aI (-1:Int),aI (atI p c.s.pc).tg,AV.bool true,AV.bool false,AV.bool false] ((i+0-((0:Nat)+c.b.length)+0)*8+j) AV.junk)=ao enC (c.b++[En.mk c.s.pc (0:Int) (0:Int) (-1:Int) (atI p c.s.pc).tg true false false]) i j from(qh c.b _ _ (fun j hj=>match j,hj with |0,_=>rfl |1,_=>rfl |2,_=>rfl |3,_=>rfl |4,_=>rfl |5,_=>rfl |6,_=>rfl |7,_=>rfl))) (qr c trivial))))))))))))))))))
theorem J1(c:Cf)(g:Int): ∀(i:Nat),i<0+c.b.length+1-> ∀(j:Nat),j<8->(bif Nat.blt (i+0) ((0:Nat)+c.b.length) then bif Nat.blt (i+0) (0:Nat) then AV.junk else ao enC c.b (i+0-0) j else List.getD [aI c.s.pc,aI 0,aI 0,aI (-1:Int),aI g,AV.bool false,AV.bool false,AV.bool false] ((i+0-((0:Nat)+c.b.length)+0)*8+j) AV.junk)=ao enC (c.b++[En.mk c.s.pc (0:Int) (0:Int) (-1:Int) g false false false]) i j:=(qh c.b _ _ (fun j hj=>match j,hj with |0,_=>rfl |1,_=>rfl |2,_=>rfl |3,_=>rfl |4,_=>rfl |5,_=>rfl |6,_=>rfl |7,_=>rfl))
theorem Ir(c:Cf)(g:Int){Z:Prop}(z:Z):(RF c.s.r0 (RF c.s.r1 (RF c.s.r2 (RF c.s.r3 (RF c.s.m.length (RR c.s.m.length 1 (fun i j=>aI (List.getD c.s.m i 0)) (RF c.s.st.length (RR c.s.st.length 1 (fun i j=>aI (List.getD c.s.st i 0)) (RF g Z))))))))):=⟨rfl,rfl,rfl,rfl,rfl,fun _ _ _ _=>rfl,rfl,fun _ _ _ _=>rfl,rfl,z⟩
theorem O5(p:Pg)(c:Cf)(g:Int)(hl:p.is.length<1000)(hb:c.b.length<1000000)(h0:0<=g)(hg: ¬gsV p c<=g)(hpc: -1<=c.s.pc∧c.s.pc<=1000)(hr:c.r.length<1000)(k5: ¬(atI p c.s.pc).kind=5)(k6: ¬(atI p c.s.pc).kind=6)(k7:(atI p c.s.pc).kind=7):Vc (vF_ 34 [.agg (pgA p),.agg (cfA c), aI g] [.fv,.bd false,la p c,.bd false,iP p c,.bd false,.bd false,.bd true] [] (.tup [.agg (cfA ⟨c.s.go g,c.b++[⟨c.s.pc,0,0, -1,g,false,false,false⟩],c.r,c.e⟩),.bool true]) []):=aj (cj (df (g<0)) (dV p (kQ p c (kR c (cj (km p c hl hb) (cj (df (g>=gsV p c)) (dV p (ir p c (cj (bL p c.s.pc) (cj (i6 (c.s.pc+1)) (cj (ae.2 k5) (cj (ae.2 k6) (cj (ay.2 k7) (cj (ap 0 c.b.length 48) (cj (ap (0+c.b.length) 1 48) (Ir c g (cj (pv ((0:Nat)+c.b.length+1=(c.b++[En.mk c.s.pc (0:Int) (0:Int) (-1:Int) g false false false]).length)) (cj (J1 c g) (qr c trivial)))))))))))))))))))
theorem Mu(p:Pg)(c:Cf)(g:Int)(hl:p.is.length<1000)(hb:c.b.length<1000000)(h0:0<=g)(hg: ¬gsV p c<=g)(hpc: -1<=c.s.pc∧c.s.pc<=1000)(hr:c.r.length<1000)(k5: ¬(atI p c.s.pc).kind=5)(k6: ¬(atI p c.s.pc).kind=6)(k7: ¬(atI p c.s.pc).kind=7)(k9:(atI p c.s.pc).kind=9)(hz:c.r.length=0):Vc (vF_ 34 [.agg (pgA p),.agg (cfA c), aI g] [.fv,.bd false,la p c,.bd false,iP p c,.bd false,.bd false,.bd false,.bd true,.bd false] [] (.tup [.agg (cfA ⟨c.s.go g,c.b++[⟨c.s.pc,0,0, -1,g,false,false,false⟩],c.r,c.e⟩),.bool true]) []):=aj (cj (df (g<0)) (dV p (kQ p c (kR c (cj (km p c hl hb) (cj (df (g>=gsV p c)) (dV p (ir p c (cj (bL p c.s.pc) (cj (i6 (c.s.pc+1)) (cj (ae.2 k5) (cj (ae.2 k6) (cj (ae.2 k7) (cj (ay.2 k9) (cj (df ((↑c.r.length:Int)>0)) (cj (ap 0 c.b.length 48) (cj (ap (0+c.b.length) 1 48) (Ir c g (cj (pv ((0:Nat)+c.b.length+1=(c.b++[En.mk c.s.pc (0:Int) (0:Int) (-1:Int) g false false false]).length)) (cj (J1 c g) (qr c trivial)))))))))))))))))))))
theorem O4(p:Pg)(c:Cf)(g:Int)(hl:p.is.length<1000)(hb:c.b.length<1000000)(h0:0<=g)(hg: ¬gsV p c<=g)(hpc: -1<=c.s.pc∧c.s.pc<=1000)(hr:c.r.length<1000)(k5: ¬(atI p c.s.pc).kind=5)(k6: ¬(atI p c.s.pc).kind=6)(k7: ¬(atI p c.s.pc).kind=7)(k9:(atI p c.s.pc).kind=9)(hz: ¬c.r.length=0):Vc (vF_ 34 [.agg (pgA p),.agg (cfA c), aI g] [.fv,.bd false,la p c,.bd false,iP p c,.bd false,.bd false,.bd false,.bd true,.bd true] [] (.tup [.agg (cfA ⟨c.s.go (bE c.r),c.b++[⟨c.s.pc,0,0, -1,(bE c.r),false,false,false⟩],(c.r.take ((c.r.length:Int)-1).toNat),c.e⟩),.bool true]) []):=aj (cj (df (g<0)) (dV p (kQ p c (kR c (cj (km p c hl hb) (cj (df (g>=gsV p c)) (dV p (ir p c (cj (bL p c.s.pc) (cj (i6 (c.s.pc+1)) (cj (ae.2 k5) (cj (ae.2 k6) (cj (ae.2 k7) (cj (ay.2 k9) (cj (dt ((↑c.r.length:Int)>0)) (cj (i6 (c.r.length-1)) (cj (bi (c.r.length-1) c.r.length) (cj (i6 (c.r.length-1)) (cj (pv ((0:Int)<=c.r.length-1∧(↑c.r.length:Int)-1<=c.r.length)) (cj (ap 0 (Int.toNat ((↑c.r.length:Int)-1)) 8) (cj (ap 0 c.b.length 48) (cj (ap (0+c.b.length) 1 48) (cj (rf c.s.r0) (cj (rf c.s.r1) (cj (rf c.s.r2) (cj (rf c.s.r3) (cj (rf c.s.m.length) (cj (rr c.s.m.length 1 fun i j=>aI (List.getD c.s.m i 0)) (cj (rf c.s.st.length) (cj (rr c.s.st.length 1 fun i j=>aI (List.getD c.s.st i 0)) (cj (rf (bE c.r)) (cj (pv ((0:Nat)+c.b.length+1=(c.b++[En.mk c.s.pc (0:Int) (0:Int) (-1:Int) (bE c.r) false false false]).length)) (cj (show ∀(i:Nat),i<0+c.b.length+1-> ∀(j:Nat),j<8->(bif Nat.blt (i+0) ((0:Nat)+c.b.length) then bif Nat.blt (i+0) (0:Nat) then AV.junk else ao enC c.b (i+0-0) j else List.getD [aI c.s.pc,aI 0,aI 0,aI (-1:Int),aI (c.r.getD (Int.toNat (c.r.length-1)) 0),AV.bool false,AV.bool false,AV.bool false] ((i+0-((0:Nat)+c.b.length)+0)*8+j) AV.junk)=ao enC (c.b++[En.mk c.s.pc (0:Int) (0:Int) (-1:Int) (bE c.r) false false false]) i j from(qh c.b _ _ (fun j hj=>match j,hj with |0,_=>rfl |1,_=>rfl |2,_=>rfl |3,_=>rfl |4,_=>rfl |5,_=>rfl |6,_=>rfl |7,_=>rfl))) (cj (pv ((0:Nat)+Int.toNat ((↑c.r.length:Int)-1)=(List.take (Int.toNat (c.r.length-1)) c.r).length)) (cj (show ∀(i:Nat),i<0+Int.toNat ((↑c.r.length:Int)-1)-> ∀(j:Nat),j<1->aI (c.r.getD (i+0-0) 0)=aI (List.getD (List.take (Int.toNat (c.r.length-1)) c.r) i 0) from(fun i hi j hj=>by rw[pb _ _ _ (by omega)];rfl)) (cj (rf c.e) (cj (rf true) trivial)))))))))))))))))))))))))))))))))))))
theorem DW(c:Cf){Z:Prop}(z:Z):(RF ((d7 c.r (c.s.pc+1)).length) (RR ((d7 c.r (c.s.pc+1)).length) 1 (fun i j=>aI (List.getD (d7 c.r (c.s.pc+1)) i 0)) (RF c.e (RF true Z)))):=⟨rfl,fun _ _ _ _=>rfl,rfl,rfl,z⟩
theorem v8(c:Cf){Z:Prop}(z:Z):(RF c.r.length (RR c.r.length 1 (fun i j=>aI (c.r.getD i 0)) (RF (c.s.pc+1) Z))):=⟨rfl,fun _ _ _ _=>rfl,rfl,z⟩
theorem v7(p:Pg)(c:Cf){Z:Prop}(z:Z):(RF p.ls.length (RR p.ls.length 2 (fun i j=>ao lbC p.ls i j) (RF p.is.length (RR p.is.length 9 (fun i j=>ao inC p.is i j) (RF c.s.st.length (RR c.s.st.length 1 (fun i j=>aI (List.getD c.s.st i 0)) (RF c.b.length (RR c.b.length 8 (fun i j=>ao enC c.b i j) (RF (↑c.b.length:Int) Z))))))))):=⟨rfl,fun _ _ _ _=>rfl,rfl,fun _ _ _ _=>rfl,rfl,fun _ _ _ _=>rfl,rfl,fun _ _ _ _=>rfl,rfl,z⟩
abbrev FX(c:Cf):Orc:= .cl [lR c.r, aI (c.s.pc+1)] (lR (d7 c.r (c.s.pc+1))) []
theorem Mw(p:Pg)(c:Cf)(g:Int)(hl:p.is.length<1000)(hb:c.b.length<1000000)(h0:0<=g)(hg: ¬gsV p c<=g)(hpc: -1<=c.s.pc∧c.s.pc<=1000)(hr:c.r.length<1000)(k5: ¬(atI p c.s.pc).kind=5)(k6: ¬(atI p c.s.pc).kind=6)(k7: ¬(atI p c.s.pc).kind=7)(k9: ¬(atI p c.s.pc).kind=9)(k8:(atI p c.s.pc).kind=8)(hst:c.s.st.length<=1000)(hbp: ∀e∈c.b, -1<=e.pc∧e.pc<=1000000)(hb9:c.b.length<900000)(hv:reV p c.s.st c.b c.b.length=none):Vc (vF_ 34 [.agg (pgA p),.agg (cfA c), aI g] [.fv,.bd false,la p c,.bd false,iP p c,.bd false,.bd false,.bd false,.bd false,.bd true,.cl [.agg (pgA p),lR c.s.st,enR c.b, aI c.b.length] (.tup [.nils,.bool false]) [],FX c] [] (.tup [.agg (cfA ⟨c.s.go (atI p c.s.pc).tg,c.b++[⟨c.s.pc,0,0, -1,(atI p c.s.pc).tg,true,false,true⟩],(d7 c.r (c.s.pc+1)),c.e⟩),.bool true]) []):=aj (cj (df (g<0)) (dV p (kQ p c (kR c (cj (km p c hl hb) (cj (df (g>=gsV p c)) (dV p (ir p c (cj (bL p c.s.pc) (cj (i6 (c.s.pc+1)) (cj (ae.2 k5) (cj (ae.2 k6) (cj (ae.2 k7) (cj (ae.2 k9) (cj (ay.2 k8) (dV p (v7 p c (cj (qO p c.s.st c.b c.b.length hb9 hst hbp hv) (cj (i6 (c.s.pc+1)) (v8 c (cj (sH c.r (c.s.pc+1) (by omega)) (cj (ap 0 c.b.length 48) (cj (ap (0+c.b.length) 1 48) (v5 p c (cj (pv ((0:Nat)+c.b.length+1=(c.b++[En.mk c.s.pc (0:Int) (0:Int) (-1:Int) (atI p c.s.pc).tg true false true]).length)) (cj (show ∀(i:Nat),i<0+c.b.length+1-> ∀(j:Nat),j<8->(bif Nat.blt (i+0) ((0:Nat)+c.b.length) then bif Nat.blt (i+0) (0:Nat) then AV.junk else ao enC c.b (i+0-0) j else List.getD [aI c.s.pc,aI 0,aI 0,aI (-1:Int),aI (atI p c.s.pc).tg,AV.bool true,AV.bool false,AV.bool true] ((i+0-((0:Nat)+c.b.length)+0)*8+j) AV.junk)=ao enC (c.b++[En.mk c.s.pc (0:Int) (0:Int) (-1:Int) (atI p c.s.pc).tg true false true]) i j from(qh c.b _ _ (fun j hj=>match j,hj with |0,_=>rfl |1,_=>rfl |2,_=>rfl |3,_=>rfl |4,_=>rfl |5,_=>rfl |6,_=>rfl |7,_=>rfl))) (DW c trivial)))))))))))))))))))))))))))
theorem Mx(p:Pg)(c:Cf)(g:Int)(hl:p.is.length<1000)(hb:c.b.length<1000000)(h0:0<=g)(hg: ¬gsV p c<=g)(hpc: -1<=c.s.pc∧c.s.pc<=1000)(hr:c.r.length<1000)(L:List Int)(k5: ¬(atI p c.s.pc).kind=5)(k6: ¬(atI p c.s.pc).kind=6)(k7: ¬(atI p c.s.pc).kind=7)(k9: ¬(atI p c.s.pc).kind=9)(k8:(atI p c.s.pc).kind=8)(hst:c.s.st.length<=1000)(hbp: ∀e∈c.b, -1<=e.pc∧e.pc<=1000000)(hb9:c.b.length<900000)(hv:reV p c.s.st c.b c.b.length=some L)(h4:4<=L.length):Vc (vF_ 34 [.agg (pgA p),.agg (cfA c), aI g] [.fv,.bd false,la p c,.bd false,iP p c,.bd false,.bd false,.bd false,.bd false,.bd true,.cl [.agg (pgA p),lR c.s.st,enR c.b, aI c.b.length] (.tup [lR L,.bool true]) [],.bd true,FX c] [] (.tup [.agg (cfA ⟨c.s.go (atI p c.s.pc).tg,c.b++[⟨c.s.pc,0,0, -1,(atI p c.s.pc).tg,true,false,true⟩],(d7 c.r (c.s.pc+1)),c.e⟩),.bool true]) []):=aj (cj (df (g<0)) (dV p (kQ p c (kR c (cj (km p c hl hb) (cj (df (g>=gsV p c)) (dV p (ir p c (cj (bL p c.s.pc) (cj (i6 (c.s.pc+1)) (cj (ae.2 k5) (cj (ae.2 k6) (cj (ae.2 k7) (cj (ae.2 k9) (cj (ay.2 k8) (dV p (v7 p c (cj (xy p c.s.st c.b c.b.length L hb9 hst hbp hv) (cj (dt ((L.length:Int)>=4)) (cj (i6 (c.s.pc+1)) (v8 c (cj (sH c.r (c.s.pc+1) (by omega)) (cj (ap 0 c.b.length 48) (cj (ap (0+c.b.length) 1 48) (v5 p c (cj (pv ((0:Nat)+c.b.length+1=(c.b++[En.mk c.s.pc (0:Int) (0:Int) (-1:Int) (atI p c.s.pc).tg true false true]).length)) (cj (show ∀(i:Nat),i<0+c.b.length+1-> ∀(j:Nat),j<8->(bif Nat.blt (i+0) ((0:Nat)+c.b.length) then bif Nat.blt (i+0) (0:Nat) then AV.junk else ao enC c.b (i+0-0) j else List.getD [aI c.s.pc,aI 0,aI 0,aI (-1:Int),aI (atI p c.s.pc).tg,AV.bool true,AV.bool false,AV.bool (bif !true then true else true)] ((i+0-((0:Nat)+c.b.length)+0)*8+j) AV.junk)=ao enC (c.b++[En.mk c.s.pc (0:Int) (0:Int) (-1:Int) (atI p c.s.pc).tg true false true]) i j from(qh c.b _ _ (fun j hj=>match j,hj with |0,_=>rfl |1,_=>rfl |2,_=>rfl |3,_=>rfl |4,_=>rfl |5,_=>rfl |6,_=>rfl |7,_=>rfl))) (DW c trivial))))))))))))))))))))))))))))
theorem Mv(p:Pg)(c:Cf)(g:Int)(hl:p.is.length<1000)(hb:c.b.length<1000000)(h0:0<=g)(hg: ¬gsV p c<=g)(hpc: -1<=c.s.pc∧c.s.pc<=1000)(hr:c.r.length<1000)(L:List Int)(k5: ¬(atI p c.s.pc).kind=5)(k6: ¬(atI p c.s.pc).kind=6)(k7: ¬(atI p c.s.pc).kind=7)(k9: ¬(atI p c.s.pc).kind=9)(k8:(atI p c.s.pc).kind=8)(hst:c.s.st.length<=1000)(hbp: ∀e∈c.b, -1<=e.pc∧e.pc<=1000000)(hb9:c.b.length<900000)(hv:reV p c.s.st c.b c.b.length=some L)(h4: ¬4<=L.length):Vc (vF_ 34 [.agg (pgA p),.agg (cfA c), aI g] [.fv,.bd false,la p c,.bd false,iP p c,.bd false,.bd false,.bd false,.bd false,.bd true,.cl [.agg (pgA p),lR c.s.st,enR c.b, aI c.b.length] (.tup [lR L,.bool true]) [],.bd false,FX c] [] (.tup [.agg (cfA ⟨c.s.go (atI p c.s.pc).tg,c.b++[⟨c.s.pc,0,0, -1,(atI p c.s.pc).tg,true,false,false⟩],(d7 c.r (c.s.pc+1)),c.e⟩),.bool true]) []):=aj (cj (df (g<0)) (dV p (kQ p c (kR c (cj (km p c hl hb) (cj (df (g>=gsV p c)) (dV p (ir p c (cj (bL p c.s.pc) (cj (i6 (c.s.pc+1)) (cj (ae.2 k5) (cj (ae.2 k6) (cj (ae.2 k7) (cj (ae.2 k9) (cj (ay.2 k8) (dV p (v7 p c (cj (xy p c.s.st c.b c.b.length L hb9 hst hbp hv) (cj (df ((L.length:Int)>=4)) (cj (i6 (c.s.pc+1)) (v8 c (cj (sH c.r (c.s.pc+1) (by omega)) (cj (ap 0 c.b.length 48) (cj (ap (0+c.b.length) 1 48) (v5 p c (cj (pv ((0:Nat)+c.b.length+1=(c.b++[En.mk c.s.pc (0:Int) (0:Int) (-1:Int) (atI p c.s.pc).tg true false false]).length)) (cj (show ∀(i:Nat),i<0+c.b.length+1-> ∀(j:Nat),j<8->(bif Nat.blt (i+0) ((0:Nat)+c.b.length) then bif Nat.blt (i+0) (0:Nat) then AV.junk else ao enC c.b (i+0-0) j else List.getD [aI c.s.pc,aI 0,aI 0,aI (-1:Int),aI (atI p c.s.pc).tg,AV.bool true,AV.bool false,AV.bool (bif !true then true else false)] ((i+0-((0:Nat)+c.b.length)+0)*8+j) AV.junk)=ao enC (c.b++[En.mk c.s.pc (0:Int) (0:Int) (-1:Int) (atI p c.s.pc).tg true false false]) i j from(qh c.b _ _ (fun j hj=>match j,hj with |0,_=>rfl |1,_=>rfl |2,_=>rfl |3,_=>rfl |4,_=>rfl |5,_=>rfl |6,_=>rfl |7,_=>rfl))) (DW c trivial))))))))))))))))))))))))))))
theorem J0(c:Cf): ∀(i:Nat),i<0+c.b.length+1-> ∀(j:Nat),j<8->(bif Nat.blt (i+0) ((0:Nat)+c.b.length) then bif Nat.blt (i+0) (0:Nat) then AV.junk else ao enC c.b (i+0-0) j else List.getD [aI c.s.pc,aI 0,aI 0,aI (-1:Int),aI (-1:Int),AV.bool true,AV.bool false,AV.bool false] ((i+0-((0:Nat)+c.b.length)+0)*8+j) AV.junk)=ao enC (c.b++[En.mk c.s.pc (0:Int) (0:Int) (-1:Int) (-1:Int) true false false]) i j:=(qh c.b _ _ (fun j hj=>match j,hj with |0,_=>rfl |1,_=>rfl |2,_=>rfl |3,_=>rfl |4,_=>rfl |5,_=>rfl |6,_=>rfl |7,_=>rfl))
theorem CE(c:Cf){Z:Prop}(z:Z):(RF c.s.r0 (RF c.s.r1 (RF c.s.r2 (RF c.s.r3 (RF c.s.m.length (RR c.s.m.length 1 (fun i j=>aI (List.getD c.s.m i 0)) (RF c.s.st.length (RR c.s.st.length 1 (fun i j=>aI (List.getD c.s.st i 0)) (RF (-1:Int) Z))))))))):=⟨rfl,rfl,rfl,rfl,rfl,fun _ _ _ _=>rfl,rfl,fun _ _ _ _=>rfl,rfl,z⟩
theorem MB(p:Pg)(c:Cf)(g:Int)(hl:p.is.length<1000)(hb:c.b.length<1000000)(h0:0<=g)(hg: ¬gsV p c<=g)(hpc: -1<=c.s.pc∧c.s.pc<=1000)(hr:c.r.length<1000)(k5: ¬(atI p c.s.pc).kind=5)(k6: ¬(atI p c.s.pc).kind=6)(k7: ¬(atI p c.s.pc).kind=7)(k9: ¬(atI p c.s.pc).kind=9)(k8: ¬(atI p c.s.pc).kind=8)(k11:(atI p c.s.pc).kind=11):Vc (vF_ 34 [.agg (pgA p),.agg (cfA c), aI g] [.fv,.bd false,la p c,.bd false,iP p c,.bd false,.bd false,.bd false,.bd false,.bd false,.bd true] [] (.tup [.agg (cfA ⟨c.s.go (-1),c.b++[⟨c.s.pc,0,0, -1,(-1),true,false,false⟩],c.r,c.e⟩),.bool true]) []):=aj (cj (df (g<0)) (dV p (kQ p c (kR c (cj (km p c hl hb) (cj (df (g>=gsV p c)) (dV p (ir p c (cj (bL p c.s.pc) (cj (i6 (c.s.pc+1)) (cj (ae.2 k5) (cj (ae.2 k6) (cj (ae.2 k7) (cj (ae.2 k9) (cj (ae.2 k8) (cj (ay.2 k11) (cj (ap 0 c.b.length 48) (cj (ap (0+c.b.length) 1 48) (CE c (cj (pv ((0:Nat)+c.b.length+1=(c.b++[En.mk c.s.pc (0:Int) (0:Int) (-1:Int) (-1:Int) true false false]).length)) (cj (J0 c) (qr c trivial))))))))))))))))))))))
theorem MA(p:Pg)(c:Cf)(g:Int)(hl:p.is.length<1000)(hb:c.b.length<1000000)(h0:0<=g)(hg: ¬gsV p c<=g)(hpc: -1<=c.s.pc∧c.s.pc<=1000)(hr:c.r.length<1000)(k5: ¬(atI p c.s.pc).kind=5)(k6: ¬(atI p c.s.pc).kind=6)(k7: ¬(atI p c.s.pc).kind=7)(k9: ¬(atI p c.s.pc).kind=9)(k8: ¬(atI p c.s.pc).kind=8)(k11: ¬(atI p c.s.pc).kind=11)(k12:(atI p c.s.pc).kind=12):Vc (vF_ 34 [.agg (pgA p),.agg (cfA c), aI g] [.fv,.bd false,la p c,.bd false,iP p c,.bd false,.bd false,.bd false,.bd false,.bd false,.bd false,.bd true] [] (.tup [.agg (cfA ⟨c.s.go (-1),c.b++[⟨c.s.pc,0,0, -1,(-1),true,false,false⟩],c.r,c.e⟩),.bool true]) []):=aj (cj (df (g<0)) (dV p (kQ p c (kR c (cj (km p c hl hb) (cj (df (g>=gsV p c)) (dV p (ir p c (cj (bL p c.s.pc) (cj (i6 (c.s.pc+1)) (cj (ae.2 k5) (cj (ae.2 k6) (cj (ae.2 k7) (cj (ae.2 k9) (cj (ae.2 k8) (cj (ae.2 k11) (cj (ay.2 k12) (cj (ap 0 c.b.length 48) (cj (ap (0+c.b.length) 1 48) (CE c (cj (pv ((0:Nat)+c.b.length+1=(c.b++[En.mk c.s.pc (0:Int) (0:Int) (-1:Int) (-1:Int) true false false]).length)) (cj (J0 c) (qr c trivial)))))))))))))))))))))))
theorem O3(p:Pg)(c:Cf)(g:Int)(hl:p.is.length<1000)(hb:c.b.length<1000000)(h0:0<=g)(hg: ¬gsV p c<=g)(hpc: -1<=c.s.pc∧c.s.pc<=1000)(hr:c.r.length<1000)(k5: ¬(atI p c.s.pc).kind=5)(k6: ¬(atI p c.s.pc).kind=6)(k7: ¬(atI p c.s.pc).kind=7)(k9: ¬(atI p c.s.pc).kind=9)(k8: ¬(atI p c.s.pc).kind=8)(k11: ¬(atI p c.s.pc).kind=11)(k12: ¬(atI p c.s.pc).kind=12):Vc (vF_ 34 [.agg (pgA p),.agg (cfA c), aI g] [.fv,.bd false,la p c,.bd false,iP p c,.bd false,.bd false,.bd false,.bd false,.bd false,.bd false,.bd false] [] (.tup [.agg (cfA ⟨c.s.go (c.s.pc+1),c.b++[⟨c.s.pc,0,0, -1,(c.s.pc+1),false,false,false⟩],c.r,c.e⟩),.bool true]) []):=aj (cj (df (g<0)) (dV p (kQ p c (kR c (cj (km p c hl hb) (cj (df (g>=gsV p c)) (dV p (ir p c (cj (bL p c.s.pc) (cj (i6 (c.s.pc+1)) (cj (ae.2 k5) (cj (ae.2 k6) (cj (ae.2 k7) (cj (ae.2 k9) (cj (ae.2 k8) (cj (ae.2 k11) (cj (ae.2 k12) (cj (ap 0 c.b.length 48) (cj (ap (0+c.b.length) 1 48) (Is c (cj (pv ((0:Nat)+c.b.length+1=(c.b++[En.mk c.s.pc (0:Int) (0:Int) (-1:Int) (c.s.pc+1) false false false]).length)) (cj (J2 c) (qr c trivial)))))))))))))))))))))))
def ftO(p:Pg)(c:Cf)(g:Int):Option Cf:=if 0<=g∧g<gsV p c then some (ftD p c g) else none
theorem Ko(p:Pg)(c:Cf)(g:Int)(hl:p.is.length<1000)(hb:c.b.length<900000)(hpc: -1<=c.s.pc∧c.s.pc<=1000)(hr:c.r.length<1000)(hst:c.s.st.length<=1000)(hbp: ∀e∈c.b, -1<=e.pc∧e.pc<=1000000):pC_ 34 [.agg (pgA p),.agg (cfA c),.int .i64 g] (.tup (ocA (ftO p c g))) []:=by
 have hb9:=hb
 replace hb:c.b.length<1000000:=by omega
 unfold ftO
 by_cases hn:g<0
 ·rw[an (by omega)];exact PureC.vc (GV p c g hl hb hn)
 replace hn:0<=g:=by omega
 by_cases hg:gsV p c<=g
 ·rw[an (by omega)];exact PureC.vc (GU p c g hl hb hn hg)
 rw[aq ⟨hn,by omega⟩]
 by_cases k5:(atI p c.s.pc).kind=5
 ·by_cases g1:g=1
  ·have e:ftD p c g=⟨c.s.go (atI p c.s.pc).tg,c.b++[⟨c.s.pc,0,0, -1,(atI p c.s.pc).tg,false,false,false⟩],c.r,c.e⟩:=by simp[ftD,ftE,ftR,k5,g1]
   rw[e];exact PureC.vc (My p c g hl hb hn hg hpc hr k5 g1)
  ·have e:ftD p c g=⟨c.s.go (c.s.pc+1),c.b++[⟨c.s.pc,0,0, -1,(c.s.pc+1),false,false,false⟩],c.r,c.e⟩:=by simp[ftD,ftE,ftR,k5,g1]
   rw[e];exact PureC.vc (Mz p c g hl hb hn hg hpc hr k5 g1)
 by_cases k6:(atI p c.s.pc).kind=6
 ·have e:ftD p c g=⟨c.s.go (atI p c.s.pc).tg,c.b++[⟨c.s.pc,0,0, -1,(atI p c.s.pc).tg,true,false,false⟩],c.r,c.e⟩:=by simp[ftD,ftE,ftR,k6]
  rw[e];exact PureC.vc (O6 p c g hl hb hn hg hpc hr k5 k6)
 by_cases k7:(atI p c.s.pc).kind=7
 ·have e:ftD p c g=⟨c.s.go g,c.b++[⟨c.s.pc,0,0, -1,g,false,false,false⟩],c.r,c.e⟩:=by simp[ftD,ftE,ftR,k7]
  rw[e];exact PureC.vc (O5 p c g hl hb hn hg hpc hr k5 k6 k7)
 by_cases k9:(atI p c.s.pc).kind=9
 ·by_cases hz:c.r.length=0
  ·have hz0:c.r=[]:=bM hz
   have e:ftD p c g=⟨c.s.go g,c.b++[⟨c.s.pc,0,0, -1,g,false,false,false⟩],c.r,c.e⟩:=by simp[ftD,ftE,ftR,k9,hz0]
   rw[e];exact PureC.vc (Mu p c g hl hb hn hg hpc hr k5 k6 k7 k9 hz)
  ·have hz0: ¬c.r=[]:=fun e=>hz (by rw[e];rfl)
   have e:ftD p c g=⟨c.s.go (bE c.r),c.b++[⟨c.s.pc,0,0, -1,(bE c.r),false,false,false⟩],(c.r.take ((c.r.length:Int)-1).toNat),c.e⟩:=by simp[ftD,ftE,ftR,k9,hz0]
   rw[e];exact PureC.vc (O4 p c g hl hb hn hg hpc hr k5 k6 k7 k9 hz)
 by_cases k8:(atI p c.s.pc).kind=8
 ·cases hv:reV p c.s.st c.b c.b.length with
  |none=>
   have e:ftD p c g=⟨c.s.go (atI p c.s.pc).tg,c.b++[⟨c.s.pc,0,0, -1,(atI p c.s.pc).tg,true,false,true⟩],(d7 c.r (c.s.pc+1)),c.e⟩:=by simp[ftD,ftE,ftR,k8,ftB,hv]
   rw[e];exact PureC.vc (Mw p c g hl hb hn hg hpc hr k5 k6 k7 k9 k8 hst hbp hb9 hv)
  |some L=>
   by_cases h4:4<=L.length
   ·have e:ftD p c g=⟨c.s.go (atI p c.s.pc).tg,c.b++[⟨c.s.pc,0,0, -1,(atI p c.s.pc).tg,true,false,true⟩],(d7 c.r (c.s.pc+1)),c.e⟩:=by simp[ftD,ftE,ftR,k8,ftB,hv,h4]
    rw[e];exact PureC.vc (Mx p c g hl hb hn hg hpc hr L k5 k6 k7 k9 k8 hst hbp hb9 hv h4)
   ·have e:ftD p c g=⟨c.s.go (atI p c.s.pc).tg,c.b++[⟨c.s.pc,0,0, -1,(atI p c.s.pc).tg,true,false,false⟩],(d7 c.r (c.s.pc+1)),c.e⟩:=by simp[ftD,ftE,ftR,k8,ftB,hv,h4]
    rw[e];exact PureC.vc (Mv p c g hl hb hn hg hpc hr L k5 k6 k7 k9 k8 hst hbp hb9 hv h4)
 by_cases k11:(atI p c.s.pc).kind=11
 ·have e:ftD p c g=⟨c.s.go (-1),c.b++[⟨c.s.pc,0,0, -1,(-1),true,false,false⟩],c.r,c.e⟩:=by simp[ftD,ftE,ftR,k11]
  rw[e];exact PureC.vc (MB p c g hl hb hn hg hpc hr k5 k6 k7 k9 k8 k11)
 by_cases k12:(atI p c.s.pc).kind=12
 ·have e:ftD p c g=⟨c.s.go (-1),c.b++[⟨c.s.pc,0,0, -1,(-1),true,false,false⟩],c.r,c.e⟩:=by simp[ftD,ftE,ftR,k12]
  rw[e];exact PureC.vc (MA p c g hl hb hn hg hpc hr k5 k6 k7 k9 k8 k11 k12)
 have e:ftD p c g=⟨c.s.go (c.s.pc+1),c.b++[⟨c.s.pc,0,0, -1,(c.s.pc+1),false,false,false⟩],c.r,c.e⟩:=by simp[ftD,ftE,ftR,k5,k6,k7,k9,k8,k11,k12]
 rw[e];exact PureC.vc (O3 p c g hl hb hn hg hpc hr k5 k6 k7 k9 k8 k11 k12)
def opV(p:Pg)(c:Cf)(i:Int):Bool:=if c.e=0∧0<=i∧i<c.b.length then !lC p c.b i else false
def tA(p:Pg)(c:Cf)(i:Int)(x:In):Int×Bool:=cH p c.s c.b i x.a
def tB(p:Pg)(c:Cf)(i:Int)(x:In):Int×Bool:=cH p c.s c.b i x.b
def tD(p:Pg)(c:Cf)(i:Int)(x:In):Int×Bool:=cC p c.s c.b i x.d
def tAB(p:Pg)(c:Cf)(i:Int)(x:In):Bool:=(tA p c i x).2&&(tB p c i x).2
def enX(p:Pg)(c:Cf)(k:Nat):In:=atI p (c.b.getD k default).pc
def adV(p:Pg)(c:Cf)(i:Int)(x:In):Int:=Wd.maskV p.W ((tA p c i x).1+(tB p c i x).1)
def cnK(p:Pg)(c:Cf)(i:Int)(x:In):Bool:=
 if x.kind=1 then tAB p c i x else if x.kind=5 then tAB p c i x else if x.kind=4 then tAB p c i x&&(tD p c i x).2
 else if x.kind=2 then tAB p c i x&&(decide ((c.s.m.length:Int)<=adV p c i x)||(ldV p c.s.m c.b i (adV p c i x)).2.2)
 else if x.kind=3 then(tD p c i x).2 else if x.kind=7 then(tA p c i x).2 else x.kind==9
def cnV(p:Pg)(c:Cf)(i:Int):Bool:=opV p c i&&(!(c.b.getD i.toNat default).dn&&cnK p c i (enX p c i.toNat))
def caV(p:Pg)(c:Cf)(i:Int):Bool:=opV p c i&&(!(c.b.getD i.toNat default).kn&&((enX p c i.toNat).kind==3&&tAB p c i (enX p c i.toNat)))
def crE(p:Pg)(e:En)(l:List En):Bool:=(e.dn||(atI p e.pc).kind==10)&&((atI p e.pc).kind !=3||e.kn)
def crV(p:Pg)(c:Cf):Bool:=if c.e=0 then(match c.b with
 | []=>false
 |e::l=>crE p e l) else false
theorem Oj(p:Pg)(c:Cf)(i:Int)(h0: ¬c.e=0):Vc (vF_ 72 [.agg (pgA p),.agg (cfA c), aI i] [.fv,.fv,.bd false] [] (.bool false) []):=aj (cj (ae.2 h0) (cj (rf false) trivial))
theorem Oh(p:Pg)(c:Cf)(i:Int)(h0:c.e=0)(hi: ¬0<=i):Vc (vF_ 72 [.agg (pgA p),.agg (cfA c), aI i] [.fv,.fv,.bd true,.bd false] [] (.bool false) []):=aj (cj (ay.2 h0) (cj (df (i>=0)) (cj (rf false) trivial)))
theorem Oi(p:Pg)(c:Cf)(i:Int)(h0:c.e=0)(hi:0<=i)(hl: ¬i<c.b.length):Vc (vF_ 72 [.agg (pgA p),.agg (cfA c), aI i] [.fv,.fv,.bd true,.bd true,.bd false] [] (.bool false) []):=aj (cj (ay.2 h0) (cj (dt (i>=0)) (cj (df (i<(↑c.b.length:Int))) (cj (rf false) trivial))))
theorem cB(p:Pg){Z:Prop}(z:Z):(RF p.W (RF p.win (RF p.fuel (RF p.r0 (RF p.r1 (RF p.r2 (RF p.r3 (RF p.ms.length (RR p.ms.length 3 (fun i j=>ao mmC p.ms i j) Z))))))))):=⟨rfl,rfl,rfl,rfl,rfl,rfl,rfl,rfl,fun _ _ _ _=>rfl,z⟩
theorem Og(p:Pg)(c:Cf)(i:Int)(h0:c.e=0)(hi:0<=i)(hl:i<c.b.length)(hb:c.b.length<1000000):Vc (vF_ 72 [.agg (pgA p),.agg (cfA c), aI i] [.fv,.fv,.bd true,.bd true,.bd true,.cl [.agg (pgA p),enR c.b, aI i] (.bool (lC p c.b i)) []] [] (.bool (!lC p c.b i)) []):=aj (cj (ay.2 h0) (cj (dt (i>=0)) (cj (dt (i<(↑c.b.length:Int))) (cB p (cj (rf p.ls.length) (cj (rr p.ls.length 2 fun i j=>ao lbC p.ls i j) (cj (rf p.is.length) (cj (rr p.is.length 9 fun i j=>ao inC p.is i j) (cj (rf c.b.length) (cj (rr c.b.length 8 fun i j=>ao enC c.b i j) (cj (rf i) (cj (KE p c.b i hb) (cj (rf (!lC p c.b i)) trivial)))))))))))))
theorem Kk(p:Pg)(c:Cf)(i:Int)(hb:c.b.length<1000000):pC_ 72 [.agg (pgA p),.agg (cfA c),.int .i64 i] (.bool (opV p c i)) []:=by
 unfold opV
 by_cases h0:c.e=0
 ·by_cases hi:0<=i
  ·by_cases hl:i<c.b.length
   ·rw[aq ⟨h0,hi,hl⟩];exact PureC.vc (Og p c i h0 hi hl hb)
   ·rw[an fun e=>hl e.2.2];exact PureC.vc (Oi p c i h0 hi hl)
  ·rw[an fun e=>hi e.2.1];exact PureC.vc (Oh p c i h0 hi)
 ·rw[an fun e=>h0 e.1];exact PureC.vc (Oj p c i h0)
theorem Iq(c:Cf)(i:Int)(x:In){Z:Prop}(z:Z):(RR c.b.length 8 (fun i j=>ao enC c.b i j) (RF i (RF x.d Z))):=⟨fun _ _ _ _=>rfl,rfl,rfl,z⟩
theorem sj(p:Pg)(c:Cf){Z:Prop}(z:Z):(RF p.ls.length (RR p.ls.length 2 (fun i j=>ao lbC p.ls i j) (RF p.is.length (RR p.is.length 9 (fun i j=>ao inC p.is i j) (RF c.s.r0 (RF c.s.r1 (RF c.s.r2 (RF c.s.r3 (RF c.b.length Z))))))))):=⟨rfl,fun _ _ _ _=>rfl,rfl,fun _ _ _ _=>rfl,rfl,rfl,rfl,rfl,rfl,z⟩
theorem Ip(c:Cf)(i:Int)(x:In){Z:Prop}(z:Z):(RR c.b.length 8 (fun i j=>ao enC c.b i j) (RF i (RF x.b.reg (RF x.b.n Z)))):=⟨fun _ _ _ _=>rfl,rfl,rfl,rfl,z⟩
theorem Io(c:Cf)(i:Int)(x:In){Z:Prop}(z:Z):(RR c.b.length 8 (fun i j=>ao enC c.b i j) (RF i (RF x.a.reg (RF x.a.n Z)))):=⟨fun _ _ _ _=>rfl,rfl,rfl,rfl,z⟩
abbrev K3(p:Pg)(c:Cf)(i:Int)(x:In):Orc:= .cl [.agg (pgA p),.agg (rgA c.s),enR c.b, aI i,.agg (vlA x.a)] (.tup [aI (cH p c.s c.b i x.a).1,.bool (cH p c.s c.b i x.a).2]) []
abbrev K2(p:Pg)(c:Cf)(i:Int)(x:In):Orc:= .cl [.agg (pgA p),.agg (rgA c.s),enR c.b, aI i,.agg (vlA x.b)] (.tup [aI (cH p c.s c.b i x.b).1,.bool (cH p c.s c.b i x.b).2]) []
abbrev K1(p:Pg)(c:Cf)(i:Int)(x:In):Orc:= .cl [.agg (pgA p),.agg (rgA c.s),enR c.b, aI i, aI x.d] (.tup [aI (cC p c.s c.b i x.d).1,.bool (cC p c.s c.b i x.d).2]) []
theorem NU(p:Pg)(c:Cf)(i:Int)(x:In)(hb:c.b.length<1000000)(h:(tA p c i x).2=true):Vc (vF_ 38 [.agg (pgA p),.agg (cfA c), aI i,.agg (inA x)] [.fv,.fv,.fv,K3 p c i x,K2 p c i x,K1 p c i x,.b true,.b true] [] (.tup [aI (tA p c i x).1, aI (tB p c i x).1, aI (tD p c i x).1,.bool (tB p c i x).2,.bool (tD p c i x).2]) []):=aj (cB p (sj p c (Io c i x (cj (qG p c.s c.b i x.a hb) (cB p (sj p c (Ip c i x (cj (qG p c.s c.b i x.b hb) (cB p (sj p c (Iq c i x (cj (xw p c.s c.b i x.d hb) (cj h (cj h (cj (rf (Prod.fst (tA p c i x))) (cj (rf (Prod.fst (tB p c i x))) (cj (rf (Prod.fst (tD p c i x))) (cj (rf (Prod.snd (tB p c i x))) (cj (rf (Prod.snd (tD p c i x))) trivial)))))))))))))))))))
theorem NV(p:Pg)(c:Cf)(i:Int)(x:In)(hb:c.b.length<1000000)(h:(tA p c i x).2=false):Vc (vF_ 38 [.agg (pgA p),.agg (cfA c), aI i,.agg (inA x)] [.fv,.fv,.fv,K3 p c i x,K2 p c i x,K1 p c i x,.b false,.b false] [] (.tup [aI (tA p c i x).1, aI (tB p c i x).1, aI (tD p c i x).1,.bool false,.bool (tD p c i x).2]) []):=aj (cB p (sj p c (Io c i x (cj (qG p c.s c.b i x.a hb) (cB p (sj p c (Ip c i x (cj (qG p c.s c.b i x.b hb) (cB p (sj p c (Iq c i x (cj (xw p c.s c.b i x.d hb) (cj h (cj h (cj (rf (Prod.fst (tA p c i x))) (cj (rf (Prod.fst (tB p c i x))) (cj (rf (Prod.fst (tD p c i x))) (cj (rf false) (cj (rf (Prod.snd (tD p c i x))) trivial)))))))))))))))))))
theorem AH(p:Pg)(c:Cf)(i:Int)(x:In)(hb:c.b.length<1000000):pC_ 38 [.agg (pgA p),.agg (cfA c),.int .i64 i,.agg (inA x)] (.tup [.int .i64 (tA p c i x).1,.int .i64 (tB p c i x).1,.int .i64 (tD p c i x).1,.bool (tAB p c i x),.bool (tD p c i x).2]) []:=by
 unfold tAB
 cases h:(tA p c i x).2 with
 |true=>rw[ci];exact PureC.vc (NU p c i x hb h)
 |false=>exact PureC.vc (NV p c i x hb h)
theorem eV(c:Cf){Z:Prop}(z:Z):(RR c.s.m.length 1 (fun i j=>aI (List.getD c.s.m i 0)) (RF c.s.st.length (RR c.s.st.length 1 (fun i j=>aI (List.getD c.s.st i 0)) (RF c.s.pc (RF c.b.length (RR c.b.length 8 (fun i j=>ao enC c.b i j) (RF c.r.length (RR c.r.length 1 (fun i j=>aI (c.r.getD i 0)) (RF c.e Z))))))))):=⟨fun _ _ _ _=>rfl,rfl,fun _ _ _ _=>rfl,rfl,rfl,fun _ _ _ _=>rfl,rfl,fun _ _ _ _=>rfl,rfl,z⟩
theorem eU(p:Pg)(c:Cf){Z:Prop}(z:Z):(RF p.ls.length (RR p.ls.length 2 (fun i j=>ao lbC p.ls i j) (RF p.is.length (RR p.is.length 9 (fun i j=>ao inC p.is i j) (RF c.s.r0 (RF c.s.r1 (RF c.s.r2 (RF c.s.r3 (RF c.s.m.length Z))))))))):=⟨rfl,fun _ _ _ _=>rfl,rfl,fun _ _ _ _=>rfl,rfl,rfl,rfl,rfl,rfl,z⟩
abbrev KR(p:Pg)(c:Cf)(i:Int):Prop:=PureC Tryz.prog 72 [.agg (pgA p),.agg (cfA c),.int .i64 i] (.bool false) []
theorem PG(p:Pg)(c:Cf)(i:Int)(hO:KR p c i):Vc (vF_ 36 [.agg (pgA p),.agg (cfA c), aI i] [.fv,.fv,.cl [.agg (pgA p),.agg (cfA c), aI i] (.bool false) []] [] (.bool false) []):=aj (cB p (eU p c (eV c (cj (rf i) (cj hO (cj (rf false) trivial))))))
theorem jZ{Z:Prop}(z:Z):(RF false (RF false (RF false Z))):=⟨rfl,rfl,rfl,z⟩
theorem jY{Z:Prop}(z:Z):(RF false (RF false (RF false (RF false Z)))):=⟨rfl,rfl,rfl,rfl,z⟩
abbrev ku(p:Pg)(c:Cf)(k:Nat):Prop:=PureC Tryz.prog 72 [.agg (pgA p),.agg (cfA c),.int .i64 k] (.bool true) []
abbrev kw(p:Pg)(c:Cf)(k:Nat):Orc:= .cl [.agg (pgA p),.agg (cfA c), aI k] (.bool true) []
theorem PI(p:Pg)(c:Cf)(k:Nat)(hk:k<c.b.length)(hb:c.b.length<1000000)(hO:ku p c k)(hd:(c.b.getD k default).dn=true):Vc (vF_ 36 [.agg (pgA p),.agg (cfA c), aI k] [.fv,.fv,kw p c k,.b false,.b false,.b false,.b false,.b false,.b false,.b false,.b true] [] (.bool false) []):=aj (cB p (eU p c (eV c (cj (rf (k:Int)) (cj hO (jY (cj (bi k c.b.length) (jZ (cj hd (cj (rf false) trivial))))))))))
theorem mb(p:Pg)(c:Cf)(k:Nat)(a:Int)(b:Int)(d:Int){Z:Prop}(z:Z):(RF (k:Int) (RF ((enX p c k).kind) (RF ((enX p c k).op) (RF ((enX p c k).d) (RF ((enX p c k).a.reg) (RF ((enX p c k).a.n) (RF ((enX p c k).b.reg) (RF ((enX p c k).b.n) (RF ((enX p c k).nm) Z))))))))):=⟨rfl,rfl,rfl,rfl,rfl,rfl,rfl,rfl,rfl,z⟩
theorem g9(p:Pg)(c:Cf)(k:Nat)(b:Int){Z:Prop}(z:Z):(RF p.ls.length (RR p.ls.length 2 (fun i j=>ao lbC p.ls i j) (RF p.is.length (RR p.is.length 9 (fun i j=>ao inC p.is i j) (RF ((c.b.getD k default).pc) Z))))):=⟨rfl,fun _ _ _ _=>rfl,rfl,fun _ _ _ _=>rfl,rfl,z⟩
abbrev sK(p:Pg)(c:Cf)(k:Nat)(a:Int)(b:Int)(d:Int)(ab:Bool)(so:Bool):Prop:=PureC Tryz.prog 38 [.agg (pgA p),.agg (cfA c),.int .i64 k,.agg (inA (enX p c k))] (.tup [.int .i64 a,.int .i64 b,.int .i64 d,.bool ab,.bool so]) []
abbrev sL(p:Pg)(c:Cf)(k:Nat)(a:Int)(b:Int)(d:Int)(ab:Bool)(so:Bool):Orc:= .cl [.agg (pgA p),.agg (cfA c), aI k,.agg (inA (enX p c k))] (.tup [aI a, aI b, aI d,.bool ab,.bool so]) []
abbrev mi(p:Pg)(c:Cf)(k:Nat):Orc:= .cl [.agg (pgA p), aI (c.b.getD k default).pc] (.agg (inA (enX p c k))) []
theorem PM(p:Pg)(c:Cf)(k:Nat)(hk:k<c.b.length)(hb:c.b.length<1000000)(hO:ku p c k)(hd:(c.b.getD k default).dn=false)(a b d:Int)(ab:Bool)(so:Bool)(hT:sK p c k a b d ab so)(k1:(enX p c k).kind=1):Vc (vF_ 36 [.agg (pgA p),.agg (cfA c), aI k] [.fv,.fv,kw p c k,.b false,.b false,.b false,.b false,.b false,.b false,.b false,.b false,mi p c k,sL p c k a b d ab so,.bd true] [] (.bool ab) []):=aj (cB p (eU p c (eV c (cj (rf (k:Int)) (cj hO (jY (cj (bi k c.b.length) (jZ (cj hd (cj (bi k c.b.length) (cB p (g9 p c k b (cj (bL p (c.b.getD k default).pc) (cB p (eU p c (eV c (mb p c k a b d (cj (rf ((enX p c k).tg)) (cj hT (cj (ay.2 k1) (cj (rf ab) trivial)))))))))))))))))))))
theorem PK(p:Pg)(c:Cf)(k:Nat)(hk:k<c.b.length)(hb:c.b.length<1000000)(hO:ku p c k)(hd:(c.b.getD k default).dn=false)(a b d:Int)(ab:Bool)(so:Bool)(hT:sK p c k a b d ab so)(k1: ¬(enX p c k).kind=1)(k5:(enX p c k).kind=5):Vc (vF_ 36 [.agg (pgA p),.agg (cfA c), aI k] [.fv,.fv,kw p c k,.b false,.b false,.b false,.b false,.b false,.b false,.b false,.b false,mi p c k,sL p c k a b d ab so,.bd false,.bd true] [] (.bool ab) []):=aj (cB p (eU p c (eV c (cj (rf (k:Int)) (cj hO (jY (cj (bi k c.b.length) (jZ (cj hd (cj (bi k c.b.length) (cB p (g9 p c k b (cj (bL p (c.b.getD k default).pc) (cB p (eU p c (eV c (mb p c k a b d (cj (rf ((enX p c k).tg)) (cj hT (cj (ae.2 k1) (cj (ay.2 k5) (cj (rf ab) trivial))))))))))))))))))))))
abbrev FE(p:Pg)(c:Cf)(k:Nat)(a:Int)(b:Int)(d:Int)(so:Bool):Prop:=PureC Tryz.prog 38 [.agg (pgA p),.agg (cfA c),.int .i64 k,.agg (inA (enX p c k))] (.tup [.int .i64 a,.int .i64 b,.int .i64 d,.bool true,.bool so]) []
abbrev x6(p:Pg)(c:Cf)(k:Nat)(a:Int)(b:Int)(d:Int)(so:Bool):Orc:= .cl [.agg (pgA p),.agg (cfA c), aI k,.agg (inA (enX p c k))] (.tup [aI a, aI b, aI d,.bool true,.bool so]) []
theorem MZ(p:Pg)(c:Cf)(k:Nat)(hk:k<c.b.length)(hb:c.b.length<1000000)(hO:ku p c k)(hd:(c.b.getD k default).dn=false)(a b d:Int)(so:Bool)(hT:FE p c k a b d so)(k1: ¬(enX p c k).kind=1)(k5: ¬(enX p c k).kind=5)(k4:(enX p c k).kind=4):Vc (vF_ 36 [.agg (pgA p),.agg (cfA c), aI k] [.fv,.fv,kw p c k,.b false,.b false,.b false,.b false,.b false,.b false,.b false,.b false,mi p c k,x6 p c k a b d so,.bd false,.bd false,.bd true] [] (.bool so) []):=aj (cB p (eU p c (eV c (cj (rf (k:Int)) (cj hO (jY (cj (bi k c.b.length) (jZ (cj hd (cj (bi k c.b.length) (cB p (g9 p c k b (cj (bL p (c.b.getD k default).pc) (cB p (eU p c (eV c (mb p c k a b d (cj (rf ((enX p c k).tg)) (cj hT (cj (ae.2 k1) (cj (ae.2 k5) (cj (ay.2 k4) (cj (rf so) trivial)))))))))))))))))))))))
abbrev Dd(p:Pg)(c:Cf)(k:Nat)(a:Int)(b:Int)(d:Int)(so:Bool):Prop:=PureC Tryz.prog 38 [.agg (pgA p),.agg (cfA c),.int .i64 k,.agg (inA (enX p c k))] (.tup [.int .i64 a,.int .i64 b,.int .i64 d,.bool false,.bool so]) []
theorem M0(p:Pg)(c:Cf)(k:Nat)(hk:k<c.b.length)(hb:c.b.length<1000000)(hO:ku p c k)(hd:(c.b.getD k default).dn=false)(a b d:Int)(so:Bool)(hT:Dd p c k a b d so)(k1: ¬(enX p c k).kind=1)(k5: ¬(enX p c k).kind=5)(k4:(enX p c k).kind=4):Vc (vF_ 36 [.agg (pgA p),.agg (cfA c), aI k] [.fv,.fv,kw p c k,.b false,.b false,.b false,.b false,.b false,.b false,.b false,.b false,mi p c k,.cl [.agg (pgA p),.agg (cfA c), aI k,.agg (inA (enX p c k))] (.tup [aI a, aI b, aI d,.bool false,.bool so]) [],.bd false,.bd false,.bd true] [] (.bool false) []):=aj (cB p (eU p c (eV c (cj (rf (k:Int)) (cj hO (jY (cj (bi k c.b.length) (jZ (cj hd (cj (bi k c.b.length) (cB p (g9 p c k b (cj (bL p (c.b.getD k default).pc) (cB p (eU p c (eV c (mb p c k a b d (cj (rf ((enX p c k).tg)) (cj hT (cj (ae.2 k1) (cj (ae.2 k5) (cj (ay.2 k4) (cj (rf false) trivial)))))))))))))))))))))))
theorem v4(p:Pg)(c:Cf)(k:Nat)(b:Int){Z:Prop}(z:Z):(RF p.ls.length (RR p.ls.length 2 (fun i j=>ao lbC p.ls i j) (RF p.is.length (RR p.is.length 9 (fun i j=>ao inC p.is i j) (RF c.s.m.length (RR c.s.m.length 1 (fun i j=>aI (List.getD c.s.m i 0)) (RF c.b.length (RR c.b.length 8 (fun i j=>ao enC c.b i j) (RF (k:Int) Z))))))))):=⟨rfl,fun _ _ _ _=>rfl,rfl,fun _ _ _ _=>rfl,rfl,fun _ _ _ _=>rfl,rfl,fun _ _ _ _=>rfl,rfl,z⟩
abbrev x4(p:Pg)(c:Cf)(k:Nat)(a:Int)(b:Int):Orc:= .cl [.agg (pgA p),lR c.s.m,enR c.b, aI k, aI (Wd.maskV p.W (a+b))] (.tup [aI (ldV p c.s.m c.b k (Wd.maskV p.W (a+b))).1, aI (ldV p c.s.m c.b k (Wd.maskV p.W (a+b))).2.1,.bool (ldV p c.s.m c.b k (Wd.maskV p.W (a+b))).2.2]) []
abbrev x5(p:Pg)(a:Int)(b:Int):Orc:= .cl [aI p.W, aI (a+b)] (aI (Wd.maskV p.W (a+b))) []
theorem M4(p:Pg)(c:Cf)(k:Nat)(hk:k<c.b.length)(hb:c.b.length<1000000)(hO:ku p c k)(hd:(c.b.getD k default).dn=false)(a b d:Int)(so:Bool)(hT:Dd p c k a b d so)(k1: ¬(enX p c k).kind=1)(k5: ¬(enX p c k).kind=5)(k4: ¬(enX p c k).kind=4)(k2:(enX p c k).kind=2)(hab: -1000000<=a+b∧a+b<=1000000)(hm:c.s.m.length<1000000):Vc (vF_ 36 [.agg (pgA p),.agg (cfA c), aI k] [.fv,.fv,kw p c k,.b false,.b false,.b false,.b false,.b false,.b false,.b false,.b false,mi p c k,.cl [.agg (pgA p),.agg (cfA c), aI k,.agg (inA (enX p c k))] (.tup [aI a, aI b, aI d,.bool false,.bool so]) [],.bd false,.bd false,.bd false,.bd true,x5 p a b,x4 p c k a b] [] (.bool false) []):=aj (cB p (eU p c (eV c (cj (rf (k:Int)) (cj hO (jY (cj (bi k c.b.length) (jZ (cj hd (cj (bi k c.b.length) (cB p (g9 p c k b (cj (bL p (c.b.getD k default).pc) (cB p (eU p c (eV c (mb p c k a b d (cj (rf ((enX p c k).tg)) (cj hT (cj (ae.2 k1) (cj (ae.2 k5) (cj (ae.2 k4) (cj (ay.2 k2) (cj (i6 (a+b)) (cj (rf p.W) (cj (rf (a+b)) (cj (bI p.W (a+b)) (cB p (v4 p c k b (cj (rf (Wd.maskV p.W (a+b))) (cj (AP p c.s.m c.b k (Wd.maskV p.W (a+b)) hb) (cj (rf false) trivial))))))))))))))))))))))))))))))))
theorem M2(p:Pg)(c:Cf)(k:Nat)(hk:k<c.b.length)(hb:c.b.length<1000000)(hO:ku p c k)(hd:(c.b.getD k default).dn=false)(a b d:Int)(so:Bool)(hT:FE p c k a b d so)(k1: ¬(enX p c k).kind=1)(k5: ¬(enX p c k).kind=5)(k4: ¬(enX p c k).kind=4)(k2:(enX p c k).kind=2)(hab: -1000000<=a+b∧a+b<=1000000)(hm:c.s.m.length<1000000)(ho:(c.s.m.length:Int)<=(Wd.maskV p.W (a+b))):Vc (vF_ 36 [.agg (pgA p),.agg (cfA c), aI k] [.fv,.fv,kw p c k,.b false,.b false,.b false,.b false,.b false,.b false,.b false,.b false,mi p c k,x6 p c k a b d so,.bd false,.bd false,.bd false,.bd true,x5 p a b,x4 p c k a b,.bd true] [] (.bool true) []):=aj (cB p (eU p c (eV c (cj (rf (k:Int)) (cj hO (jY (cj (bi k c.b.length) (jZ (cj hd (cj (bi k c.b.length) (cB p (g9 p c k b (cj (bL p (c.b.getD k default).pc) (cB p (eU p c (eV c (mb p c k a b d (cj (rf ((enX p c k).tg)) (cj hT (cj (ae.2 k1) (cj (ae.2 k5) (cj (ae.2 k4) (cj (ay.2 k2) (cj (i6 (a+b)) (cj (rf p.W) (cj (rf (a+b)) (cj (bI p.W (a+b)) (cB p (v4 p c k b (cj (rf (Wd.maskV p.W (a+b))) (cj (AP p c.s.m c.b k (Wd.maskV p.W (a+b)) hb) (cj (dt (Wd.maskV p.W (a+b)>=(↑(c.s.m.length):Int))) (cj (rf true) trivial)))))))))))))))))))))))))))))))))
theorem M3(p:Pg)(c:Cf)(k:Nat)(hk:k<c.b.length)(hb:c.b.length<1000000)(hO:ku p c k)(hd:(c.b.getD k default).dn=false)(a b d:Int)(so:Bool)(hT:FE p c k a b d so)(k1: ¬(enX p c k).kind=1)(k5: ¬(enX p c k).kind=5)(k4: ¬(enX p c k).kind=4)(k2:(enX p c k).kind=2)(hab: -1000000<=a+b∧a+b<=1000000)(hm:c.s.m.length<1000000)(ho: ¬(c.s.m.length:Int)<=(Wd.maskV p.W (a+b))):Vc (vF_ 36 [.agg (pgA p),.agg (cfA c), aI k] [.fv,.fv,kw p c k,.b false,.b false,.b false,.b false,.b false,.b false,.b false,.b false,mi p c k,x6 p c k a b d so,.bd false,.bd false,.bd false,.bd true,x5 p a b,x4 p c k a b,.bd false] [] (.bool (ldV p c.s.m c.b k (Wd.maskV p.W (a+b))).2.2) []):=aj (cB p (eU p c (eV c (cj (rf (k:Int)) (cj hO (jY (cj (bi k c.b.length) (jZ (cj hd (cj (bi k c.b.length) (cB p (g9 p c k b (cj (bL p (c.b.getD k default).pc) (cB p (eU p c (eV c (mb p c k a b d (cj (rf ((enX p c k).tg)) (cj hT (cj (ae.2 k1) (cj (ae.2 k5) (cj (ae.2 k4) (cj (ay.2 k2) (cj (i6 (a+b)) (cj (rf p.W) (cj (rf (a+b)) (cj (bI p.W (a+b)) (cB p (v4 p c k b (cj (rf (Wd.maskV p.W (a+b))) (cj (AP p c.s.m c.b k (Wd.maskV p.W (a+b)) hb) (cj (df (Wd.maskV p.W (a+b)>=(↑(c.s.m.length):Int))) (cj (rf (Prod.snd (Prod.snd (ldV p c.s.m c.b (k:Int) (Wd.maskV p.W (a+b)))))) trivial)))))))))))))))))))))))))))))))))
theorem PL(p:Pg)(c:Cf)(k:Nat)(hk:k<c.b.length)(hb:c.b.length<1000000)(hO:ku p c k)(hd:(c.b.getD k default).dn=false)(a b d:Int)(ab:Bool)(so:Bool)(hT:sK p c k a b d ab so)(k1: ¬(enX p c k).kind=1)(k5: ¬(enX p c k).kind=5)(k4: ¬(enX p c k).kind=4)(k2: ¬(enX p c k).kind=2)(k3:(enX p c k).kind=3):Vc (vF_ 36 [.agg (pgA p),.agg (cfA c), aI k] [.fv,.fv,kw p c k,.b false,.b false,.b false,.b false,.b false,.b false,.b false,.b false,mi p c k,sL p c k a b d ab so,.bd false,.bd false,.bd false,.bd false,.bd true] [] (.bool so) []):=aj (cB p (eU p c (eV c (cj (rf (k:Int)) (cj hO (jY (cj (bi k c.b.length) (jZ (cj hd (cj (bi k c.b.length) (cB p (g9 p c k b (cj (bL p (c.b.getD k default).pc) (cB p (eU p c (eV c (mb p c k a b d (cj (rf ((enX p c k).tg)) (cj hT (cj (ae.2 k1) (cj (ae.2 k5) (cj (ae.2 k4) (cj (ae.2 k2) (cj (ay.2 k3) (cj (rf so) trivial)))))))))))))))))))))))))
theorem PJ(p:Pg)(c:Cf)(k:Nat)(hk:k<c.b.length)(hb:c.b.length<1000000)(hO:ku p c k)(hd:(c.b.getD k default).dn=false)(a b d:Int)(ab:Bool)(so:Bool)(hT:sK p c k a b d ab so)(k1: ¬(enX p c k).kind=1)(k5: ¬(enX p c k).kind=5)(k4: ¬(enX p c k).kind=4)(k2: ¬(enX p c k).kind=2)(k3: ¬(enX p c k).kind=3)(k7:(enX p c k).kind=7):Vc (vF_ 36 [.agg (pgA p),.agg (cfA c), aI k] [.fv,.fv,kw p c k,.b false,.b false,.b false,.b false,.b false,.b false,.b false,.b false,mi p c k,sL p c k a b d ab so,.bd false,.bd false,.bd false,.bd false,.bd false,.bd true,.cl [.agg (pgA p),.agg (rgA c.s),enR c.b, aI k,.agg (vlA (enX p c k).a)] (.tup [aI (cH p c.s c.b k (enX p c k).a).1,.bool (cH p c.s c.b k (enX p c k).a).2]) []] [] (.bool (cH p c.s c.b k (enX p c k).a).2) []):=aj (cB p (eU p c (eV c (cj (rf (k:Int)) (cj hO (jY (cj (bi k c.b.length) (jZ (cj hd (cj (bi k c.b.length) (cB p (g9 p c k b (cj (bL p (c.b.getD k default).pc) (cB p (eU p c (eV c (mb p c k a b d (cj (rf ((enX p c k).tg)) (cj hT (cj (ae.2 k1) (cj (ae.2 k5) (cj (ae.2 k4) (cj (ae.2 k2) (cj (ae.2 k3) (cj (ay.2 k7) (cB p (sj p c (cj (rr c.b.length 8 fun i j=>ao enC c.b i j) (cj (rf (k:Int)) (cj (rf ((enX p c k).a.reg)) (cj (rf ((enX p c k).a.n)) (cj (qG p c.s c.b k (enX p c k).a hb) (cj (rf (Prod.snd (cH p c.s c.b (k:Int) (enX p c k).a))) trivial)))))))))))))))))))))))))))))))))
theorem PH(p:Pg)(c:Cf)(k:Nat)(hk:k<c.b.length)(hb:c.b.length<1000000)(hO:ku p c k)(hd:(c.b.getD k default).dn=false)(a b d:Int)(ab:Bool)(so:Bool)(hT:sK p c k a b d ab so)(k1: ¬(enX p c k).kind=1)(k5: ¬(enX p c k).kind=5)(k4: ¬(enX p c k).kind=4)(k2: ¬(enX p c k).kind=2)(k3: ¬(enX p c k).kind=3)(k7: ¬(enX p c k).kind=7):Vc (vF_ 36 [.agg (pgA p),.agg (cfA c), aI k] [.fv,.fv,kw p c k,.b false,.b false,.b false,.b false,.b false,.b false,.b false,.b false,mi p c k,sL p c k a b d ab so,.bd false,.bd false,.bd false,.bd false,.bd false,.bd false] [] (.bool ((enX p c k).kind==9)) []):=aj (cB p (eU p c (eV c (cj (rf (k:Int)) (cj hO (jY (cj (bi k c.b.length) (jZ (cj hd (cj (bi k c.b.length) (cB p (g9 p c k b (cj (bL p (c.b.getD k default).pc) (cB p (eU p c (eV c (mb p c k a b d (cj (rf ((enX p c k).tg)) (cj hT (cj (ae.2 k1) (cj (ae.2 k5) (cj (ae.2 k4) (cj (ae.2 k2) (cj (ae.2 k3) (cj (ae.2 k7) (cj (rf ((enX p c k).kind==(9:Int))) trivial))))))))))))))))))))))))))
theorem kZ{p:Pg}{c:Cf}{i:Int}(h:opV p c i=true): ∃k:Nat,i=(k:Int)∧k<c.b.length:=by
 unfold opV at h
 split at h
 ·exact⟨i.toNat,by omega,by omega⟩
 ·cases h
def Sml(p:Pg)(c:Cf):Prop:= ∀i x,0<=(tA p c i x).1∧(tA p c i x).1<=65535∧0<=(tB p c i x).1∧(tB p c i x).1<=65535
theorem Sml.add{p:Pg}{c:Cf}(h:Sml p c)(i:Int)(x:In): -1000000<=(tA p c i x).1+(tB p c i x).1∧(tA p c i x).1+(tB p c i x).1<=1000000:=by
 have:=h i x;omega
theorem Db(p:Pg)(c:Cf)(i:Int)(hb:c.b.length<1000000)(hm:c.s.m.length<1000000)(hv:Sml p c):pC_ 36 [.agg (pgA p),.agg (cfA c),.int .i64 i] (.bool (cnV p c i)) []:=by
 unfold cnV
 have hO:=Kk p c i hb
 cases ho:opV p c i with
 |false=>rw[ho] at hO;exact PureC.vc (PG p c i hO)
 |true=>
  rw[ho] at hO
  obtain⟨k,rfl,hk⟩:=kZ ho
  rw[ci,aC]
  cases hd:(c.b.getD k default).dn with
  |true=>exact PureC.vc (PI p c k hk hb hO hd)
  |false=>
   rw[Bool.not_false,ci]
   have hT:=AH p c k (enX p c k) hb
   have ha:=hv.add k (enX p c k)
   unfold cnK
   by_cases k1:(enX p c k).kind=1
   ·rw[aq k1];exact PureC.vc (PM p c k hk hb hO hd _ _ _ _ _ hT k1)
   rw[an k1]
   by_cases k5:(enX p c k).kind=5
   ·rw[aq k5];exact PureC.vc (PK p c k hk hb hO hd _ _ _ _ _ hT k1 k5)
   rw[an k5]
   by_cases k4:(enX p c k).kind=4
   ·rw[aq k4]
    cases hab:tAB p c k (enX p c k) with
    |false=>rw[hab] at hT;exact PureC.vc (M0 p c k hk hb hO hd _ _ _ _ hT k1 k5 k4)
    |true=>rw[hab] at hT;rw[ci];exact PureC.vc (MZ p c k hk hb hO hd _ _ _ _ hT k1 k5 k4)
   rw[an k4]
   by_cases k2:(enX p c k).kind=2
   ·rw[aq k2]
    cases hab:tAB p c k (enX p c k) with
    |false=>rw[hab] at hT;exact PureC.vc (M4 p c k hk hb hO hd _ _ _ _ hT k1 k5 k4 k2 ha hm)
    |true=>
     rw[hab] at hT;rw[ci]
     by_cases ho:(c.s.m.length:Int)<=adV p c k (enX p c k)
     ·rw[bB ho,jo];exact PureC.vc (M2 p c k hk hb hO hd _ _ _ _ hT k1 k5 k4 k2 ha hm ho)
     ·rw[bK ho,dN];exact PureC.vc (M3 p c k hk hb hO hd _ _ _ _ hT k1 k5 k4 k2 ha hm ho)
   rw[an k2]
   by_cases k3:(enX p c k).kind=3
   ·rw[aq k3];exact PureC.vc (PL p c k hk hb hO hd _ _ _ _ _ hT k1 k5 k4 k2 k3)
   rw[an k3]
   by_cases k7:(enX p c k).kind=7
   ·rw[aq k7];exact PureC.vc (PJ p c k hk hb hO hd _ _ _ _ _ hT k1 k5 k4 k2 k3 k7)
   rw[an k7];exact PureC.vc (PH p c k hk hb hO hd _ _ _ _ _ hT k1 k5 k4 k2 k3 k7)
theorem PQ(p:Pg)(c:Cf)(i:Int)(hO:KR p c i):Vc (vF_ 48 [.agg (pgA p),.agg (cfA c), aI i] [.fv,.fv,.cl [.agg (pgA p),.agg (cfA c), aI i] (.bool false) []] [] (.bool false) []):=aj (cB p (eU p c (eV c (cj (rf i) (cj hO (cj (rf false) trivial))))))
theorem PS(p:Pg)(c:Cf)(k:Nat)(hk:k<c.b.length)(hb:c.b.length<1000000)(hO:ku p c k)(hd:(c.b.getD k default).kn=true):Vc (vF_ 48 [.agg (pgA p),.agg (cfA c), aI k] [.fv,.fv,kw p c k,.b false,.b false,.b false,.b false,.b false,.b false,.b false,.b true] [] (.bool false) []):=aj (cB p (eU p c (eV c (cj (rf (k:Int)) (cj hO (jY (cj (bi k c.b.length) (jZ (cj hd (cj (rf false) trivial))))))))))
theorem PR(p:Pg)(c:Cf)(k:Nat)(hk:k<c.b.length)(hb:c.b.length<1000000)(hO:ku p c k)(hd:(c.b.getD k default).kn=false)(a b d:Int)(ab so:Bool)(hT:sK p c k a b d ab so)(k3: ¬(enX p c k).kind=3):Vc (vF_ 48 [.agg (pgA p),.agg (cfA c), aI k] [.fv,.fv,kw p c k,.b false,.b false,.b false,.b false,.b false,.b false,.b false,.b false,mi p c k,sL p c k a b d ab so,.bd false] [] (.bool false) []):=aj (cB p (eU p c (eV c (cj (rf (k:Int)) (cj hO (jY (cj (bi k c.b.length) (jZ (cj hd (cj (bi k c.b.length) (cB p (g9 p c k b (cj (bL p (c.b.getD k default).pc) (cB p (eU p c (eV c (mb p c k a b d (cj (rf ((enX p c k).tg)) (cj hT (cj (ae.2 k3) (cj (rf false) trivial)))))))))))))))))))))
theorem PP(p:Pg)(c:Cf)(k:Nat)(hk:k<c.b.length)(hb:c.b.length<1000000)(hO:ku p c k)(hd:(c.b.getD k default).kn=false)(a b d:Int)(ab so:Bool)(hT:sK p c k a b d ab so)(k3:(enX p c k).kind=3):Vc (vF_ 48 [.agg (pgA p),.agg (cfA c), aI k] [.fv,.fv,kw p c k,.b false,.b false,.b false,.b false,.b false,.b false,.b false,.b false,mi p c k,sL p c k a b d ab so,.bd true] [] (.bool ab) []):=aj (cB p (eU p c (eV c (cj (rf (k:Int)) (cj hO (jY (cj (bi k c.b.length) (jZ (cj hd (cj (bi k c.b.length) (cB p (g9 p c k b (cj (bL p (c.b.getD k default).pc) (cB p (eU p c (eV c (mb p c k a b d (cj (rf ((enX p c k).tg)) (cj hT (cj (ay.2 k3) (cj (rf ab) trivial)))))))))))))))))))))
theorem KC(p:Pg)(c:Cf)(i:Int)(hb:c.b.length<1000000):pC_ 48 [.agg (pgA p),.agg (cfA c),.int .i64 i] (.bool (caV p c i)) []:=by
 unfold caV
 have hO:=Kk p c i hb
 cases ho:opV p c i with
 |false=>rw[ho] at hO;exact PureC.vc (PQ p c i hO)
 |true=>
  rw[ho] at hO
  obtain⟨k,rfl,hk⟩:=kZ ho
  rw[ci,aC]
  cases hd:(c.b.getD k default).kn with
  |true=>exact PureC.vc (PS p c k hk hb hO hd)
  |false=>
   rw[Bool.not_false,ci]
   have hT:=AH p c k (enX p c k) hb
   by_cases k3:(enX p c k).kind=3
   ·rw[ay.2 k3,ci];exact PureC.vc (PP p c k hk hb hO hd _ _ _ _ _ hT k3)
   ·rw[ae.2 k3,Bool.false_and];exact PureC.vc (PR p c k hk hb hO hd _ _ _ _ _ hT k3)
theorem PF(p:Pg)(c:Cf)(h0: ¬c.e=0):Vc (vF_ 58 [.agg (pgA p),.agg (cfA c)] [.fv,.fv,.bd true] [] (.bool false) []):=aj (cj (cN.2 h0) (cj (rf false) trivial))
theorem PE(p:Pg)(c:Cf)(h0:c.e=0)(hl:c.b.length=0):Vc (vF_ 58 [.agg (pgA p),.agg (cfA c)] [.fv,.fv,.bd false,.bd true] [] (.bool false) []):=aj (cj (ax.2 h0) (cj (e1 c.b.length 0) (cj (rf false) trivial)))
theorem te(p:Pg)(c:Cf){Z:Prop}(z:Z):(RF p.ls.length (RR p.ls.length 2 (fun i j=>ao lbC p.ls i j) (RF p.is.length (RR p.is.length 9 (fun i j=>ao inC p.is i j) (RF ((c.b.getD 0 default).pc) Z))))):=⟨rfl,fun _ _ _ _=>rfl,rfl,fun _ _ _ _=>rfl,rfl,z⟩
abbrev tW(p:Pg)(c:Cf):Orc:= .cl [.agg (pgA p), aI (c.b.getD 0 default).pc] (.agg (inA (enX p c 0))) []
theorem MU(p:Pg)(c:Cf)(h0:c.e=0)(hl: ¬c.b.length=0)(hd:(c.b.getD 0 default).dn=true)(k3:(enX p c 0).kind=3):Vc (vF_ 58 [.agg (pgA p),.agg (cfA c)] [.fv,.fv,.bd false,.bd false,tW p c,.b true,.b true,.b true,.bd false] [] (.bool (c.b.getD 0 default).kn) []):=aj (cj (ax.2 h0) (cj (e0 c.b.length 0) (cj (pv ((0:Int)<=0∧(0:Int)<c.b.length)) (cB p (te p c (cj (bL p (c.b.getD 0 default).pc) (cj hd (cj hd (cj hd (cj (ax.2 k3) (cj (rf ((c.b.getD 0 default).kn)) trivial)))))))))))
theorem MT(p:Pg)(c:Cf)(h0:c.e=0)(hl: ¬c.b.length=0)(hd:(c.b.getD 0 default).dn=true)(k3: ¬(enX p c 0).kind=3):Vc (vF_ 58 [.agg (pgA p),.agg (cfA c)] [.fv,.fv,.bd false,.bd false,tW p c,.b true,.b true,.b true,.bd true] [] (.bool true) []):=aj (cj (ax.2 h0) (cj (e0 c.b.length 0) (cj (pv ((0:Int)<=0∧(0:Int)<c.b.length)) (cB p (te p c (cj (bL p (c.b.getD 0 default).pc) (cj hd (cj hd (cj hd (cj (cN.2 k3) (cj (rf true) trivial)))))))))))
theorem G6(p:Pg)(c:Cf)(h0:c.e=0)(hl: ¬c.b.length=0)(hd:(c.b.getD 0 default).dn=false)(k10:(enX p c 0).kind=10)(k3: ¬(enX p c 0).kind=3):Vc (vF_ 58 [.agg (pgA p),.agg (cfA c)] [.fv,.fv,.bd false,.bd false,tW p c,.b false,.b false,.bd true,.b false,.bd true] [] (.bool true) []):=aj (cj (ax.2 h0) (cj (e0 c.b.length 0) (cj (pv ((0:Int)<=0∧(0:Int)<c.b.length)) (cB p (te p c (cj (bL p (c.b.getD 0 default).pc) (cj hd (cj hd (cj (e1 ((enX p c 0).kind) 10) (cj hd (cj (cN.2 k3) (cj (rf true) trivial))))))))))))
theorem MV(p:Pg)(c:Cf)(h0:c.e=0)(hl: ¬c.b.length=0)(hd:(c.b.getD 0 default).dn=false)(k10: ¬(enX p c 0).kind=10):Vc (vF_ 58 [.agg (pgA p),.agg (cfA c)] [.fv,.fv,.bd false,.bd false,tW p c,.b false,.b false,.bd false,.b false] [] (.bool false) []):=aj (cj (ax.2 h0) (cj (e0 c.b.length 0) (cj (pv ((0:Int)<=0∧(0:Int)<c.b.length)) (cB p (te p c (cj (bL p (c.b.getD 0 default).pc) (cj hd (cj hd (cj (e0 ((enX p c 0).kind) 10) (cj hd (cj (rf false) trivial)))))))))))
theorem KB(p:Pg)(c:Cf):pC_ 58 [.agg (pgA p),.agg (cfA c)] (.bool (crV p c)) []:=by
 by_cases h0:c.e=0
 ·by_cases hl:c.b.length=0
  ·have e:crV p c=false:=by unfold crV;rw[aq h0,bM hl]
   rw[e];exact PureC.vc (PE p c h0 hl)
  ·have e:crV p c=crE p (c.b.getD 0 default) []:=by
    unfold crV;rw[aq h0]
    cases h:c.b with
    |nil=>exact absurd (by rw[h];rfl) hl
    |cons a l=>rfl
   rw[e]
   unfold crE
   show PureC _ _ _ (.bool (((c.b.getD 0 default).dn||(enX p c 0).kind==10)&&((enX p c 0).kind !=3||(c.b.getD 0 default).kn))) _
   cases hd:(c.b.getD 0 default).dn with
   |true=>
    rw[jo,ci]
    by_cases k3:(enX p c 0).kind=3
    ·rw[ax.2 k3,dN];exact PureC.vc (MU p c h0 hl hd k3)
    ·rw[cN.2 k3,jo];exact PureC.vc (MT p c h0 hl hd k3)
   |false=>
    rw[dN]
    by_cases k10:(enX p c 0).kind=10
    ·have k3: ¬(enX p c 0).kind=3:=by omega
     rw[ay.2 k10,ci,cN.2 k3,jo];exact PureC.vc (G6 p c h0 hl hd k10 k3)
    ·rw[ae.2 k10,Bool.false_and];exact PureC.vc (MV p c h0 hl hd k10)
 ·have e:crV p c=false:=by unfold crV;rw[an h0]
  rw[e];exact PureC.vc (PF p c h0)
theorem CD(p:Pg){Z:Prop}(z:Z):(RF p.W (RF p.win (RF p.fuel (RF p.r0 (RF p.r1 (RF p.r2 (RF p.r3 (RF p.ms.length (RR p.ms.length 3 (fun i j=>ao mmC p.ms i j) Z))))))))):=⟨rfl,rfl,rfl,rfl,rfl,rfl,rfl,rfl,fun _ _ _ _=>rfl,z⟩
theorem Ft(p:Pg)(l:List En)(i:Int)(L:List Int)(N:Nat)(g:Nat->Nat->AV)(n:Nat)(hg: ∀a,a<L.length->g a 0= aI (L.getD a 0))(hN:L.length<=N):Vc ((tE 0 L.length (reS p l i L N g n) [(0,0)] (reS p l i L L.length (cQ L) n))):=aj (cj (pv (L.length<=N)) (cj (pv ((0:Nat)+L.length<=L.length)) (cj (rf L.length) (cj (show ∀(i:Nat),i<L.length-> ∀(j:Nat),j<1->g i j=aI (L.getD i 0) from(fun i hi j hj=>by obtain rfl:j=0:=(by omega);exact hg i hi)) (CD p (cj (rf p.ls.length) (cj (rr p.ls.length 2 fun i j=>ao lbC p.ls i j) (cj (rf p.is.length) (cj (rr p.is.length 9 fun i j=>ao inC p.is i j) (cj (rf l.length) (cj (rr l.length 8 fun i j=>ao enC l i j) (cj (rf i) (cj (rf (0:Nat)) (cj (rf L.length) (cj (rf (n:Int)) (cj (rf false) trivial))))))))))))))))
theorem Fr(p:Pg)(st:List Int)(l:List En)(i:Int)(L:List Int)(n:Nat)(hst:st.length<=1000000)(h:oL_ 44 0 (reS p l i st st.length (cQ st) 0).st (.ext 0) (reS p l i L L.length (cQ L) n).st):Vc (vF_ 44 [.agg (pgA p),lR st,enR l, aI i] [.fz,.lp [(0,1)] (reS p l i st st.length (cQ st) 0) (.ext 0) (reS p l i L L.length (cQ L) n)] [(0,0)] (.tup [.own 0 0 1 0 L.length,.bool true]) (mj [(3,L)])):=aj (cj (ap 0 st.length 8) (cj (za st.length) (cj (rr (0+st.length) 1 fun i j=>aI (st.getD i 0)) (CD p (cj (rf p.ls.length) (cj (rr p.ls.length 2 fun i j=>ao lbC p.ls i j) (cj (rf p.is.length) (cj (rr p.is.length 9 fun i j=>ao inC p.is i j) (cj (rf l.length) (cj (rr l.length 8 fun i j=>ao enC l i j) (cj (rf i) (cj (rf (0:Nat)) (cj (za st.length) (cj (rf (0:Int)) (cj (rf false) (cj h (cj (rf L.length) (cj (rr L.length 1 fun i j=>aI (L.getD i 0)) (cj (rf (0:Nat)) (cj (rf L.length) (cj (rf true) trivial)))))))))))))))))))))
theorem xx(p:Pg)(st:List Int)(l:List En)(i:Int)(L:List Int)(hb:l.length<900000)(hst:st.length<=1000)(hpc: ∀e∈l, -1<=e.pc∧e.pc<=1000000)(h:reV p st l i=some L):pC_ 44 [.agg (pgA p),lR st,enR l,.int .i64 i] (.tup [.own 0 0 1 0 L.length,.bool true]) (mj [(3,L)]):=by
 have hle:=fu i l.length
 obtain⟨N',g',q1,q2,q3⟩:=kr p l i L (by omega) hpc _ 0 st st.length (cQ st) (by omega) ⟨aB _,fun a _=>rfl⟩ (by omega) h
 exact PureC.vc (Fr p st l i L _ (by omega) (Ok.shr q3.ok (Ft p l i L N' g' _ q1.2 q1.1)))
def upE(c:Cf)(k:Nat)(g:En->En):Cf:=⟨c.s,c.b.set k (g (c.b.getD k default)),c.r,c.e⟩
def En.done(e:En):En:={e with dn:=true}
def En.vl(v:Int)(e:En):En:={e with val:=v}
def En.flt(e:En):En:={e with ft:=true}
def En.ad(a:Int)(e:En):En:={e with adr:=a,kn:=true}
def En.ld(v f:Int)(e:En):En:={e with val:=v,frm:=f}
def En.to(t:Int)(e:En):En:={e with nxt:=t}
def cfO(c:Cf)(o:AV):List AV:=s8R c.s++[o,lR c.r,.int .i64 c.e]
theorem kJ{i k:Nat}(h:Nat.beq (i+0) (k+0)=true):k=i:=(ar h).symm
theorem dz{b:List En}{k:Nat}{e:En}(hk:k<b.length)(j:Nat):ao enC (b.set k e) k j=enC e j:=by
 unfold ao;simp[List.getD,hk]
theorem fM{b:List En}{i k:Nat}{e:En}(h:Nat.beq (i+0) (k+0)=false)(j:Nat):ao enC (b.set k e) i j=ao enC b i j:=by
 have hne: ¬i=k:=fun e=>by subst e;simp at h
 unfold ao;simp[List.getD,b9,Ne.symm hne]
theorem si(c:Cf){Z:Prop}(z:Z):(RR c.s.m.length 1 (fun i j=>aI (List.getD c.s.m i 0)) (RF c.s.st.length (RR c.s.st.length 1 (fun i j=>aI (List.getD c.s.st i 0)) (RF c.s.pc (RF c.b.length (RR c.b.length 8 (fun i j=>ao enC c.b i j) (RF c.r.length (RR c.r.length 1 (fun i j=>aI (c.r.getD i 0)) (RF c.e Z))))))))):=⟨fun _ _ _ _=>rfl,rfl,fun _ _ _ _=>rfl,rfl,rfl,fun _ _ _ _=>rfl,rfl,fun _ _ _ _=>rfl,rfl,z⟩
theorem kP(p:Pg)(c:Cf){Z:Prop}(z:Z):(RF p.ls.length (RR p.ls.length 2 (fun i j=>ao lbC p.ls i j) (RF p.is.length (RR p.is.length 9 (fun i j=>ao inC p.is i j) (RF c.s.r0 (RF c.s.r1 (RF c.s.r2 (RF c.s.r3 (RF c.s.m.length Z))))))))):=⟨rfl,fun _ _ _ _=>rfl,rfl,fun _ _ _ _=>rfl,rfl,rfl,rfl,rfl,rfl,z⟩
theorem gm(p:Pg){Z:Prop}(z:Z):(RF p.W (RF p.win (RF p.fuel (RF p.r0 (RF p.r1 (RF p.r2 (RF p.r3 (RF p.ms.length (RR p.ms.length 3 (fun i j=>ao mmC p.ms i j) Z))))))))):=⟨rfl,rfl,rfl,rfl,rfl,rfl,rfl,rfl,fun _ _ _ _=>rfl,z⟩
theorem Pw(p:Pg)(c:Cf)(i:Int)(hC:pC_ 36 [.agg (pgA p),.agg (cfA c), aI i] (.bool false) []):Vc (vF_ 13 [.agg (pgA p),.agg (cfA c), aI i] [.fv,.cl [.agg (pgA p),.agg (cfA c), aI i] (.bool false) []] [] (.tup [.agg (cfA Cf0),.nils,.bool false]) []):=aj (gm p (kP p c (si c (cj (rf i) (cj hC (cj (rf (0:Int)) (cj (rf (0:Int)) (cj (rf (0:Int)) (cj (rf (0:Int)) (cj (rf (0:Nat)) (cj (rf (0:Nat)) (cj (rf (0:Int)) (cj (rf (0:Nat)) (cj (rf (0:Nat)) (cj (rf (0:Int)) (cj (rf false) trivial))))))))))))))))
theorem uR(c:Cf)(k:Nat)(hk:k<c.b.length): ∀(i:Nat),i<0+c.b.length-> ∀(j:Nat),j<8->(bif Nat.ble (5:Nat) j&&Nat.blt j (6:Nat)&&Nat.beq (i+0) (k+0) then List.getD [AV.bool true] (j-5) AV.junk else bif Nat.blt (i+0) (0:Nat) then AV.junk else ao enC c.b (i+0-0) j)=ao enC (List.set c.b k (En.done (c.b.getD k default))) i j:=(fun i hi j hj=>by cases hq:Nat.beq (i+0) (k+0) with |true=>obtain rfl:=kJ hq;rw[dz hk];exact(match j,hj with |0,_=>rfl |1,_=>rfl |2,_=>rfl |3,_=>rfl |4,_=>rfl |5,_=>rfl |6,_=>rfl |7,_=>rfl)|false=>rw[fM hq];exact(match j,hj with |0,_=>rfl |1,_=>rfl |2,_=>rfl |3,_=>rfl |4,_=>rfl |5,_=>rfl |6,_=>rfl |7,_=>rfl))
theorem vZ(c:Cf){Z:Prop}(z:Z):(RF c.r.length (RR c.r.length 1 (fun i j=>aI (c.r.getD i 0)) (RF c.e (RF true Z)))):=⟨rfl,fun _ _ _ _=>rfl,rfl,rfl,z⟩
theorem uD(c:Cf){Z:Prop}(z:Z):(RF c.s.r0 (RF c.s.r1 (RF c.s.r2 (RF c.s.r3 (RF c.s.m.length (RR c.s.m.length 1 (fun i j=>aI (List.getD c.s.m i 0)) (RF c.s.st.length (RR c.s.st.length 1 (fun i j=>aI (List.getD c.s.st i 0)) (RF c.s.pc Z))))))))):=⟨rfl,rfl,rfl,rfl,rfl,fun _ _ _ _=>rfl,rfl,fun _ _ _ _=>rfl,rfl,z⟩
theorem uC(p:Pg)(c:Cf)(k:Nat)(b:Int){Z:Prop}(z:Z):(RF ((enX p c k).b.reg) (RF ((enX p c k).b.n) (RF ((enX p c k).nm) (RF ((enX p c k).tg) Z)))):=⟨rfl,rfl,rfl,rfl,z⟩
theorem uB(p:Pg)(c:Cf)(k:Nat)(a:Int)(d:Int){Z:Prop}(z:Z):(RF c.r.length (RR c.r.length 1 (fun i j=>aI (c.r.getD i 0)) (RF c.e (RF (k:Int) (RF ((enX p c k).kind) (RF ((enX p c k).op) (RF ((enX p c k).d) (RF ((enX p c k).a.reg) (RF ((enX p c k).a.n) Z))))))))):=⟨rfl,fun _ _ _ _=>rfl,rfl,rfl,rfl,rfl,rfl,rfl,rfl,z⟩
theorem uA(c:Cf){Z:Prop}(z:Z):(RR c.s.m.length 1 (fun i j=>aI (List.getD c.s.m i 0)) (RF c.s.st.length (RR c.s.st.length 1 (fun i j=>aI (List.getD c.s.st i 0)) (RF c.s.pc Z)))):=⟨fun _ _ _ _=>rfl,rfl,fun _ _ _ _=>rfl,rfl,z⟩
theorem uz(p:Pg)(c:Cf)(k:Nat)(b:Int){Z:Prop}(z:Z):(RF p.ls.length (RR p.ls.length 2 (fun i j=>ao lbC p.ls i j) (RF p.is.length (RR p.is.length 9 (fun i j=>ao inC p.is i j) (RF ((c.b.getD k default).pc) Z))))):=⟨rfl,fun _ _ _ _=>rfl,rfl,fun _ _ _ _=>rfl,rfl,z⟩
abbrev u0(p:Pg)(c:Cf)(k:Nat)(a:Int)(b:Int)(d:Int)(ab:Bool)(so:Bool):Prop:=PureC Tryz.prog 38 [.agg (pgA p),.agg (cfA (upE c k En.done)),.int .i64 k,.agg (inA (enX p c k))] (.tup [.int .i64 a,.int .i64 b,.int .i64 d,.bool ab,.bool so]) []
abbrev u5(p:Pg)(c:Cf)(k:Nat):Prop:=PureC Tryz.prog 36 [.agg (pgA p),.agg (cfA c),.int .i64 k] (.bool true) []
abbrev vf(p:Pg)(c:Cf)(k:Nat)(a:Int)(b:Int)(d:Int)(ab:Bool)(so:Bool):Orc:= .cp [.agg (pgA p),.agg (cfA (upE c k En.done)), aI k,.agg (inA (enX p c k))] (.tup [aI a, aI b, aI d,.bool ab,.bool so])
abbrev vg(p:Pg)(c:Cf)(k:Nat):Orc:= .cl [.agg (pgA p), aI (c.b.getD k default).pc] (.agg (inA (enX p c k))) []
abbrev vh(p:Pg)(c:Cf)(k:Nat):Orc:= .cl [.agg (pgA p),.agg (cfA c), aI k] (.bool true) []
theorem PB(p:Pg)(c:Cf)(k:Nat)(hk:k<c.b.length)(hb:c.b.length<900000)(a b d:Int)(ab so:Bool)(hC:u5 p c k)(hT:u0 p c k a b d ab so)(k1:(enX p c k).kind=1):Vc (vF_ 13 [.agg (pgA p),.agg (cfA c), aI k] [.fv,vh p c k,vg p c k,vf p c k a b d ab so,.bd true,.cl [aI p.W, aI (enX p c k).op, aI a, aI b] (.tup [aI (Wd.doV p.W (enX p c k).op a b),.bool (Wd.doB p.W (enX p c k).op)]) []] [] (.tup [.agg (cfA (upE c k fun e=>e.done.vl (Wd.doV p.W (enX p c k).op a b))),.nils,.bool true]) []):=aj (gm p (kP p c (si c (cj (rf (k:Int)) (cj hC (cj (ap 0 c.b.length 48) (cj (bi k (↑((0:Nat)+c.b.length):Int)) (cj (lz k c.b.length) (cj (lz k c.b.length) (gm p (uz p c k b (cj (bL p (c.b.getD k default).pc) (gm p (kP p c (uA c (cj (pv ((0:Nat)+c.b.length=(List.set c.b k (En.done (c.b.getD k default))).length)) (cj (uR c k hk) (uB p c k a d (uC p c k b (cj hT (cj (ay.2 k1) (cj (rf p.W) (cj (rf ((enX p c k).op)) (cj (rf a) (cj (rf b) (cj (Fv p.W (enX p c k).op a b) (cj (lz k c.b.length) (uD c (cj (pv ((0:Nat)+c.b.length=(List.set c.b k (En.vl (Wd.doV p.W (enX p c k).op a b) (En.done (c.b.getD k default)))).length)) (cj (show ∀(i:Nat),i<0+c.b.length-> ∀(j:Nat),j<8->(bif Nat.ble (1:Nat) j&&Nat.blt j (2:Nat)&&Nat.beq (i+0) (k+0) then List.getD [aI (Wd.doV p.W (enX p c k).op a b)] (j-1) AV.junk else bif Nat.ble (5:Nat) j&&Nat.blt j (6:Nat)&&Nat.beq (i+0) (k+0) then List.getD [AV.bool true] (j-5) AV.junk else bif Nat.blt (i+0) (0:Nat) then AV.junk else ao enC c.b (i+0-0) j)=ao enC (List.set c.b k (En.vl (Wd.doV p.W (enX p c k).op a b) (En.done (c.b.getD k default)))) i j from(fun i hi j hj=>by cases hq:Nat.beq (i+0) (k+0) with |true=>obtain rfl:=kJ hq;rw[dz hk];exact(match j,hj with |0,_=>rfl |1,_=>rfl |2,_=>rfl |3,_=>rfl |4,_=>rfl |5,_=>rfl |6,_=>rfl |7,_=>rfl)|false=>rw[fM hq];exact(match j,hj with |0,_=>rfl |1,_=>rfl |2,_=>rfl |3,_=>rfl |4,_=>rfl |5,_=>rfl |6,_=>rfl |7,_=>rfl))) (vZ c trivial)))))))))))))))))))))))))))))))
theorem MO(p:Pg)(c:Cf)(k:Nat)(hk:k<c.b.length)(hb:c.b.length<900000)(a b d:Int)(ab so:Bool)(hC:u5 p c k)(hT:u0 p c k a b d ab so)(ha: ¬a=0)(k1: ¬(enX p c k).kind=1)(k4:(enX p c k).kind=4):Vc (vF_ 13 [.agg (pgA p),.agg (cfA c), aI k] [.fv,vh p c k,vg p c k,vf p c k a b d ab so,.bd false,.bd true,.bd true] [] (.tup [.agg (cfA (upE c k fun e=>e.done.vl b)),.nils,.bool true]) []):=aj (gm p (kP p c (si c (cj (rf (k:Int)) (cj hC (cj (ap 0 c.b.length 48) (cj (bi k (↑((0:Nat)+c.b.length):Int)) (cj (lz k c.b.length) (cj (lz k c.b.length) (gm p (uz p c k b (cj (bL p (c.b.getD k default).pc) (gm p (kP p c (uA c (cj (pv ((0:Nat)+c.b.length=(List.set c.b k (En.done (c.b.getD k default))).length)) (cj (uR c k hk) (uB p c k a d (uC p c k b (cj hT (cj (ae.2 k1) (cj (ay.2 k4) (cj (lz k c.b.length) (cj (n1 a 0) (cj (lz k c.b.length) (uD c (cj (pv ((0:Nat)+c.b.length=(List.set c.b k (En.vl b (En.done (c.b.getD k default)))).length)) (cj (show ∀(i:Nat),i<0+c.b.length-> ∀(j:Nat),j<8->(bif Nat.ble (1:Nat) j&&Nat.blt j (2:Nat)&&Nat.beq (i+0) (k+0) then List.getD [aI b] (j-1) AV.junk else bif Nat.ble (1:Nat) j&&Nat.blt j (2:Nat)&&Nat.beq (i+0) (k+0) then List.getD [aI d] (j-1) AV.junk else bif Nat.ble (5:Nat) j&&Nat.blt j (6:Nat)&&Nat.beq (i+0) (k+0) then List.getD [AV.bool true] (j-5) AV.junk else bif Nat.blt (i+0) (0:Nat) then AV.junk else ao enC c.b (i+0-0) j)=ao enC (List.set c.b k (En.vl b (En.done (c.b.getD k default)))) i j from(fun i hi j hj=>by cases hq:Nat.beq (i+0) (k+0) with |true=>obtain rfl:=kJ hq;rw[dz hk];exact(match j,hj with |0,_=>rfl |1,_=>rfl |2,_=>rfl |3,_=>rfl |4,_=>rfl |5,_=>rfl |6,_=>rfl |7,_=>rfl)|false=>rw[fM hq];exact(match j,hj with |0,_=>rfl |1,_=>rfl |2,_=>rfl |3,_=>rfl |4,_=>rfl |5,_=>rfl |6,_=>rfl |7,_=>rfl))) (vZ c trivial)))))))))))))))))))))))))))))
theorem JZ(c:Cf)(k:Nat)(hk:k<c.b.length)(d:Int): ∀(i:Nat),i<0+c.b.length-> ∀(j:Nat),j<8->(bif Nat.ble (1:Nat) j&&Nat.blt j (2:Nat)&&Nat.beq (i+0) (k+0) then List.getD [aI d] (j-1) AV.junk else bif Nat.ble (5:Nat) j&&Nat.blt j (6:Nat)&&Nat.beq (i+0) (k+0) then List.getD [AV.bool true] (j-5) AV.junk else bif Nat.blt (i+0) (0:Nat) then AV.junk else ao enC c.b (i+0-0) j)=ao enC (List.set c.b k (En.vl d (En.done (c.b.getD k default)))) i j:=(fun i hi j hj=>by cases hq:Nat.beq (i+0) (k+0) with |true=>obtain rfl:=kJ hq;rw[dz hk];exact(match j,hj with |0,_=>rfl |1,_=>rfl |2,_=>rfl |3,_=>rfl |4,_=>rfl |5,_=>rfl |6,_=>rfl |7,_=>rfl)|false=>rw[fM hq];exact(match j,hj with |0,_=>rfl |1,_=>rfl |2,_=>rfl |3,_=>rfl |4,_=>rfl |5,_=>rfl |6,_=>rfl |7,_=>rfl))
theorem MP(p:Pg)(c:Cf)(k:Nat)(hk:k<c.b.length)(hb:c.b.length<900000)(a b d:Int)(ab so:Bool)(hC:u5 p c k)(hT:u0 p c k a b d ab so)(ha:a=0)(k1: ¬(enX p c k).kind=1)(k4:(enX p c k).kind=4):Vc (vF_ 13 [.agg (pgA p),.agg (cfA c), aI k] [.fv,vh p c k,vg p c k,vf p c k a b d ab so,.bd false,.bd true,.bd false] [] (.tup [.agg (cfA (upE c k fun e=>e.done.vl d)),.nils,.bool true]) []):=aj (gm p (kP p c (si c (cj (rf (k:Int)) (cj hC (cj (ap 0 c.b.length 48) (cj (bi k (↑((0:Nat)+c.b.length):Int)) (cj (lz k c.b.length) (cj (lz k c.b.length) (gm p (uz p c k b (cj (bL p (c.b.getD k default).pc) (gm p (kP p c (uA c (cj (pv ((0:Nat)+c.b.length=(List.set c.b k (En.done (c.b.getD k default))).length)) (cj (uR c k hk) (uB p c k a d (uC p c k b (cj hT (cj (ae.2 k1) (cj (ay.2 k4) (cj (lz k c.b.length) (cj (n0 a 0) (uD c (cj (pv ((0:Nat)+c.b.length=(List.set c.b k (En.vl d (En.done (c.b.getD k default)))).length)) (cj (JZ c k hk d) (vZ c trivial))))))))))))))))))))))))))))
theorem PA(p:Pg)(c:Cf)(k:Nat)(hk:k<c.b.length)(hb:c.b.length<900000)(a b d:Int)(ab so:Bool)(hC:u5 p c k)(hT:u0 p c k a b d ab so)(k1: ¬(enX p c k).kind=1)(k4: ¬(enX p c k).kind=4)(k3:(enX p c k).kind=3):Vc (vF_ 13 [.agg (pgA p),.agg (cfA c), aI k] [.fv,vh p c k,vg p c k,vf p c k a b d ab so,.bd false,.bd false,.bd true] [] (.tup [.agg (cfA (upE c k fun e=>e.done.vl d)),.nils,.bool true]) []):=aj (gm p (kP p c (si c (cj (rf (k:Int)) (cj hC (cj (ap 0 c.b.length 48) (cj (bi k (↑((0:Nat)+c.b.length):Int)) (cj (lz k c.b.length) (cj (lz k c.b.length) (gm p (uz p c k b (cj (bL p (c.b.getD k default).pc) (gm p (kP p c (uA c (cj (pv ((0:Nat)+c.b.length=(List.set c.b k (En.done (c.b.getD k default))).length)) (cj (uR c k hk) (uB p c k a d (uC p c k b (cj hT (cj (ae.2 k1) (cj (ae.2 k4) (cj (ay.2 k3) (cj (lz k c.b.length) (uD c (cj (pv ((0:Nat)+c.b.length=(List.set c.b k (En.vl d (En.done (c.b.getD k default)))).length)) (cj (JZ c k hk d) (vZ c trivial))))))))))))))))))))))))))))
theorem ES(p:Pg)(c:Cf)(k:Nat)(a:Int)(b:Int):Option.some (bif Nat.ble (6:Nat) (2:Nat)&&Nat.blt (2:Nat) (7:Nat)&&Nat.beq (k+0) (k+0) then AV.bool true else bif Nat.ble (2:Nat) (2:Nat)&&Nat.blt (2:Nat) (3:Nat)&&Nat.beq (k+0) (k+0) then aI (Wd.maskV p.W (a+b)) else aI (c.b.getD (k+0-0) default).adr)=Option.some (aI (Wd.maskV p.W (a+b))):=by rw[dc];rfl
theorem MQ(p:Pg)(c:Cf)(k:Nat)(hk:k<c.b.length)(hb:c.b.length<900000)(a b d:Int)(ab so:Bool)(hC:u5 p c k)(hT:u0 p c k a b d ab so)(hab: -1000000<=a+b∧a+b<=1000000)(hm:c.s.m.length<1000000)(ho:(c.s.m.length:Int)<=(Wd.maskV p.W (a+b)))(k1: ¬(enX p c k).kind=1)(k4: ¬(enX p c k).kind=4)(k3: ¬(enX p c k).kind=3)(k2:(enX p c k).kind=2):Vc (vF_ 13 [.agg (pgA p),.agg (cfA c), aI k] [.fv,vh p c k,vg p c k,vf p c k a b d ab so,.bd false,.bd false,.bd false,.bd true,.cl [aI p.W, aI (a+b)] (aI (Wd.maskV p.W (a+b))) [],.lv (aI (Wd.maskV p.W (a+b))),.bd true] [] (.tup [.agg (cfA (upE c k fun e=>(e.done.ad (Wd.maskV p.W (a+b))).flt)),.nils,.bool true]) []):=aj (gm p (kP p c (si c (cj (rf (k:Int)) (cj hC (cj (ap 0 c.b.length 48) (cj (bi k (↑((0:Nat)+c.b.length):Int)) (cj (lz k c.b.length) (cj (lz k c.b.length) (gm p (uz p c k b (cj (bL p (c.b.getD k default).pc) (gm p (kP p c (uA c (cj (pv ((0:Nat)+c.b.length=(List.set c.b k (En.done (c.b.getD k default))).length)) (cj (uR c k hk) (uB p c k a d (uC p c k b (cj hT (cj (ae.2 k1) (cj (ae.2 k4) (cj (ae.2 k3) (cj (ay.2 k2) (cj (i6 (a+b)) (cj (rf p.W) (cj (rf (a+b)) (cj (bI p.W (a+b)) (cj (lz k c.b.length) (cj (lz k c.b.length) (cj (ES p c k a b) (cj (lz k c.b.length) (cj (dt (Wd.maskV p.W (a+b)>=(↑(c.s.m.length):Int))) (cj (lz k c.b.length) (uD c (cj (pv ((0:Nat)+c.b.length=(List.set c.b k (En.flt (En.ad (Wd.maskV p.W (a+b)) (En.done (c.b.getD k default))))).length)) (cj (show ∀(i:Nat),i<0+c.b.length-> ∀(j:Nat),j<8->(bif Nat.ble (7:Nat) j&&Nat.blt j (8:Nat)&&Nat.beq (i+0) (k+0) then List.getD [AV.bool true] (j-7) AV.junk else bif Nat.ble (6:Nat) j&&Nat.blt j (7:Nat)&&Nat.beq (i+0) (k+0) then List.getD [AV.bool true] (j-6) AV.junk else bif Nat.ble (2:Nat) j&&Nat.blt j (3:Nat)&&Nat.beq (i+0) (k+0) then List.getD [aI (Wd.maskV p.W (a+b))] (j-2) AV.junk else bif Nat.ble (5:Nat) j&&Nat.blt j (6:Nat)&&Nat.beq (i+0) (k+0) then List.getD [AV.bool true] (j-5) AV.junk else bif Nat.blt (i+0) (0:Nat) then AV.junk else ao enC c.b (i+0-0) j)=ao enC (List.set c.b k (En.flt (En.ad (Wd.maskV p.W (a+b)) (En.done (c.b.getD k default))))) i j from(fun i hi j hj=>by cases hq:Nat.beq (i+0) (k+0) with |true=>obtain rfl:=kJ hq;rw[dz hk];exact(match j,hj with |0,_=>rfl |1,_=>rfl |2,_=>rfl |3,_=>rfl |4,_=>rfl |5,_=>rfl |6,_=>rfl |7,_=>rfl)|false=>rw[fM hq];exact(match j,hj with |0,_=>rfl |1,_=>rfl |2,_=>rfl |3,_=>rfl |4,_=>rfl |5,_=>rfl |6,_=>rfl |7,_=>rfl))) (vZ c trivial))))))))))))))))))))))))))))))))))))))
theorem MR(p:Pg)(c:Cf)(k:Nat)(hk:k<c.b.length)(hb:c.b.length<900000)(a b d:Int)(ab so:Bool)(hC:u5 p c k)(hT:u0 p c k a b d ab so)(hab: -1000000<=a+b∧a+b<=1000000)(hm:c.s.m.length<1000000)(ho: ¬(c.s.m.length:Int)<=(Wd.maskV p.W (a+b)))(k1: ¬(enX p c k).kind=1)(k4: ¬(enX p c k).kind=4)(k3: ¬(enX p c k).kind=3)(k2:(enX p c k).kind=2):Vc (vF_ 13 [.agg (pgA p),.agg (cfA c), aI k] [.fv,vh p c k,vg p c k,vf p c k a b d ab so,.bd false,.bd false,.bd false,.bd true,.cl [aI p.W, aI (a+b)] (aI (Wd.maskV p.W (a+b))) [],.lv (aI (Wd.maskV p.W (a+b))),.bd false,.lv (.agg (pgA p)),.lv (lR c.s.m),.lv (.own 2 1 8 0 (0+c.b.length)),.lv (aI (Wd.maskV p.W (a+b))),.cp [.agg (pgA p),lR c.s.m,enR (c.b.set k ((c.b.getD k default).done.ad (Wd.maskV p.W (a+b)))), aI k, aI (Wd.maskV p.W (a+b))] (.tup [aI (ldV p c.s.m (c.b.set k ((c.b.getD k default).done.ad (Wd.maskV p.W (a+b)))) k (Wd.maskV p.W (a+b))).1, aI (ldV p c.s.m (c.b.set k ((c.b.getD k default).done.ad (Wd.maskV p.W (a+b)))) k (Wd.maskV p.W (a+b))).2.1,.bool (ldV p c.s.m (c.b.set k ((c.b.getD k default).done.ad (Wd.maskV p.W (a+b)))) k (Wd.maskV p.W (a+b))).2.2]),.lv (.agg (cfO c (.own 2 1 8 0 (0+c.b.length)))),.lv (aI (Wd.maskV p.W (a+b)))] [] (.tup [.agg (cfA (upE c k fun e=>(e.done.ad (Wd.maskV p.W (a+b))).ld (ldV p c.s.m (c.b.set k ((c.b.getD k default).done.ad (Wd.maskV p.W (a+b)))) k (Wd.maskV p.W (a+b))).1 (ldV p c.s.m (c.b.set k ((c.b.getD k default).done.ad (Wd.maskV p.W (a+b)))) k (Wd.maskV p.W (a+b))).2.1)),(obR [⟨1,(Wd.maskV p.W (a+b))⟩]),.bool true]) []):=aj (gm p (kP p c (si c (cj (rf (k:Int)) (cj hC (cj (ap 0 c.b.length 48) (cj (bi k (↑((0:Nat)+c.b.length):Int)) (cj (lz k c.b.length) (cj (lz k c.b.length) (gm p (uz p c k b (cj (bL p (c.b.getD k default).pc) (gm p (kP p c (uA c (cj (pv ((0:Nat)+c.b.length=(List.set c.b k (En.done (c.b.getD k default))).length)) (cj (uR c k hk) (uB p c k a d (uC p c k b (cj hT (cj (ae.2 k1) (cj (ae.2 k4) (cj (ae.2 k3) (cj (ay.2 k2) (cj (i6 (a+b)) (cj (rf p.W) (cj (rf (a+b)) (cj (bI p.W (a+b)) (cj (lz k c.b.length) (cj (lz k c.b.length) (cj (ES p c k a b) (cj (lz k c.b.length) (cj (df (Wd.maskV p.W (a+b)>=(↑(c.s.m.length):Int))) (cj (rf (Option.some (AV.agg [aI p.W,aI p.win,aI p.fuel,aI p.r0,aI p.r1,aI p.r2,aI p.r3,AV.row (nat_lit 3) p.ms.length fun(a a_1:Nat)=>ao mmC p.ms a a_1,AV.row (nat_lit 2) p.ls.length fun(a a_1:Nat)=>ao lbC p.ls a a_1,AV.row (nat_lit 9) p.is.length fun(a a_1:Nat)=>ao inC p.is a a_1]))) (cj (rf (Option.some (AV.row (nat_lit 1) c.s.m.length fun(a a_1:Nat)=>aI (List.getD c.s.m a (0:Int))))) (cj (rf (Option.some (AV.own (2:Nat) (1:Nat) (8:Nat) (0:Nat) ((0:Nat)+c.b.length)))) (cj (ES p c k a b) (cj (lz k c.b.length) (gm p (cj (rf p.ls.length) (cj (rr p.ls.length 2 fun i j=>ao lbC p.ls i j) (cj (rf p.is.length) (cj (rr p.is.length 9 fun i j=>ao inC p.is i j) (cj (rf c.s.m.length) (cj (rr c.s.m.length 1 fun i j=>aI (List.getD c.s.m i 0)) (cj (pv ((0:Nat)+c.b.length=(List.set c.b k (En.ad (Wd.maskV p.W (a+b)) (En.done (c.b.getD k default)))).length)) (cj (show ∀(i:Nat),i<0+c.b.length-> ∀(j:Nat),j<8->(bif Nat.ble (6:Nat) j&&Nat.blt j (7:Nat)&&Nat.beq (i+0) (k+0) then List.getD [AV.bool true] (j-6) AV.junk else bif Nat.ble (2:Nat) j&&Nat.blt j (3:Nat)&&Nat.beq (i+0) (k+0) then List.getD [aI (Wd.maskV p.W (a+b))] (j-2) AV.junk else bif Nat.ble (5:Nat) j&&Nat.blt j (6:Nat)&&Nat.beq (i+0) (k+0) then List.getD [AV.bool true] (j-5) AV.junk else bif Nat.blt (i+0) (0:Nat) then AV.junk else ao enC c.b (i+0-0) j)=ao enC (List.set c.b k (En.ad (Wd.maskV p.W (a+b)) (En.done (c.b.getD k default)))) i j from(fun i hi j hj=>by cases hq:Nat.beq (i+0) (k+0) with |true=>obtain rfl:=kJ hq;rw[dz hk];exact(match j,hj with |0,_=>rfl |1,_=>rfl |2,_=>rfl |3,_=>rfl |4,_=>rfl |5,_=>rfl |6,_=>rfl |7,_=>rfl)|false=>rw[fM hq];exact(match j,hj with |0,_=>rfl |1,_=>rfl |2,_=>rfl |3,_=>rfl |4,_=>rfl |5,_=>rfl |6,_=>rfl |7,_=>rfl))) (cj (rf (k:Int)) (cj (rf (Wd.maskV p.W (a+b))) (cj (AP p c.s.m (c.b.set k ((c.b.getD k default).done.ad (Wd.maskV p.W (a+b)))) k (Wd.maskV p.W (a+b)) (by rw[az];omega)) (cj (lz k c.b.length) (cj (lz k c.b.length) (cj (rf (Option.some (AV.agg [aI c.s.r0,aI c.s.r1,aI c.s.r2,aI c.s.r3,AV.row (nat_lit 1) c.s.m.length fun(a a_1:Nat)=>aI (List.getD c.s.m a (0:Int)),AV.row (nat_lit 1) c.s.st.length fun(a a_1:Nat)=>aI (List.getD c.s.st a (0:Int)),aI c.s.pc,AV.own (nat_lit 2) (nat_lit 1) (nat_lit 8) (nat_lit 0) ((0:Nat)+c.b.length),AV.row (nat_lit 1) c.r.length fun(a a_1:Nat)=>aI (c.r.getD a 0),aI c.e]))) (cj (show Option.some (bif Nat.ble (3:Nat) (2:Nat)&&Nat.blt (2:Nat) (4:Nat)&&Nat.beq (k+0) (k+0) then aI (Prod.fst (Prod.snd (ldV p c.s.m (List.set c.b k (En.ad (Wd.maskV p.W (a+b)) (En.done (c.b.getD k default)))) k (Wd.maskV p.W (a+b))))) else bif Nat.ble (1:Nat) (2:Nat)&&Nat.blt (2:Nat) (2:Nat)&&Nat.beq (k+0) (k+0) then AV.junk else bif Nat.ble (6:Nat) (2:Nat)&&Nat.blt (2:Nat) (7:Nat)&&Nat.beq (k+0) (k+0) then AV.bool true else bif Nat.ble (2:Nat) (2:Nat)&&Nat.blt (2:Nat) (3:Nat)&&Nat.beq (k+0) (k+0) then aI (Wd.maskV p.W (a+b)) else aI (c.b.getD (k+0-0) default).adr)=Option.some (aI (Wd.maskV p.W (a+b))) from by rw[dc];rfl) (cj (lz k c.b.length) (uD c (cj (pv ((0:Nat)+c.b.length=(List.set c.b k (En.ld (Prod.fst (ldV p c.s.m (List.set c.b k (En.ad (Wd.maskV p.W (a+b)) (En.done (c.b.getD k default)))) (k:Int) (Wd.maskV p.W (a+b)))) (Prod.fst (Prod.snd (ldV p c.s.m (List.set c.b k (En.ad (Wd.maskV p.W (a+b)) (En.done (c.b.getD k default)))) k (Wd.maskV p.W (a+b))))) (En.ad (Wd.maskV p.W (a+b)) (En.done (c.b.getD k default))))).length)) (cj (show ∀(i:Nat),i<0+c.b.length-> ∀(j:Nat),j<8->(bif Nat.ble (3:Nat) j&&Nat.blt j (4:Nat)&&Nat.beq (i+0) (k+0) then List.getD [aI (Prod.fst (Prod.snd (ldV p c.s.m (List.set c.b k (En.ad (Wd.maskV p.W (a+b)) (En.done (c.b.getD k default)))) k (Wd.maskV p.W (a+b)))))] (j-3) AV.junk else bif Nat.ble (1:Nat) j&&Nat.blt j (2:Nat)&&Nat.beq (i+0) (k+0) then List.getD [aI (Prod.fst (ldV p c.s.m (List.set c.b k (En.ad (Wd.maskV p.W (a+b)) (En.done (c.b.getD k default)))) k (Wd.maskV p.W (a+b))))] (j-1) AV.junk else bif Nat.ble (6:Nat) j&&Nat.blt j (7:Nat)&&Nat.beq (i+0) (k+0) then List.getD [AV.bool true] (j-6) AV.junk else bif Nat.ble (2:Nat) j&&Nat.blt j (3:Nat)&&Nat.beq (i+0) (k+0) then List.getD [aI (Wd.maskV p.W (a+b))] (j-2) AV.junk else bif Nat.ble (5:Nat) j&&Nat.blt j (6:Nat)&&Nat.beq (i+0) (k+0) then List.getD [AV.bool true] (j-5) AV.junk else bif Nat.blt (i+0) (0:Nat) then AV.junk else ao enC c.b (i+0-0) j)=ao enC (List.set c.b k (En.ld (Prod.fst (ldV p c.s.m (List.set c.b k (En.ad (Wd.maskV p.W (a+b)) (En.done (c.b.getD k default)))) (k:Int) (Wd.maskV p.W (a+b)))) (Prod.fst (Prod.snd (ldV p c.s.m (List.set c.b k (En.ad (Wd.maskV p.W (a+b)) (En.done (c.b.getD k default)))) (k:Int) (Wd.maskV p.W (a+b))))) (En.ad (Wd.maskV p.W (a+b)) (En.done (c.b.getD k default))))) i j from(fun i hi j hj=>by cases hq:Nat.beq (i+0) (k+0) with |true=>obtain rfl:=kJ hq;rw[dz hk];exact(match j,hj with |0,_=>rfl |1,_=>rfl |2,_=>rfl |3,_=>rfl |4,_=>rfl |5,_=>rfl |6,_=>rfl |7,_=>rfl)|false=>rw[fM hq];exact(match j,hj with |0,_=>rfl |1,_=>rfl |2,_=>rfl |3,_=>rfl |4,_=>rfl |5,_=>rfl |6,_=>rfl |7,_=>rfl))) (cj (rf c.r.length) (cj (rr c.r.length 1 fun i j=>aI (c.r.getD i 0)) (cj (rf c.e) (cj (rf (1:Nat)) (cj (show ∀(i:Nat),i<1-> ∀(j:Nat),j<2->List.getD [aI 1,aI (Wd.maskV p.W (a+b))] ((i+0)*2+j) AV.junk=ao obC [Ob.mk (1:Int) (Wd.maskV p.W (a+b))] i j from(fun i hi j hj=>match i,hi,j,hj with |0,_,0,_=>rfl |0,_,1,_=>rfl)) (cj (rf true) trivial))))))))))))))))))))))))))))))))))))))))))))))))))))))))))))))))
def goV(c:Cf)(k:Nat)(t:Int):Cf:=if(c.b.getD k default).nxt=t then c else⟨c.s.go t,(c.b.set k ((c.b.getD k default).to t)).take (k+1),c.r,c.e⟩
theorem tN{b:List En}{n i:Nat}(h:i<n)(j:Nat):ao enC (b.take n) i j=ao enC b i j:=by
 unfold ao;rw[au,aZ,aq h,au]
theorem C7(t:Int): ∀(i:Nat),i<1-> ∀(j:Nat),j<2->List.getD [aI 3,aI t] ((i+0)*2+j) AV.junk=ao obC [Ob.mk (3:Int) t] i j:=(fun i hi j hj=>match i,hi,j,hj with |0,_,0,_=>rfl |0,_,1,_=>rfl)
theorem CB(c:Cf){Z:Prop}(z:Z):(RF c.r.length (RR c.r.length 1 (fun i j=>aI (c.r.getD i 0)) (RF c.e (RF (1:Nat) Z)))):=⟨rfl,fun _ _ _ _=>rfl,rfl,rfl,z⟩
theorem CA(c:Cf){Z:Prop}(z:Z):(RF c.s.r0 (RF c.s.r1 (RF c.s.r2 (RF c.s.r3 (RF c.s.m.length (RR c.s.m.length 1 (fun i j=>aI (List.getD c.s.m i 0)) (RF c.s.st.length (RR c.s.st.length 1 (fun i j=>aI (List.getD c.s.st i 0)) Z)))))))):=⟨rfl,rfl,rfl,rfl,rfl,fun _ _ _ _=>rfl,rfl,fun _ _ _ _=>rfl,z⟩
theorem OY(c:Cf)(k:Nat)(t:Int)(hk:k<c.b.length)(hb:c.b.length<1000000)(hn:(c.b.getD k default).nxt=t):Vc (tF Tryz.prog false 42 [.agg (cfO c (enO c.b)), aI k, aI t] [enB c.b] [.bd false] [] (.tup [.agg (cfA c),(obR [⟨3,t⟩])]) []):=aj (cj (bi k c.b.length) (cj (pv (k+0<c.b.length)) (cj (ax.2 hn) (CA c (cj (rf c.s.pc) (cj (rf c.b.length) (cj (rr c.b.length 8 fun i j=>ao enC c.b i j) (CB c (cj (C7 t) trivial)))))))))
theorem O1(c:Cf)(k:Nat)(t:Int)(hk:k<c.b.length)(hb:c.b.length<1000000)(hn: ¬(c.b.getD k default).nxt=t):Vc (tF Tryz.prog false 42 [.agg (cfO c (enO c.b)), aI k, aI t] [enB c.b] [.bd true] [] (.tup [.agg (cfA ⟨c.s.go t,(c.b.set k ((c.b.getD k default).to t)).take (k+1),c.r,c.e⟩),(obR [⟨3,t⟩])]) []):=aj (cj (bi k c.b.length) (cj (pv (k+0<c.b.length)) (cj (cN.2 hn) (cj (bi k c.b.length) (cj (pv (k+0<c.b.length)) (cj (i6 (k+1)) (cj (pv ((0:Int)<=k+1∧(k:Int)+1<=c.b.length)) (CA c (cj (rf t) (cj (show k+nat_lit 1=(List.take (k+1) (List.set c.b k (En.to t (c.b.getD k default)))).length from by rw[aM,az];exact(iX hk).symm) (cj (show ∀(i:Nat),i<k+nat_lit 1-> ∀(j:Nat),j<8->(bif Nat.ble (4:Nat) j&&Nat.blt j (5:Nat)&&Nat.beq (i+0) (k+0) then List.getD [aI t] (j-4) AV.junk else ao enC c.b (i+0) j)=ao enC (List.take (k+1) (List.set c.b k (En.to t (c.b.getD k default)))) i j from(fun i hi j hj=>by rw[tN (show i<k+1 from hi)];cases hq:Nat.beq (i+0) (k+0) with |true=>obtain rfl:=kJ hq;rw[dz hk];exact(match j,hj with |0,_=>rfl |1,_=>rfl |2,_=>rfl |3,_=>rfl |4,_=>rfl |5,_=>rfl |6,_=>rfl |7,_=>rfl)|false=>rw[fM hq];exact(match j,hj with |0,_=>rfl |1,_=>rfl |2,_=>rfl |3,_=>rfl |4,_=>rfl |5,_=>rfl |6,_=>rfl |7,_=>rfl))) (CB c (cj (C7 t) trivial)))))))))))))
theorem uq(c:Cf)(k:Nat)(t:Int)(hk:k<c.b.length)(hb:c.b.length<1000000):MutC Tryz.prog 42 [.agg (cfO c (enO c.b)),.int .i64 k,.int .i64 t] [enB c.b] (.tup [.agg (cfA (goV c k t)),(obR [⟨3,t⟩])]) []:=by
 unfold goV
 by_cases hn:(c.b.getD k default).nxt=t
 ·rw[aq hn];exact MutC.vc (OY c k t hk hb hn)
 ·rw[an hn];exact MutC.vc (O1 c k t hk hb hn)
theorem kh(c:Cf)(k:Nat)(hk:k<c.b.length): ∀(i:Nat),i<0+c.b.length-> ∀(j:Nat),j<8->(bif Nat.ble (5:Nat) j&&Nat.blt j (6:Nat)&&Nat.beq (i+0) (k+0) then List.getD [AV.bool true] (j-5) AV.junk else bif Nat.blt (i+0) (0:Nat) then AV.junk else ao enC c.b (i+0-0) j)=ao enC (List.set c.b k (En.done (c.b.getD k default))) i j:=(fun i hi j hj=>by cases hq:Nat.beq (i+0) (k+0) with |true=>obtain rfl:=kJ hq;rw[dz hk];exact(match j,hj with |0,_=>rfl |1,_=>rfl |2,_=>rfl |3,_=>rfl |4,_=>rfl |5,_=>rfl |6,_=>rfl |7,_=>rfl)|false=>rw[fM hq];exact(match j,hj with |0,_=>rfl |1,_=>rfl |2,_=>rfl |3,_=>rfl |4,_=>rfl |5,_=>rfl |6,_=>rfl |7,_=>rfl))
theorem tK(c:Cf)(k:Nat)(hk:k<c.b.length): ∀(i:Nat),i<0+c.b.length-> ∀(j:Nat),j<8->(bif Nat.ble (5:Nat) j&&Nat.blt j (6:Nat)&&Nat.beq i (k+0) then List.getD [AV.bool true] (j-5) AV.junk else bif Nat.blt i (0:Nat) then AV.junk else ao enC c.b (i-0) j)=ao enC (List.set c.b k (En.done (c.b.getD k default))) i j:=(fun i hi j hj=>by cases hq:Nat.beq i (k+0) with |true=>obtain rfl:=kJ (i:=i) hq;rw[dz hk];exact(match j,hj with |0,_=>rfl |1,_=>rfl |2,_=>rfl |3,_=>rfl |4,_=>rfl |5,_=>rfl |6,_=>rfl |7,_=>rfl)|false=>rw[fM (i:=i) hq];exact(match j,hj with |0,_=>rfl |1,_=>rfl |2,_=>rfl |3,_=>rfl |4,_=>rfl |5,_=>rfl |6,_=>rfl |7,_=>rfl))
theorem oL(c:Cf){Z:Prop}(z:Z):(RF c.s.r0 (RF c.s.r1 (RF c.s.r2 (RF c.s.r3 (RF c.s.m.length (RR c.s.m.length 1 (fun i j=>aI (List.getD c.s.m i 0)) (RF c.s.st.length (RR c.s.st.length 1 (fun i j=>aI (List.getD c.s.st i 0)) (RF c.s.pc Z))))))))):=⟨rfl,rfl,rfl,rfl,rfl,fun _ _ _ _=>rfl,rfl,fun _ _ _ _=>rfl,rfl,z⟩
theorem CC(p:Pg)(c:Cf)(k:Nat)(a:Int)(b:Int){Z:Prop}(z:Z):(RF p.W (RF ((enX p c k).op) (RF a (RF b Z)))):=⟨rfl,rfl,rfl,rfl,z⟩
theorem oK(p:Pg)(c:Cf)(k:Nat)(b:Int){Z:Prop}(z:Z):(RF ((enX p c k).b.reg) (RF ((enX p c k).b.n) (RF ((enX p c k).nm) (RF ((enX p c k).tg) Z)))):=⟨rfl,rfl,rfl,rfl,z⟩
theorem oH(p:Pg)(c:Cf)(k:Nat)(a:Int)(d:Int){Z:Prop}(z:Z):(RF c.r.length (RR c.r.length 1 (fun i j=>aI (c.r.getD i 0)) (RF c.e (RF (k:Int) (RF ((enX p c k).kind) (RF ((enX p c k).op) (RF ((enX p c k).d) (RF ((enX p c k).a.reg) (RF ((enX p c k).a.n) Z))))))))):=⟨rfl,fun _ _ _ _=>rfl,rfl,rfl,rfl,rfl,rfl,rfl,rfl,z⟩
theorem oF(c:Cf){Z:Prop}(z:Z):(RR c.s.m.length 1 (fun i j=>aI (List.getD c.s.m i 0)) (RF c.s.st.length (RR c.s.st.length 1 (fun i j=>aI (List.getD c.s.st i 0)) (RF c.s.pc Z)))):=⟨fun _ _ _ _=>rfl,rfl,fun _ _ _ _=>rfl,rfl,z⟩
theorem g8(p:Pg)(c:Cf){Z:Prop}(z:Z):(RF p.ls.length (RR p.ls.length 2 (fun i j=>ao lbC p.ls i j) (RF p.is.length (RR p.is.length 9 (fun i j=>ao inC p.is i j) (RF c.s.r0 (RF c.s.r1 (RF c.s.r2 (RF c.s.r3 (RF c.s.m.length Z))))))))):=⟨rfl,fun _ _ _ _=>rfl,rfl,fun _ _ _ _=>rfl,rfl,rfl,rfl,rfl,rfl,z⟩
theorem dT(p:Pg){Z:Prop}(z:Z):(RF p.W (RF p.win (RF p.fuel (RF p.r0 (RF p.r1 (RF p.r2 (RF p.r3 (RF p.ms.length (RR p.ms.length 3 (fun i j=>ao mmC p.ms i j) Z))))))))):=⟨rfl,rfl,rfl,rfl,rfl,rfl,rfl,rfl,fun _ _ _ _=>rfl,z⟩
theorem oE(p:Pg)(c:Cf)(k:Nat)(b:Int){Z:Prop}(z:Z):(RF p.ls.length (RR p.ls.length 2 (fun i j=>ao lbC p.ls i j) (RF p.is.length (RR p.is.length 9 (fun i j=>ao inC p.is i j) (RF ((c.b.getD k default).pc) Z))))):=⟨rfl,fun _ _ _ _=>rfl,rfl,fun _ _ _ _=>rfl,rfl,z⟩
theorem oD(c:Cf)(b:Int){Z:Prop}(z:Z):(RR c.s.m.length 1 (fun i j=>aI (List.getD c.s.m i 0)) (RF c.s.st.length (RR c.s.st.length 1 (fun i j=>aI (List.getD c.s.st i 0)) (RF c.s.pc (RF c.b.length (RR c.b.length 8 (fun i j=>ao enC c.b i j) (RF c.r.length (RR c.r.length 1 (fun i j=>aI (c.r.getD i 0)) (RF c.e Z))))))))):=⟨fun _ _ _ _=>rfl,rfl,fun _ _ _ _=>rfl,rfl,rfl,fun _ _ _ _=>rfl,rfl,fun _ _ _ _=>rfl,rfl,z⟩
abbrev oU(p:Pg)(c:Cf)(k:Nat)(a:Int)(b:Int)(d:Int)(ab:Bool)(so:Bool):Prop:=PureC Tryz.prog 38 [.agg (pgA p),.agg (cfA (upE c k En.done)),.int .i64 k,.agg (inA (enX p c k))] (.tup [.int .i64 a,.int .i64 b,.int .i64 d,.bool ab,.bool so]) []
abbrev oV(p:Pg)(c:Cf)(k:Nat):Prop:=PureC Tryz.prog 36 [.agg (pgA p),.agg (cfA c),.int .i64 k] (.bool true) []
abbrev Dt(p:Pg)(c:Cf)(k:Nat)(a:Int)(b:Int):Orc:= .cl [aI p.W, aI (enX p c k).op, aI a, aI b] (.tup [aI (Wd.doV p.W (enX p c k).op a b),.bool (Wd.doB p.W (enX p c k).op)]) []
abbrev o0(p:Pg)(c:Cf)(k:Nat)(a:Int)(b:Int)(d:Int)(ab:Bool)(so:Bool):Orc:= .cp [.agg (pgA p),.agg (cfA (upE c k En.done)), aI k,.agg (inA (enX p c k))] (.tup [aI a, aI b, aI d,.bool ab,.bool so])
abbrev o3(p:Pg)(c:Cf)(k:Nat):Orc:= .cl [.agg (pgA p), aI (c.b.getD k default).pc] (.agg (inA (enX p c k))) []
abbrev o4(p:Pg)(c:Cf)(k:Nat):Orc:= .cl [.agg (pgA p),.agg (cfA c), aI k] (.bool true) []
theorem MM(p:Pg)(c:Cf)(k:Nat)(hk:k<c.b.length)(hb:c.b.length<900000)(a b d:Int)(ab so:Bool)(hC:oV p c k)(hT:oU p c k a b d ab so)(hp: -1<=(c.b.getD k default).pc∧(c.b.getD k default).pc<=1000000)(hz:(Wd.doV p.W (enX p c k).op a b)≠0)(k1: ¬(enX p c k).kind=1)(k4: ¬(enX p c k).kind=4)(k3: ¬(enX p c k).kind=3)(k2: ¬(enX p c k).kind=2)(k5:(enX p c k).kind=5):Vc (vF_ 13 [.agg (pgA p),.agg (cfA c), aI k] [.fv,o4 p c k,o3 p c k,o0 p c k a b d ab so,.bd false,.bd false,.bd false,.bd false,.bd true,Dt p c k a b,.bd true,.cm [.agg (cfO (upE c k En.done) (enO (c.b.set k (c.b.getD k default).done))), aI k, aI (enX p c k).tg] [enB (c.b.set k (c.b.getD k default).done)] [(0,2)] (.tup [.agg (cfA (goV (upE c k En.done) k (enX p c k).tg)),(obR [⟨3,(enX p c k).tg⟩])]) []] [] (.tup [.agg (cfA (goV (upE c k En.done) k (enX p c k).tg)),(obR [⟨3,(enX p c k).tg⟩]),.bool true]) []):=aj (dT p (g8 p c (oD c b (cj (rf (k:Int)) (cj hC (cj (ap 0 c.b.length 48) (cj (bi k (↑((0:Nat)+c.b.length):Int)) (cj (lz k c.b.length) (cj (lz k c.b.length) (dT p (oE p c k b (cj (bL p (c.b.getD k default).pc) (dT p (g8 p c (oF c (cj (pv ((0:Nat)+c.b.length=(List.set c.b k (En.done (c.b.getD k default))).length)) (cj (kh c k hk) (oH p c k a d (oK p c k b (cj hT (cj (ae.2 k1) (cj (ae.2 k4) (cj (ae.2 k3) (cj (ae.2 k2) (cj (ay.2 k5) (cj (lz k c.b.length) (cj (show inK IntKind.i64 ((c.b.getD (k+0-0) default).pc+1) from by simp only[dd,gh];exact fB (by omega) (by omega)) (CC p c k a b (cj (Fv p.W (enX p c k).op a b) (cj (cN.2 hz) (cj (pv ((0:Nat)+c.b.length=(List.set c.b k (En.done (c.b.getD k default))).length)) (cj (tK c k hk) (oL c (cj (rf (0:Nat)) (cj (pv ((0:Nat)+c.b.length=(List.set c.b k (En.done (c.b.getD k default))).length)) (cj (rf c.r.length) (cj (rr c.r.length 1 fun i j=>aI (c.r.getD i 0)) (cj (rf c.e) (cj (rf (k:Int)) (cj (rf ((enX p c k).tg)) (cj (show MutC Tryz.prog 42 [.agg (cfO (upE c k En.done) (enO (c.b.set k (c.b.getD k default).done))), aI k, aI (enX p c k).tg] [enB (c.b.set k (c.b.getD k default).done)] (.tup [.agg (cfA (goV (upE c k En.done) k (enX p c k).tg)),(obR [⟨3,(enX p c k).tg⟩])]) [] from uq (upE c k En.done) k (enX p c k).tg (by show k<(List.set _ _ _).length;rw[az];exact hk) (by show(List.set _ _ _).length<_;rw[az];omega)) (cj (rf (((goV (upE c k En.done) k (enX p c k).tg).s).r0)) (cj (rf (((goV (upE c k En.done) k (enX p c k).tg).s).r1)) (cj (rf (((goV (upE c k En.done) k (enX p c k).tg).s).r2)) (cj (rf (((goV (upE c k En.done) k (enX p c k).tg).s).r3)) (cj (rf ((((goV (upE c k En.done) k (enX p c k).tg).s).m).length)) (cj (rr ((((goV (upE c k En.done) k (enX p c k).tg).s).m).length) 1 fun i j=>aI (List.getD (((goV (upE c k En.done) k (enX p c k).tg).s).m) i 0)) (cj (rf ((((goV (upE c k En.done) k (enX p c k).tg).s).st).length)) (cj (rr ((((goV (upE c k En.done) k (enX p c k).tg).s).st).length) 1 fun i j=>aI (List.getD (((goV (upE c k En.done) k (enX p c k).tg).s).st) i 0)) (cj (rf (((goV (upE c k En.done) k (enX p c k).tg).s).pc)) (cj (rf (((goV (upE c k En.done) k (enX p c k).tg).b).length)) (cj (rr (((goV (upE c k En.done) k (enX p c k).tg).b).length) 8 fun i j=>ao enC ((goV (upE c k En.done) k (enX p c k).tg).b) i j) (cj (rf (((goV (upE c k En.done) k (enX p c k).tg).r).length)) (cj (rr (((goV (upE c k En.done) k (enX p c k).tg).r).length) 1 fun i j=>aI (List.getD ((goV (upE c k En.done) k (enX p c k).tg).r) i 0)) (cj (rf ((goV (upE c k En.done) k (enX p c k).tg).e)) (cj (rf (1:Nat)) (cj (rr 1 2 fun i j=>ao obC [Ob.mk (3:Int) (enX p c k).tg] i j) (cj (rf true) trivial))))))))))))))))))))))))))))))))))))))))))))))))))))))))))
theorem vX(c:Cf)(k:Nat){Z:Prop}(z:Z):(RF c.r.length (RR c.r.length 1 (fun i j=>aI (c.r.getD i 0)) (RF c.e (RF (k:Int) Z)))):=⟨rfl,fun _ _ _ _=>rfl,rfl,rfl,z⟩
theorem MN(p:Pg)(c:Cf)(k:Nat)(hk:k<c.b.length)(hb:c.b.length<900000)(a b d:Int)(ab so:Bool)(hC:oV p c k)(hT:oU p c k a b d ab so)(hp: -1<=(c.b.getD k default).pc∧(c.b.getD k default).pc<=1000000)(hz:(Wd.doV p.W (enX p c k).op a b)=0)(k1: ¬(enX p c k).kind=1)(k4: ¬(enX p c k).kind=4)(k3: ¬(enX p c k).kind=3)(k2: ¬(enX p c k).kind=2)(k5:(enX p c k).kind=5):Vc (vF_ 13 [.agg (pgA p),.agg (cfA c), aI k] [.fv,o4 p c k,o3 p c k,o0 p c k a b d ab so,.bd false,.bd false,.bd false,.bd false,.bd true,Dt p c k a b,.bd false,.cm [.agg (cfO (upE c k En.done) (enO (c.b.set k (c.b.getD k default).done))), aI k, aI ((c.b.getD k default).pc+1)] [enB (c.b.set k (c.b.getD k default).done)] [(0,2)] (.tup [.agg (cfA (goV (upE c k En.done) k ((c.b.getD k default).pc+1))),(obR [⟨3,((c.b.getD k default).pc+1)⟩])]) []] [] (.tup [.agg (cfA (goV (upE c k En.done) k ((c.b.getD k default).pc+1))),(obR [⟨3,((c.b.getD k default).pc+1)⟩]),.bool true]) []):=aj (dT p (g8 p c (oD c b (cj (rf (k:Int)) (cj hC (cj (ap 0 c.b.length 48) (cj (bi k (↑((0:Nat)+c.b.length):Int)) (cj (lz k c.b.length) (cj (lz k c.b.length) (dT p (oE p c k b (cj (bL p (c.b.getD k default).pc) (dT p (g8 p c (oF c (cj (pv ((0:Nat)+c.b.length=(List.set c.b k (En.done (c.b.getD k default))).length)) (cj (kh c k hk) (oH p c k a d (oK p c k b (cj hT (cj (ae.2 k1) (cj (ae.2 k4) (cj (ae.2 k3) (cj (ae.2 k2) (cj (ay.2 k5) (cj (lz k c.b.length) (cj (show inK IntKind.i64 ((c.b.getD (k+0-0) default).pc+1) from by simp only[dd,gh];exact fB (by omega) (by omega)) (CC p c k a b (cj (Fv p.W (enX p c k).op a b) (cj (ax.2 hz) (cj (pv ((0:Nat)+c.b.length=(List.set c.b k (En.done (c.b.getD k default))).length)) (cj (tK c k hk) (oL c (cj (rf (0:Nat)) (cj (pv ((0:Nat)+c.b.length=(List.set c.b k (En.done (c.b.getD k default))).length)) (vX c k (cj (rf ((c.b.getD k default).pc+1)) (cj (show MutC Tryz.prog 42 [.agg (cfO (upE c k En.done) (enO (c.b.set k (c.b.getD k default).done))), aI k, aI ((c.b.getD k default).pc+1)] [enB (c.b.set k (c.b.getD k default).done)] (.tup [.agg (cfA (goV (upE c k En.done) k ((c.b.getD k default).pc+1))),(obR [⟨3,((c.b.getD k default).pc+1)⟩])]) [] from uq (upE c k En.done) k ((c.b.getD k default).pc+1) (by show k<(List.set _ _ _).length;rw[az];exact hk) (by show(List.set _ _ _).length<_;rw[az];omega)) (cj (rf (((goV (upE c k En.done) k ((c.b.getD k default).pc+1)).s).r0)) (cj (rf (((goV (upE c k En.done) k ((c.b.getD k default).pc+1)).s).r1)) (cj (rf (((goV (upE c k En.done) k ((c.b.getD k default).pc+1)).s).r2)) (cj (rf (((goV (upE c k En.done) k ((c.b.getD k default).pc+1)).s).r3)) (cj (rf ((((goV (upE c k En.done) k ((c.b.getD k default).pc+1)).s).m).length)) (cj (rr ((((goV (upE c k En.done) k ((c.b.getD k default).pc+1)).s).m).length) 1 fun i j=>aI (List.getD (((goV (upE c k En.done) k ((c.b.getD k default).pc+1)).s).m) i 0)) (cj (rf ((((goV (upE c k En.done) k ((c.b.getD k default).pc+1)).s).st).length)) (cj (rr ((((goV (upE c k En.done) k ((c.b.getD k default).pc+1)).s).st).length) 1 fun i j=>aI (List.getD (((goV (upE c k En.done) k ((c.b.getD k default).pc+1)).s).st) i 0)) (cj (rf (((goV (upE c k En.done) k ((c.b.getD k default).pc+1)).s).pc)) (cj (rf (((goV (upE c k En.done) k ((c.b.getD k default).pc+1)).b).length)) (cj (rr (((goV (upE c k En.done) k ((c.b.getD k default).pc+1)).b).length) 8 fun i j=>ao enC ((goV (upE c k En.done) k ((c.b.getD k default).pc+1)).b) i j) (cj (rf (((goV (upE c k En.done) k ((c.b.getD k default).pc+1)).r).length)) (cj (rr (((goV (upE c k En.done) k ((c.b.getD k default).pc+1)).r).length) 1 fun i j=>aI (List.getD ((goV (upE c k En.done) k ((c.b.getD k default).pc+1)).r) i 0)) (cj (rf ((goV (upE c k En.done) k ((c.b.getD k default).pc+1)).e)) (cj (rf (1:Nat)) (cj (rr 1 2 fun i j=>ao obC [Ob.mk (3:Int) ((c.b.getD k default).pc+1)] i j) (cj (rf true) trivial)))))))))))))))))))))))))))))))))))))))))))))))))))))))
theorem Pz(p:Pg)(c:Cf)(k:Nat)(hk:k<c.b.length)(hb:c.b.length<900000)(a b d:Int)(ab so:Bool)(hC:oV p c k)(hT:oU p c k a b d ab so)(k1: ¬(enX p c k).kind=1)(k4: ¬(enX p c k).kind=4)(k3: ¬(enX p c k).kind=3)(k2: ¬(enX p c k).kind=2)(k5: ¬(enX p c k).kind=5)(k7:(enX p c k).kind=7):Vc (vF_ 13 [.agg (pgA p),.agg (cfA c), aI k] [.fv,o4 p c k,o3 p c k,o0 p c k a b d ab so,.bd false,.bd false,.bd false,.bd false,.bd false,.bd true,.cl [.agg (pgA p), aI a] (aI (c9 p a)) [],.cm [.agg (cfO (upE c k En.done) (enO (c.b.set k (c.b.getD k default).done))), aI k, aI (c9 p a)] [enB (c.b.set k (c.b.getD k default).done)] [(0,2)] (.tup [.agg (cfA (goV (upE c k En.done) k (c9 p a))),(obR [⟨3,(c9 p a)⟩])]) []] [] (.tup [.agg (cfA (goV (upE c k En.done) k (c9 p a))),(obR [⟨3,(c9 p a)⟩]),.bool true]) []):=aj (dT p (g8 p c (oD c b (cj (rf (k:Int)) (cj hC (cj (ap 0 c.b.length 48) (cj (bi k (↑((0:Nat)+c.b.length):Int)) (cj (lz k c.b.length) (cj (lz k c.b.length) (dT p (oE p c k b (cj (bL p (c.b.getD k default).pc) (dT p (g8 p c (oF c (cj (pv ((0:Nat)+c.b.length=(List.set c.b k (En.done (c.b.getD k default))).length)) (cj (kh c k hk) (oH p c k a d (oK p c k b (cj hT (cj (ae.2 k1) (cj (ae.2 k4) (cj (ae.2 k3) (cj (ae.2 k2) (cj (ae.2 k5) (cj (ay.2 k7) (dT p (cj (rf p.ls.length) (cj (rr p.ls.length 2 fun i j=>ao lbC p.ls i j) (cj (rf p.is.length) (cj (rr p.is.length 9 fun i j=>ao inC p.is i j) (cj (rf a) (cj (Kl p a) (cj (pv ((0:Nat)+c.b.length=(List.set c.b k (En.done (c.b.getD k default))).length)) (cj (tK c k hk) (oL c (cj (rf (0:Nat)) (cj (pv ((0:Nat)+c.b.length=(List.set c.b k (En.done (c.b.getD k default))).length)) (vX c k (cj (rf (c9 p a)) (cj (show MutC Tryz.prog 42 [.agg (cfO (upE c k En.done) (enO (c.b.set k (c.b.getD k default).done))), aI k, aI (c9 p a)] [enB (c.b.set k (c.b.getD k default).done)] (.tup [.agg (cfA (goV (upE c k En.done) k (c9 p a))),(obR [⟨3,(c9 p a)⟩])]) [] from uq (upE c k En.done) k (c9 p a) (by show k<(List.set _ _ _).length;rw[az];exact hk) (by show(List.set _ _ _).length<_;rw[az];omega)) (cj (rf ((goV (upE c k En.done) k (c9 p a)).s.r0)) (cj (rf ((goV (upE c k En.done) k (c9 p a)).s.r1)) (cj (rf ((goV (upE c k En.done) k (c9 p a)).s.r2)) (cj (rf ((goV (upE c k En.done) k (c9 p a)).s.r3)) (cj (rf (((goV (upE c k En.done) k (c9 p a)).s.m).length)) (cj (rr (((goV (upE c k En.done) k (c9 p a)).s.m).length) 1 fun i j=>aI (List.getD ((goV (upE c k En.done) k (c9 p a)).s.m) i 0)) (cj (rf (((goV (upE c k En.done) k (c9 p a)).s.st).length)) (cj (rr (((goV (upE c k En.done) k (c9 p a)).s.st).length) 1 fun i j=>aI (List.getD ((goV (upE c k En.done) k (c9 p a)).s.st) i 0)) (cj (rf ((goV (upE c k En.done) k (c9 p a)).s.pc)) (cj (rf ((goV (upE c k En.done) k (c9 p a)).b.length)) (cj (rr ((goV (upE c k En.done) k (c9 p a)).b.length) 8 fun i j=>ao enC (goV (upE c k En.done) k (c9 p a)).b i j) (cj (rf ((goV (upE c k En.done) k (c9 p a)).r.length)) (cj (rr ((goV (upE c k En.done) k (c9 p a)).r.length) 1 fun i j=>aI (List.getD (goV (upE c k En.done) k (c9 p a)).r i 0)) (cj (rf ((goV (upE c k En.done) k (c9 p a)).e)) (cj (rf (1:Nat)) (cj (rr 1 2 fun i j=>ao obC [Ob.mk (3:Int) (c9 p a)] i j) (cj (rf true) trivial))))))))))))))))))))))))))))))))))))))))))))))))))))))))))
theorem C8(c:Cf)(k:Nat)(hk:k<c.b.length): ∀(i:Nat),i<0+c.b.length-> ∀(j:Nat),j<8->(bif Nat.ble (7:Nat) j&&Nat.blt j (8:Nat)&&Nat.beq (i+0) (k+0) then List.getD [AV.bool true] (j-7) AV.junk else bif Nat.ble (5:Nat) j&&Nat.blt j (6:Nat)&&Nat.beq (i+0) (k+0) then List.getD [AV.bool true] (j-5) AV.junk else bif Nat.blt (i+0) (0:Nat) then AV.junk else ao enC c.b (i+0-0) j)=ao enC (List.set c.b k (En.flt (En.done (c.b.getD k default)))) i j:=(fun i hi j hj=>by cases hq:Nat.beq (i+0) (k+0) with |true=>obtain rfl:=kJ hq;rw[dz hk];exact(match j,hj with |0,_=>rfl |1,_=>rfl |2,_=>rfl |3,_=>rfl |4,_=>rfl |5,_=>rfl |6,_=>rfl |7,_=>rfl)|false=>rw[fM hq];exact(match j,hj with |0,_=>rfl |1,_=>rfl |2,_=>rfl |3,_=>rfl |4,_=>rfl |5,_=>rfl |6,_=>rfl |7,_=>rfl))
theorem vY(c:Cf){Z:Prop}(z:Z):(RF c.r.length (RR c.r.length 1 (fun i j=>aI (c.r.getD i 0)) (RF c.e (RF true Z)))):=⟨rfl,fun _ _ _ _=>rfl,rfl,rfl,z⟩
theorem sg(p:Pg)(c:Cf){Z:Prop}(z:Z):(RF p.ls.length (RR p.ls.length 2 (fun i j=>ao lbC p.ls i j) (RF p.is.length (RR p.is.length 9 (fun i j=>ao inC p.is i j) (RF c.s.st.length (RR c.s.st.length 1 (fun i j=>aI (List.getD c.s.st i 0)) Z)))))):=⟨rfl,fun _ _ _ _=>rfl,rfl,fun _ _ _ _=>rfl,rfl,fun _ _ _ _=>rfl,z⟩
theorem ML(p:Pg)(c:Cf)(k:Nat)(hk:k<c.b.length)(hb:c.b.length<900000)(a b d:Int)(ab so:Bool)(hC:oV p c k)(hT:oU p c k a b d ab so)(hst:c.s.st.length<=1000)(hbp: ∀e∈(c.b.set k (c.b.getD k default).done), -1<=e.pc∧e.pc<=1000000)(hv:reV p c.s.st (c.b.set k (c.b.getD k default).done) k=none)(k1: ¬(enX p c k).kind=1)(k4: ¬(enX p c k).kind=4)(k3: ¬(enX p c k).kind=3)(k2: ¬(enX p c k).kind=2)(k5: ¬(enX p c k).kind=5)(k7: ¬(enX p c k).kind=7)(k9:(enX p c k).kind=9):Vc (vF_ 13 [.agg (pgA p),.agg (cfA c), aI k] [.fv,o4 p c k,o3 p c k,o0 p c k a b d ab so,.bd false,.bd false,.bd false,.bd false,.bd false,.bd false,.bd true,.cp [.agg (pgA p),lR c.s.st,enR (c.b.set k (c.b.getD k default).done), aI k] (.tup [.nils,.bool false])] [] (.tup [.agg (cfA (upE c k fun e=>e.done.flt)),.nils,.bool true]) []):=aj (dT p (g8 p c (oD c b (cj (rf (k:Int)) (cj hC (cj (ap 0 c.b.length 48) (cj (bi k (↑((0:Nat)+c.b.length):Int)) (cj (lz k c.b.length) (cj (lz k c.b.length) (dT p (oE p c k b (cj (bL p (c.b.getD k default).pc) (dT p (g8 p c (oF c (cj (pv ((0:Nat)+c.b.length=(List.set c.b k (En.done (c.b.getD k default))).length)) (cj (kh c k hk) (oH p c k a d (oK p c k b (cj hT (cj (ae.2 k1) (cj (ae.2 k4) (cj (ae.2 k3) (cj (ae.2 k2) (cj (ae.2 k5) (cj (ae.2 k7) (cj (ay.2 k9) (dT p (sg p c (cj (pv ((0:Nat)+c.b.length=(List.set c.b k (En.done (c.b.getD k default))).length)) (cj (kh c k hk) (cj (rf (k:Int)) (cj (qO p c.s.st (c.b.set k (c.b.getD k default).done) k (by rw[az];omega) hst hbp hv) (cj (lz k c.b.length) (oL c (cj (pv ((0:Nat)+c.b.length=(List.set c.b k (En.flt (En.done (c.b.getD k default)))).length)) (cj (C8 c k hk) (vY c trivial))))))))))))))))))))))))))))))))))))))
abbrev Ds(p:Pg)(c:Cf)(k:Nat)(L:List Int):Orc:= .cq [.agg (pgA p),lR c.s.st,enR (c.b.set k (c.b.getD k default).done), aI k] (.tup [.own 0 0 1 0 L.length,.bool true]) [(3,L)]
theorem MK(p:Pg)(c:Cf)(k:Nat)(hk:k<c.b.length)(hb:c.b.length<900000)(a b d:Int)(ab so:Bool)(hC:oV p c k)(hT:oU p c k a b d ab so)(L:List Int)(hst:c.s.st.length<=1000)(hbp: ∀e∈(c.b.set k (c.b.getD k default).done), -1<=e.pc∧e.pc<=1000000)(hv:reV p c.s.st (c.b.set k (c.b.getD k default).done) k=some L)(hL:L.length=0)(k1: ¬(enX p c k).kind=1)(k4: ¬(enX p c k).kind=4)(k3: ¬(enX p c k).kind=3)(k2: ¬(enX p c k).kind=2)(k5: ¬(enX p c k).kind=5)(k7: ¬(enX p c k).kind=7)(k9:(enX p c k).kind=9):Vc (vF_ 13 [.agg (pgA p),.agg (cfA c), aI k] [.fv,o4 p c k,o3 p c k,o0 p c k a b d ab so,.bd false,.bd false,.bd false,.bd false,.bd false,.bd false,.bd true,Ds p c k L,.bd true] [] (.tup [.agg (cfA (upE c k fun e=>e.done.flt)),.nils,.bool true]) []):=aj (dT p (g8 p c (oD c b (cj (rf (k:Int)) (cj hC (cj (ap 0 c.b.length 48) (cj (bi k (↑((0:Nat)+c.b.length):Int)) (cj (lz k c.b.length) (cj (lz k c.b.length) (dT p (oE p c k b (cj (bL p (c.b.getD k default).pc) (dT p (g8 p c (oF c (cj (pv ((0:Nat)+c.b.length=(List.set c.b k (En.done (c.b.getD k default))).length)) (cj (kh c k hk) (oH p c k a d (oK p c k b (cj hT (cj (ae.2 k1) (cj (ae.2 k4) (cj (ae.2 k3) (cj (ae.2 k2) (cj (ae.2 k5) (cj (ae.2 k7) (cj (ay.2 k9) (dT p (sg p c (cj (pv ((0:Nat)+c.b.length=(List.set c.b k (En.done (c.b.getD k default))).length)) (cj (kh c k hk) (cj (rf (k:Int)) (cj (xx p c.s.st (c.b.set k (c.b.getD k default).done) k L (by rw[az];omega) hst hbp hv) (cj (e1 L.length 0) (cj (lz k c.b.length) (oL c (cj (pv ((0:Nat)+c.b.length=(List.set c.b k (En.flt (En.done (c.b.getD k default)))).length)) (cj (C8 c k hk) (vY c trivial)))))))))))))))))))))))))))))))))))))))
theorem Py(p:Pg)(c:Cf)(k:Nat)(hk:k<c.b.length)(hb:c.b.length<900000)(a b d:Int)(ab so:Bool)(hC:oV p c k)(hT:oU p c k a b d ab so)(L:List Int)(hst:c.s.st.length<=1000)(hbp: ∀e∈(c.b.set k (c.b.getD k default).done), -1<=e.pc∧e.pc<=1000000)(hv:reV p c.s.st (c.b.set k (c.b.getD k default).done) k=some L)(hL: ¬L.length=0)(hl6:L.length<1000000)(k1: ¬(enX p c k).kind=1)(k4: ¬(enX p c k).kind=4)(k3: ¬(enX p c k).kind=3)(k2: ¬(enX p c k).kind=2)(k5: ¬(enX p c k).kind=5)(k7: ¬(enX p c k).kind=7)(k9:(enX p c k).kind=9):Vc (vF_ 13 [.agg (pgA p),.agg (cfA c), aI k] [.fv,o4 p c k,o3 p c k,o0 p c k a b d ab so,.bd false,.bd false,.bd false,.bd false,.bd false,.bd false,.bd true,Ds p c k L,.bd false,.cm [.agg (cfO (upE c k En.done) (enO (c.b.set k (c.b.getD k default).done))), aI k, aI (bE L)] [enB (c.b.set k (c.b.getD k default).done)] [(0,2)] (.tup [.agg (cfA (goV (upE c k En.done) k (bE L))),(obR [⟨3,(bE L)⟩])]) []] [] (.tup [.agg (cfA (goV (upE c k En.done) k (bE L))),(obR [⟨3,(bE L)⟩]),.bool true]) []):=aj (dT p (g8 p c (oD c b (cj (rf (k:Int)) (cj hC (cj (ap 0 c.b.length 48) (cj (bi k (↑((0:Nat)+c.b.length):Int)) (cj (lz k c.b.length) (cj (lz k c.b.length) (dT p (oE p c k b (cj (bL p (c.b.getD k default).pc) (dT p (g8 p c (oF c (cj (pv ((0:Nat)+c.b.length=(List.set c.b k (En.done (c.b.getD k default))).length)) (cj (kh c k hk) (oH p c k a d (oK p c k b (cj hT (cj (ae.2 k1) (cj (ae.2 k4) (cj (ae.2 k3) (cj (ae.2 k2) (cj (ae.2 k5) (cj (ae.2 k7) (cj (ay.2 k9) (dT p (sg p c (cj (pv ((0:Nat)+c.b.length=(List.set c.b k (En.done (c.b.getD k default))).length)) (cj (kh c k hk) (cj (rf (k:Int)) (cj (xx p c.s.st (c.b.set k (c.b.getD k default).done) k L (by rw[az];omega) hst hbp hv) (cj (e0 L.length 0) (cj (i6 (L.length-1)) (cj (bi (L.length-1) L.length) (cj (pv (Int.toNat ((L.length:Int)-1)+0<L.length)) (cj (pv ((0:Nat)+c.b.length=(List.set c.b k (En.done (c.b.getD k default))).length)) (cj (tK c k hk) (oL c (cj (rf (0:Nat)) (cj (pv ((0:Nat)+c.b.length=(List.set c.b k (En.done (c.b.getD k default))).length)) (vX c k (cj (rf (bE L)) (cj (show MutC Tryz.prog 42 [.agg (cfO (upE c k En.done) (enO (c.b.set k (c.b.getD k default).done))), aI k, aI (bE L)] [enB (c.b.set k (c.b.getD k default).done)] (.tup [.agg (cfA (goV (upE c k En.done) k (bE L))),(obR [⟨3,(bE L)⟩])]) [] from uq (upE c k En.done) k (bE L) (by show k<(List.set _ _ _).length;rw[az];exact hk) (by show(List.set _ _ _).length<_;rw[az];omega)) (cj (rf ((goV (upE c k En.done) k (bE L)).s.r0)) (cj (rf ((goV (upE c k En.done) k (bE L)).s.r1)) (cj (rf ((goV (upE c k En.done) k (bE L)).s.r2)) (cj (rf ((goV (upE c k En.done) k (bE L)).s.r3)) (cj (rf (((goV (upE c k En.done) k (bE L)).s.m).length)) (cj (rr (((goV (upE c k En.done) k (bE L)).s.m).length) 1 fun i j=>aI (List.getD ((goV (upE c k En.done) k (bE L)).s.m) i 0)) (cj (rf (((goV (upE c k En.done) k (bE L)).s.st).length)) (cj (rr (((goV (upE c k En.done) k (bE L)).s.st).length) 1 fun i j=>aI (List.getD ((goV (upE c k En.done) k (bE L)).s.st) i 0)) (cj (rf ((goV (upE c k En.done) k (bE L)).s.pc)) (cj (rf ((goV (upE c k En.done) k (bE L)).b.length)) (cj (rr ((goV (upE c k En.done) k (bE L)).b.length) 8 fun i j=>ao enC (goV (upE c k En.done) k (bE L)).b i j) (cj (rf ((goV (upE c k En.done) k (bE L)).r.length)) (cj (rr ((goV (upE c k En.done) k (bE L)).r.length) 1 fun i j=>aI (List.getD (goV (upE c k En.done) k (bE L)).r i 0)) (cj (rf ((goV (upE c k En.done) k (bE L)).e)) (cj (rf (1:Nat)) (cj (rr 1 2 fun i j=>ao obC [Ob.mk (3:Int) (bE L)] i j) (cj (rf true) trivial))))))))))))))))))))))))))))))))))))))))))))))))))))))))))))))
def obX(l:List Ob):AV:=match l with
 | []=> .nils
 |o::r=>obR (o::r)
def dmV(p:Pg)(c:Cf)(k:Nat):Cf×List Ob:=
 if(enX p c k).kind=1 then(upE c k fun e=>e.done.vl (Wd.doV p.W (enX p c k).op (tA p (upE c k En.done) k (enX p c k)).1 (tB p (upE c k En.done) k (enX p c k)).1),[])
 else if(enX p c k).kind=4 then(upE c k fun e=>e.done.vl (if(tA p (upE c k En.done) k (enX p c k)).1=0 then(tD p (upE c k En.done) k (enX p c k)).1 else(tB p (upE c k En.done) k (enX p c k)).1),[])
 else if(enX p c k).kind=3 then(upE c k fun e=>e.done.vl (tD p (upE c k En.done) k (enX p c k)).1,[])
 else if(enX p c k).kind=2 then(if(c.s.m.length:Int)<=adV p (upE c k En.done) k (enX p c k) then(upE c k fun e=>(e.done.ad (adV p (upE c k En.done) k (enX p c k))).flt,[])
  else(upE c k fun e=>(e.done.ad (adV p (upE c k En.done) k (enX p c k))).ld (ldV p c.s.m (upE c k fun e=>e.done.ad (adV p (upE c k En.done) k (enX p c k))).b k (adV p (upE c k En.done) k (enX p c k))).1 (ldV p c.s.m (upE c k fun e=>e.done.ad (adV p (upE c k En.done) k (enX p c k))).b k (adV p (upE c k En.done) k (enX p c k))).2.1,[⟨1,adV p (upE c k En.done) k (enX p c k)⟩]))
 else if(enX p c k).kind=5 then(goV (upE c k En.done) k (if Wd.doV p.W (enX p c k).op (tA p (upE c k En.done) k (enX p c k)).1 (tB p (upE c k En.done) k (enX p c k)).1=0 then(c.b.getD k default).pc+1 else(enX p c k).tg),[⟨3,if Wd.doV p.W (enX p c k).op (tA p (upE c k En.done) k (enX p c k)).1 (tB p (upE c k En.done) k (enX p c k)).1=0 then(c.b.getD k default).pc+1 else(enX p c k).tg⟩])
 else if(enX p c k).kind=7 then(goV (upE c k En.done) k (c9 p (tA p (upE c k En.done) k (enX p c k)).1),[⟨3,c9 p (tA p (upE c k En.done) k (enX p c k)).1⟩])
 else match reV p c.s.st (upE c k En.done).b k with
  |none=>(upE c k fun e=>e.done.flt,[])
  |some L=>if L.length=0 then(upE c k fun e=>e.done.flt,[]) else(goV (upE c k En.done) k (bE L),[⟨3,bE L⟩])
def doO(p:Pg)(c:Cf)(i:Int):Option (Cf×List Ob):=if cnV p c i=true then some (dmV p c i.toNat) else none
def dmA(o:Option (Cf×List Ob)):AV:=match o with
 |some q=> .tup [.agg (cfA q.1),obX q.2,.bool true]
 |none=> .tup [.agg (cfA Cf0),.nils,.bool false]
theorem kt(p:Pg)(l:List En): ∀j k st L,reG p l k j st=some L->L.length<=st.length+j
 |0,k,st,L,h=>by cases h;omega
 |j+1,k,st,L,h=>by
  unfold reG at h
  split at h
  ·split at h
   ·cases h
   ·have:=kt p l j _ _ _ h;rw[aL,bV] at this;omega
  ·split at h
   ·split at h
    ·cases h
    ·have:=kt p l j _ _ _ h;rw[aM] at this;omega
   ·have:=kt p l j _ _ _ h;omega
theorem EL{l:List En}{k:Nat}{g:En->En}(hg: ∀e,(g e).pc=e.pc)(hk:k<l.length)(h: ∀e∈l, -1<=e.pc∧e.pc<=1000000): ∀e∈l.set k (g (l.getD k default)), -1<=e.pc∧e.pc<=1000000:=fun e he=>by
 rcases ct he with h1 |h1
 ·exact h e h1
 ·rw[h1,hg];exact h _ (by simp[List.getD,hk])
theorem jQ{p:Pg}{c:Cf}{i:Int}(h:cnV p c i=true): ∃k:Nat,i=(k:Int)∧k<c.b.length∧(c.b.getD k default).dn=false∧cnK p c k (enX p c k)=true:=by
 unfold cnV at h
 rw[av] at h
 obtain⟨k,rfl,hk⟩:=kZ h.1
 rw[aC,av] at h
 exact⟨k,rfl,hk,by simpa using h.2.1,h.2.2⟩
theorem Kz(p:Pg)(c:Cf)(i:Int)(hb:c.b.length<900000)(hm:c.s.m.length<1000000)(hv:Sml p c)(hv': ∀k,Sml p (upE c k En.done))(hst:c.s.st.length<=1000)(hbp: ∀e∈c.b, -1<=e.pc∧e.pc<=1000000):pC_ 13 [.agg (pgA p),.agg (cfA c),.int .i64 i] (dmA (doO p c i)) []:=by
 have hC:=Db p c i (by omega) hm hv
 unfold doO
 cases hc:cnV p c i with
 |false=>
  rw[hc] at hC
  exact PureC.vc (Pw p c i hC)
 |true=>
  rw[hc] at hC
  obtain⟨k,rfl,hk,hd,hK⟩:=jQ hc
  rw[aq rfl,aC]
  have hT:=AH p (upE c k En.done) k (enX p c k) (by show(List.set _ _ _).length<_;rw[az];omega)
  have ha:=(hv' k).add k (enX p c k)
  have hp: -1<=(c.b.getD k default).pc∧(c.b.getD k default).pc<=1000000:=hbp _ (by simp[List.getD,hk])
  have hbs:=EL (g:=En.done) (fun e=>rfl) hk hbp
  unfold dmV
  by_cases k1:(enX p c k).kind=1
  ·rw[aq k1];exact PureC.vc (PB p c k hk hb _ _ _ _ _ hC hT k1)
  rw[an k1]
  by_cases k4:(enX p c k).kind=4
  ·rw[aq k4]
   by_cases h0:(tA p (upE c k En.done) k (enX p c k)).1=0
   ·rw[aq h0];exact PureC.vc (MP p c k hk hb _ _ _ _ _ hC hT h0 k1 k4)
   ·rw[an h0];exact PureC.vc (MO p c k hk hb _ _ _ _ _ hC hT h0 k1 k4)
  rw[an k4]
  by_cases k3:(enX p c k).kind=3
  ·rw[aq k3];exact PureC.vc (PA p c k hk hb _ _ _ _ _ hC hT k1 k4 k3)
  rw[an k3]
  by_cases k2:(enX p c k).kind=2
  ·rw[aq k2]
   by_cases ho:(c.s.m.length:Int)<=adV p (upE c k En.done) k (enX p c k)
   ·rw[aq ho];exact PureC.vc (MQ p c k hk hb _ _ _ _ _ hC hT ha hm ho k1 k4 k3 k2)
   ·rw[an ho];exact PureC.vc (MR p c k hk hb _ _ _ _ _ hC hT ha hm ho k1 k4 k3 k2)
  rw[an k2]
  by_cases k5:(enX p c k).kind=5
  ·rw[aq k5]
   by_cases h0:Wd.doV p.W (enX p c k).op (tA p (upE c k En.done) k (enX p c k)).1 (tB p (upE c k En.done) k (enX p c k)).1=0
   ·rw[aq h0];exact PureC.vc (MN p c k hk hb _ _ _ _ _ hC hT hp h0 k1 k4 k3 k2 k5)
   ·rw[an h0];exact PureC.vc (MM p c k hk hb _ _ _ _ _ hC hT hp h0 k1 k4 k3 k2 k5)
  rw[an k5]
  by_cases k7:(enX p c k).kind=7
  ·rw[aq k7];exact PureC.vc (Pz p c k hk hb _ _ _ _ _ hC hT k1 k4 k3 k2 k5 k7)
  rw[an k7]
  have k9:(enX p c k).kind=9:=by
   unfold cnK at hK
   rw[an k1,an k5,an k4,an k2,an k3,an k7] at hK
   exact ay.1 hK
  cases hv:reV p c.s.st (upE c k En.done).b k with
  |none=>exact PureC.vc (ML p c k hk hb _ _ _ _ _ hC hT hst hbs hv k1 k4 k3 k2 k5 k7 k9)
  |some L=>
   have h6:=kt _ _ _ _ _ _ hv
   have h7:=fu k (upE c k En.done).b.length
   have h8:(upE c k En.done).b.length=c.b.length:=az
   by_cases h0:L.length=0
   ·show PureC _ _ _ (dmA (some (if _ then _ else _))) _
    rw[aq h0];exact PureC.vc (MK p c k hk hb _ _ _ _ _ hC hT L hst hbs hv h0 k1 k4 k3 k2 k5 k7 k9)
   ·show PureC _ _ _ (dmA (some (if _ then _ else _))) _
    rw[an h0];exact PureC.vc (Py p c k hk hb _ _ _ _ _ hC hT L hst hbs hv h0 (by omega) k1 k4 k3 k2 k5 k7 k9)
end
end Go.Proofs.YtlfldlnohmobmaaGreat.Px
