import Derived.Test.YtdanmboalfmifaaMcD
set_option linter.unusedVariables false
set_option linter.unusedSimpArgs false
set_option maxRecDepth 100000
namespace Go.Proofs.Ytdanmboalfmifaa.Px
section
open Go.RowKit Go.Proofs.Ytdanmboalfmifaa.Rx
def ldF(p:Pg)(l:List En)(a:Int):Nat->Option (Int×Int×Bool)
 |0=>none
 |k+1=>if(enI p l k).kind=3∧(l.getD k default).kn=true∧(l.getD k default).adr=a then some (if(l.getD k default).dn then((l.getD k default).val,(k:Int),true) else(0,0,false)) else ldF p l a k
def ldV(p:Pg)(m:List Int)(l:List En)(i a:Int):Int×Int×Bool:=match ldF p l a (cl0 i l.length) with
 |some x=>x
 |none=>if 0<=a∧a<m.length then(m.getD a.toNat 0, -1,true) else(0, -1,true)
def ldS(p:Pg)(m:List Int)(l:List En)(a i:Int):Sm:=⟨[(5,pgP p),(1,lR m),(2,enR l),(4,.int .i64 a),(13,.int .i64 i),(10,.int .i64 0),(11,.int .i64 0),(12,.bool false)],[],0⟩
def tT(a b c:Nat)(x:Int×Int×Bool):Sm:=⟨[(a,.int .i64 x.1),(b,.int .i64 x.2.1),(c,.bool x.2.2)],[],0⟩
def hzB(p:Pg)(l:List En)(i a:Int)(k:Nat):Prop:=(enI p l k).kind=2∧(l.getD k default).kn=true∧(l.getD k default).adr=a∧(l.getD k default).frm<i
instance(p:Pg)(l:List En)(i a:Int)(k:Nat):Decidable (hzB p l i a k):=inferInstanceAs (Decidable (_∧_))
def hzG(p:Pg)(l:List En)(i a:Int):Nat->Nat->Option Nat
 |_,0=>none
 |k,j+1=>if hzB p l i a k then some k else hzG p l i a (k+1) j
def hz0(i:Int)(n:Nat):Nat:=(min (max i (-1)) (n:Int)+1).toNat
def hzV(p:Pg)(l:List En)(i a:Int):Int×Bool:=match hzG p l i a (hz0 i l.length) (l.length-hz0 i l.length) with
 |some k=>((k:Int),true)
 |none=>(0,false)
def hzS(p:Pg)(l:List En)(i a:Int)(k:Nat):Sm:=⟨[(4,pgP p),(1,enR l),(2,.int .i64 i),(3,.int .i64 a),(10,.int .i64 k),(8,.int .i64 0),(9,.bool false)],[],0⟩
theorem zy(k:Nat){Z:Prop}(z:Z):(RF ((k:Int)-1) (RF (0:Int) (RF (0:Int) (RF false Z)))):=⟨rfl,rfl,rfl,rfl,z⟩
theorem oI(p:Pg)(m:List Int)(l:List En)(a:Int){Z:Prop}(z:Z):(RF p.ls.length (RR p.ls.length 2 (fun i j=>an lbC p.ls i j) (RF p.is.length (RR p.is.length 9 (fun i j=>an inC p.is i j) (RF m.length (RR m.length 1 (fun i j=>aI (m.getD i 0)) (RF l.length (RR l.length 8 (fun i j=>an enC l i j) (RF a Z))))))))):=⟨rfl,fun _ _ _ _=>rfl,rfl,fun _ _ _ _=>rfl,rfl,fun _ _ _ _=>rfl,rfl,fun _ _ _ _=>rfl,rfl,z⟩
theorem eK(p:Pg){Z:Prop}(z:Z):(RF p.W (RF p.win (RF p.fuel (RF p.r0 (RF p.r1 (RF p.r2 (RF p.r3 (RF p.ms.length (RR p.ms.length 3 (fun i j=>an mmC p.ms i j) Z))))))))):=⟨rfl,rfl,rfl,rfl,rfl,rfl,rfl,rfl,fun _ _ _ _=>rfl,z⟩
theorem mM(p:Pg)(l:List En)(k:Nat){Z:Prop}(z:Z):(RF p.ls.length (RR p.ls.length 2 (fun i j=>an lbC p.ls i j) (RF p.is.length (RR p.is.length 9 (fun i j=>an inC p.is i j) (RF ((l.getD k default).pc) Z))))):=⟨rfl,fun _ _ _ _=>rfl,rfl,fun _ _ _ _=>rfl,rfl,z⟩
abbrev mQ(p:Pg)(l:List En)(k:Nat):Orc:= .cl [.agg (pgA p), aI (l.getD k default).pc] (.agg (inA (enI p l k))) []
theorem EF(p:Pg)(m:List Int)(l:List En)(a:Int)(k:Nat)(hk:k<l.length)(hb:l.length<1000000)(hk3: ¬(enI p l k).kind=3):Vc (vC_ 61 0 (ldS p m l a k) [.bd true,mQ p l k,.bd false] .nrm [] (ldS p m l a ((k:Int)-1))):=al (cj (dt ((k:Int)>=0)) (cj (bi k l.length) (eK p (mM p l k (cj (bw p (l.getD k default).pc) (cj (aa.2 hk3) (cj (i6 (k-1)) (eK p (oI p m l a (zy k trivial))))))))))
theorem EE(p:Pg)(m:List Int)(l:List En)(a:Int)(k:Nat)(hk:k<l.length)(hb:l.length<1000000)(hk3:(enI p l k).kind=3)(hn:(l.getD k default).kn=false):Vc (vC_ 61 0 (ldS p m l a k) [.bd true,mQ p l k,.bd true,.lv (.bool false)] .nrm [] (ldS p m l a ((k:Int)-1))):=al (cj (dt ((k:Int)>=0)) (cj (bi k l.length) (eK p (mM p l k (cj (bw p (l.getD k default).pc) (cj (ay.2 hk3) (cj (bi k l.length) (cj (congrArg (fun b=>some (AV.bool b)) hn) (cj (i6 (k-1)) (eK p (oI p m l a (zy k trivial))))))))))))
theorem EG(p:Pg)(m:List Int)(l:List En)(a:Int)(k:Nat)(hk:k<l.length)(hb:l.length<1000000)(hk3:(enI p l k).kind=3)(hn:(l.getD k default).kn=true)(ha: ¬(l.getD k default).adr=a):Vc (vC_ 61 0 (ldS p m l a k) [.bd true,mQ p l k,.bd true,.lv (.bool true),.bd false] .nrm [] (ldS p m l a ((k:Int)-1))):=al (cj (dt ((k:Int)>=0)) (cj (bi k l.length) (eK p (mM p l k (cj (bw p (l.getD k default).pc) (cj (ay.2 hk3) (cj (bi k l.length) (cj (congrArg (fun b=>some (AV.bool b)) hn) (cj (bi k l.length) (cj (aa.2 ha) (cj (i6 (k-1)) (eK p (oI p m l a (zy k trivial))))))))))))))
theorem GM(p:Pg)(m:List Int)(l:List En)(a:Int)(k:Nat)(hk:k<l.length)(hb:l.length<1000000)(hk3:(enI p l k).kind=3)(hn:(l.getD k default).kn=true)(ha:(l.getD k default).adr=a)(hd:(l.getD k default).dn=true):Vc (vC_ 61 0 (ldS p m l a k) [.bd true,mQ p l k,.bd true,.lv (.bool true),.bd true,.lv (.bool true)] .ret [] (tT 10 11 12 ((l.getD k default).val,(k:Int),true))):=al (cj (dt ((k:Int)>=0)) (cj (bi k l.length) (eK p (mM p l k (cj (bw p (l.getD k default).pc) (cj (ay.2 hk3) (cj (bi k l.length) (cj (congrArg (fun b=>some (AV.bool b)) hn) (cj (bi k l.length) (cj (ay.2 ha) (cj (bi k l.length) (cj (congrArg (fun b=>some (AV.bool b)) hd) (cj (bi k l.length) (cj (rf ((l.getD k default).val)) (cj (rf (k:Int)) (cj (rf true) trivial))))))))))))))))
theorem tq{Z:Prop}(z:Z):(RF (0:Int) (RF (0:Int) (RF false Z))):=⟨rfl,rfl,rfl,z⟩
theorem GL(p:Pg)(m:List Int)(l:List En)(a:Int)(k:Nat)(hk:k<l.length)(hb:l.length<1000000)(hk3:(enI p l k).kind=3)(hn:(l.getD k default).kn=true)(ha:(l.getD k default).adr=a)(hd:(l.getD k default).dn=false):Vc (vC_ 61 0 (ldS p m l a k) [.bd true,mQ p l k,.bd true,.lv (.bool true),.bd true,.lv (.bool false)] .ret [] (tT 10 11 12 (0,0,false))):=al (cj (dt ((k:Int)>=0)) (cj (bi k l.length) (eK p (mM p l k (cj (bw p (l.getD k default).pc) (cj (ay.2 hk3) (cj (bi k l.length) (cj (congrArg (fun b=>some (AV.bool b)) hn) (cj (bi k l.length) (cj (ay.2 ha) (cj (bi k l.length) (cj (congrArg (fun b=>some (AV.bool b)) hd) (tq trivial)))))))))))))
theorem Bu(p:Pg)(m:List Int)(l:List En)(a:Int):Vc (vC_ 61 0 (ldS p m l a (-1)) [.b false] (.ext 0) [] (ldS p m l a (-1))):=al (cj (df ((-1:Int)>=0)) (eK p (oI p m l a (cj (rf (-1:Int)) (cj (rf (0:Int)) (cj (rf (0:Int)) (cj (rf false) trivial)))))))
theorem ln(p:Pg)(m:List Int)(l:List En)(a:Int)(hb:l.length<1000000)(x:Int×Int×Bool): ∀k,k<=l.length->ldF p l a k=some x->OkL Try.prog (dG Try.prog 61) (lpC Try.prog 61 0) (ldS p m l a ((k:Int)-1)).st .ret (tT 10 11 12 x).st
 |0,_,h=>by cases h
 |k+1,hk,h=>by
  rw[rz]
  unfold ldF at h
  by_cases hk3:(enI p l k).kind=3
  ·cases hn:(l.getD k default).kn with
   |false=>
    rw[af (by rw[hn];simp)] at h
    exact OkL.step (Ok.vc (EE p m l a k (by omega) hb hk3 hn)) (ln p m l a hb x k (by omega) h)
   |true=>
    by_cases ha:(l.getD k default).adr=a
    ·rw[ai ⟨hk3,hn,ha⟩] at h
     cases hd:(l.getD k default).dn with
     |true=>
      rw[ai hd,ah] at h
      subst h
      exact OkL.exit (Ok.vc (GM p m l a k (by omega) hb hk3 hn ha hd)) (by simp)
     |false=>
      rw[af (by rw[hd];simp),ah] at h
      subst h
      exact OkL.exit (Ok.vc (GL p m l a k (by omega) hb hk3 hn ha hd)) (by simp)
    ·rw[af fun e=>ha e.2.2] at h
     exact OkL.step (Ok.vc (EG p m l a k (by omega) hb hk3 hn ha)) (ln p m l a hb x k (by omega) h)
  ·rw[af fun e=>hk3 e.1] at h
   exact OkL.step (Ok.vc (EF p m l a k (by omega) hb hk3)) (ln p m l a hb x k (by omega) h)
theorem lm(p:Pg)(m:List Int)(l:List En)(a:Int)(hb:l.length<1000000): ∀k,k<=l.length->ldF p l a k=none->OkL Try.prog (dG Try.prog 61) (lpC Try.prog 61 0) (ldS p m l a ((k:Int)-1)).st (.ext 0) (ldS p m l a (-1)).st
 |0,_,_=>OkL.exit (Ok.vc (Bu p m l a)) (by simp)
 |k+1,hk,h=>by
  rw[rz]
  unfold ldF at h
  by_cases hk3:(enI p l k).kind=3
  ·cases hn:(l.getD k default).kn with
   |false=>
    rw[af (by rw[hn];simp)] at h
    exact OkL.step (Ok.vc (EE p m l a k (by omega) hb hk3 hn)) (lm p m l a hb k (by omega) h)
   |true=>
    by_cases ha:(l.getD k default).adr=a
    ·rw[ai ⟨hk3,hn,ha⟩] at h
     cases h
    ·rw[af fun e=>ha e.2.2] at h
     exact OkL.step (Ok.vc (EG p m l a k (by omega) hb hk3 hn ha)) (lm p m l a hb k (by omega) h)
  ·rw[af fun e=>hk3 e.1] at h
   exact OkL.step (Ok.vc (EF p m l a k (by omega) hb hk3)) (lm p m l a hb k (by omega) h)
theorem wM(l:List En)(i:Int)(n:Nat)(hE:(if(l.length:Int)<(if i<0 then 0 else i) then(l.length:Int) else(if i<0 then 0 else i))=(n:Int)):(if(l.length:Int)<if i<0 then(0:Int) else i then(l.length:Int) else if i<0 then(0:Int) else i)-1=(n:Int)-1:=by rw[hE]
theorem Bt(p:Pg)(m:List Int)(l:List En)(i a:Int)(n:Nat)(x:Int×Int×Bool)(hE:(if(l.length:Int)<(if i<0 then 0 else i) then(l.length:Int) else(if i<0 then 0 else i))=(n:Int))(hn:n<1000000)(h:oL_ 61 0 (ldS p m l a ((n:Int)-1)).st .ret (tT 10 11 12 x).st):Vc (vF_ 61 [.agg (pgA p),lR m,enR l, aI i, aI a] [.fz,.lp [] (ldS p m l a ((n:Int)-1)) .ret (tT 10 11 12 x)] [] (.tup [aI x.1, aI x.2.1,.bool x.2.2]) []):=al (cj (show inK IntKind.i64 ((if(l.length:Int)<if i<0 then(0:Int) else i then(l.length:Int) else if i<0 then(0:Int) else i)-1) from by rw[hE];exact dM (by omega) (by omega)) (eK p (oI p m l a (cj (wM l i n hE) (tq (cj h (cj (rf (Prod.fst x)) (cj (rf (Prod.fst (Prod.snd x))) (cj (rf (Prod.snd (Prod.snd x))) trivial)))))))))
theorem CE{Z:Prop}(z:Z):(RF (0:Int) (RF (-1:Int) (RF true Z))):=⟨rfl,rfl,rfl,z⟩
abbrev AY(p:Pg)(m:List Int)(l:List En)(a:Int)(n:Nat):Prop:=Ok Try.prog (dG Try.prog 61) (.loop (lpC Try.prog 61 0)) (ldS p m l a ((n:Int)-1)).st (.ext 0) (ldS p m l a (-1)).st
theorem vb(p:Pg)(m:List Int)(l:List En)(i a:Int)(n:Nat)(hE:(if(l.length:Int)<(if i<0 then 0 else i) then(l.length:Int) else(if i<0 then 0 else i))=(n:Int))(hn:n<1000000)(h:AY p m l a n)(ha:a<0):Vc (vF_ 61 [.agg (pgA p),lR m,enR l, aI i, aI a] [.fz,.lp [] (ldS p m l a ((n:Int)-1)) (.ext 0) (ldS p m l a (-1)),.bd true] [] (.tup [aI 0, aI (-1),.bool true]) []):=al (cj (show inK IntKind.i64 ((if(l.length:Int)<if i<0 then(0:Int) else i then(l.length:Int) else if i<0 then(0:Int) else i)-1) from by rw[hE];exact dM (by omega) (by omega)) (eK p (oI p m l a (cj (wM l i n hE) (tq (cj h (cj (dt (a<0)) (CE trivial))))))))
theorem va(p:Pg)(m:List Int)(l:List En)(i a:Int)(n:Nat)(hE:(if(l.length:Int)<(if i<0 then 0 else i) then(l.length:Int) else(if i<0 then 0 else i))=(n:Int))(hn:n<1000000)(h:AY p m l a n)(h0:0<=a)(ha: ¬a<m.length):Vc (vF_ 61 [.agg (pgA p),lR m,enR l, aI i, aI a] [.fz,.lp [] (ldS p m l a ((n:Int)-1)) (.ext 0) (ldS p m l a (-1)),.bd false,.bd true] [] (.tup [aI 0, aI (-1),.bool true]) []):=al (cj (show inK IntKind.i64 ((if(l.length:Int)<if i<0 then(0:Int) else i then(l.length:Int) else if i<0 then(0:Int) else i)-1) from by rw[hE];exact dM (by omega) (by omega)) (eK p (oI p m l a (cj (wM l i n hE) (tq (cj h (cj (df (a<0)) (cj (dt (a>=(m.length:Int))) (CE trivial)))))))))
theorem xC(p:Pg)(m:List Int)(l:List En)(i a:Int)(n:Nat)(hE:(if(l.length:Int)<(if i<0 then 0 else i) then(l.length:Int) else(if i<0 then 0 else i))=(n:Int))(hn:n<1000000)(h:AY p m l a n)(h0:0<=a)(ha:a<m.length):Vc (vF_ 61 [.agg (pgA p),lR m,enR l, aI i, aI a] [.fz,.lp [] (ldS p m l a ((n:Int)-1)) (.ext 0) (ldS p m l a (-1)),.bd false,.bd false] [] (.tup [aI (m.getD a.toNat 0), aI (-1),.bool true]) []):=al (cj (show inK IntKind.i64 ((if(l.length:Int)<if i<0 then(0:Int) else i then(l.length:Int) else if i<0 then(0:Int) else i)-1) from by rw[hE];exact dM (by omega) (by omega)) (eK p (oI p m l a (cj (wM l i n hE) (tq (cj h (cj (df (a<0)) (cj (df (a>=(m.length:Int))) (cj (bi a m.length) (cj (rf (m.getD (Int.toNat a) (0:Int))) (cj (rf (-1:Int)) (cj (rf true) trivial))))))))))))
theorem w9(p:Pg)(m:List Int)(l:List En)(i a:Int)(hb:l.length<1000000):pC_ 61 [.agg (pgA p),lR m,enR l,.int .i64 i,.int .i64 a] (.tup [.int .i64 (ldV p m l i a).1,.int .i64 (ldV p m l i a).2.1,.bool (ldV p m l i a).2.2]) []:=by
 have hE:=vX i l.length
 have hle:=jf i l.length
 unfold ldV
 cases h:ldF p l a (cl0 i l.length) with
 |some x=>exact PureC.vc (Bt p m l i a _ x hE (by omega) (ln p m l a hb x _ hle h).ok)
 |none=>
  have hl:=(lm p m l a hb _ hle h).ok
  by_cases ha:0<=a∧a<m.length
  ·rw[ai ha]
   exact PureC.vc (xC p m l i a _ hE (by omega) hl ha.1 ha.2)
  ·rw[af ha]
   by_cases h0:a<0
   ·exact PureC.vc (vb p m l i a _ hE (by omega) hl h0)
   ·exact PureC.vc (va p m l i a _ hE (by omega) hl (by omega) (by omega))
theorem wm(p:Pg)(l:List En)(i:Int)(a:Int)(k:Nat){Z:Prop}(z:Z):(RF p.ls.length (RR p.ls.length 2 (fun i j=>an lbC p.ls i j) (RF p.is.length (RR p.is.length 9 (fun i j=>an inC p.is i j) (RF l.length (RR l.length 8 (fun i j=>an enC l i j) (RF i (RF a (RF ((k:Int)+1) Z))))))))):=⟨rfl,fun _ _ _ _=>rfl,rfl,fun _ _ _ _=>rfl,rfl,fun _ _ _ _=>rfl,rfl,rfl,rfl,z⟩
theorem EY(p:Pg)(l:List En)(i a:Int)(k:Nat)(hk:k<l.length)(hb:l.length<1000000)(hk3: ¬(enI p l k).kind=2):Vc (vC_ 66 0 (hzS p l i a k) [.bd true,mQ p l k,.bd false] .nrm [] (hzS p l i a (k+1))):=al (cj (dt ((k:Int)<l.length)) (cj (bi k l.length) (eK p (mM p l k (cj (bw p (l.getD k default).pc) (cj (aa.2 hk3) (cj (i6 (k+1)) (eK p (wm p l i a k (cj (rf (0:Int)) (cj (rf false) trivial)))))))))))
theorem EX(p:Pg)(l:List En)(i a:Int)(k:Nat)(hk:k<l.length)(hb:l.length<1000000)(hk3:(enI p l k).kind=2)(hn:(l.getD k default).kn=false):Vc (vC_ 66 0 (hzS p l i a k) [.bd true,mQ p l k,.bd true,.lv (.bool false)] .nrm [] (hzS p l i a (k+1))):=al (cj (dt ((k:Int)<l.length)) (cj (bi k l.length) (eK p (mM p l k (cj (bw p (l.getD k default).pc) (cj (ay.2 hk3) (cj (bi k l.length) (cj (congrArg (fun b=>some (AV.bool b)) hn) (cj (i6 (k+1)) (eK p (wm p l i a k (cj (rf (0:Int)) (cj (rf false) trivial)))))))))))))
theorem E0(p:Pg)(l:List En)(i a:Int)(k:Nat)(hk:k<l.length)(hb:l.length<1000000)(hk3:(enI p l k).kind=2)(hn:(l.getD k default).kn=true)(ha: ¬(l.getD k default).adr=a):Vc (vC_ 66 0 (hzS p l i a k) [.bd true,mQ p l k,.bd true,.lv (.bool true),.bd false] .nrm [] (hzS p l i a (k+1))):=al (cj (dt ((k:Int)<l.length)) (cj (bi k l.length) (eK p (mM p l k (cj (bw p (l.getD k default).pc) (cj (ay.2 hk3) (cj (bi k l.length) (cj (congrArg (fun b=>some (AV.bool b)) hn) (cj (bi k l.length) (cj (aa.2 ha) (cj (i6 (k+1)) (eK p (wm p l i a k (cj (rf (0:Int)) (cj (rf false) trivial)))))))))))))))
theorem EZ(p:Pg)(l:List En)(i a:Int)(k:Nat)(hk:k<l.length)(hb:l.length<1000000)(hk3:(enI p l k).kind=2)(hn:(l.getD k default).kn=true)(ha:(l.getD k default).adr=a)(hf: ¬(l.getD k default).frm<i):Vc (vC_ 66 0 (hzS p l i a k) [.bd true,mQ p l k,.bd true,.lv (.bool true),.bd true,.bd false] .nrm [] (hzS p l i a (k+1))):=al (cj (dt ((k:Int)<l.length)) (cj (bi k l.length) (eK p (mM p l k (cj (bw p (l.getD k default).pc) (cj (ay.2 hk3) (cj (bi k l.length) (cj (congrArg (fun b=>some (AV.bool b)) hn) (cj (bi k l.length) (cj (ay.2 ha) (cj (bi k l.length) (cj (bD hf) (cj (i6 (k+1)) (eK p (wm p l i a k (cj (rf (0:Int)) (cj (rf false) trivial)))))))))))))))))
theorem GY(p:Pg)(l:List En)(i a:Int)(k:Nat)(hk:k<l.length)(hb:l.length<1000000)(hk3:(enI p l k).kind=2)(hn:(l.getD k default).kn=true)(ha:(l.getD k default).adr=a)(hf:(l.getD k default).frm<i):Vc (vC_ 66 0 (hzS p l i a k) [.bd true,mQ p l k,.bd true,.lv (.bool true),.bd true,.bd true] .ret [] (vbS 8 9 ((k:Int),true))):=al (cj (dt ((k:Int)<l.length)) (cj (bi k l.length) (eK p (mM p l k (cj (bw p (l.getD k default).pc) (cj (ay.2 hk3) (cj (bi k l.length) (cj (congrArg (fun b=>some (AV.bool b)) hn) (cj (bi k l.length) (cj (ay.2 ha) (cj (bi k l.length) (cj (ca hf) (cj (rf (k:Int)) (cj (rf true) trivial))))))))))))))
theorem BL(p:Pg)(l:List En)(i a:Int)(k:Nat)(hk: ¬k<l.length):Vc (vC_ 66 0 (hzS p l i a k) [.b false] (.ext 0) [] (hzS p l i a k)):=al (cj (df ((k:Int)<l.length)) (eK p (cj (rf p.ls.length) (cj (rr p.ls.length 2 fun i j=>an lbC p.ls i j) (cj (rf p.is.length) (cj (rr p.is.length 9 fun i j=>an inC p.is i j) (cj (rf l.length) (cj (rr l.length 8 fun i j=>an enC l i j) (cj (rf i) (cj (rf a) (cj (rf (k:Int)) (cj (rf (0:Int)) (cj (rf false) trivial)))))))))))))
theorem rJ(p:Pg)(l:List En)(i a:Int)(hb:l.length<1000000)(q:Nat): ∀j k,k+j=max k l.length->hzG p l i a k j=some q->OkL Try.prog (dG Try.prog 66) (lpC Try.prog 66 0) (hzS p l i a k).st .ret (vbS 8 9 ((q:Int),true)).st
 |0,k,_,h=>by cases h
 |j+1,k,hk,h=>by
  unfold hzG at h
  by_cases hz:hzB p l i a k
  ·rw[ai hz] at h
   obtain⟨hk3,hn,ha,hf⟩:=hz
   rw[ah] at h
   subst h
   exact OkL.exit (Ok.vc (GY p l i a k (by omega) hb hk3 hn ha hf)) (by simp)
  ·rw[af hz] at h
   refine OkL.step ?_ (rJ p l i a hb q j (k+1) (by omega) h)
   by_cases hk3:(enI p l k).kind=2
   ·cases hn:(l.getD k default).kn with
    |false=>exact Ok.vc (EX p l i a k (by omega) hb hk3 hn)
    |true=>
     by_cases ha:(l.getD k default).adr=a
     ·exact Ok.vc (EZ p l i a k (by omega) hb hk3 hn ha fun hf=>hz ⟨hk3,hn,ha,hf⟩)
     ·exact Ok.vc (E0 p l i a k (by omega) hb hk3 hn ha)
   ·exact Ok.vc (EY p l i a k (by omega) hb hk3)
theorem rI(p:Pg)(l:List En)(i a:Int)(hb:l.length<1000000): ∀j k,k+j=max k l.length->hzG p l i a k j=none->OkL Try.prog (dG Try.prog 66) (lpC Try.prog 66 0) (hzS p l i a k).st (.ext 0) (hzS p l i a (max k l.length)).st
 |0,k,hk,_=>by
  rw[show max k l.length=k by omega]
  exact OkL.exit (Ok.vc (BL p l i a k (by omega))) (by simp)
 |j+1,k,hk,h=>by
  rw[show max k l.length=max (k+1) l.length by omega]
  unfold hzG at h
  by_cases hz:hzB p l i a k
  ·rw[ai hz] at h
   obtain⟨hk3,hn,ha,hf⟩:=hz
   cases h
  ·rw[af hz] at h
   refine OkL.step ?_ (rI p l i a hb j (k+1) (by omega) h)
   by_cases hk3:(enI p l k).kind=2
   ·cases hn:(l.getD k default).kn with
    |false=>exact Ok.vc (EX p l i a k (by omega) hb hk3 hn)
    |true=>
     by_cases ha:(l.getD k default).adr=a
     ·exact Ok.vc (EZ p l i a k (by omega) hb hk3 hn ha fun hf=>hz ⟨hk3,hn,ha,hf⟩)
     ·exact Ok.vc (E0 p l i a k (by omega) hb hk3 hn ha)
   ·exact Ok.vc (EY p l i a k (by omega) hb hk3)
theorem mxI(a b:Int):(if a<b then b else a)=max a b:=by split<;>omega
theorem BM(i:Int)(n:Nat):(if(n:Int)<(if i< -1 then -1 else i) then(n:Int) else(if i< -1 then -1 else i))+1=(hz0 i n:Int):=by
 unfold hz0;rw[mxI,mnI];omega
theorem CD(p:Pg)(l:List En)(i:Int)(a:Int){Z:Prop}(z:Z):(RF p.ls.length (RR p.ls.length 2 (fun i j=>an lbC p.ls i j) (RF p.is.length (RR p.is.length 9 (fun i j=>an inC p.is i j) (RF l.length (RR l.length 8 (fun i j=>an enC l i j) (RF i (RF a Z)))))))):=⟨rfl,fun _ _ _ _=>rfl,rfl,fun _ _ _ _=>rfl,rfl,fun _ _ _ _=>rfl,rfl,rfl,z⟩
theorem E2(p:Pg)(l:List En)(i a:Int)(n:Nat)(q:Nat)(hE:(if(l.length:Int)<(if i< -1 then -1 else i) then(l.length:Int) else(if i< -1 then -1 else i))+1=(n:Int))(hn:n<1000001)(h:oL_ 66 0 (hzS p l i a n).st .ret (vbS 8 9 ((q:Int),true)).st):Vc (vF_ 66 [.agg (pgA p),enR l, aI i, aI a] [.fz,.lp [] (hzS p l i a n) .ret (vbS 8 9 ((q:Int),true))] [] (.tup [aI q,.bool true]) []):=al (cj (show inK IntKind.i64 ((if(l.length:Int)<if i<(-1:Int) then(-1:Int) else i then(l.length:Int) else if i<(-1:Int) then(-1:Int) else i)+1) from by rw[hE];exact dM (by omega) (by omega)) (eK p (CD p l i a (cj (show(if(l.length:Int)<if i<(-1:Int) then(-1:Int) else i then(l.length:Int) else if i<(-1:Int) then(-1:Int) else i)+1=(n:Int) from by first |exact hE |rw[hE]) (cj (rf (0:Int)) (cj (rf false) (cj h (cj (rf (q:Int)) (cj (rf true) trivial)))))))))
theorem E3(p:Pg)(l:List En)(i a:Int)(n:Nat)(N:Nat)(hE:(if(l.length:Int)<(if i< -1 then -1 else i) then(l.length:Int) else(if i< -1 then -1 else i))+1=(n:Int))(hn:n<1000001)(h:oL_ 66 0 (hzS p l i a n).st (.ext 0) (hzS p l i a N).st):Vc (vF_ 66 [.agg (pgA p),enR l, aI i, aI a] [.fz,.lp [] (hzS p l i a n) (.ext 0) (hzS p l i a N)] [] (.tup [aI 0,.bool false]) []):=al (cj (show inK IntKind.i64 ((if(l.length:Int)<if i<(-1:Int) then(-1:Int) else i then(l.length:Int) else if i<(-1:Int) then(-1:Int) else i)+1) from by rw[hE];exact dM (by omega) (by omega)) (eK p (CD p l i a (cj (show(if(l.length:Int)<if i<(-1:Int) then(-1:Int) else i then(l.length:Int) else if i<(-1:Int) then(-1:Int) else i)+1=(n:Int) from by first |exact hE |rw[hE]) (cj (rf (0:Int)) (cj (rf false) (cj h (cj (rf (0:Int)) (cj (rf false) trivial)))))))))
theorem Gl(p:Pg)(l:List En)(i a:Int)(hb:l.length<1000000):pC_ 66 [.agg (pgA p),enR l,.int .i64 i,.int .i64 a] (.tup [.int .i64 (hzV p l i a).1,.bool (hzV p l i a).2]) []:=by
 have hE:=BM i l.length
 have hle:hz0 i l.length<=l.length+1:=by unfold hz0;omega
 unfold hzV
 cases h:hzG p l i a (hz0 i l.length) (l.length-hz0 i l.length) with
 |some q=>exact PureC.vc (E2 p l i a _ q hE (by omega) (rJ p l i a hb q _ _ (by omega) h).ok)
 |none=>exact PureC.vc (E3 p l i a _ _ hE (by omega) (rI p l i a hb _ _ (by omega) h).ok)
def dP(l:List Int)(pc:Int):List Int:=(l++[pc]).drop (l.length-1)
def cO(p:Pg)(n:Int):Int:=min n (p.is.length:Int)
def reG(p:Pg)(l:List En):Nat->Nat->List Int->Option (List Int)
 |_,0,st=>some st
 |k,j+1,st=>if(enI p l k).kind=8 then(if 4<=st.length then none else reG p l (k+1) j (st++[(l.getD k default).pc+1]))
  else if(enI p l k).kind=9 then(if st.length=0 then none else reG p l (k+1) j (st.take (st.length-1))) else reG p l (k+1) j st
def reV(p:Pg)(st:List Int)(l:List En)(i:Int):Option (List Int):=reG p l 0 (cl0 i l.length) st
def reS(p:Pg)(l:List En)(i:Int)(L:List Int)(N:Nat)(g:Nat->Nat->AV)(k:Nat):Sm:=⟨[(4,pgP p),(2,enR l),(3,.int .i64 i),(10,.own 0 0 1 0 L.length),(11,.int .i64 k),(8,.nils),(9,.bool false)],[(0,⟨0,false,3,.rows 1 N g⟩)],1⟩
def nS:Sm:=⟨[(8,.nils),(9,.bool false)],[],0⟩
theorem rk(l:List Int):(if(((0+l.length+1:Nat)):Int)-2<0 then 0 else((0+l.length+1:Nat):Int)-2)=((l.length-1:Nat):Int):=by split<;>omega
theorem lO(l:List Int):Int.toNat (if(((0+l.length+1:Nat)):Int)-2<0 then 0 else((0+l.length+1:Nat):Int)-2)=l.length-1:=by rw[rk,aK]
theorem pd(l:List Int)(pc:Int):(dP l pc).length=l.length+1-(l.length-1):=by unfold dP;rw[List.length_drop,aJ];rfl
theorem jv{l:List Int}{x:Int}{g:Nat->Nat->AV}(hg:g 0 0= .int .i64 x)(i:Nat)(hi:i<l.length+1)(a:AV)(ha:i<l.length->a= .int .i64 (l.getD i 0)):(bif Nat.blt i l.length then a else g (i-l.length) 0)= .int .i64 ((l++[x]).getD i 0):=by
 refine dV (fun h=> ?_) (fun h=> ?_)
 ·rw[ha h]
  simp[List.getD,bh h]
 ·obtain rfl:i=l.length:=by omega
  rw[bR,hg]
  simp[List.getD]
theorem sX(l:List Int)(n i:Nat):(l.drop n).getD i 0=l.getD (i+n) 0:=by
 rw[aq,aq,dh,iP]
theorem uD(l:List Int)(pc:Int){g:Nat->Nat->AV}(hg:g 0 0= .int .i64 pc){E:Nat}(hE:E=l.length-1){i:Nat}(hi:i+E<l.length+1):(bif Nat.blt (i+E) (0+l.length) then(bif Nat.blt (i+E) 0 then AV.junk else .int .i64 (l.getD (i+E-0) 0)) else g (i+E-(0+l.length)) 0)= .int .i64 ((dP l pc).getD i 0):=by
 subst hE
 unfold dP
 rw[sX,a7]
 exact jv hg _ hi _ fun _=>rfl
theorem xi(l:List Int)(pc:Int)(hb:l.length<1000000):Vc (vF_ 64 [lR l, aI pc] [] [] (lR (dP l pc)) []):=al (cj (ap 0 l.length 8) (cj (ap (0+l.length) 1 8) (cj (i6 ((↑((0:Nat)+l.length+1):Int)-2)) (cj (show((0:Int)<=if(↑((0:Nat)+l.length+1):Int)-2<0 then(0:Int) else(↑((0:Nat)+l.length+1):Int)-2)∧(if(↑((0:Nat)+l.length+1):Int)-2<0 then(0:Int) else(↑((0:Nat)+l.length+1):Int)-2)<(↑((0:Nat)+l.length+1):Int)∧(↑((0:Nat)+l.length+1):Int)<=(↑((0:Nat)+l.length+1):Int) from by rw[rk];omega) (cj (show(0:Nat)+l.length+1-Int.toNat (if(↑((0:Nat)+l.length+1):Int)-2<0 then(0:Int) else(↑((0:Nat)+l.length+1):Int)-2)=(dP l pc).length from by rw[lO,pd,a7]) (cj (show ∀(i:Nat),i<0+l.length+1-Int.toNat (if(↑((0:Nat)+l.length+1):Int)-2<0 then(0:Int) else(↑((0:Nat)+l.length+1):Int)-2)-> ∀(j:Nat),j<1->(bif Nat.blt (i+((0:Nat)+Int.toNat (if(↑((0:Nat)+l.length+1):Int)-2<0 then(0:Int) else(↑((0:Nat)+l.length+1):Int)-2))) ((0:Nat)+l.length) then aI (l.getD (i+((0:Nat)+Int.toNat (if(↑((0:Nat)+l.length+1):Int)-2<0 then(0:Int) else(↑((0:Nat)+l.length+1):Int)-2))-0) (0:Int)) else List.getD [aI pc] ((i+((0:Nat)+Int.toNat (if(↑((0:Nat)+l.length+1):Int)-2<0 then(0:Int) else(↑((0:Nat)+l.length+1):Int)-2))-((0:Nat)+l.length)+0)*1+j) AV.junk)=aI (List.getD (dP l pc) i 0) from(fun i hi j hj=>by obtain rfl:j=0:=(by omega);exact uD l pc (g:=fun a b=>[AV.int .i64 pc].getD ((a+0)*1+b) .junk) rfl (by rw[lO,a7]) (by rw[lO] at hi ⊢;omega))) trivial))))))
theorem ql(l:List Int)(pc:Int)(hb:l.length<1000000):pC_ 64 [lR l,.int .i64 pc] (lR (dP l pc)) []:=PureC.vc (xi l pc hb)
theorem wl(p:Pg)(l:List En)(i:Int){Z:Prop}(z:Z):(RF p.ms.length (RR p.ms.length 3 (fun i j=>an mmC p.ms i j) (RF p.ls.length (RR p.ls.length 2 (fun i j=>an lbC p.ls i j) (RF p.is.length (RR p.is.length 9 (fun i j=>an inC p.is i j) (RF l.length (RR l.length 8 (fun i j=>an enC l i j) (RF i Z))))))))):=⟨rfl,fun _ _ _ _=>rfl,rfl,fun _ _ _ _=>rfl,rfl,fun _ _ _ _=>rfl,rfl,fun _ _ _ _=>rfl,rfl,z⟩
theorem wk(p:Pg)(N:Nat)(g:Nat->Nat->AV){Z:Prop}(z:Z):(RF N (RR N 1 (fun i j=>g i j) (RF p.W (RF p.win (RF p.fuel (RF p.r0 (RF p.r1 (RF p.r2 (RF p.r3 Z))))))))):=⟨rfl,fun _ _ _ _=>rfl,rfl,rfl,rfl,rfl,rfl,rfl,rfl,z⟩
theorem tp(p:Pg)(l:List En)(k:Nat){Z:Prop}(z:Z):(RF p.ls.length (RR p.ls.length 2 (fun i j=>an lbC p.ls i j) (RF p.is.length (RR p.is.length 9 (fun i j=>an inC p.is i j) (RF ((l.getD k default).pc) Z))))):=⟨rfl,fun _ _ _ _=>rfl,rfl,fun _ _ _ _=>rfl,rfl,z⟩
theorem rZ(p:Pg){Z:Prop}(z:Z):(RF p.W (RF p.win (RF p.fuel (RF p.r0 (RF p.r1 (RF p.r2 (RF p.r3 (RF p.ms.length (RR p.ms.length 3 (fun i j=>an mmC p.ms i j) Z))))))))):=⟨rfl,rfl,rfl,rfl,rfl,rfl,rfl,rfl,fun _ _ _ _=>rfl,z⟩
abbrev uR(p:Pg)(l:List En)(k:Nat):Orc:= .cl [.agg (pgA p), aI (l.getD k default).pc] (.agg (inA (enI p l k))) []
theorem DZ(p:Pg)(l:List En)(i:Int)(L:List Int)(N:Nat)(g:Nat->Nat->AV)(k:Nat)(hk:(k:Int)<i)(hl:k<l.length)(hb:l.length<1000000)(hL:L.length<=1000000)(hLN:L.length<=N)(h8: ¬(enI p l k).kind=8)(h9: ¬(enI p l k).kind=9):Vc (vC_ 63 0 (reS p l i L N g k) [.bd true,.bd true,uR p l k,.bd false,.bd false] .nrm [(0,0)] (reS p l i L N g (k+1))):=al (cj (dt ((k:Int)<i)) (cj (dt ((k:Int)<l.length)) (cj (bi k l.length) (rZ p (tp p l k (cj (bw p (l.getD k default).pc) (cj (aa.2 h8) (cj (aa.2 h9) (cj (i6 (k+1)) (wk p N g (wl p l i (cj (rf (0:Nat)) (cj (rf L.length) (cj (rf ((k:Int)+1)) (cj (rf false) trivial)))))))))))))))
theorem D4(p:Pg)(l:List En)(i:Int)(L:List Int)(N:Nat)(g:Nat->Nat->AV)(k:Nat)(hk:(k:Int)<i)(hl:k<l.length)(hb:l.length<1000000)(hL:L.length<=1000000)(hLN:L.length<=N)(h8:(enI p l k).kind=8)(h4:4<=L.length):Vc (vC_ 63 0 (reS p l i L N g k) [.bd true,.bd true,uR p l k,.bd true,.bd true] .ret [] nS):=al (cj (dt ((k:Int)<i)) (cj (dt ((k:Int)<l.length)) (cj (bi k l.length) (rZ p (tp p l k (cj (bw p (l.getD k default).pc) (cj (ay.2 h8) (cj (dt ((L.length:Int)>=4)) (cj (rf false) trivial)))))))))
theorem D5(p:Pg)(l:List En)(i:Int)(L:List Int)(N:Nat)(g:Nat->Nat->AV)(k:Nat)(hk:(k:Int)<i)(hl:k<l.length)(hb:l.length<1000000)(hL:L.length<=1000000)(hLN:L.length<=N)(h8:(enI p l k).kind=8)(h4: ¬4<=L.length)(hp: -1<=(l.getD k default).pc∧(l.getD k default).pc<=1000000):Vc (vC_ 63 0 (reS p l i L N g k) [.bd true,.bd true,uR p l k,.bd true,.bd false,.sh] .nrm [(0,0)] (reS p l i (L++[(l.getD k default).pc+1]) (L.length+1) (fun a b=>bif Nat.blt a L.length then g a b else[AV.int .i64 ((l.getD k default).pc+1)].getD ((a-L.length)*1+b) .junk) (k+1))):=al (cj (dt ((k:Int)<i)) (cj (dt ((k:Int)<l.length)) (cj (bi k l.length) (rZ p (tp p l k (cj (bw p (l.getD k default).pc) (cj (ay.2 h8) (cj (df ((L.length:Int)>=4)) (cj (bi k l.length) (cj (i6 ((l.getD k default).pc+1)) (cj (ap L.length 1 8) (cj (i6 (k+1)) (cj (rf (L.length+1)) (cj (rr (L.length+1) 1 fun i j=>bif Nat.blt i L.length then g i j else List.getD [aI ((l.getD k default).pc+1)] ((i-L.length)*1+j) AV.junk) (rZ p (cj (rf p.ls.length) (cj (rr p.ls.length 2 fun i j=>an lbC p.ls i j) (cj (rf p.is.length) (cj (rr p.is.length 9 fun i j=>an inC p.is i j) (cj (rf l.length) (cj (rr l.length 8 fun i j=>an enC l i j) (cj (rf i) (cj (rf (0:Nat)) (cj (pv (L.length+1=(L++[(l.getD k default).pc+1]).length)) (cj (rf ((k:Int)+1)) (cj (rf false) trivial))))))))))))))))))))))))))
theorem D2(p:Pg)(l:List En)(i:Int)(L:List Int)(N:Nat)(g:Nat->Nat->AV)(k:Nat)(hk:(k:Int)<i)(hl:k<l.length)(hb:l.length<1000000)(hL:L.length<=1000000)(hLN:L.length<=N)(h8: ¬(enI p l k).kind=8)(h9:(enI p l k).kind=9)(h4:L.length=0):Vc (vC_ 63 0 (reS p l i L N g k) [.bd true,.bd true,uR p l k,.bd false,.bd true,.bd true] .ret [] nS):=al (cj (dt ((k:Int)<i)) (cj (dt ((k:Int)<l.length)) (cj (bi k l.length) (rZ p (tp p l k (cj (bw p (l.getD k default).pc) (cj (aa.2 h8) (cj (ay.2 h9) (cj (e1 L.length 0) (cj (rf false) trivial))))))))))
theorem D3(p:Pg)(l:List En)(i:Int)(L:List Int)(N:Nat)(g:Nat->Nat->AV)(k:Nat)(hk:(k:Int)<i)(hl:k<l.length)(hb:l.length<1000000)(hL:L.length<=1000000)(hLN:L.length<=N)(h8: ¬(enI p l k).kind=8)(h9:(enI p l k).kind=9)(h4: ¬L.length=0):Vc (vC_ 63 0 (reS p l i L N g k) [.bd true,.bd true,uR p l k,.bd false,.bd true,.bd false] .nrm [(0,0)] (reS p l i (L.take (L.length-1)) N g (k+1))):=al (cj (dt ((k:Int)<i)) (cj (dt ((k:Int)<l.length)) (cj (bi k l.length) (rZ p (tp p l k (cj (bw p (l.getD k default).pc) (cj (aa.2 h8) (cj (ay.2 h9) (cj (e0 L.length 0) (cj (i6 (L.length-1)) (cj (pv ((0:Int)<=L.length-1∧(L.length:Int)-1<=L.length)) (cj (i6 (k+1)) (wk p N g (wl p l i (cj (rf (0:Nat)) (cj (pv (Int.toNat ((L.length:Int)-1)=(List.take (L.length-1) L).length)) (cj (rf ((k:Int)+1)) (cj (rf false) trivial))))))))))))))))))
theorem CC(L:List Int)(k:Nat){Z:Prop}(z:Z):(RF (0:Nat) (RF L.length (RF (k:Int) (RF false Z)))):=⟨rfl,rfl,rfl,rfl,z⟩
theorem D1(p:Pg)(l:List En)(i:Int)(L:List Int)(N:Nat)(g:Nat->Nat->AV)(k:Nat)(hk: ¬(k:Int)<i):Vc (vC_ 63 0 (reS p l i L N g k) [.bd false] (.ext 0) [(0,0)] (reS p l i L N g k)):=al (cj (df ((k:Int)<i)) (wk p N g (wl p l i (CC L k trivial))))
theorem Gt(p:Pg)(l:List En)(i:Int)(L:List Int)(N:Nat)(g:Nat->Nat->AV)(k:Nat)(hk:(k:Int)<i)(hl: ¬k<l.length):Vc (vC_ 63 0 (reS p l i L N g k) [.bd true,.bd false] (.ext 0) [(0,0)] (reS p l i L N g k)):=al (cj (dt ((k:Int)<i)) (cj (df ((k:Int)<l.length)) (wk p N g (wl p l i (CC L k trivial)))))
def gOk(L:List Int)(N:Nat)(g:Nat->Nat->AV):Prop:=L.length<=N∧ ∀a,a<L.length->g a 0= .int .i64 (L.getD a 0)
theorem pz{L:List Int}{N:Nat}{g:Nat->Nat->AV}(h:gOk L N g)(x:Int):gOk (L++[x]) (L.length+1) (fun a b=>bif Nat.blt a L.length then g a b else[AV.int .i64 x].getD ((a-L.length)*1+b) .junk):=by
 refine⟨by simp,fun a ha=> ?_⟩
 rw[aJ] at ha
 exact jv (g:=fun a b=>[AV.int .i64 x].getD (a*1+b) .junk) rfl a ha _ (h.2 a)
theorem py{L:List Int}{N:Nat}{g:Nat->Nat->AV}(h:gOk L N g)(n:Nat):gOk (L.take n) N g:=by
 refine⟨by have:=h.1;rw[aT];omega,fun a ha=> ?_⟩
 rw[aT] at ha
 rw[h.2 a (by omega),aq,aq,bg,ai (by omega)]
theorem y0{l:List En}(h: ∀e∈l, -1<=e.pc∧e.pc<=1000000){k:Nat}(hk:k<l.length): -1<=(l.getD k default).pc∧(l.getD k default).pc<=1000000:=h _ (by simp[List.getD,hk])
theorem lh(p:Pg)(l:List En)(i:Int)(hb:l.length<1000000)(hpc: ∀e∈l, -1<=e.pc∧e.pc<=1000000): ∀j k L N g,k+j=cl0 i l.length->gOk L N g->L.length+j<=1000000->reG p l k j L=none->OkL Try.prog (dG Try.prog 63) (lpC Try.prog 63 0) (reS p l i L N g k).st .ret (nS).st
 |0,k,L,N,g,_,_,_,h=>by cases h
 |j+1,k,L,N,g,hk,hg,hL,h=>by
  have hl:=oy (i:=i) (n:=l.length) (k:=k) (by omega)
  unfold reG at h
  by_cases h8:(enI p l k).kind=8
  ·rw[ai h8] at h
   by_cases h4:4<=L.length
   ·exact OkL.exit (Ok.vc (D4 p l i L N g k hl.1 hl.2 hb (by omega) hg.1 h8 h4)) (by simp)
   ·rw[af h4] at h
    exact OkL.step (Ok.vc (D5 p l i L N g k hl.1 hl.2 hb (by omega) hg.1 h8 h4 (y0 hpc hl.2))) (lh p l i hb hpc j (k+1) _ _ _ (by omega) (pz hg _) (by rw[aJ,bO];omega) h)
  ·rw[af h8] at h
   by_cases h9:(enI p l k).kind=9
   ·rw[ai h9] at h
    by_cases h4:L.length=0
    ·exact OkL.exit (Ok.vc (D2 p l i L N g k hl.1 hl.2 hb (by omega) hg.1 h8 h9 h4)) (by simp)
    ·rw[af h4] at h
     exact OkL.step (Ok.vc (D3 p l i L N g k hl.1 hl.2 hb (by omega) hg.1 h8 h9 h4)) (lh p l i hb hpc j (k+1) _ _ _ (by omega) (py hg _) (by rw[aT];omega) h)
   ·rw[af h9] at h
    exact OkL.step (Ok.vc (DZ p l i L N g k hl.1 hl.2 hb (by omega) hg.1 h8 h9)) (lh p l i hb hpc j (k+1) _ _ _ (by omega) hg (by omega) h)
theorem jy(p:Pg)(l:List En)(i:Int)(L':List Int)(hb:l.length<1000000)(hpc: ∀e∈l, -1<=e.pc∧e.pc<=1000000): ∀j k L N g,k+j=cl0 i l.length->gOk L N g->L.length+j<=1000000->reG p l k j L=some L'-> ∃N' g',gOk L' N' g'∧L'.length<=1000000∧OkL Try.prog (dG Try.prog 63) (lpC Try.prog 63 0) (reS p l i L N g k).st (.ext 0) (reS p l i L' N' g' (cl0 i l.length)).st
 |0,k,L,N,g,hk,hg,hL,h=>by
  obtain rfl:L=L':=Option.some.inj h
  obtain rfl:k=cl0 i l.length:=by omega
  refine⟨N,g,hg,by omega, ?_⟩
  rcases rO i l.length with h1 |h1
  ·exact OkL.exit (Ok.vc (D1 p l i _ N g _ h1)) (by simp)
  ·by_cases h2:((cl0 i l.length:Nat):Int)<i
   ·exact OkL.exit (Ok.vc (Gt p l i _ N g _ h2 h1)) (by simp)
   ·exact OkL.exit (Ok.vc (D1 p l i _ N g _ h2)) (by simp)
 |j+1,k,L,N,g,hk,hg,hL,h=>by
  have hl:=oy (i:=i) (n:=l.length) (k:=k) (by omega)
  unfold reG at h
  by_cases h8:(enI p l k).kind=8
  ·rw[ai h8] at h
   by_cases h4:4<=L.length
   ·rw[ai h4] at h;cases h
   ·rw[af h4] at h
    obtain⟨N',g',q1,q2,q3⟩:=jy p l i L' hb hpc j (k+1) _ _ _ (by omega) (pz hg _) (by rw[aJ,bO];omega) h
    exact⟨N',g',q1,q2,OkL.step (Ok.vc (D5 p l i L N g k hl.1 hl.2 hb (by omega) hg.1 h8 h4 (y0 hpc hl.2))) q3⟩
  ·rw[af h8] at h
   by_cases h9:(enI p l k).kind=9
   ·rw[ai h9] at h
    by_cases h4:L.length=0
    ·rw[ai h4] at h;cases h
    ·rw[af h4] at h
     obtain⟨N',g',q1,q2,q3⟩:=jy p l i L' hb hpc j (k+1) _ _ _ (by omega) (py hg _) (by rw[aT];omega) h
     exact⟨N',g',q1,q2,OkL.step (Ok.vc (D3 p l i L N g k hl.1 hl.2 hb (by omega) hg.1 h8 h9 h4)) q3⟩
   ·rw[af h9] at h
    obtain⟨N',g',q1,q2,q3⟩:=jy p l i L' hb hpc j (k+1) _ _ _ (by omega) hg (by omega) h
    exact⟨N',g',q1,q2,OkL.step (Ok.vc (DZ p l i L N g k hl.1 hl.2 hb (by omega) hg.1 h8 h9)) q3⟩
theorem CB(p:Pg)(l:List En)(i:Int){Z:Prop}(z:Z):(RR p.ms.length 3 (fun i j=>an mmC p.ms i j) (RF p.ls.length (RR p.ls.length 2 (fun i j=>an lbC p.ls i j) (RF p.is.length (RR p.is.length 9 (fun i j=>an inC p.is i j) (RF l.length (RR l.length 8 (fun i j=>an enC l i j) (RF i (RF (0:Nat) Z))))))))):=⟨fun _ _ _ _=>rfl,rfl,fun _ _ _ _=>rfl,rfl,fun _ _ _ _=>rfl,rfl,fun _ _ _ _=>rfl,rfl,rfl,z⟩
theorem CA(p:Pg)(st:List Int){Z:Prop}(z:Z):(RR (0+st.length) 1 (fun i j=>aI (st.getD i 0)) (RF p.W (RF p.win (RF p.fuel (RF p.r0 (RF p.r1 (RF p.r2 (RF p.r3 (RF p.ms.length Z))))))))):=⟨fun _ _ _ _=>rfl,rfl,rfl,rfl,rfl,rfl,rfl,rfl,rfl,z⟩
theorem AO(p:Pg)(st:List Int)(l:List En)(i:Int)(hst:st.length<=1000000)(h:oL_ 63 0 (reS p l i st st.length (dB st) 0).st .ret (nS).st):Vc (vF_ 63 [.agg (pgA p),lR st,enR l, aI i] [.fz,.lp [(0,1)] (reS p l i st st.length (dB st) 0) .ret nS] [] (.tup [.nils,.bool false]) []):=al (cj (ap 0 st.length 8) (cj (za st.length) (CA p st (CB p l i (cj (za st.length) (cj (rf (0:Int)) (cj (rf false) (cj h (cj (rf false) trivial)))))))))
theorem AM(p:Pg)(st:List Int)(l:List En)(i:Int)(L:List Int)(N:Nat)(g:Nat->Nat->AV)(n:Nat)(hst:st.length<=1000000)(hg: ∀a,a<L.length->g a 0= aI (L.getD a 0))(h:oL_ 63 0 (reS p l i st st.length (dB st) 0).st (.ext 0) (reS p l i L N g n).st):Vc (vF_ 63 [.agg (pgA p),lR st,enR l, aI i] [.fz,.lp [(0,1)] (reS p l i st st.length (dB st) 0) (.ext 0) (reS p l i L N g n)] [] (.tup [lR L,.bool true]) []):=al (cj (ap 0 st.length 8) (cj (za st.length) (CA p st (CB p l i (cj (za st.length) (cj (rf (0:Int)) (cj (rf false) (cj h (cj (rf L.length) (cj (show ∀(i:Nat),i<L.length-> ∀(j:Nat),j<1->g (i+0) j=aI (L.getD i 0) from(fun i hi j hj=>by obtain rfl:j=0:=(by omega);exact hg i hi)) (cj (rf true) trivial)))))))))))
theorem uu(p:Pg)(st:List Int)(l:List En)(i:Int)(L:List Int)(hb:l.length<900000)(hst:st.length<=1000)(hpc: ∀e∈l, -1<=e.pc∧e.pc<=1000000)(h:reV p st l i=some L):pC_ 63 [.agg (pgA p),lR st,enR l,.int .i64 i] (.tup [lR L,.bool true]) []:=by
 have hle:=jf i l.length
 obtain⟨N',g',q1,q2,q3⟩:=jy p l i L (by omega) hpc _ 0 st st.length (dB st) (by omega) ⟨aG _,fun a _=>rfl⟩ (by omega) h
 exact PureC.vc (AM p st l i L N' g' _ (by omega) q1.2 q3.ok)
theorem o5(p:Pg)(st:List Int)(l:List En)(i:Int)(hb:l.length<900000)(hst:st.length<=1000)(hpc: ∀e∈l, -1<=e.pc∧e.pc<=1000000)(h:reV p st l i=none):pC_ 63 [.agg (pgA p),lR st,enR l,.int .i64 i] (.tup [.nils,.bool false]) []:=by
 have hle:=jf i l.length
 exact PureC.vc (AO p st l i (by omega) (lh p l i (by omega) hpc _ 0 st st.length (dB st) (by omega) ⟨aG _,fun a _=>rfl⟩ (by omega) h).ok)
theorem BA(p:Pg)(n:Int):Vc (vF_ 51 [.agg (pgA p), aI n] [.fz] [] (aI (cO p n)) []):=al (cj (show(if(↑p.is.length:Int)<n then(↑p.is.length:Int) else n)=cO p n from by unfold cO;rw[mnI]) trivial)
theorem DT(p:Pg)(n:Int):pC_ 51 [.agg (pgA p),.int .i64 n] (.int .i64 (cO p n)) []:=PureC.vc (BA p n)
def cfA(c:Cf):List AV:=s8R c.s++[enR c.b,lR c.r,.int .i64 c.e]
def Cf0:Cf:=⟨⟨0,0,0,0,[],[],0⟩,[],[],0⟩
def gsV(p:Pg)(c:Cf):Int:=
 if c.e≠0∨c.s.pc= -1∨p.win<=(c.b.length:Int) then 0
 else if(atI p c.s.pc).kind=5 then 2 else if(atI p c.s.pc).kind=7 then(p.is.length:Int)+1 else if(atI p c.s.pc).kind=9∧c.r.length=0 then(p.is.length:Int)+1 else 1
def S8.go(s:S8)(pc:Int):S8:={s with pc:=pc}
def bq(l:List Int):Int:=l.getD ((l.length:Int)-1).toNat 0
def ftB(p:Pg)(c:Cf):Bool:=match reV p c.s.st c.b c.b.length with
 |none=>true
 |some L=>decide (4<=L.length)
def ftE(p:Pg)(c:Cf)(g:Int):En:=
 if(atI p c.s.pc).kind=5 then⟨c.s.pc,0,0, -1,if g=1 then(atI p c.s.pc).tg else c.s.pc+1,false,false,false⟩
 else if(atI p c.s.pc).kind=6 then⟨c.s.pc,0,0, -1,(atI p c.s.pc).tg,true,false,false⟩
 else if(atI p c.s.pc).kind=7 then⟨c.s.pc,0,0, -1,g,false,false,false⟩
 else if(atI p c.s.pc).kind=9 then⟨c.s.pc,0,0, -1,if c.r.length=0 then g else bq c.r,false,false,false⟩
 else if(atI p c.s.pc).kind=8 then⟨c.s.pc,0,0, -1,(atI p c.s.pc).tg,true,false,ftB p c⟩
 else if(atI p c.s.pc).kind=11∨(atI p c.s.pc).kind=12 then⟨c.s.pc,0,0, -1, -1,true,false,false⟩
 else⟨c.s.pc,0,0, -1,c.s.pc+1,false,false,false⟩
def ftR(p:Pg)(c:Cf):List Int:=if(atI p c.s.pc).kind=9 then c.r.take ((c.r.length:Int)-1).toNat else if(atI p c.s.pc).kind=8 then dP c.r (c.s.pc+1) else c.r
def ftD(p:Pg)(c:Cf)(g:Int):Cf:=⟨c.s.go (ftE p c g).nxt,c.b++[ftE p c g],ftR p c,c.e⟩
def ocA(o:Option Cf):List AV:=match o with
 |some c=>[.agg (cfA c),.bool true]
 |none=>[.agg (cfA Cf0),.bool false]
theorem Ds(l:List En)(e:En){g:Nat->Nat->AV}(hg: ∀j,j<8->g 0 j=enC e j): ∀i,i<l.length+1-> ∀j,j<8->(bif Nat.blt i l.length then an enC l i j else g (i-l.length) j)=an enC (l++[e]) i j:=fun i hi j hj=>
 dV (fun h=>(co h).symm) (fun h=>by
  obtain rfl:i=l.length:=by omega
  rw[ct,bR,hg j hj])
theorem kg(l:List Int)(n i:Nat)(h:i<n):(l.take n).getD i 0=l.getD i 0:=by
 rw[aq,aq,bg,ai h]
theorem oB(b:List En)(e:En)(L:List AV)(h: ∀j,j<8->L.getD j .junk=enC e j): ∀i,i<0+b.length+1-> ∀j,j<8->(bif Nat.blt (i+0) (0+b.length) then bif Nat.blt (i+0) 0 then AV.junk else an enC b (i+0-0) j else L.getD ((i+0-(0+b.length)+0)*8+j) .junk)=an enC (b++[e]) i j:=by
 intro i hi j hj
 simp only[a7,cz,fC] at hi ⊢
 exact Ds b e (g:=fun a j=>L.getD (a*8+j) .junk) (fun j hj=>by simp only[Nat.zero_mul,a7];exact h j hj) i hi j hj
theorem G2(p:Pg)(c:Cf)(hl:p.is.length<1000)(hb:c.b.length<1000000)(h0: ¬c.e=0):Vc (vF_ 42 [.agg (pgA p),.agg (cfA c)] [.fv,.fv,.bd true] [] (aI 0) []):=al (cj (bU.2 h0) (cj (rf (0:Int)) trivial))
theorem G0(p:Pg)(c:Cf)(hl:p.is.length<1000)(hb:c.b.length<1000000)(h0:c.e=0)(h1:c.s.pc= -1):Vc (vF_ 42 [.agg (pgA p),.agg (cfA c)] [.fv,.fv,.bd false,.bd true] [] (aI 0) []):=al (cj (aw.2 h0) (cj (ay.2 h1) (cj (rf (0:Int)) trivial)))
theorem GZ(p:Pg)(c:Cf)(hl:p.is.length<1000)(hb:c.b.length<1000000)(h0:c.e=0)(h1: ¬c.s.pc= -1)(hw:p.win<=(c.b.length:Int)):Vc (vF_ 42 [.agg (pgA p),.agg (cfA c)] [.fv,.fv,.bd false,.bd false,.bd true] [] (aI 0) []):=al (cj (aw.2 h0) (cj (aa.2 h1) (cj (dt ((↑c.b.length:Int)>=p.win)) (cj (rf (0:Int)) trivial))))
theorem gJ(p:Pg)(c:Cf){Z:Prop}(z:Z):(RF p.ls.length (RR p.ls.length 2 (fun i j=>an lbC p.ls i j) (RF p.is.length (RR p.is.length 9 (fun i j=>an inC p.is i j) (RF c.s.pc Z))))):=⟨rfl,fun _ _ _ _=>rfl,rfl,fun _ _ _ _=>rfl,rfl,z⟩
theorem dJ(p:Pg){Z:Prop}(z:Z):(RF p.W (RF p.win (RF p.fuel (RF p.r0 (RF p.r1 (RF p.r2 (RF p.r3 (RF p.ms.length (RR p.ms.length 3 (fun i j=>an mmC p.ms i j) Z))))))))):=⟨rfl,rfl,rfl,rfl,rfl,rfl,rfl,rfl,fun _ _ _ _=>rfl,z⟩
abbrev g9(p:Pg)(c:Cf):Orc:= .cl [.agg (pgA p), aI c.s.pc] (.agg (inA (atI p c.s.pc))) []
theorem G5(p:Pg)(c:Cf)(hl:p.is.length<1000)(hb:c.b.length<1000000)(h0:c.e=0)(h1: ¬c.s.pc= -1)(hw: ¬p.win<=(c.b.length:Int))(k5:(atI p c.s.pc).kind=5):Vc (vF_ 42 [.agg (pgA p),.agg (cfA c)] [.fv,.fv,.bd false,.bd false,.bd false,g9 p c,.bd true] [] (aI 2) []):=al (cj (aw.2 h0) (cj (aa.2 h1) (cj (df ((↑c.b.length:Int)>=p.win)) (dJ p (gJ p c (cj (bw p c.s.pc) (cj (ay.2 k5) (cj (rf (2:Int)) trivial))))))))
theorem G4(p:Pg)(c:Cf)(hl:p.is.length<1000)(hb:c.b.length<1000000)(h0:c.e=0)(h1: ¬c.s.pc= -1)(hw: ¬p.win<=(c.b.length:Int))(k5: ¬(atI p c.s.pc).kind=5)(k7:(atI p c.s.pc).kind=7):Vc (vF_ 42 [.agg (pgA p),.agg (cfA c)] [.fv,.fv,.bd false,.bd false,.bd false,g9 p c,.bd false,.bd true] [] (aI (p.is.length+1)) []):=al (cj (aw.2 h0) (cj (aa.2 h1) (cj (df ((↑c.b.length:Int)>=p.win)) (dJ p (gJ p c (cj (bw p c.s.pc) (cj (aa.2 k5) (cj (ay.2 k7) (cj (i6 (p.is.length+1)) (cj (rf ((↑p.is.length:Int)+1)) trivial))))))))))
theorem G3(p:Pg)(c:Cf)(hl:p.is.length<1000)(hb:c.b.length<1000000)(h0:c.e=0)(h1: ¬c.s.pc= -1)(hw: ¬p.win<=(c.b.length:Int))(k5: ¬(atI p c.s.pc).kind=5)(k7: ¬(atI p c.s.pc).kind=7)(k9:(atI p c.s.pc).kind=9)(hr:c.r.length=0):Vc (vF_ 42 [.agg (pgA p),.agg (cfA c)] [.fv,.fv,.bd false,.bd false,.bd false,g9 p c,.bd false,.bd false,.bd true,.bd true] [] (aI (p.is.length+1)) []):=al (cj (aw.2 h0) (cj (aa.2 h1) (cj (df ((↑c.b.length:Int)>=p.win)) (dJ p (gJ p c (cj (bw p c.s.pc) (cj (aa.2 k5) (cj (aa.2 k7) (cj (ay.2 k9) (cj (e1 c.r.length 0) (cj (i6 (p.is.length+1)) (cj (rf ((↑p.is.length:Int)+1)) trivial))))))))))))
theorem E4(p:Pg)(c:Cf)(hl:p.is.length<1000)(hb:c.b.length<1000000)(h0:c.e=0)(h1: ¬c.s.pc= -1)(hw: ¬p.win<=(c.b.length:Int))(k5: ¬(atI p c.s.pc).kind=5)(k7: ¬(atI p c.s.pc).kind=7)(k9:(atI p c.s.pc).kind=9)(hr: ¬c.r.length=0):Vc (vF_ 42 [.agg (pgA p),.agg (cfA c)] [.fv,.fv,.bd false,.bd false,.bd false,g9 p c,.bd false,.bd false,.bd true,.bd false] [] (aI 1) []):=al (cj (aw.2 h0) (cj (aa.2 h1) (cj (df ((↑c.b.length:Int)>=p.win)) (dJ p (gJ p c (cj (bw p c.s.pc) (cj (aa.2 k5) (cj (aa.2 k7) (cj (ay.2 k9) (cj (e0 c.r.length 0) (cj (rf (1:Int)) trivial)))))))))))
theorem G1(p:Pg)(c:Cf)(hl:p.is.length<1000)(hb:c.b.length<1000000)(h0:c.e=0)(h1: ¬c.s.pc= -1)(hw: ¬p.win<=(c.b.length:Int))(k5: ¬(atI p c.s.pc).kind=5)(k7: ¬(atI p c.s.pc).kind=7)(k9: ¬(atI p c.s.pc).kind=9):Vc (vF_ 42 [.agg (pgA p),.agg (cfA c)] [.fv,.fv,.bd false,.bd false,.bd false,g9 p c,.bd false,.bd false,.bd false] [] (aI 1) []):=al (cj (aw.2 h0) (cj (aa.2 h1) (cj (df ((↑c.b.length:Int)>=p.win)) (dJ p (gJ p c (cj (bw p c.s.pc) (cj (aa.2 k5) (cj (aa.2 k7) (cj (aa.2 k9) (cj (rf (1:Int)) trivial))))))))))
theorem jw(p:Pg)(c:Cf)(hl:p.is.length<1000)(hb:c.b.length<1000000):pC_ 42 [.agg (pgA p),.agg (cfA c)] (.int .i64 (gsV p c)) []:=by
 unfold gsV
 by_cases h0:c.e=0
 ·by_cases h1:c.s.pc= -1
  ·rw[ai (.inr (.inl h1))];exact PureC.vc (G0 p c hl hb h0 h1)
  ·by_cases hw:p.win<=(c.b.length:Int)
   ·rw[ai (.inr (.inr hw))];exact PureC.vc (GZ p c hl hb h0 h1 hw)
   ·rw[af (by rintro(h |h |h);exact h h0;exact h1 h;exact hw h)]
    by_cases k5:(atI p c.s.pc).kind=5
    ·rw[ai k5];exact PureC.vc (G5 p c hl hb h0 h1 hw k5)
    ·rw[af k5]
     by_cases k7:(atI p c.s.pc).kind=7
     ·rw[ai k7];exact PureC.vc (G4 p c hl hb h0 h1 hw k5 k7)
     ·rw[af k7]
      by_cases k9:(atI p c.s.pc).kind=9
      ·by_cases hr:c.r.length=0
       ·rw[ai ⟨k9,hr⟩];exact PureC.vc (G3 p c hl hb h0 h1 hw k5 k7 k9 hr)
       ·rw[af fun e=>hr e.2];exact PureC.vc (E4 p c hl hb h0 h1 hw k5 k7 k9 hr)
      ·rw[af fun e=>k9 e.1];exact PureC.vc (G1 p c hl hb h0 h1 hw k5 k7 k9)
 ·rw[ai (.inl h0)];exact PureC.vc (G2 p c hl hb h0)
theorem Cz{Z:Prop}(z:Z):(RF (0:Int) (RF (0:Int) (RF (0:Int) (RF (0:Int) (RF (0:Nat) (RF (0:Nat) (RF (0:Int) (RF (0:Nat) (RF (0:Nat) Z))))))))):=⟨rfl,rfl,rfl,rfl,rfl,rfl,rfl,rfl,rfl,z⟩
theorem BQ(p:Pg)(c:Cf)(g:Int)(hl:p.is.length<1000)(hb:c.b.length<1000000)(hg:g<0):Vc (vF_ 45 [.agg (pgA p),.agg (cfA c), aI g] [.fv,.bd true] [] (.tup [.agg (cfA Cf0),.bool false]) []):=al (cj (dt (g<0)) (Cz (cj (rf (0:Int)) (cj (rf false) trivial))))
theorem jS(c:Cf){Z:Prop}(z:Z):(RR c.s.m.length 1 (fun i j=>aI (List.getD c.s.m i 0)) (RF c.s.st.length (RR c.s.st.length 1 (fun i j=>aI (List.getD c.s.st i 0)) (RF c.s.pc (RF c.b.length (RR c.b.length 8 (fun i j=>an enC c.b i j) (RF c.r.length (RR c.r.length 1 (fun i j=>aI (c.r.getD i 0)) (RF c.e Z))))))))):=⟨fun _ _ _ _=>rfl,rfl,fun _ _ _ _=>rfl,rfl,rfl,fun _ _ _ _=>rfl,rfl,fun _ _ _ _=>rfl,rfl,z⟩
theorem jR(p:Pg)(c:Cf){Z:Prop}(z:Z):(RF p.ls.length (RR p.ls.length 2 (fun i j=>an lbC p.ls i j) (RF p.is.length (RR p.is.length 9 (fun i j=>an inC p.is i j) (RF c.s.r0 (RF c.s.r1 (RF c.s.r2 (RF c.s.r3 (RF c.s.m.length Z))))))))):=⟨rfl,fun _ _ _ _=>rfl,rfl,fun _ _ _ _=>rfl,rfl,rfl,rfl,rfl,rfl,z⟩
abbrev j0(p:Pg)(c:Cf):Orc:= .cl [.agg (pgA p),.agg (cfA c)] (aI (gsV p c)) []
theorem BP(p:Pg)(c:Cf)(g:Int)(hl:p.is.length<1000)(hb:c.b.length<1000000)(h0:0<=g)(hg:gsV p c<=g):Vc (vF_ 45 [.agg (pgA p),.agg (cfA c), aI g] [.fv,.bd false,j0 p c,.bd true] [] (.tup [.agg (cfA Cf0),.bool false]) []):=al (cj (df (g<0)) (dJ p (jR p c (jS c (cj (jw p c hl hb) (cj (dt (g>=gsV p c)) (Cz (cj (rf (0:Int)) (cj (rf false) trivial)))))))))
theorem oH(c:Cf){Z:Prop}(z:Z):(RF c.r.length (RR c.r.length 1 (fun i j=>aI (c.r.getD i 0)) (RF c.e (RF true Z)))):=⟨rfl,fun _ _ _ _=>rfl,rfl,rfl,z⟩
theorem tk(p:Pg)(c:Cf){Z:Prop}(z:Z):(RF c.s.r0 (RF c.s.r1 (RF c.s.r2 (RF c.s.r3 (RF c.s.m.length (RR c.s.m.length 1 (fun i j=>aI (List.getD c.s.m i 0)) (RF c.s.st.length (RR c.s.st.length 1 (fun i j=>aI (List.getD c.s.st i 0)) (RF ((atI p c.s.pc).tg) Z))))))))):=⟨rfl,rfl,rfl,rfl,rfl,fun _ _ _ _=>rfl,rfl,fun _ _ _ _=>rfl,rfl,z⟩
theorem Fa(p:Pg)(c:Cf)(g:Int)(hl:p.is.length<1000)(hb:c.b.length<1000000)(h0:0<=g)(hg: ¬gsV p c<=g)(hpc: -1<=c.s.pc∧c.s.pc<=1000)(hr:c.r.length<1000)(k5:(atI p c.s.pc).kind=5)(g1:g=1):Vc (vF_ 45 [.agg (pgA p),.agg (cfA c), aI g] [.fv,.bd false,j0 p c,.bd false,g9 p c,.bd true,.bd true] [] (.tup [.agg (cfA ⟨c.s.go (atI p c.s.pc).tg,c.b++[⟨c.s.pc,0,0, -1,(atI p c.s.pc).tg,false,false,false⟩],c.r,c.e⟩),.bool true]) []):=al (cj (df (g<0)) (dJ p (jR p c (jS c (cj (jw p c hl hb) (cj (df (g>=gsV p c)) (dJ p (gJ p c (cj (bw p c.s.pc) (cj (i6 (c.s.pc+1)) (cj (ay.2 k5) (cj (e1 g 1) (cj (ap 0 c.b.length 48) (cj (ap (0+c.b.length) 1 48) (tk p c (cj (pv ((0:Nat)+c.b.length+1=(c.b++[En.mk c.s.pc (0:Int) (0:Int) (-1:Int) (atI p c.s.pc).tg false false false]).length)) (cj (show ∀(i:Nat),i<0+c.b.length+1-> ∀(j:Nat),j<8->(bif Nat.blt (i+0) ((0:Nat)+c.b.length) then bif Nat.blt (i+0) (0:Nat) then AV.junk else an enC c.b (i+0-0) j else List.getD [aI c.s.pc,aI 0,aI 0,aI (-1:Int),aI (atI p c.s.pc).tg,AV.bool false,AV.bool false,AV.bool false] ((i+0-((0:Nat)+c.b.length)+0)*8+j) AV.junk)=an enC (c.b++[En.mk c.s.pc (0:Int) (0:Int) (-1:Int) (atI p c.s.pc).tg false false false]) i j from(oB c.b _ _ (fun j hj=>match j,hj with |0,_=>rfl |1,_=>rfl |2,_=>rfl |3,_=>rfl |4,_=>rfl |5,_=>rfl |6,_=>rfl |7,_=>rfl))) (oH c trivial))))))))))))))))))
theorem Dz(c:Cf): ∀(i:Nat),i<0+c.b.length+1-> ∀(j:Nat),j<8->(bif Nat.blt (i+0) ((0:Nat)+c.b.length) then bif Nat.blt (i+0) (0:Nat) then AV.junk else an enC c.b (i+0-0) j else List.getD [aI c.s.pc,aI 0,aI 0,aI (-1:Int),aI (c.s.pc+1),AV.bool false,AV.bool false,AV.bool false] ((i+0-((0:Nat)+c.b.length)+0)*8+j) AV.junk)=an enC (c.b++[En.mk c.s.pc (0:Int) (0:Int) (-1:Int) (c.s.pc+1) false false false]) i j:=(oB c.b _ _ (fun j hj=>match j,hj with |0,_=>rfl |1,_=>rfl |2,_=>rfl |3,_=>rfl |4,_=>rfl |5,_=>rfl |6,_=>rfl |7,_=>rfl))
theorem Cy(c:Cf){Z:Prop}(z:Z):(RF c.s.r0 (RF c.s.r1 (RF c.s.r2 (RF c.s.r3 (RF c.s.m.length (RR c.s.m.length 1 (fun i j=>aI (List.getD c.s.m i 0)) (RF c.s.st.length (RR c.s.st.length 1 (fun i j=>aI (List.getD c.s.st i 0)) (RF (c.s.pc+1) Z))))))))):=⟨rfl,rfl,rfl,rfl,rfl,fun _ _ _ _=>rfl,rfl,fun _ _ _ _=>rfl,rfl,z⟩
theorem Fb(p:Pg)(c:Cf)(g:Int)(hl:p.is.length<1000)(hb:c.b.length<1000000)(h0:0<=g)(hg: ¬gsV p c<=g)(hpc: -1<=c.s.pc∧c.s.pc<=1000)(hr:c.r.length<1000)(k5:(atI p c.s.pc).kind=5)(g1: ¬g=1):Vc (vF_ 45 [.agg (pgA p),.agg (cfA c), aI g] [.fv,.bd false,j0 p c,.bd false,g9 p c,.bd true,.bd false] [] (.tup [.agg (cfA ⟨c.s.go (c.s.pc+1),c.b++[⟨c.s.pc,0,0, -1,(c.s.pc+1),false,false,false⟩],c.r,c.e⟩),.bool true]) []):=al (cj (df (g<0)) (dJ p (jR p c (jS c (cj (jw p c hl hb) (cj (df (g>=gsV p c)) (dJ p (gJ p c (cj (bw p c.s.pc) (cj (i6 (c.s.pc+1)) (cj (ay.2 k5) (cj (e0 g 1) (cj (ap 0 c.b.length 48) (cj (ap (0+c.b.length) 1 48) (Cy c (cj (pv ((0:Nat)+c.b.length+1=(c.b++[En.mk c.s.pc (0:Int) (0:Int) (-1:Int) (c.s.pc+1) false false false]).length)) (cj (Dz c) (oH c trivial))))))))))))))))))
theorem Hb(p:Pg)(c:Cf)(g:Int)(hl:p.is.length<1000)(hb:c.b.length<1000000)(h0:0<=g)(hg: ¬gsV p c<=g)(hpc: -1<=c.s.pc∧c.s.pc<=1000)(hr:c.r.length<1000)(k5: ¬(atI p c.s.pc).kind=5)(k6:(atI p c.s.pc).kind=6):Vc (vF_ 45 [.agg (pgA p),.agg (cfA c), aI g] [.fv,.bd false,j0 p c,.bd false,g9 p c,.bd false,.bd true] [] (.tup [.agg (cfA ⟨c.s.go (atI p c.s.pc).tg,c.b++[⟨c.s.pc,0,0, -1,(atI p c.s.pc).tg,true,false,false⟩],c.r,c.e⟩),.bool true]) []):=al (cj (df (g<0)) (dJ p (jR p c (jS c (cj (jw p c hl hb) (cj (df (g>=gsV p c)) (dJ p (gJ p c (cj (bw p c.s.pc) (cj (i6 (c.s.pc+1)) (cj (aa.2 k5) (cj (ay.2 k6) (cj (ap 0 c.b.length 48) (cj (ap (0+c.b.length) 1 48) (tk p c (cj (pv ((0:Nat)+c.b.length+1=(c.b++[En.mk c.s.pc (0:Int) (0:Int) (-1:Int) (atI p c.s.pc).tg true false false]).length)) (cj (show ∀(i:Nat),i<0+c.b.length+1-> ∀(j:Nat),j<8->(bif Nat.blt (i+0) ((0:Nat)+c.b.length) then bif Nat.blt (i+0) (0:Nat) then AV.junk else an enC c.b (i+0-0) j else List.getD [aI c.s.pc,aI 0,aI 0,aI (-1:Int),aI (atI p c.s.pc).tg,AV.bool true,AV.bool false,AV.bool false] ((i+0-((0:Nat)+c.b.length)+0)*8+j) AV.junk)=an enC (c.b++[En.mk c.s.pc (0:Int) (0:Int) (-1:Int) (atI p c.s.pc).tg true false false]) i j from(oB c.b _ _ (fun j hj=>match j,hj with |0,_=>rfl |1,_=>rfl |2,_=>rfl |3,_=>rfl |4,_=>rfl |5,_=>rfl |6,_=>rfl |7,_=>rfl))) (oH c trivial))))))))))))))))))
theorem Dy(c:Cf)(g:Int): ∀(i:Nat),i<0+c.b.length+1-> ∀(j:Nat),j<8->(bif Nat.blt (i+0) ((0:Nat)+c.b.length) then bif Nat.blt (i+0) (0:Nat) then AV.junk else an enC c.b (i+0-0) j else List.getD [aI c.s.pc,aI 0,aI 0,aI (-1:Int),aI g,AV.bool false,AV.bool false,AV.bool false] ((i+0-((0:Nat)+c.b.length)+0)*8+j) AV.junk)=an enC (c.b++[En.mk c.s.pc (0:Int) (0:Int) (-1:Int) g false false false]) i j:=(oB c.b _ _ (fun j hj=>match j,hj with |0,_=>rfl |1,_=>rfl |2,_=>rfl |3,_=>rfl |4,_=>rfl |5,_=>rfl |6,_=>rfl |7,_=>rfl))
theorem Cw(c:Cf)(g:Int){Z:Prop}(z:Z):(RF c.s.r0 (RF c.s.r1 (RF c.s.r2 (RF c.s.r3 (RF c.s.m.length (RR c.s.m.length 1 (fun i j=>aI (List.getD c.s.m i 0)) (RF c.s.st.length (RR c.s.st.length 1 (fun i j=>aI (List.getD c.s.st i 0)) (RF g Z))))))))):=⟨rfl,rfl,rfl,rfl,rfl,fun _ _ _ _=>rfl,rfl,fun _ _ _ _=>rfl,rfl,z⟩
theorem Ha(p:Pg)(c:Cf)(g:Int)(hl:p.is.length<1000)(hb:c.b.length<1000000)(h0:0<=g)(hg: ¬gsV p c<=g)(hpc: -1<=c.s.pc∧c.s.pc<=1000)(hr:c.r.length<1000)(k5: ¬(atI p c.s.pc).kind=5)(k6: ¬(atI p c.s.pc).kind=6)(k7:(atI p c.s.pc).kind=7):Vc (vF_ 45 [.agg (pgA p),.agg (cfA c), aI g] [.fv,.bd false,j0 p c,.bd false,g9 p c,.bd false,.bd false,.bd true] [] (.tup [.agg (cfA ⟨c.s.go g,c.b++[⟨c.s.pc,0,0, -1,g,false,false,false⟩],c.r,c.e⟩),.bool true]) []):=al (cj (df (g<0)) (dJ p (jR p c (jS c (cj (jw p c hl hb) (cj (df (g>=gsV p c)) (dJ p (gJ p c (cj (bw p c.s.pc) (cj (i6 (c.s.pc+1)) (cj (aa.2 k5) (cj (aa.2 k6) (cj (ay.2 k7) (cj (ap 0 c.b.length 48) (cj (ap (0+c.b.length) 1 48) (Cw c g (cj (pv ((0:Nat)+c.b.length+1=(c.b++[En.mk c.s.pc (0:Int) (0:Int) (-1:Int) g false false false]).length)) (cj (Dy c g) (oH c trivial)))))))))))))))))))
theorem E6(p:Pg)(c:Cf)(g:Int)(hl:p.is.length<1000)(hb:c.b.length<1000000)(h0:0<=g)(hg: ¬gsV p c<=g)(hpc: -1<=c.s.pc∧c.s.pc<=1000)(hr:c.r.length<1000)(k5: ¬(atI p c.s.pc).kind=5)(k6: ¬(atI p c.s.pc).kind=6)(k7: ¬(atI p c.s.pc).kind=7)(k9:(atI p c.s.pc).kind=9)(hz:c.r.length=0):Vc (vF_ 45 [.agg (pgA p),.agg (cfA c), aI g] [.fv,.bd false,j0 p c,.bd false,g9 p c,.bd false,.bd false,.bd false,.bd true,.bd false] [] (.tup [.agg (cfA ⟨c.s.go g,c.b++[⟨c.s.pc,0,0, -1,g,false,false,false⟩],c.r,c.e⟩),.bool true]) []):=al (cj (df (g<0)) (dJ p (jR p c (jS c (cj (jw p c hl hb) (cj (df (g>=gsV p c)) (dJ p (gJ p c (cj (bw p c.s.pc) (cj (i6 (c.s.pc+1)) (cj (aa.2 k5) (cj (aa.2 k6) (cj (aa.2 k7) (cj (ay.2 k9) (cj (df ((↑c.r.length:Int)>0)) (cj (ap 0 c.b.length 48) (cj (ap (0+c.b.length) 1 48) (Cw c g (cj (pv ((0:Nat)+c.b.length+1=(c.b++[En.mk c.s.pc (0:Int) (0:Int) (-1:Int) g false false false]).length)) (cj (Dy c g) (oH c trivial)))))))))))))))))))))
theorem G9(p:Pg)(c:Cf)(g:Int)(hl:p.is.length<1000)(hb:c.b.length<1000000)(h0:0<=g)(hg: ¬gsV p c<=g)(hpc: -1<=c.s.pc∧c.s.pc<=1000)(hr:c.r.length<1000)(k5: ¬(atI p c.s.pc).kind=5)(k6: ¬(atI p c.s.pc).kind=6)(k7: ¬(atI p c.s.pc).kind=7)(k9:(atI p c.s.pc).kind=9)(hz: ¬c.r.length=0):Vc (vF_ 45 [.agg (pgA p),.agg (cfA c), aI g] [.fv,.bd false,j0 p c,.bd false,g9 p c,.bd false,.bd false,.bd false,.bd true,.bd true] [] (.tup [.agg (cfA ⟨c.s.go (bq c.r),c.b++[⟨c.s.pc,0,0, -1,(bq c.r),false,false,false⟩],(c.r.take ((c.r.length:Int)-1).toNat),c.e⟩),.bool true]) []):=al (cj (df (g<0)) (dJ p (jR p c (jS c (cj (jw p c hl hb) (cj (df (g>=gsV p c)) (dJ p (gJ p c (cj (bw p c.s.pc) (cj (i6 (c.s.pc+1)) (cj (aa.2 k5) (cj (aa.2 k6) (cj (aa.2 k7) (cj (ay.2 k9) (cj (dt ((↑c.r.length:Int)>0)) (cj (i6 (c.r.length-1)) (cj (bi (c.r.length-1) c.r.length) (cj (i6 (c.r.length-1)) (cj (pv ((0:Int)<=c.r.length-1∧(↑c.r.length:Int)-1<=c.r.length)) (cj (ap 0 (Int.toNat ((↑c.r.length:Int)-1)) 8) (cj (ap 0 c.b.length 48) (cj (ap (0+c.b.length) 1 48) (cj (rf c.s.r0) (cj (rf c.s.r1) (cj (rf c.s.r2) (cj (rf c.s.r3) (cj (rf c.s.m.length) (cj (rr c.s.m.length 1 fun i j=>aI (List.getD c.s.m i 0)) (cj (rf c.s.st.length) (cj (rr c.s.st.length 1 fun i j=>aI (List.getD c.s.st i 0)) (cj (rf (bq c.r)) (cj (pv ((0:Nat)+c.b.length+1=(c.b++[En.mk c.s.pc (0:Int) (0:Int) (-1:Int) (bq c.r) false false false]).length)) (cj (show ∀(i:Nat),i<0+c.b.length+1-> ∀(j:Nat),j<8->(bif Nat.blt (i+0) ((0:Nat)+c.b.length) then bif Nat.blt (i+0) (0:Nat) then AV.junk else an enC c.b (i+0-0) j else List.getD [aI c.s.pc,aI 0,aI 0,aI (-1:Int),aI (c.r.getD (Int.toNat (c.r.length-1)) 0),AV.bool false,AV.bool false,AV.bool false] ((i+0-((0:Nat)+c.b.length)+0)*8+j) AV.junk)=an enC (c.b++[En.mk c.s.pc (0:Int) (0:Int) (-1:Int) (bq c.r) false false false]) i j from(oB c.b _ _ (fun j hj=>match j,hj with |0,_=>rfl |1,_=>rfl |2,_=>rfl |3,_=>rfl |4,_=>rfl |5,_=>rfl |6,_=>rfl |7,_=>rfl))) (cj (pv ((0:Nat)+Int.toNat ((↑c.r.length:Int)-1)=(List.take (Int.toNat (c.r.length-1)) c.r).length)) (cj (show ∀(i:Nat),i<0+Int.toNat ((↑c.r.length:Int)-1)-> ∀(j:Nat),j<1->aI (c.r.getD (i+0-0) 0)=aI (List.getD (List.take (Int.toNat (c.r.length-1)) c.r) i 0) from(fun i hi j hj=>by rw[kg _ _ _ (by omega)];rfl)) (cj (rf c.e) (cj (rf true) trivial)))))))))))))))))))))))))))))))))))))
theorem zx(c:Cf){Z:Prop}(z:Z):(RF ((dP c.r (c.s.pc+1)).length) (RR ((dP c.r (c.s.pc+1)).length) 1 (fun i j=>aI (List.getD (dP c.r (c.s.pc+1)) i 0)) (RF c.e (RF true Z)))):=⟨rfl,fun _ _ _ _=>rfl,rfl,rfl,z⟩
theorem tn(c:Cf){Z:Prop}(z:Z):(RF c.r.length (RR c.r.length 1 (fun i j=>aI (c.r.getD i 0)) (RF (c.s.pc+1) Z))):=⟨rfl,fun _ _ _ _=>rfl,rfl,z⟩
theorem tm(p:Pg)(c:Cf){Z:Prop}(z:Z):(RF p.ls.length (RR p.ls.length 2 (fun i j=>an lbC p.ls i j) (RF p.is.length (RR p.is.length 9 (fun i j=>an inC p.is i j) (RF c.s.st.length (RR c.s.st.length 1 (fun i j=>aI (List.getD c.s.st i 0)) (RF c.b.length (RR c.b.length 8 (fun i j=>an enC c.b i j) (RF (↑c.b.length:Int) Z))))))))):=⟨rfl,fun _ _ _ _=>rfl,rfl,fun _ _ _ _=>rfl,rfl,fun _ _ _ _=>rfl,rfl,fun _ _ _ _=>rfl,rfl,z⟩
abbrev Be(c:Cf):Orc:= .cl [lR c.r, aI (c.s.pc+1)] (lR (dP c.r (c.s.pc+1))) []
theorem E8(p:Pg)(c:Cf)(g:Int)(hl:p.is.length<1000)(hb:c.b.length<1000000)(h0:0<=g)(hg: ¬gsV p c<=g)(hpc: -1<=c.s.pc∧c.s.pc<=1000)(hr:c.r.length<1000)(k5: ¬(atI p c.s.pc).kind=5)(k6: ¬(atI p c.s.pc).kind=6)(k7: ¬(atI p c.s.pc).kind=7)(k9: ¬(atI p c.s.pc).kind=9)(k8:(atI p c.s.pc).kind=8)(hst:c.s.st.length<=1000)(hbp: ∀e∈c.b, -1<=e.pc∧e.pc<=1000000)(hb9:c.b.length<900000)(hv:reV p c.s.st c.b c.b.length=none):Vc (vF_ 45 [.agg (pgA p),.agg (cfA c), aI g] [.fv,.bd false,j0 p c,.bd false,g9 p c,.bd false,.bd false,.bd false,.bd false,.bd true,.cl [.agg (pgA p),lR c.s.st,enR c.b, aI c.b.length] (.tup [.nils,.bool false]) [],Be c] [] (.tup [.agg (cfA ⟨c.s.go (atI p c.s.pc).tg,c.b++[⟨c.s.pc,0,0, -1,(atI p c.s.pc).tg,true,false,true⟩],(dP c.r (c.s.pc+1)),c.e⟩),.bool true]) []):=al (cj (df (g<0)) (dJ p (jR p c (jS c (cj (jw p c hl hb) (cj (df (g>=gsV p c)) (dJ p (gJ p c (cj (bw p c.s.pc) (cj (i6 (c.s.pc+1)) (cj (aa.2 k5) (cj (aa.2 k6) (cj (aa.2 k7) (cj (aa.2 k9) (cj (ay.2 k8) (dJ p (tm p c (cj (o5 p c.s.st c.b c.b.length hb9 hst hbp hv) (cj (i6 (c.s.pc+1)) (tn c (cj (ql c.r (c.s.pc+1) (by omega)) (cj (ap 0 c.b.length 48) (cj (ap (0+c.b.length) 1 48) (tk p c (cj (pv ((0:Nat)+c.b.length+1=(c.b++[En.mk c.s.pc (0:Int) (0:Int) (-1:Int) (atI p c.s.pc).tg true false true]).length)) (cj (show ∀(i:Nat),i<0+c.b.length+1-> ∀(j:Nat),j<8->(bif Nat.blt (i+0) ((0:Nat)+c.b.length) then bif Nat.blt (i+0) (0:Nat) then AV.junk else an enC c.b (i+0-0) j else List.getD [aI c.s.pc,aI 0,aI 0,aI (-1:Int),aI (atI p c.s.pc).tg,AV.bool true,AV.bool false,AV.bool true] ((i+0-((0:Nat)+c.b.length)+0)*8+j) AV.junk)=an enC (c.b++[En.mk c.s.pc (0:Int) (0:Int) (-1:Int) (atI p c.s.pc).tg true false true]) i j from(oB c.b _ _ (fun j hj=>match j,hj with |0,_=>rfl |1,_=>rfl |2,_=>rfl |3,_=>rfl |4,_=>rfl |5,_=>rfl |6,_=>rfl |7,_=>rfl))) (zx c trivial)))))))))))))))))))))))))))
theorem E9(p:Pg)(c:Cf)(g:Int)(hl:p.is.length<1000)(hb:c.b.length<1000000)(h0:0<=g)(hg: ¬gsV p c<=g)(hpc: -1<=c.s.pc∧c.s.pc<=1000)(hr:c.r.length<1000)(L:List Int)(k5: ¬(atI p c.s.pc).kind=5)(k6: ¬(atI p c.s.pc).kind=6)(k7: ¬(atI p c.s.pc).kind=7)(k9: ¬(atI p c.s.pc).kind=9)(k8:(atI p c.s.pc).kind=8)(hst:c.s.st.length<=1000)(hbp: ∀e∈c.b, -1<=e.pc∧e.pc<=1000000)(hb9:c.b.length<900000)(hv:reV p c.s.st c.b c.b.length=some L)(h4:4<=L.length):Vc (vF_ 45 [.agg (pgA p),.agg (cfA c), aI g] [.fv,.bd false,j0 p c,.bd false,g9 p c,.bd false,.bd false,.bd false,.bd false,.bd true,.cl [.agg (pgA p),lR c.s.st,enR c.b, aI c.b.length] (.tup [lR L,.bool true]) [],.bd true,Be c] [] (.tup [.agg (cfA ⟨c.s.go (atI p c.s.pc).tg,c.b++[⟨c.s.pc,0,0, -1,(atI p c.s.pc).tg,true,false,true⟩],(dP c.r (c.s.pc+1)),c.e⟩),.bool true]) []):=al (cj (df (g<0)) (dJ p (jR p c (jS c (cj (jw p c hl hb) (cj (df (g>=gsV p c)) (dJ p (gJ p c (cj (bw p c.s.pc) (cj (i6 (c.s.pc+1)) (cj (aa.2 k5) (cj (aa.2 k6) (cj (aa.2 k7) (cj (aa.2 k9) (cj (ay.2 k8) (dJ p (tm p c (cj (uu p c.s.st c.b c.b.length L hb9 hst hbp hv) (cj (dt ((L.length:Int)>=4)) (cj (i6 (c.s.pc+1)) (tn c (cj (ql c.r (c.s.pc+1) (by omega)) (cj (ap 0 c.b.length 48) (cj (ap (0+c.b.length) 1 48) (tk p c (cj (pv ((0:Nat)+c.b.length+1=(c.b++[En.mk c.s.pc (0:Int) (0:Int) (-1:Int) (atI p c.s.pc).tg true false true]).length)) (cj (show ∀(i:Nat),i<0+c.b.length+1-> ∀(j:Nat),j<8->(bif Nat.blt (i+0) ((0:Nat)+c.b.length) then bif Nat.blt (i+0) (0:Nat) then AV.junk else an enC c.b (i+0-0) j else List.getD [aI c.s.pc,aI 0,aI 0,aI (-1:Int),aI (atI p c.s.pc).tg,AV.bool true,AV.bool false,AV.bool (bif !true then true else true)] ((i+0-((0:Nat)+c.b.length)+0)*8+j) AV.junk)=an enC (c.b++[En.mk c.s.pc (0:Int) (0:Int) (-1:Int) (atI p c.s.pc).tg true false true]) i j from(oB c.b _ _ (fun j hj=>match j,hj with |0,_=>rfl |1,_=>rfl |2,_=>rfl |3,_=>rfl |4,_=>rfl |5,_=>rfl |6,_=>rfl |7,_=>rfl))) (zx c trivial))))))))))))))))))))))))))))
theorem E7(p:Pg)(c:Cf)(g:Int)(hl:p.is.length<1000)(hb:c.b.length<1000000)(h0:0<=g)(hg: ¬gsV p c<=g)(hpc: -1<=c.s.pc∧c.s.pc<=1000)(hr:c.r.length<1000)(L:List Int)(k5: ¬(atI p c.s.pc).kind=5)(k6: ¬(atI p c.s.pc).kind=6)(k7: ¬(atI p c.s.pc).kind=7)(k9: ¬(atI p c.s.pc).kind=9)(k8:(atI p c.s.pc).kind=8)(hst:c.s.st.length<=1000)(hbp: ∀e∈c.b, -1<=e.pc∧e.pc<=1000000)(hb9:c.b.length<900000)(hv:reV p c.s.st c.b c.b.length=some L)(h4: ¬4<=L.length):Vc (vF_ 45 [.agg (pgA p),.agg (cfA c), aI g] [.fv,.bd false,j0 p c,.bd false,g9 p c,.bd false,.bd false,.bd false,.bd false,.bd true,.cl [.agg (pgA p),lR c.s.st,enR c.b, aI c.b.length] (.tup [lR L,.bool true]) [],.bd false,Be c] [] (.tup [.agg (cfA ⟨c.s.go (atI p c.s.pc).tg,c.b++[⟨c.s.pc,0,0, -1,(atI p c.s.pc).tg,true,false,false⟩],(dP c.r (c.s.pc+1)),c.e⟩),.bool true]) []):=al (cj (df (g<0)) (dJ p (jR p c (jS c (cj (jw p c hl hb) (cj (df (g>=gsV p c)) (dJ p (gJ p c (cj (bw p c.s.pc) (cj (i6 (c.s.pc+1)) (cj (aa.2 k5) (cj (aa.2 k6) (cj (aa.2 k7) (cj (aa.2 k9) (cj (ay.2 k8) (dJ p (tm p c (cj (uu p c.s.st c.b c.b.length L hb9 hst hbp hv) (cj (df ((L.length:Int)>=4)) (cj (i6 (c.s.pc+1)) (tn c (cj (ql c.r (c.s.pc+1) (by omega)) (cj (ap 0 c.b.length 48) (cj (ap (0+c.b.length) 1 48) (tk p c (cj (pv ((0:Nat)+c.b.length+1=(c.b++[En.mk c.s.pc (0:Int) (0:Int) (-1:Int) (atI p c.s.pc).tg true false false]).length)) (cj (show ∀(i:Nat),i<0+c.b.length+1-> ∀(j:Nat),j<8->(bif Nat.blt (i+0) ((0:Nat)+c.b.length) then bif Nat.blt (i+0) (0:Nat) then AV.junk else an enC c.b (i+0-0) j else List.getD [aI c.s.pc,aI 0,aI 0,aI (-1:Int),aI (atI p c.s.pc).tg,AV.bool true,AV.bool false,AV.bool (bif !true then true else false)] ((i+0-((0:Nat)+c.b.length)+0)*8+j) AV.junk)=an enC (c.b++[En.mk c.s.pc (0:Int) (0:Int) (-1:Int) (atI p c.s.pc).tg true false false]) i j from(oB c.b _ _ (fun j hj=>match j,hj with |0,_=>rfl |1,_=>rfl |2,_=>rfl |3,_=>rfl |4,_=>rfl |5,_=>rfl |6,_=>rfl |7,_=>rfl))) (zx c trivial))))))))))))))))))))))))))))
theorem Dx(c:Cf): ∀(i:Nat),i<0+c.b.length+1-> ∀(j:Nat),j<8->(bif Nat.blt (i+0) ((0:Nat)+c.b.length) then bif Nat.blt (i+0) (0:Nat) then AV.junk else an enC c.b (i+0-0) j else List.getD [aI c.s.pc,aI 0,aI 0,aI (-1:Int),aI (-1:Int),AV.bool true,AV.bool false,AV.bool false] ((i+0-((0:Nat)+c.b.length)+0)*8+j) AV.junk)=an enC (c.b++[En.mk c.s.pc (0:Int) (0:Int) (-1:Int) (-1:Int) true false false]) i j:=(oB c.b _ _ (fun j hj=>match j,hj with |0,_=>rfl |1,_=>rfl |2,_=>rfl |3,_=>rfl |4,_=>rfl |5,_=>rfl |6,_=>rfl |7,_=>rfl))
theorem yB(c:Cf){Z:Prop}(z:Z):(RF c.s.r0 (RF c.s.r1 (RF c.s.r2 (RF c.s.r3 (RF c.s.m.length (RR c.s.m.length 1 (fun i j=>aI (List.getD c.s.m i 0)) (RF c.s.st.length (RR c.s.st.length 1 (fun i j=>aI (List.getD c.s.st i 0)) (RF (-1:Int) Z))))))))):=⟨rfl,rfl,rfl,rfl,rfl,fun _ _ _ _=>rfl,rfl,fun _ _ _ _=>rfl,rfl,z⟩
theorem Fd(p:Pg)(c:Cf)(g:Int)(hl:p.is.length<1000)(hb:c.b.length<1000000)(h0:0<=g)(hg: ¬gsV p c<=g)(hpc: -1<=c.s.pc∧c.s.pc<=1000)(hr:c.r.length<1000)(k5: ¬(atI p c.s.pc).kind=5)(k6: ¬(atI p c.s.pc).kind=6)(k7: ¬(atI p c.s.pc).kind=7)(k9: ¬(atI p c.s.pc).kind=9)(k8: ¬(atI p c.s.pc).kind=8)(k11:(atI p c.s.pc).kind=11):Vc (vF_ 45 [.agg (pgA p),.agg (cfA c), aI g] [.fv,.bd false,j0 p c,.bd false,g9 p c,.bd false,.bd false,.bd false,.bd false,.bd false,.bd true] [] (.tup [.agg (cfA ⟨c.s.go (-1),c.b++[⟨c.s.pc,0,0, -1,(-1),true,false,false⟩],c.r,c.e⟩),.bool true]) []):=al (cj (df (g<0)) (dJ p (jR p c (jS c (cj (jw p c hl hb) (cj (df (g>=gsV p c)) (dJ p (gJ p c (cj (bw p c.s.pc) (cj (i6 (c.s.pc+1)) (cj (aa.2 k5) (cj (aa.2 k6) (cj (aa.2 k7) (cj (aa.2 k9) (cj (aa.2 k8) (cj (ay.2 k11) (cj (ap 0 c.b.length 48) (cj (ap (0+c.b.length) 1 48) (yB c (cj (pv ((0:Nat)+c.b.length+1=(c.b++[En.mk c.s.pc (0:Int) (0:Int) (-1:Int) (-1:Int) true false false]).length)) (cj (Dx c) (oH c trivial))))))))))))))))))))))
theorem Fc(p:Pg)(c:Cf)(g:Int)(hl:p.is.length<1000)(hb:c.b.length<1000000)(h0:0<=g)(hg: ¬gsV p c<=g)(hpc: -1<=c.s.pc∧c.s.pc<=1000)(hr:c.r.length<1000)(k5: ¬(atI p c.s.pc).kind=5)(k6: ¬(atI p c.s.pc).kind=6)(k7: ¬(atI p c.s.pc).kind=7)(k9: ¬(atI p c.s.pc).kind=9)(k8: ¬(atI p c.s.pc).kind=8)(k11: ¬(atI p c.s.pc).kind=11)(k12:(atI p c.s.pc).kind=12):Vc (vF_ 45 [.agg (pgA p),.agg (cfA c), aI g] [.fv,.bd false,j0 p c,.bd false,g9 p c,.bd false,.bd false,.bd false,.bd false,.bd false,.bd false,.bd true] [] (.tup [.agg (cfA ⟨c.s.go (-1),c.b++[⟨c.s.pc,0,0, -1,(-1),true,false,false⟩],c.r,c.e⟩),.bool true]) []):=al (cj (df (g<0)) (dJ p (jR p c (jS c (cj (jw p c hl hb) (cj (df (g>=gsV p c)) (dJ p (gJ p c (cj (bw p c.s.pc) (cj (i6 (c.s.pc+1)) (cj (aa.2 k5) (cj (aa.2 k6) (cj (aa.2 k7) (cj (aa.2 k9) (cj (aa.2 k8) (cj (aa.2 k11) (cj (ay.2 k12) (cj (ap 0 c.b.length 48) (cj (ap (0+c.b.length) 1 48) (yB c (cj (pv ((0:Nat)+c.b.length+1=(c.b++[En.mk c.s.pc (0:Int) (0:Int) (-1:Int) (-1:Int) true false false]).length)) (cj (Dx c) (oH c trivial)))))))))))))))))))))))
theorem G8(p:Pg)(c:Cf)(g:Int)(hl:p.is.length<1000)(hb:c.b.length<1000000)(h0:0<=g)(hg: ¬gsV p c<=g)(hpc: -1<=c.s.pc∧c.s.pc<=1000)(hr:c.r.length<1000)(k5: ¬(atI p c.s.pc).kind=5)(k6: ¬(atI p c.s.pc).kind=6)(k7: ¬(atI p c.s.pc).kind=7)(k9: ¬(atI p c.s.pc).kind=9)(k8: ¬(atI p c.s.pc).kind=8)(k11: ¬(atI p c.s.pc).kind=11)(k12: ¬(atI p c.s.pc).kind=12):Vc (vF_ 45 [.agg (pgA p),.agg (cfA c), aI g] [.fv,.bd false,j0 p c,.bd false,g9 p c,.bd false,.bd false,.bd false,.bd false,.bd false,.bd false,.bd false] [] (.tup [.agg (cfA ⟨c.s.go (c.s.pc+1),c.b++[⟨c.s.pc,0,0, -1,(c.s.pc+1),false,false,false⟩],c.r,c.e⟩),.bool true]) []):=al (cj (df (g<0)) (dJ p (jR p c (jS c (cj (jw p c hl hb) (cj (df (g>=gsV p c)) (dJ p (gJ p c (cj (bw p c.s.pc) (cj (i6 (c.s.pc+1)) (cj (aa.2 k5) (cj (aa.2 k6) (cj (aa.2 k7) (cj (aa.2 k9) (cj (aa.2 k8) (cj (aa.2 k11) (cj (aa.2 k12) (cj (ap 0 c.b.length 48) (cj (ap (0+c.b.length) 1 48) (Cy c (cj (pv ((0:Nat)+c.b.length+1=(c.b++[En.mk c.s.pc (0:Int) (0:Int) (-1:Int) (c.s.pc+1) false false false]).length)) (cj (Dz c) (oH c trivial)))))))))))))))))))))))
def ftO(p:Pg)(c:Cf)(g:Int):Option Cf:=if 0<=g∧g<gsV p c then some (ftD p c g) else none
theorem Gp(p:Pg)(c:Cf)(g:Int)(hl:p.is.length<1000)(hb:c.b.length<900000)(hpc: -1<=c.s.pc∧c.s.pc<=1000)(hr:c.r.length<1000)(hst:c.s.st.length<=1000)(hbp: ∀e∈c.b, -1<=e.pc∧e.pc<=1000000):pC_ 45 [.agg (pgA p),.agg (cfA c),.int .i64 g] (.tup (ocA (ftO p c g))) []:=by
 have hb9:=hb
 replace hb:c.b.length<1000000:=by omega
 unfold ftO
 by_cases hn:g<0
 ·rw[af (by omega)];exact PureC.vc (BQ p c g hl hb hn)
 replace hn:0<=g:=by omega
 by_cases hg:gsV p c<=g
 ·rw[af (by omega)];exact PureC.vc (BP p c g hl hb hn hg)
 rw[ai ⟨hn,by omega⟩]
 by_cases k5:(atI p c.s.pc).kind=5
 ·by_cases g1:g=1
  ·have e:ftD p c g=⟨c.s.go (atI p c.s.pc).tg,c.b++[⟨c.s.pc,0,0, -1,(atI p c.s.pc).tg,false,false,false⟩],c.r,c.e⟩:=by simp[ftD,ftE,ftR,k5,g1]
   rw[e];exact PureC.vc (Fa p c g hl hb hn hg hpc hr k5 g1)
  ·have e:ftD p c g=⟨c.s.go (c.s.pc+1),c.b++[⟨c.s.pc,0,0, -1,(c.s.pc+1),false,false,false⟩],c.r,c.e⟩:=by simp[ftD,ftE,ftR,k5,g1]
   rw[e];exact PureC.vc (Fb p c g hl hb hn hg hpc hr k5 g1)
 by_cases k6:(atI p c.s.pc).kind=6
 ·have e:ftD p c g=⟨c.s.go (atI p c.s.pc).tg,c.b++[⟨c.s.pc,0,0, -1,(atI p c.s.pc).tg,true,false,false⟩],c.r,c.e⟩:=by simp[ftD,ftE,ftR,k6]
  rw[e];exact PureC.vc (Hb p c g hl hb hn hg hpc hr k5 k6)
 by_cases k7:(atI p c.s.pc).kind=7
 ·have e:ftD p c g=⟨c.s.go g,c.b++[⟨c.s.pc,0,0, -1,g,false,false,false⟩],c.r,c.e⟩:=by simp[ftD,ftE,ftR,k7]
  rw[e];exact PureC.vc (Ha p c g hl hb hn hg hpc hr k5 k6 k7)
 by_cases k9:(atI p c.s.pc).kind=9
 ·by_cases hz:c.r.length=0
  ·have hz0:c.r=[]:=bB hz
   have e:ftD p c g=⟨c.s.go g,c.b++[⟨c.s.pc,0,0, -1,g,false,false,false⟩],c.r,c.e⟩:=by simp[ftD,ftE,ftR,k9,hz0]
   rw[e];exact PureC.vc (E6 p c g hl hb hn hg hpc hr k5 k6 k7 k9 hz)
  ·have hz0: ¬c.r=[]:=fun e=>hz (by rw[e];rfl)
   have e:ftD p c g=⟨c.s.go (bq c.r),c.b++[⟨c.s.pc,0,0, -1,(bq c.r),false,false,false⟩],(c.r.take ((c.r.length:Int)-1).toNat),c.e⟩:=by simp[ftD,ftE,ftR,k9,hz0]
   rw[e];exact PureC.vc (G9 p c g hl hb hn hg hpc hr k5 k6 k7 k9 hz)
 by_cases k8:(atI p c.s.pc).kind=8
 ·cases hv:reV p c.s.st c.b c.b.length with
  |none=>
   have e:ftD p c g=⟨c.s.go (atI p c.s.pc).tg,c.b++[⟨c.s.pc,0,0, -1,(atI p c.s.pc).tg,true,false,true⟩],(dP c.r (c.s.pc+1)),c.e⟩:=by simp[ftD,ftE,ftR,k8,ftB,hv]
   rw[e];exact PureC.vc (E8 p c g hl hb hn hg hpc hr k5 k6 k7 k9 k8 hst hbp hb9 hv)
  |some L=>
   by_cases h4:4<=L.length
   ·have e:ftD p c g=⟨c.s.go (atI p c.s.pc).tg,c.b++[⟨c.s.pc,0,0, -1,(atI p c.s.pc).tg,true,false,true⟩],(dP c.r (c.s.pc+1)),c.e⟩:=by simp[ftD,ftE,ftR,k8,ftB,hv,h4]
    rw[e];exact PureC.vc (E9 p c g hl hb hn hg hpc hr L k5 k6 k7 k9 k8 hst hbp hb9 hv h4)
   ·have e:ftD p c g=⟨c.s.go (atI p c.s.pc).tg,c.b++[⟨c.s.pc,0,0, -1,(atI p c.s.pc).tg,true,false,false⟩],(dP c.r (c.s.pc+1)),c.e⟩:=by simp[ftD,ftE,ftR,k8,ftB,hv,h4]
    rw[e];exact PureC.vc (E7 p c g hl hb hn hg hpc hr L k5 k6 k7 k9 k8 hst hbp hb9 hv h4)
 by_cases k11:(atI p c.s.pc).kind=11
 ·have e:ftD p c g=⟨c.s.go (-1),c.b++[⟨c.s.pc,0,0, -1,(-1),true,false,false⟩],c.r,c.e⟩:=by simp[ftD,ftE,ftR,k11]
  rw[e];exact PureC.vc (Fd p c g hl hb hn hg hpc hr k5 k6 k7 k9 k8 k11)
 by_cases k12:(atI p c.s.pc).kind=12
 ·have e:ftD p c g=⟨c.s.go (-1),c.b++[⟨c.s.pc,0,0, -1,(-1),true,false,false⟩],c.r,c.e⟩:=by simp[ftD,ftE,ftR,k12]
  rw[e];exact PureC.vc (Fc p c g hl hb hn hg hpc hr k5 k6 k7 k9 k8 k11 k12)
 have e:ftD p c g=⟨c.s.go (c.s.pc+1),c.b++[⟨c.s.pc,0,0, -1,(c.s.pc+1),false,false,false⟩],c.r,c.e⟩:=by simp[ftD,ftE,ftR,k5,k6,k7,k9,k8,k11,k12]
 rw[e];exact PureC.vc (G8 p c g hl hb hn hg hpc hr k5 k6 k7 k9 k8 k11 k12)
def opV(p:Pg)(c:Cf)(i:Int):Bool:=if c.e=0∧0<=i∧i<c.b.length then !mz p c.b i else false
def tA(p:Pg)(c:Cf)(i:Int)(x:In):Int×Bool:=cv p c.s c.b i x.a
def tB(p:Pg)(c:Cf)(i:Int)(x:In):Int×Bool:=cv p c.s c.b i x.b
def tD(p:Pg)(c:Cf)(i:Int)(x:In):Int×Bool:=cS p c.s c.b i x.d
def tAB(p:Pg)(c:Cf)(i:Int)(x:In):Bool:=(tA p c i x).2&&(tB p c i x).2
def enX(p:Pg)(c:Cf)(k:Nat):In:=atI p (c.b.getD k default).pc
def adV(p:Pg)(c:Cf)(i:Int)(x:In):Int:=Wd.maskV p.W ((tA p c i x).1+(tB p c i x).1)
def cnK(p:Pg)(c:Cf)(i:Int)(x:In):Bool:=
 if x.kind=1 then tAB p c i x else if x.kind=5 then tAB p c i x else if x.kind=4 then tAB p c i x&&(tD p c i x).2
 else if x.kind=2 then tAB p c i x&&(decide ((c.s.m.length:Int)<=adV p c i x)||(ldV p c.s.m c.b i (adV p c i x)).2.2)
 else if x.kind=3 then(tD p c i x).2 else if x.kind=7 then(tA p c i x).2 else x.kind==9
def cnV(p:Pg)(c:Cf)(i:Int):Bool:=opV p c i&&(!(c.b.getD i.toNat default).dn&&cnK p c i (enX p c i.toNat))
def caV(p:Pg)(c:Cf)(i:Int):Bool:=opV p c i&&(!(c.b.getD i.toNat default).kn&&((enX p c i.toNat).kind==3&&tAB p c i (enX p c i.toNat)))
def crE(p:Pg)(e:En)(l:List En):Bool:=(e.dn||(atI p e.pc).kind==10)&&((atI p e.pc).kind !=3||e.kn)
def crV(p:Pg)(c:Cf):Bool:=if c.e=0 then(match c.b with
 | []=>false
 |e::l=>crE p e l) else false
theorem GD(p:Pg)(c:Cf)(i:Int)(h0: ¬c.e=0):Vc (vF_ 59 [.agg (pgA p),.agg (cfA c), aI i] [.fv,.fv,.bd false] [] (.bool false) []):=al (cj (aa.2 h0) (cj (rf false) trivial))
theorem GB(p:Pg)(c:Cf)(i:Int)(h0:c.e=0)(hi: ¬0<=i):Vc (vF_ 59 [.agg (pgA p),.agg (cfA c), aI i] [.fv,.fv,.bd true,.bd false] [] (.bool false) []):=al (cj (ay.2 h0) (cj (df (i>=0)) (cj (rf false) trivial)))
theorem GC(p:Pg)(c:Cf)(i:Int)(h0:c.e=0)(hi:0<=i)(hl: ¬i<c.b.length):Vc (vF_ 59 [.agg (pgA p),.agg (cfA c), aI i] [.fv,.fv,.bd true,.bd true,.bd false] [] (.bool false) []):=al (cj (ay.2 h0) (cj (dt (i>=0)) (cj (df (i<(↑c.b.length:Int))) (cj (rf false) trivial))))
theorem cd(p:Pg){Z:Prop}(z:Z):(RF p.W (RF p.win (RF p.fuel (RF p.r0 (RF p.r1 (RF p.r2 (RF p.r3 (RF p.ms.length (RR p.ms.length 3 (fun i j=>an mmC p.ms i j) Z))))))))):=⟨rfl,rfl,rfl,rfl,rfl,rfl,rfl,rfl,fun _ _ _ _=>rfl,z⟩
theorem GA(p:Pg)(c:Cf)(i:Int)(h0:c.e=0)(hi:0<=i)(hl:i<c.b.length)(hb:c.b.length<1000000):Vc (vF_ 59 [.agg (pgA p),.agg (cfA c), aI i] [.fv,.fv,.bd true,.bd true,.bd true,.cl [.agg (pgA p),enR c.b, aI i] (.bool (mz p c.b i)) []] [] (.bool (!mz p c.b i)) []):=al (cj (ay.2 h0) (cj (dt (i>=0)) (cj (dt (i<(↑c.b.length:Int))) (cd p (cj (rf p.ls.length) (cj (rr p.ls.length 2 fun i j=>an lbC p.ls i j) (cj (rf p.is.length) (cj (rr p.is.length 9 fun i j=>an inC p.is i j) (cj (rf c.b.length) (cj (rr c.b.length 8 fun i j=>an enC c.b i j) (cj (rf i) (cj (D8 p c.b i hb) (cj (rf (!mz p c.b i)) trivial)))))))))))))
theorem DR(p:Pg)(c:Cf)(i:Int)(hb:c.b.length<1000000):pC_ 59 [.agg (pgA p),.agg (cfA c),.int .i64 i] (.bool (opV p c i)) []:=by
 unfold opV
 by_cases h0:c.e=0
 ·by_cases hi:0<=i
  ·by_cases hl:i<c.b.length
   ·rw[ai ⟨h0,hi,hl⟩];exact PureC.vc (GA p c i h0 hi hl hb)
   ·rw[af fun e=>hl e.2.2];exact PureC.vc (GC p c i h0 hi hl)
  ·rw[af fun e=>hi e.2.1];exact PureC.vc (GB p c i h0 hi)
 ·rw[af fun e=>h0 e.1];exact PureC.vc (GD p c i h0)
theorem Cv(c:Cf)(i:Int)(x:In){Z:Prop}(z:Z):(RR c.b.length 8 (fun i j=>an enC c.b i j) (RF i (RF x.d Z))):=⟨fun _ _ _ _=>rfl,rfl,rfl,z⟩
theorem pX(p:Pg)(c:Cf){Z:Prop}(z:Z):(RF p.ls.length (RR p.ls.length 2 (fun i j=>an lbC p.ls i j) (RF p.is.length (RR p.is.length 9 (fun i j=>an inC p.is i j) (RF c.s.r0 (RF c.s.r1 (RF c.s.r2 (RF c.s.r3 (RF c.b.length Z))))))))):=⟨rfl,fun _ _ _ _=>rfl,rfl,fun _ _ _ _=>rfl,rfl,rfl,rfl,rfl,rfl,z⟩
theorem Cu(c:Cf)(i:Int)(x:In){Z:Prop}(z:Z):(RR c.b.length 8 (fun i j=>an enC c.b i j) (RF i (RF x.b.reg (RF x.b.n Z)))):=⟨fun _ _ _ _=>rfl,rfl,rfl,rfl,z⟩
theorem Ct(c:Cf)(i:Int)(x:In){Z:Prop}(z:Z):(RR c.b.length 8 (fun i j=>an enC c.b i j) (RF i (RF x.a.reg (RF x.a.n Z)))):=⟨fun _ _ _ _=>rfl,rfl,rfl,rfl,z⟩
abbrev Em(p:Pg)(c:Cf)(i:Int)(x:In):Orc:= .cl [.agg (pgA p),.agg (rgA c.s),enR c.b, aI i,.agg (vlA x.a)] (.tup [aI (cv p c.s c.b i x.a).1,.bool (cv p c.s c.b i x.a).2]) []
abbrev El(p:Pg)(c:Cf)(i:Int)(x:In):Orc:= .cl [.agg (pgA p),.agg (rgA c.s),enR c.b, aI i,.agg (vlA x.b)] (.tup [aI (cv p c.s c.b i x.b).1,.bool (cv p c.s c.b i x.b).2]) []
abbrev Ek(p:Pg)(c:Cf)(i:Int)(x:In):Orc:= .cl [.agg (pgA p),.agg (rgA c.s),enR c.b, aI i, aI x.d] (.tup [aI (cS p c.s c.b i x.d).1,.bool (cS p c.s c.b i x.d).2]) []
theorem F4(p:Pg)(c:Cf)(i:Int)(x:In)(hb:c.b.length<1000000)(h:(tA p c i x).2=true):Vc (vF_ 60 [.agg (pgA p),.agg (cfA c), aI i,.agg (inA x)] [.fv,.fv,.fv,Em p c i x,El p c i x,Ek p c i x,.b true,.b true] [] (.tup [aI (tA p c i x).1, aI (tB p c i x).1, aI (tD p c i x).1,.bool (tB p c i x).2,.bool (tD p c i x).2]) []):=al (cd p (pX p c (Ct c i x (cj (oW p c.s c.b i x.a hb) (cd p (pX p c (Cu c i x (cj (oW p c.s c.b i x.b hb) (cd p (pX p c (Cv c i x (cj (ur p c.s c.b i x.d hb) (cj h (cj h (cj (rf (Prod.fst (tA p c i x))) (cj (rf (Prod.fst (tB p c i x))) (cj (rf (Prod.fst (tD p c i x))) (cj (rf (Prod.snd (tB p c i x))) (cj (rf (Prod.snd (tD p c i x))) trivial)))))))))))))))))))
theorem F5(p:Pg)(c:Cf)(i:Int)(x:In)(hb:c.b.length<1000000)(h:(tA p c i x).2=false):Vc (vF_ 60 [.agg (pgA p),.agg (cfA c), aI i,.agg (inA x)] [.fv,.fv,.fv,Em p c i x,El p c i x,Ek p c i x,.b false,.b false] [] (.tup [aI (tA p c i x).1, aI (tB p c i x).1, aI (tD p c i x).1,.bool false,.bool (tD p c i x).2]) []):=al (cd p (pX p c (Ct c i x (cj (oW p c.s c.b i x.a hb) (cd p (pX p c (Cu c i x (cj (oW p c.s c.b i x.b hb) (cd p (pX p c (Cv c i x (cj (ur p c.s c.b i x.d hb) (cj h (cj h (cj (rf (Prod.fst (tA p c i x))) (cj (rf (Prod.fst (tB p c i x))) (cj (rf (Prod.fst (tD p c i x))) (cj (rf false) (cj (rf (Prod.snd (tD p c i x))) trivial)))))))))))))))))))
theorem wW(p:Pg)(c:Cf)(i:Int)(x:In)(hb:c.b.length<1000000):pC_ 60 [.agg (pgA p),.agg (cfA c),.int .i64 i,.agg (inA x)] (.tup [.int .i64 (tA p c i x).1,.int .i64 (tB p c i x).1,.int .i64 (tD p c i x).1,.bool (tAB p c i x),.bool (tD p c i x).2]) []:=by
 unfold tAB
 cases h:(tA p c i x).2 with
 |true=>rw[cK];exact PureC.vc (F4 p c i x hb h)
 |false=>exact PureC.vc (F5 p c i x hb h)
theorem ep(c:Cf){Z:Prop}(z:Z):(RR c.s.m.length 1 (fun i j=>aI (List.getD c.s.m i 0)) (RF c.s.st.length (RR c.s.st.length 1 (fun i j=>aI (List.getD c.s.st i 0)) (RF c.s.pc (RF c.b.length (RR c.b.length 8 (fun i j=>an enC c.b i j) (RF c.r.length (RR c.r.length 1 (fun i j=>aI (c.r.getD i 0)) (RF c.e Z))))))))):=⟨fun _ _ _ _=>rfl,rfl,fun _ _ _ _=>rfl,rfl,rfl,fun _ _ _ _=>rfl,rfl,fun _ _ _ _=>rfl,rfl,z⟩
theorem eo(p:Pg)(c:Cf){Z:Prop}(z:Z):(RF p.ls.length (RR p.ls.length 2 (fun i j=>an lbC p.ls i j) (RF p.is.length (RR p.is.length 9 (fun i j=>an inC p.is i j) (RF c.s.r0 (RF c.s.r1 (RF c.s.r2 (RF c.s.r3 (RF c.s.m.length Z))))))))):=⟨rfl,fun _ _ _ _=>rfl,rfl,fun _ _ _ _=>rfl,rfl,rfl,rfl,rfl,rfl,z⟩
abbrev Ec(p:Pg)(c:Cf)(i:Int):Prop:=PureC Try.prog 59 [.agg (pgA p),.agg (cfA c),.int .i64 i] (.bool false) []
theorem Hx(p:Pg)(c:Cf)(i:Int)(hO:Ec p c i):Vc (vF_ 43 [.agg (pgA p),.agg (cfA c), aI i] [.fv,.fv,.cl [.agg (pgA p),.agg (cfA c), aI i] (.bool false) []] [] (.bool false) []):=al (cd p (eo p c (ep c (cj (rf i) (cj hO (cj (rf false) trivial))))))
theorem jk{Z:Prop}(z:Z):(RF false (RF false (RF false Z))):=⟨rfl,rfl,rfl,z⟩
theorem jj{Z:Prop}(z:Z):(RF false (RF false (RF false (RF false Z)))):=⟨rfl,rfl,rfl,rfl,z⟩
abbrev jA(p:Pg)(c:Cf)(k:Nat):Prop:=PureC Try.prog 59 [.agg (pgA p),.agg (cfA c),.int .i64 k] (.bool true) []
abbrev jB(p:Pg)(c:Cf)(k:Nat):Orc:= .cl [.agg (pgA p),.agg (cfA c), aI k] (.bool true) []
theorem HA(p:Pg)(c:Cf)(k:Nat)(hk:k<c.b.length)(hb:c.b.length<1000000)(hO:jA p c k)(hd:(c.b.getD k default).dn=true):Vc (vF_ 43 [.agg (pgA p),.agg (cfA c), aI k] [.fv,.fv,jB p c k,.b false,.b false,.b false,.b false,.b false,.b false,.b false,.b true] [] (.bool false) []):=al (cd p (eo p c (ep c (cj (rf (k:Int)) (cj hO (jj (cj (bi k c.b.length) (jk (cj hd (cj (rf false) trivial))))))))))
theorem kP(p:Pg)(c:Cf)(k:Nat)(a:Int)(b:Int)(d:Int){Z:Prop}(z:Z):(RF (k:Int) (RF ((enX p c k).kind) (RF ((enX p c k).op) (RF ((enX p c k).d) (RF ((enX p c k).a.reg) (RF ((enX p c k).a.n) (RF ((enX p c k).b.reg) (RF ((enX p c k).b.n) (RF ((enX p c k).nm) Z))))))))):=⟨rfl,rfl,rfl,rfl,rfl,rfl,rfl,rfl,rfl,z⟩
theorem gu(p:Pg)(c:Cf)(k:Nat)(b:Int){Z:Prop}(z:Z):(RF p.ls.length (RR p.ls.length 2 (fun i j=>an lbC p.ls i j) (RF p.is.length (RR p.is.length 9 (fun i j=>an inC p.is i j) (RF ((c.b.getD k default).pc) Z))))):=⟨rfl,fun _ _ _ _=>rfl,rfl,fun _ _ _ _=>rfl,rfl,z⟩
abbrev qo(p:Pg)(c:Cf)(k:Nat)(a:Int)(b:Int)(d:Int)(ab:Bool)(so:Bool):Prop:=PureC Try.prog 60 [.agg (pgA p),.agg (cfA c),.int .i64 k,.agg (inA (enX p c k))] (.tup [.int .i64 a,.int .i64 b,.int .i64 d,.bool ab,.bool so]) []
abbrev qq(p:Pg)(c:Cf)(k:Nat)(a:Int)(b:Int)(d:Int)(ab:Bool)(so:Bool):Orc:= .cl [.agg (pgA p),.agg (cfA c), aI k,.agg (inA (enX p c k))] (.tup [aI a, aI b, aI d,.bool ab,.bool so]) []
abbrev kV(p:Pg)(c:Cf)(k:Nat):Orc:= .cl [.agg (pgA p), aI (c.b.getD k default).pc] (.agg (inA (enX p c k))) []
theorem HF(p:Pg)(c:Cf)(k:Nat)(hk:k<c.b.length)(hb:c.b.length<1000000)(hO:jA p c k)(hd:(c.b.getD k default).dn=false)(a b d:Int)(ab:Bool)(so:Bool)(hT:qo p c k a b d ab so)(k1:(enX p c k).kind=1):Vc (vF_ 43 [.agg (pgA p),.agg (cfA c), aI k] [.fv,.fv,jB p c k,.b false,.b false,.b false,.b false,.b false,.b false,.b false,.b false,kV p c k,qq p c k a b d ab so,.bd true] [] (.bool ab) []):=al (cd p (eo p c (ep c (cj (rf (k:Int)) (cj hO (jj (cj (bi k c.b.length) (jk (cj hd (cj (bi k c.b.length) (cd p (gu p c k b (cj (bw p (c.b.getD k default).pc) (cd p (eo p c (ep c (kP p c k a b d (cj (rf ((enX p c k).tg)) (cj hT (cj (ay.2 k1) (cj (rf ab) trivial)))))))))))))))))))))
theorem HD(p:Pg)(c:Cf)(k:Nat)(hk:k<c.b.length)(hb:c.b.length<1000000)(hO:jA p c k)(hd:(c.b.getD k default).dn=false)(a b d:Int)(ab:Bool)(so:Bool)(hT:qo p c k a b d ab so)(k1: ¬(enX p c k).kind=1)(k5:(enX p c k).kind=5):Vc (vF_ 43 [.agg (pgA p),.agg (cfA c), aI k] [.fv,.fv,jB p c k,.b false,.b false,.b false,.b false,.b false,.b false,.b false,.b false,kV p c k,qq p c k a b d ab so,.bd false,.bd true] [] (.bool ab) []):=al (cd p (eo p c (ep c (cj (rf (k:Int)) (cj hO (jj (cj (bi k c.b.length) (jk (cj hd (cj (bi k c.b.length) (cd p (gu p c k b (cj (bw p (c.b.getD k default).pc) (cd p (eo p c (ep c (kP p c k a b d (cj (rf ((enX p c k).tg)) (cj hT (cj (aa.2 k1) (cj (ay.2 k5) (cj (rf ab) trivial))))))))))))))))))))))
abbrev AX(p:Pg)(c:Cf)(k:Nat)(a:Int)(b:Int)(d:Int)(so:Bool):Prop:=PureC Try.prog 60 [.agg (pgA p),.agg (cfA c),.int .i64 k,.agg (inA (enX p c k))] (.tup [.int .i64 a,.int .i64 b,.int .i64 d,.bool true,.bool so]) []
abbrev uQ(p:Pg)(c:Cf)(k:Nat)(a:Int)(b:Int)(d:Int)(so:Bool):Orc:= .cl [.agg (pgA p),.agg (cfA c), aI k,.agg (inA (enX p c k))] (.tup [aI a, aI b, aI d,.bool true,.bool so]) []
theorem FA(p:Pg)(c:Cf)(k:Nat)(hk:k<c.b.length)(hb:c.b.length<1000000)(hO:jA p c k)(hd:(c.b.getD k default).dn=false)(a b d:Int)(so:Bool)(hT:AX p c k a b d so)(k1: ¬(enX p c k).kind=1)(k5: ¬(enX p c k).kind=5)(k4:(enX p c k).kind=4):Vc (vF_ 43 [.agg (pgA p),.agg (cfA c), aI k] [.fv,.fv,jB p c k,.b false,.b false,.b false,.b false,.b false,.b false,.b false,.b false,kV p c k,uQ p c k a b d so,.bd false,.bd false,.bd true] [] (.bool so) []):=al (cd p (eo p c (ep c (cj (rf (k:Int)) (cj hO (jj (cj (bi k c.b.length) (jk (cj hd (cj (bi k c.b.length) (cd p (gu p c k b (cj (bw p (c.b.getD k default).pc) (cd p (eo p c (ep c (kP p c k a b d (cj (rf ((enX p c k).tg)) (cj hT (cj (aa.2 k1) (cj (aa.2 k5) (cj (ay.2 k4) (cj (rf so) trivial)))))))))))))))))))))))
abbrev yV(p:Pg)(c:Cf)(k:Nat)(a:Int)(b:Int)(d:Int)(so:Bool):Prop:=PureC Try.prog 60 [.agg (pgA p),.agg (cfA c),.int .i64 k,.agg (inA (enX p c k))] (.tup [.int .i64 a,.int .i64 b,.int .i64 d,.bool false,.bool so]) []
theorem FB(p:Pg)(c:Cf)(k:Nat)(hk:k<c.b.length)(hb:c.b.length<1000000)(hO:jA p c k)(hd:(c.b.getD k default).dn=false)(a b d:Int)(so:Bool)(hT:yV p c k a b d so)(k1: ¬(enX p c k).kind=1)(k5: ¬(enX p c k).kind=5)(k4:(enX p c k).kind=4):Vc (vF_ 43 [.agg (pgA p),.agg (cfA c), aI k] [.fv,.fv,jB p c k,.b false,.b false,.b false,.b false,.b false,.b false,.b false,.b false,kV p c k,.cl [.agg (pgA p),.agg (cfA c), aI k,.agg (inA (enX p c k))] (.tup [aI a, aI b, aI d,.bool false,.bool so]) [],.bd false,.bd false,.bd true] [] (.bool false) []):=al (cd p (eo p c (ep c (cj (rf (k:Int)) (cj hO (jj (cj (bi k c.b.length) (jk (cj hd (cj (bi k c.b.length) (cd p (gu p c k b (cj (bw p (c.b.getD k default).pc) (cd p (eo p c (ep c (kP p c k a b d (cj (rf ((enX p c k).tg)) (cj hT (cj (aa.2 k1) (cj (aa.2 k5) (cj (ay.2 k4) (cj (rf false) trivial)))))))))))))))))))))))
theorem tj(p:Pg)(c:Cf)(k:Nat)(b:Int){Z:Prop}(z:Z):(RF p.ls.length (RR p.ls.length 2 (fun i j=>an lbC p.ls i j) (RF p.is.length (RR p.is.length 9 (fun i j=>an inC p.is i j) (RF c.s.m.length (RR c.s.m.length 1 (fun i j=>aI (List.getD c.s.m i 0)) (RF c.b.length (RR c.b.length 8 (fun i j=>an enC c.b i j) (RF (k:Int) Z))))))))):=⟨rfl,fun _ _ _ _=>rfl,rfl,fun _ _ _ _=>rfl,rfl,fun _ _ _ _=>rfl,rfl,fun _ _ _ _=>rfl,rfl,z⟩
abbrev uO(p:Pg)(c:Cf)(k:Nat)(a:Int)(b:Int):Orc:= .cl [.agg (pgA p),lR c.s.m,enR c.b, aI k, aI (Wd.maskV p.W (a+b))] (.tup [aI (ldV p c.s.m c.b k (Wd.maskV p.W (a+b))).1, aI (ldV p c.s.m c.b k (Wd.maskV p.W (a+b))).2.1,.bool (ldV p c.s.m c.b k (Wd.maskV p.W (a+b))).2.2]) []
abbrev uP(p:Pg)(a:Int)(b:Int):Orc:= .cl [aI p.W, aI (a+b)] (aI (Wd.maskV p.W (a+b))) []
theorem FE(p:Pg)(c:Cf)(k:Nat)(hk:k<c.b.length)(hb:c.b.length<1000000)(hO:jA p c k)(hd:(c.b.getD k default).dn=false)(a b d:Int)(so:Bool)(hT:yV p c k a b d so)(k1: ¬(enX p c k).kind=1)(k5: ¬(enX p c k).kind=5)(k4: ¬(enX p c k).kind=4)(k2:(enX p c k).kind=2)(hab: -1000000<=a+b∧a+b<=1000000)(hm:c.s.m.length<1000000):Vc (vF_ 43 [.agg (pgA p),.agg (cfA c), aI k] [.fv,.fv,jB p c k,.b false,.b false,.b false,.b false,.b false,.b false,.b false,.b false,kV p c k,.cl [.agg (pgA p),.agg (cfA c), aI k,.agg (inA (enX p c k))] (.tup [aI a, aI b, aI d,.bool false,.bool so]) [],.bd false,.bd false,.bd false,.bd true,uP p a b,uO p c k a b] [] (.bool false) []):=al (cd p (eo p c (ep c (cj (rf (k:Int)) (cj hO (jj (cj (bi k c.b.length) (jk (cj hd (cj (bi k c.b.length) (cd p (gu p c k b (cj (bw p (c.b.getD k default).pc) (cd p (eo p c (ep c (kP p c k a b d (cj (rf ((enX p c k).tg)) (cj hT (cj (aa.2 k1) (cj (aa.2 k5) (cj (aa.2 k4) (cj (ay.2 k2) (cj (i6 (a+b)) (cj (rf p.W) (cj (rf (a+b)) (cj (aZ p.W (a+b)) (cd p (tj p c k b (cj (rf (Wd.maskV p.W (a+b))) (cj (w9 p c.s.m c.b k (Wd.maskV p.W (a+b)) hb) (cj (rf false) trivial))))))))))))))))))))))))))))))))
theorem FC(p:Pg)(c:Cf)(k:Nat)(hk:k<c.b.length)(hb:c.b.length<1000000)(hO:jA p c k)(hd:(c.b.getD k default).dn=false)(a b d:Int)(so:Bool)(hT:AX p c k a b d so)(k1: ¬(enX p c k).kind=1)(k5: ¬(enX p c k).kind=5)(k4: ¬(enX p c k).kind=4)(k2:(enX p c k).kind=2)(hab: -1000000<=a+b∧a+b<=1000000)(hm:c.s.m.length<1000000)(ho:(c.s.m.length:Int)<=(Wd.maskV p.W (a+b))):Vc (vF_ 43 [.agg (pgA p),.agg (cfA c), aI k] [.fv,.fv,jB p c k,.b false,.b false,.b false,.b false,.b false,.b false,.b false,.b false,kV p c k,uQ p c k a b d so,.bd false,.bd false,.bd false,.bd true,uP p a b,uO p c k a b,.bd true] [] (.bool true) []):=al (cd p (eo p c (ep c (cj (rf (k:Int)) (cj hO (jj (cj (bi k c.b.length) (jk (cj hd (cj (bi k c.b.length) (cd p (gu p c k b (cj (bw p (c.b.getD k default).pc) (cd p (eo p c (ep c (kP p c k a b d (cj (rf ((enX p c k).tg)) (cj hT (cj (aa.2 k1) (cj (aa.2 k5) (cj (aa.2 k4) (cj (ay.2 k2) (cj (i6 (a+b)) (cj (rf p.W) (cj (rf (a+b)) (cj (aZ p.W (a+b)) (cd p (tj p c k b (cj (rf (Wd.maskV p.W (a+b))) (cj (w9 p c.s.m c.b k (Wd.maskV p.W (a+b)) hb) (cj (dt (Wd.maskV p.W (a+b)>=(↑(c.s.m.length):Int))) (cj (rf true) trivial)))))))))))))))))))))))))))))))))
theorem FD(p:Pg)(c:Cf)(k:Nat)(hk:k<c.b.length)(hb:c.b.length<1000000)(hO:jA p c k)(hd:(c.b.getD k default).dn=false)(a b d:Int)(so:Bool)(hT:AX p c k a b d so)(k1: ¬(enX p c k).kind=1)(k5: ¬(enX p c k).kind=5)(k4: ¬(enX p c k).kind=4)(k2:(enX p c k).kind=2)(hab: -1000000<=a+b∧a+b<=1000000)(hm:c.s.m.length<1000000)(ho: ¬(c.s.m.length:Int)<=(Wd.maskV p.W (a+b))):Vc (vF_ 43 [.agg (pgA p),.agg (cfA c), aI k] [.fv,.fv,jB p c k,.b false,.b false,.b false,.b false,.b false,.b false,.b false,.b false,kV p c k,uQ p c k a b d so,.bd false,.bd false,.bd false,.bd true,uP p a b,uO p c k a b,.bd false] [] (.bool (ldV p c.s.m c.b k (Wd.maskV p.W (a+b))).2.2) []):=al (cd p (eo p c (ep c (cj (rf (k:Int)) (cj hO (jj (cj (bi k c.b.length) (jk (cj hd (cj (bi k c.b.length) (cd p (gu p c k b (cj (bw p (c.b.getD k default).pc) (cd p (eo p c (ep c (kP p c k a b d (cj (rf ((enX p c k).tg)) (cj hT (cj (aa.2 k1) (cj (aa.2 k5) (cj (aa.2 k4) (cj (ay.2 k2) (cj (i6 (a+b)) (cj (rf p.W) (cj (rf (a+b)) (cj (aZ p.W (a+b)) (cd p (tj p c k b (cj (rf (Wd.maskV p.W (a+b))) (cj (w9 p c.s.m c.b k (Wd.maskV p.W (a+b)) hb) (cj (df (Wd.maskV p.W (a+b)>=(↑(c.s.m.length):Int))) (cj (rf (Prod.snd (Prod.snd (ldV p c.s.m c.b (k:Int) (Wd.maskV p.W (a+b)))))) trivial)))))))))))))))))))))))))))))))))
theorem HE(p:Pg)(c:Cf)(k:Nat)(hk:k<c.b.length)(hb:c.b.length<1000000)(hO:jA p c k)(hd:(c.b.getD k default).dn=false)(a b d:Int)(ab:Bool)(so:Bool)(hT:qo p c k a b d ab so)(k1: ¬(enX p c k).kind=1)(k5: ¬(enX p c k).kind=5)(k4: ¬(enX p c k).kind=4)(k2: ¬(enX p c k).kind=2)(k3:(enX p c k).kind=3):Vc (vF_ 43 [.agg (pgA p),.agg (cfA c), aI k] [.fv,.fv,jB p c k,.b false,.b false,.b false,.b false,.b false,.b false,.b false,.b false,kV p c k,qq p c k a b d ab so,.bd false,.bd false,.bd false,.bd false,.bd true] [] (.bool so) []):=al (cd p (eo p c (ep c (cj (rf (k:Int)) (cj hO (jj (cj (bi k c.b.length) (jk (cj hd (cj (bi k c.b.length) (cd p (gu p c k b (cj (bw p (c.b.getD k default).pc) (cd p (eo p c (ep c (kP p c k a b d (cj (rf ((enX p c k).tg)) (cj hT (cj (aa.2 k1) (cj (aa.2 k5) (cj (aa.2 k4) (cj (aa.2 k2) (cj (ay.2 k3) (cj (rf so) trivial)))))))))))))))))))))))))
theorem HC(p:Pg)(c:Cf)(k:Nat)(hk:k<c.b.length)(hb:c.b.length<1000000)(hO:jA p c k)(hd:(c.b.getD k default).dn=false)(a b d:Int)(ab:Bool)(so:Bool)(hT:qo p c k a b d ab so)(k1: ¬(enX p c k).kind=1)(k5: ¬(enX p c k).kind=5)(k4: ¬(enX p c k).kind=4)(k2: ¬(enX p c k).kind=2)(k3: ¬(enX p c k).kind=3)(k7:(enX p c k).kind=7):Vc (vF_ 43 [.agg (pgA p),.agg (cfA c), aI k] [.fv,.fv,jB p c k,.b false,.b false,.b false,.b false,.b false,.b false,.b false,.b false,kV p c k,qq p c k a b d ab so,.bd false,.bd false,.bd false,.bd false,.bd false,.bd true,.cl [.agg (pgA p),.agg (rgA c.s),enR c.b, aI k,.agg (vlA (enX p c k).a)] (.tup [aI (cv p c.s c.b k (enX p c k).a).1,.bool (cv p c.s c.b k (enX p c k).a).2]) []] [] (.bool (cv p c.s c.b k (enX p c k).a).2) []):=al (cd p (eo p c (ep c (cj (rf (k:Int)) (cj hO (jj (cj (bi k c.b.length) (jk (cj hd (cj (bi k c.b.length) (cd p (gu p c k b (cj (bw p (c.b.getD k default).pc) (cd p (eo p c (ep c (kP p c k a b d (cj (rf ((enX p c k).tg)) (cj hT (cj (aa.2 k1) (cj (aa.2 k5) (cj (aa.2 k4) (cj (aa.2 k2) (cj (aa.2 k3) (cj (ay.2 k7) (cd p (pX p c (cj (rr c.b.length 8 fun i j=>an enC c.b i j) (cj (rf (k:Int)) (cj (rf ((enX p c k).a.reg)) (cj (rf ((enX p c k).a.n)) (cj (oW p c.s c.b k (enX p c k).a hb) (cj (rf (Prod.snd (cv p c.s c.b (k:Int) (enX p c k).a))) trivial)))))))))))))))))))))))))))))))))
theorem Hy(p:Pg)(c:Cf)(k:Nat)(hk:k<c.b.length)(hb:c.b.length<1000000)(hO:jA p c k)(hd:(c.b.getD k default).dn=false)(a b d:Int)(ab:Bool)(so:Bool)(hT:qo p c k a b d ab so)(k1: ¬(enX p c k).kind=1)(k5: ¬(enX p c k).kind=5)(k4: ¬(enX p c k).kind=4)(k2: ¬(enX p c k).kind=2)(k3: ¬(enX p c k).kind=3)(k7: ¬(enX p c k).kind=7):Vc (vF_ 43 [.agg (pgA p),.agg (cfA c), aI k] [.fv,.fv,jB p c k,.b false,.b false,.b false,.b false,.b false,.b false,.b false,.b false,kV p c k,qq p c k a b d ab so,.bd false,.bd false,.bd false,.bd false,.bd false,.bd false] [] (.bool ((enX p c k).kind==9)) []):=al (cd p (eo p c (ep c (cj (rf (k:Int)) (cj hO (jj (cj (bi k c.b.length) (jk (cj hd (cj (bi k c.b.length) (cd p (gu p c k b (cj (bw p (c.b.getD k default).pc) (cd p (eo p c (ep c (kP p c k a b d (cj (rf ((enX p c k).tg)) (cj hT (cj (aa.2 k1) (cj (aa.2 k5) (cj (aa.2 k4) (cj (aa.2 k2) (cj (aa.2 k3) (cj (aa.2 k7) (cj (rf ((enX p c k).kind==(9:Int))) trivial))))))))))))))))))))))))))
theorem oc{p:Pg}{c:Cf}{i:Int}(h:opV p c i=true): ∃k:Nat,i=(k:Int)∧k<c.b.length:=by
 unfold opV at h
 split at h
 ·exact⟨i.toNat,by omega,by omega⟩
 ·cases h
def Sml(p:Pg)(c:Cf):Prop:= ∀i x,0<=(tA p c i x).1∧(tA p c i x).1<=65535∧0<=(tB p c i x).1∧(tB p c i x).1<=65535
theorem Sml.add{p:Pg}{c:Cf}(h:Sml p c)(i:Int)(x:In): -1000000<=(tA p c i x).1+(tB p c i x).1∧(tA p c i x).1+(tB p c i x).1<=1000000:=by
 have:=h i x;omega
theorem yU(p:Pg)(c:Cf)(i:Int)(hb:c.b.length<1000000)(hm:c.s.m.length<1000000)(hv:Sml p c):pC_ 43 [.agg (pgA p),.agg (cfA c),.int .i64 i] (.bool (cnV p c i)) []:=by
 unfold cnV
 have hO:=DR p c i hb
 cases ho:opV p c i with
 |false=>rw[ho] at hO;exact PureC.vc (Hx p c i hO)
 |true=>
  rw[ho] at hO
  obtain⟨k,rfl,hk⟩:=oc ho
  rw[cK,aK]
  cases hd:(c.b.getD k default).dn with
  |true=>exact PureC.vc (HA p c k hk hb hO hd)
  |false=>
   rw[Bool.not_false,cK]
   have hT:=wW p c k (enX p c k) hb
   have ha:=hv.add k (enX p c k)
   unfold cnK
   by_cases k1:(enX p c k).kind=1
   ·rw[ai k1];exact PureC.vc (HF p c k hk hb hO hd _ _ _ _ _ hT k1)
   rw[af k1]
   by_cases k5:(enX p c k).kind=5
   ·rw[ai k5];exact PureC.vc (HD p c k hk hb hO hd _ _ _ _ _ hT k1 k5)
   rw[af k5]
   by_cases k4:(enX p c k).kind=4
   ·rw[ai k4]
    cases hab:tAB p c k (enX p c k) with
    |false=>rw[hab] at hT;exact PureC.vc (FB p c k hk hb hO hd _ _ _ _ hT k1 k5 k4)
    |true=>rw[hab] at hT;rw[cK];exact PureC.vc (FA p c k hk hb hO hd _ _ _ _ hT k1 k5 k4)
   rw[af k4]
   by_cases k2:(enX p c k).kind=2
   ·rw[ai k2]
    cases hab:tAB p c k (enX p c k) with
    |false=>rw[hab] at hT;exact PureC.vc (FE p c k hk hb hO hd _ _ _ _ hT k1 k5 k4 k2 ha hm)
    |true=>
     rw[hab] at hT;rw[cK]
     by_cases ho:(c.s.m.length:Int)<=adV p c k (enX p c k)
     ·rw[ca ho,mG];exact PureC.vc (FC p c k hk hb hO hd _ _ _ _ hT k1 k5 k4 k2 ha hm ho)
     ·rw[bD ho,cZ];exact PureC.vc (FD p c k hk hb hO hd _ _ _ _ hT k1 k5 k4 k2 ha hm ho)
   rw[af k2]
   by_cases k3:(enX p c k).kind=3
   ·rw[ai k3];exact PureC.vc (HE p c k hk hb hO hd _ _ _ _ _ hT k1 k5 k4 k2 k3)
   rw[af k3]
   by_cases k7:(enX p c k).kind=7
   ·rw[ai k7];exact PureC.vc (HC p c k hk hb hO hd _ _ _ _ _ hT k1 k5 k4 k2 k3 k7)
   rw[af k7];exact PureC.vc (Hy p c k hk hb hO hd _ _ _ _ _ hT k1 k5 k4 k2 k3 k7)
theorem HK(p:Pg)(c:Cf)(i:Int)(hO:Ec p c i):Vc (vF_ 44 [.agg (pgA p),.agg (cfA c), aI i] [.fv,.fv,.cl [.agg (pgA p),.agg (cfA c), aI i] (.bool false) []] [] (.bool false) []):=al (cd p (eo p c (ep c (cj (rf i) (cj hO (cj (rf false) trivial))))))
theorem HM(p:Pg)(c:Cf)(k:Nat)(hk:k<c.b.length)(hb:c.b.length<1000000)(hO:jA p c k)(hd:(c.b.getD k default).kn=true):Vc (vF_ 44 [.agg (pgA p),.agg (cfA c), aI k] [.fv,.fv,jB p c k,.b false,.b false,.b false,.b false,.b false,.b false,.b false,.b true] [] (.bool false) []):=al (cd p (eo p c (ep c (cj (rf (k:Int)) (cj hO (jj (cj (bi k c.b.length) (jk (cj hd (cj (rf false) trivial))))))))))
theorem HL(p:Pg)(c:Cf)(k:Nat)(hk:k<c.b.length)(hb:c.b.length<1000000)(hO:jA p c k)(hd:(c.b.getD k default).kn=false)(a b d:Int)(ab so:Bool)(hT:qo p c k a b d ab so)(k3: ¬(enX p c k).kind=3):Vc (vF_ 44 [.agg (pgA p),.agg (cfA c), aI k] [.fv,.fv,jB p c k,.b false,.b false,.b false,.b false,.b false,.b false,.b false,.b false,kV p c k,qq p c k a b d ab so,.bd false] [] (.bool false) []):=al (cd p (eo p c (ep c (cj (rf (k:Int)) (cj hO (jj (cj (bi k c.b.length) (jk (cj hd (cj (bi k c.b.length) (cd p (gu p c k b (cj (bw p (c.b.getD k default).pc) (cd p (eo p c (ep c (kP p c k a b d (cj (rf ((enX p c k).tg)) (cj hT (cj (aa.2 k3) (cj (rf false) trivial)))))))))))))))))))))
theorem HJ(p:Pg)(c:Cf)(k:Nat)(hk:k<c.b.length)(hb:c.b.length<1000000)(hO:jA p c k)(hd:(c.b.getD k default).kn=false)(a b d:Int)(ab so:Bool)(hT:qo p c k a b d ab so)(k3:(enX p c k).kind=3):Vc (vF_ 44 [.agg (pgA p),.agg (cfA c), aI k] [.fv,.fv,jB p c k,.b false,.b false,.b false,.b false,.b false,.b false,.b false,.b false,kV p c k,qq p c k a b d ab so,.bd true] [] (.bool ab) []):=al (cd p (eo p c (ep c (cj (rf (k:Int)) (cj hO (jj (cj (bi k c.b.length) (jk (cj hd (cj (bi k c.b.length) (cd p (gu p c k b (cj (bw p (c.b.getD k default).pc) (cd p (eo p c (ep c (kP p c k a b d (cj (rf ((enX p c k).tg)) (cj hT (cj (ay.2 k3) (cj (rf ab) trivial)))))))))))))))))))))
theorem D7(p:Pg)(c:Cf)(i:Int)(hb:c.b.length<1000000):pC_ 44 [.agg (pgA p),.agg (cfA c),.int .i64 i] (.bool (caV p c i)) []:=by
 unfold caV
 have hO:=DR p c i hb
 cases ho:opV p c i with
 |false=>rw[ho] at hO;exact PureC.vc (HK p c i hO)
 |true=>
  rw[ho] at hO
  obtain⟨k,rfl,hk⟩:=oc ho
  rw[cK,aK]
  cases hd:(c.b.getD k default).kn with
  |true=>exact PureC.vc (HM p c k hk hb hO hd)
  |false=>
   rw[Bool.not_false,cK]
   have hT:=wW p c k (enX p c k) hb
   by_cases k3:(enX p c k).kind=3
   ·rw[ay.2 k3,cK];exact PureC.vc (HJ p c k hk hb hO hd _ _ _ _ _ hT k3)
   ·rw[aa.2 k3,Bool.false_and];exact PureC.vc (HL p c k hk hb hO hd _ _ _ _ _ hT k3)
theorem Hv(p:Pg)(c:Cf)(h0: ¬c.e=0):Vc (vF_ 40 [.agg (pgA p),.agg (cfA c)] [.fv,.fv,.bd true] [] (.bool false) []):=al (cj (bU.2 h0) (cj (rf false) trivial))
theorem Hu(p:Pg)(c:Cf)(h0:c.e=0)(hl:c.b.length=0):Vc (vF_ 40 [.agg (pgA p),.agg (cfA c)] [.fv,.fv,.bd false,.bd true] [] (.bool false) []):=al (cj (aw.2 h0) (cj (e1 c.b.length 0) (cj (rf false) trivial)))
theorem qN(p:Pg)(c:Cf){Z:Prop}(z:Z):(RF p.ls.length (RR p.ls.length 2 (fun i j=>an lbC p.ls i j) (RF p.is.length (RR p.is.length 9 (fun i j=>an inC p.is i j) (RF ((c.b.getD 0 default).pc) Z))))):=⟨rfl,fun _ _ _ _=>rfl,rfl,fun _ _ _ _=>rfl,rfl,z⟩
abbrev rq(p:Pg)(c:Cf):Orc:= .cl [.agg (pgA p), aI (c.b.getD 0 default).pc] (.agg (inA (enX p c 0))) []
theorem Fy(p:Pg)(c:Cf)(h0:c.e=0)(hl: ¬c.b.length=0)(hd:(c.b.getD 0 default).dn=true)(k3:(enX p c 0).kind=3):Vc (vF_ 40 [.agg (pgA p),.agg (cfA c)] [.fv,.fv,.bd false,.bd false,rq p c,.b true,.b true,.b true,.bd false] [] (.bool (c.b.getD 0 default).kn) []):=al (cj (aw.2 h0) (cj (e0 c.b.length 0) (cj (pv ((0:Int)<=0∧(0:Int)<c.b.length)) (cd p (qN p c (cj (bw p (c.b.getD 0 default).pc) (cj hd (cj hd (cj hd (cj (aw.2 k3) (cj (rf ((c.b.getD 0 default).kn)) trivial)))))))))))
theorem Fx(p:Pg)(c:Cf)(h0:c.e=0)(hl: ¬c.b.length=0)(hd:(c.b.getD 0 default).dn=true)(k3: ¬(enX p c 0).kind=3):Vc (vF_ 40 [.agg (pgA p),.agg (cfA c)] [.fv,.fv,.bd false,.bd false,rq p c,.b true,.b true,.b true,.bd true] [] (.bool true) []):=al (cj (aw.2 h0) (cj (e0 c.b.length 0) (cj (pv ((0:Int)<=0∧(0:Int)<c.b.length)) (cd p (qN p c (cj (bw p (c.b.getD 0 default).pc) (cj hd (cj hd (cj hd (cj (bU.2 k3) (cj (rf true) trivial)))))))))))
theorem BZ(p:Pg)(c:Cf)(h0:c.e=0)(hl: ¬c.b.length=0)(hd:(c.b.getD 0 default).dn=false)(k10:(enX p c 0).kind=10)(k3: ¬(enX p c 0).kind=3):Vc (vF_ 40 [.agg (pgA p),.agg (cfA c)] [.fv,.fv,.bd false,.bd false,rq p c,.b false,.b false,.bd true,.b false,.bd true] [] (.bool true) []):=al (cj (aw.2 h0) (cj (e0 c.b.length 0) (cj (pv ((0:Int)<=0∧(0:Int)<c.b.length)) (cd p (qN p c (cj (bw p (c.b.getD 0 default).pc) (cj hd (cj hd (cj (e1 ((enX p c 0).kind) 10) (cj hd (cj (bU.2 k3) (cj (rf true) trivial))))))))))))
theorem Fz(p:Pg)(c:Cf)(h0:c.e=0)(hl: ¬c.b.length=0)(hd:(c.b.getD 0 default).dn=false)(k10: ¬(enX p c 0).kind=10):Vc (vF_ 40 [.agg (pgA p),.agg (cfA c)] [.fv,.fv,.bd false,.bd false,rq p c,.b false,.b false,.bd false,.b false] [] (.bool false) []):=al (cj (aw.2 h0) (cj (e0 c.b.length 0) (cj (pv ((0:Int)<=0∧(0:Int)<c.b.length)) (cd p (qN p c (cj (bw p (c.b.getD 0 default).pc) (cj hd (cj hd (cj (e0 ((enX p c 0).kind) 10) (cj hd (cj (rf false) trivial)))))))))))
theorem D6(p:Pg)(c:Cf):pC_ 40 [.agg (pgA p),.agg (cfA c)] (.bool (crV p c)) []:=by
 by_cases h0:c.e=0
 ·by_cases hl:c.b.length=0
  ·have e:crV p c=false:=by unfold crV;rw[ai h0,bB hl]
   rw[e];exact PureC.vc (Hu p c h0 hl)
  ·have e:crV p c=crE p (c.b.getD 0 default) []:=by
    unfold crV;rw[ai h0]
    cases h:c.b with
    |nil=>exact absurd (by rw[h];rfl) hl
    |cons a l=>rfl
   rw[e]
   unfold crE
   show PureC _ _ _ (.bool (((c.b.getD 0 default).dn||(enX p c 0).kind==10)&&((enX p c 0).kind !=3||(c.b.getD 0 default).kn))) _
   cases hd:(c.b.getD 0 default).dn with
   |true=>
    rw[mG,cK]
    by_cases k3:(enX p c 0).kind=3
    ·rw[aw.2 k3,cZ];exact PureC.vc (Fy p c h0 hl hd k3)
    ·rw[bU.2 k3,mG];exact PureC.vc (Fx p c h0 hl hd k3)
   |false=>
    rw[cZ]
    by_cases k10:(enX p c 0).kind=10
    ·have k3: ¬(enX p c 0).kind=3:=by omega
     rw[ay.2 k10,cK,bU.2 k3,mG];exact PureC.vc (BZ p c h0 hl hd k10 k3)
    ·rw[aa.2 k10,Bool.false_and];exact PureC.vc (Fz p c h0 hl hd k10)
 ·have e:crV p c=false:=by unfold crV;rw[af h0]
  rw[e];exact PureC.vc (Hv p c h0)
theorem yA(p:Pg){Z:Prop}(z:Z):(RF p.W (RF p.win (RF p.fuel (RF p.r0 (RF p.r1 (RF p.r2 (RF p.r3 (RF p.ms.length (RR p.ms.length 3 (fun i j=>an mmC p.ms i j) Z))))))))):=⟨rfl,rfl,rfl,rfl,rfl,rfl,rfl,rfl,fun _ _ _ _=>rfl,z⟩
theorem AP(p:Pg)(l:List En)(i:Int)(L:List Int)(N:Nat)(g:Nat->Nat->AV)(n:Nat)(hg: ∀a,a<L.length->g a 0= aI (L.getD a 0))(hN:L.length<=N):Vc ((tV 0 L.length (reS p l i L N g n) [(0,0)] (reS p l i L L.length (dB L) n))):=al (cj (pv (L.length<=N)) (cj (pv ((0:Nat)+L.length<=L.length)) (cj (rf L.length) (cj (show ∀(i:Nat),i<L.length-> ∀(j:Nat),j<1->g i j=aI (L.getD i 0) from(fun i hi j hj=>by obtain rfl:j=0:=(by omega);exact hg i hi)) (yA p (cj (rf p.ls.length) (cj (rr p.ls.length 2 fun i j=>an lbC p.ls i j) (cj (rf p.is.length) (cj (rr p.is.length 9 fun i j=>an inC p.is i j) (cj (rf l.length) (cj (rr l.length 8 fun i j=>an enC l i j) (cj (rf i) (cj (rf (0:Nat)) (cj (rf L.length) (cj (rf (n:Int)) (cj (rf false) trivial))))))))))))))))
theorem AN(p:Pg)(st:List Int)(l:List En)(i:Int)(L:List Int)(n:Nat)(hst:st.length<=1000000)(h:oL_ 63 0 (reS p l i st st.length (dB st) 0).st (.ext 0) (reS p l i L L.length (dB L) n).st):Vc (vF_ 63 [.agg (pgA p),lR st,enR l, aI i] [.fz,.lp [(0,1)] (reS p l i st st.length (dB st) 0) (.ext 0) (reS p l i L L.length (dB L) n)] [(0,0)] (.tup [.own 0 0 1 0 L.length,.bool true]) (kW [(3,L)])):=al (cj (ap 0 st.length 8) (cj (za st.length) (cj (rr (0+st.length) 1 fun i j=>aI (st.getD i 0)) (yA p (cj (rf p.ls.length) (cj (rr p.ls.length 2 fun i j=>an lbC p.ls i j) (cj (rf p.is.length) (cj (rr p.is.length 9 fun i j=>an inC p.is i j) (cj (rf l.length) (cj (rr l.length 8 fun i j=>an enC l i j) (cj (rf i) (cj (rf (0:Nat)) (cj (za st.length) (cj (rf (0:Int)) (cj (rf false) (cj h (cj (rf L.length) (cj (rr L.length 1 fun i j=>aI (L.getD i 0)) (cj (rf (0:Nat)) (cj (rf L.length) (cj (rf true) trivial)))))))))))))))))))))
theorem ut(p:Pg)(st:List Int)(l:List En)(i:Int)(L:List Int)(hb:l.length<900000)(hst:st.length<=1000)(hpc: ∀e∈l, -1<=e.pc∧e.pc<=1000000)(h:reV p st l i=some L):pC_ 63 [.agg (pgA p),lR st,enR l,.int .i64 i] (.tup [.own 0 0 1 0 L.length,.bool true]) (kW [(3,L)]):=by
 have hle:=jf i l.length
 obtain⟨N',g',q1,q2,q3⟩:=jy p l i L (by omega) hpc _ 0 st st.length (dB st) (by omega) ⟨aG _,fun a _=>rfl⟩ (by omega) h
 exact PureC.vc (AN p st l i L _ (by omega) (Ok.shr q3.ok (AP p l i L N' g' _ q1.2 q1.1)))
def upE(c:Cf)(k:Nat)(g:En->En):Cf:=⟨c.s,c.b.set k (g (c.b.getD k default)),c.r,c.e⟩
def En.done(e:En):En:={e with dn:=true}
def En.vl(v:Int)(e:En):En:={e with val:=v}
def En.flt(e:En):En:={e with ft:=true}
def En.ad(a:Int)(e:En):En:={e with adr:=a,kn:=true}
def En.ld(v f:Int)(e:En):En:={e with val:=v,frm:=f}
def En.to(t:Int)(e:En):En:={e with nxt:=t}
def cfO(c:Cf)(o:AV):List AV:=s8R c.s++[o,lR c.r,.int .i64 c.e]
theorem jM{i k:Nat}(h:Nat.beq (i+0) (k+0)=true):k=i:=(aj h).symm
theorem dp{b:List En}{k:Nat}{e:En}(hk:k<b.length)(j:Nat):an enC (b.set k e) k j=enC e j:=by
 unfold an;simp[List.getD,hk]
theorem fm{b:List En}{i k:Nat}{e:En}(h:Nat.beq (i+0) (k+0)=false)(j:Nat):an enC (b.set k e) i j=an enC b i j:=by
 have hne: ¬i=k:=fun e=>by subst e;simp at h
 unfold an;simp[List.getD,cA,Ne.symm hne]
theorem pW(c:Cf){Z:Prop}(z:Z):(RR c.s.m.length 1 (fun i j=>aI (List.getD c.s.m i 0)) (RF c.s.st.length (RR c.s.st.length 1 (fun i j=>aI (List.getD c.s.st i 0)) (RF c.s.pc (RF c.b.length (RR c.b.length 8 (fun i j=>an enC c.b i j) (RF c.r.length (RR c.r.length 1 (fun i j=>aI (c.r.getD i 0)) (RF c.e Z))))))))):=⟨fun _ _ _ _=>rfl,rfl,fun _ _ _ _=>rfl,rfl,rfl,fun _ _ _ _=>rfl,rfl,fun _ _ _ _=>rfl,rfl,z⟩
theorem jQ(p:Pg)(c:Cf){Z:Prop}(z:Z):(RF p.ls.length (RR p.ls.length 2 (fun i j=>an lbC p.ls i j) (RF p.is.length (RR p.is.length 9 (fun i j=>an inC p.is i j) (RF c.s.r0 (RF c.s.r1 (RF c.s.r2 (RF c.s.r3 (RF c.s.m.length Z))))))))):=⟨rfl,fun _ _ _ _=>rfl,rfl,fun _ _ _ _=>rfl,rfl,rfl,rfl,rfl,rfl,z⟩
theorem fG(p:Pg){Z:Prop}(z:Z):(RF p.W (RF p.win (RF p.fuel (RF p.r0 (RF p.r1 (RF p.r2 (RF p.r3 (RF p.ms.length (RR p.ms.length 3 (fun i j=>an mmC p.ms i j) Z))))))))):=⟨rfl,rfl,rfl,rfl,rfl,rfl,rfl,rfl,fun _ _ _ _=>rfl,z⟩
theorem Hn(p:Pg)(c:Cf)(i:Int)(hC:pC_ 43 [.agg (pgA p),.agg (cfA c), aI i] (.bool false) []):Vc (vF_ 46 [.agg (pgA p),.agg (cfA c), aI i] [.fv,.cl [.agg (pgA p),.agg (cfA c), aI i] (.bool false) []] [] (.tup [.agg (cfA Cf0),.nils,.bool false]) []):=al (fG p (jQ p c (pW c (cj (rf i) (cj hC (cj (rf (0:Int)) (cj (rf (0:Int)) (cj (rf (0:Int)) (cj (rf (0:Int)) (cj (rf (0:Nat)) (cj (rf (0:Nat)) (cj (rf (0:Int)) (cj (rf (0:Nat)) (cj (rf (0:Nat)) (cj (rf (0:Int)) (cj (rf false) trivial))))))))))))))))
theorem si(c:Cf)(k:Nat)(hk:k<c.b.length): ∀(i:Nat),i<0+c.b.length-> ∀(j:Nat),j<8->(bif Nat.ble (5:Nat) j&&Nat.blt j (6:Nat)&&Nat.beq (i+0) (k+0) then List.getD [AV.bool true] (j-5) AV.junk else bif Nat.blt (i+0) (0:Nat) then AV.junk else an enC c.b (i+0-0) j)=an enC (List.set c.b k (En.done (c.b.getD k default))) i j:=(fun i hi j hj=>by cases hq:Nat.beq (i+0) (k+0) with |true=>obtain rfl:=jM hq;rw[dp hk];exact(match j,hj with |0,_=>rfl |1,_=>rfl |2,_=>rfl |3,_=>rfl |4,_=>rfl |5,_=>rfl |6,_=>rfl |7,_=>rfl)|false=>rw[fm hq];exact(match j,hj with |0,_=>rfl |1,_=>rfl |2,_=>rfl |3,_=>rfl |4,_=>rfl |5,_=>rfl |6,_=>rfl |7,_=>rfl))
theorem ti(c:Cf){Z:Prop}(z:Z):(RF c.r.length (RR c.r.length 1 (fun i j=>aI (c.r.getD i 0)) (RF c.e (RF true Z)))):=⟨rfl,fun _ _ _ _=>rfl,rfl,rfl,z⟩
theorem rY(c:Cf){Z:Prop}(z:Z):(RF c.s.r0 (RF c.s.r1 (RF c.s.r2 (RF c.s.r3 (RF c.s.m.length (RR c.s.m.length 1 (fun i j=>aI (List.getD c.s.m i 0)) (RF c.s.st.length (RR c.s.st.length 1 (fun i j=>aI (List.getD c.s.st i 0)) (RF c.s.pc Z))))))))):=⟨rfl,rfl,rfl,rfl,rfl,fun _ _ _ _=>rfl,rfl,fun _ _ _ _=>rfl,rfl,z⟩
theorem rX(p:Pg)(c:Cf)(k:Nat)(b:Int){Z:Prop}(z:Z):(RF ((enX p c k).b.reg) (RF ((enX p c k).b.n) (RF ((enX p c k).nm) (RF ((enX p c k).tg) Z)))):=⟨rfl,rfl,rfl,rfl,z⟩
theorem rW(p:Pg)(c:Cf)(k:Nat)(a:Int)(d:Int){Z:Prop}(z:Z):(RF c.r.length (RR c.r.length 1 (fun i j=>aI (c.r.getD i 0)) (RF c.e (RF (k:Int) (RF ((enX p c k).kind) (RF ((enX p c k).op) (RF ((enX p c k).d) (RF ((enX p c k).a.reg) (RF ((enX p c k).a.n) Z))))))))):=⟨rfl,fun _ _ _ _=>rfl,rfl,rfl,rfl,rfl,rfl,rfl,rfl,z⟩
theorem rV(c:Cf){Z:Prop}(z:Z):(RR c.s.m.length 1 (fun i j=>aI (List.getD c.s.m i 0)) (RF c.s.st.length (RR c.s.st.length 1 (fun i j=>aI (List.getD c.s.st i 0)) (RF c.s.pc Z)))):=⟨fun _ _ _ _=>rfl,rfl,fun _ _ _ _=>rfl,rfl,z⟩
theorem rU(p:Pg)(c:Cf)(k:Nat)(b:Int){Z:Prop}(z:Z):(RF p.ls.length (RR p.ls.length 2 (fun i j=>an lbC p.ls i j) (RF p.is.length (RR p.is.length 9 (fun i j=>an inC p.is i j) (RF ((c.b.getD k default).pc) Z))))):=⟨rfl,fun _ _ _ _=>rfl,rfl,fun _ _ _ _=>rfl,rfl,z⟩
abbrev sD(p:Pg)(c:Cf)(k:Nat)(a:Int)(b:Int)(d:Int)(ab:Bool)(so:Bool):Prop:=PureC Try.prog 60 [.agg (pgA p),.agg (cfA (upE c k En.done)),.int .i64 k,.agg (inA (enX p c k))] (.tup [.int .i64 a,.int .i64 b,.int .i64 d,.bool ab,.bool so]) []
abbrev sE(p:Pg)(c:Cf)(k:Nat):Prop:=PureC Try.prog 43 [.agg (pgA p),.agg (cfA c),.int .i64 k] (.bool true) []
abbrev sI(p:Pg)(c:Cf)(k:Nat)(a:Int)(b:Int)(d:Int)(ab:Bool)(so:Bool):Orc:= .cp [.agg (pgA p),.agg (cfA (upE c k En.done)), aI k,.agg (inA (enX p c k))] (.tup [aI a, aI b, aI d,.bool ab,.bool so])
abbrev sJ(p:Pg)(c:Cf)(k:Nat):Orc:= .cl [.agg (pgA p), aI (c.b.getD k default).pc] (.agg (inA (enX p c k))) []
abbrev sK(p:Pg)(c:Cf)(k:Nat):Orc:= .cl [.agg (pgA p),.agg (cfA c), aI k] (.bool true) []
theorem Hr(p:Pg)(c:Cf)(k:Nat)(hk:k<c.b.length)(hb:c.b.length<900000)(a b d:Int)(ab so:Bool)(hC:sE p c k)(hT:sD p c k a b d ab so)(k1:(enX p c k).kind=1):Vc (vF_ 46 [.agg (pgA p),.agg (cfA c), aI k] [.fv,sK p c k,sJ p c k,sI p c k a b d ab so,.bd true,.cl [aI p.W, aI (enX p c k).op, aI a, aI b] (.tup [aI (Wd.doV p.W (enX p c k).op a b),.bool (Wd.doB p.W (enX p c k).op)]) []] [] (.tup [.agg (cfA (upE c k fun e=>e.done.vl (Wd.doV p.W (enX p c k).op a b))),.nils,.bool true]) []):=al (fG p (jQ p c (pW c (cj (rf (k:Int)) (cj hC (cj (ap 0 c.b.length 48) (cj (bi k (↑((0:Nat)+c.b.length):Int)) (cj (lz k c.b.length) (cj (lz k c.b.length) (fG p (rU p c k b (cj (bw p (c.b.getD k default).pc) (fG p (jQ p c (rV c (cj (pv ((0:Nat)+c.b.length=(List.set c.b k (En.done (c.b.getD k default))).length)) (cj (si c k hk) (rW p c k a d (rX p c k b (cj hT (cj (ay.2 k1) (cj (rf p.W) (cj (rf ((enX p c k).op)) (cj (rf a) (cj (rf b) (cj (sC p.W (enX p c k).op a b) (cj (lz k c.b.length) (rY c (cj (pv ((0:Nat)+c.b.length=(List.set c.b k (En.vl (Wd.doV p.W (enX p c k).op a b) (En.done (c.b.getD k default)))).length)) (cj (show ∀(i:Nat),i<0+c.b.length-> ∀(j:Nat),j<8->(bif Nat.ble (1:Nat) j&&Nat.blt j (2:Nat)&&Nat.beq (i+0) (k+0) then List.getD [aI (Wd.doV p.W (enX p c k).op a b)] (j-1) AV.junk else bif Nat.ble (5:Nat) j&&Nat.blt j (6:Nat)&&Nat.beq (i+0) (k+0) then List.getD [AV.bool true] (j-5) AV.junk else bif Nat.blt (i+0) (0:Nat) then AV.junk else an enC c.b (i+0-0) j)=an enC (List.set c.b k (En.vl (Wd.doV p.W (enX p c k).op a b) (En.done (c.b.getD k default)))) i j from(fun i hi j hj=>by cases hq:Nat.beq (i+0) (k+0) with |true=>obtain rfl:=jM hq;rw[dp hk];exact(match j,hj with |0,_=>rfl |1,_=>rfl |2,_=>rfl |3,_=>rfl |4,_=>rfl |5,_=>rfl |6,_=>rfl |7,_=>rfl)|false=>rw[fm hq];exact(match j,hj with |0,_=>rfl |1,_=>rfl |2,_=>rfl |3,_=>rfl |4,_=>rfl |5,_=>rfl |6,_=>rfl |7,_=>rfl))) (ti c trivial)))))))))))))))))))))))))))))))
theorem Fs(p:Pg)(c:Cf)(k:Nat)(hk:k<c.b.length)(hb:c.b.length<900000)(a b d:Int)(ab so:Bool)(hC:sE p c k)(hT:sD p c k a b d ab so)(ha: ¬a=0)(k1: ¬(enX p c k).kind=1)(k4:(enX p c k).kind=4):Vc (vF_ 46 [.agg (pgA p),.agg (cfA c), aI k] [.fv,sK p c k,sJ p c k,sI p c k a b d ab so,.bd false,.bd true,.bd true] [] (.tup [.agg (cfA (upE c k fun e=>e.done.vl b)),.nils,.bool true]) []):=al (fG p (jQ p c (pW c (cj (rf (k:Int)) (cj hC (cj (ap 0 c.b.length 48) (cj (bi k (↑((0:Nat)+c.b.length):Int)) (cj (lz k c.b.length) (cj (lz k c.b.length) (fG p (rU p c k b (cj (bw p (c.b.getD k default).pc) (fG p (jQ p c (rV c (cj (pv ((0:Nat)+c.b.length=(List.set c.b k (En.done (c.b.getD k default))).length)) (cj (si c k hk) (rW p c k a d (rX p c k b (cj hT (cj (aa.2 k1) (cj (ay.2 k4) (cj (lz k c.b.length) (cj (n1 a 0) (cj (lz k c.b.length) (rY c (cj (pv ((0:Nat)+c.b.length=(List.set c.b k (En.vl b (En.done (c.b.getD k default)))).length)) (cj (show ∀(i:Nat),i<0+c.b.length-> ∀(j:Nat),j<8->(bif Nat.ble (1:Nat) j&&Nat.blt j (2:Nat)&&Nat.beq (i+0) (k+0) then List.getD [aI b] (j-1) AV.junk else bif Nat.ble (1:Nat) j&&Nat.blt j (2:Nat)&&Nat.beq (i+0) (k+0) then List.getD [aI d] (j-1) AV.junk else bif Nat.ble (5:Nat) j&&Nat.blt j (6:Nat)&&Nat.beq (i+0) (k+0) then List.getD [AV.bool true] (j-5) AV.junk else bif Nat.blt (i+0) (0:Nat) then AV.junk else an enC c.b (i+0-0) j)=an enC (List.set c.b k (En.vl b (En.done (c.b.getD k default)))) i j from(fun i hi j hj=>by cases hq:Nat.beq (i+0) (k+0) with |true=>obtain rfl:=jM hq;rw[dp hk];exact(match j,hj with |0,_=>rfl |1,_=>rfl |2,_=>rfl |3,_=>rfl |4,_=>rfl |5,_=>rfl |6,_=>rfl |7,_=>rfl)|false=>rw[fm hq];exact(match j,hj with |0,_=>rfl |1,_=>rfl |2,_=>rfl |3,_=>rfl |4,_=>rfl |5,_=>rfl |6,_=>rfl |7,_=>rfl))) (ti c trivial)))))))))))))))))))))))))))))
theorem Dw(c:Cf)(k:Nat)(hk:k<c.b.length)(d:Int): ∀(i:Nat),i<0+c.b.length-> ∀(j:Nat),j<8->(bif Nat.ble (1:Nat) j&&Nat.blt j (2:Nat)&&Nat.beq (i+0) (k+0) then List.getD [aI d] (j-1) AV.junk else bif Nat.ble (5:Nat) j&&Nat.blt j (6:Nat)&&Nat.beq (i+0) (k+0) then List.getD [AV.bool true] (j-5) AV.junk else bif Nat.blt (i+0) (0:Nat) then AV.junk else an enC c.b (i+0-0) j)=an enC (List.set c.b k (En.vl d (En.done (c.b.getD k default)))) i j:=(fun i hi j hj=>by cases hq:Nat.beq (i+0) (k+0) with |true=>obtain rfl:=jM hq;rw[dp hk];exact(match j,hj with |0,_=>rfl |1,_=>rfl |2,_=>rfl |3,_=>rfl |4,_=>rfl |5,_=>rfl |6,_=>rfl |7,_=>rfl)|false=>rw[fm hq];exact(match j,hj with |0,_=>rfl |1,_=>rfl |2,_=>rfl |3,_=>rfl |4,_=>rfl |5,_=>rfl |6,_=>rfl |7,_=>rfl))
theorem Ft(p:Pg)(c:Cf)(k:Nat)(hk:k<c.b.length)(hb:c.b.length<900000)(a b d:Int)(ab so:Bool)(hC:sE p c k)(hT:sD p c k a b d ab so)(ha:a=0)(k1: ¬(enX p c k).kind=1)(k4:(enX p c k).kind=4):Vc (vF_ 46 [.agg (pgA p),.agg (cfA c), aI k] [.fv,sK p c k,sJ p c k,sI p c k a b d ab so,.bd false,.bd true,.bd false] [] (.tup [.agg (cfA (upE c k fun e=>e.done.vl d)),.nils,.bool true]) []):=al (fG p (jQ p c (pW c (cj (rf (k:Int)) (cj hC (cj (ap 0 c.b.length 48) (cj (bi k (↑((0:Nat)+c.b.length):Int)) (cj (lz k c.b.length) (cj (lz k c.b.length) (fG p (rU p c k b (cj (bw p (c.b.getD k default).pc) (fG p (jQ p c (rV c (cj (pv ((0:Nat)+c.b.length=(List.set c.b k (En.done (c.b.getD k default))).length)) (cj (si c k hk) (rW p c k a d (rX p c k b (cj hT (cj (aa.2 k1) (cj (ay.2 k4) (cj (lz k c.b.length) (cj (n0 a 0) (rY c (cj (pv ((0:Nat)+c.b.length=(List.set c.b k (En.vl d (En.done (c.b.getD k default)))).length)) (cj (Dw c k hk d) (ti c trivial))))))))))))))))))))))))))))
theorem Hq(p:Pg)(c:Cf)(k:Nat)(hk:k<c.b.length)(hb:c.b.length<900000)(a b d:Int)(ab so:Bool)(hC:sE p c k)(hT:sD p c k a b d ab so)(k1: ¬(enX p c k).kind=1)(k4: ¬(enX p c k).kind=4)(k3:(enX p c k).kind=3):Vc (vF_ 46 [.agg (pgA p),.agg (cfA c), aI k] [.fv,sK p c k,sJ p c k,sI p c k a b d ab so,.bd false,.bd false,.bd true] [] (.tup [.agg (cfA (upE c k fun e=>e.done.vl d)),.nils,.bool true]) []):=al (fG p (jQ p c (pW c (cj (rf (k:Int)) (cj hC (cj (ap 0 c.b.length 48) (cj (bi k (↑((0:Nat)+c.b.length):Int)) (cj (lz k c.b.length) (cj (lz k c.b.length) (fG p (rU p c k b (cj (bw p (c.b.getD k default).pc) (fG p (jQ p c (rV c (cj (pv ((0:Nat)+c.b.length=(List.set c.b k (En.done (c.b.getD k default))).length)) (cj (si c k hk) (rW p c k a d (rX p c k b (cj hT (cj (aa.2 k1) (cj (aa.2 k4) (cj (ay.2 k3) (cj (lz k c.b.length) (rY c (cj (pv ((0:Nat)+c.b.length=(List.set c.b k (En.vl d (En.done (c.b.getD k default)))).length)) (cj (Dw c k hk d) (ti c trivial))))))))))))))))))))))))))))
theorem z7(p:Pg)(c:Cf)(k:Nat)(a:Int)(b:Int):Option.some (bif Nat.ble (6:Nat) (2:Nat)&&Nat.blt (2:Nat) (7:Nat)&&Nat.beq (k+0) (k+0) then AV.bool true else bif Nat.ble (2:Nat) (2:Nat)&&Nat.blt (2:Nat) (3:Nat)&&Nat.beq (k+0) (k+0) then aI (Wd.maskV p.W (a+b)) else aI (c.b.getD (k+0-0) default).adr)=Option.some (aI (Wd.maskV p.W (a+b))):=by rw[cy];rfl
theorem Fu(p:Pg)(c:Cf)(k:Nat)(hk:k<c.b.length)(hb:c.b.length<900000)(a b d:Int)(ab so:Bool)(hC:sE p c k)(hT:sD p c k a b d ab so)(hab: -1000000<=a+b∧a+b<=1000000)(hm:c.s.m.length<1000000)(ho:(c.s.m.length:Int)<=(Wd.maskV p.W (a+b)))(k1: ¬(enX p c k).kind=1)(k4: ¬(enX p c k).kind=4)(k3: ¬(enX p c k).kind=3)(k2:(enX p c k).kind=2):Vc (vF_ 46 [.agg (pgA p),.agg (cfA c), aI k] [.fv,sK p c k,sJ p c k,sI p c k a b d ab so,.bd false,.bd false,.bd false,.bd true,.cl [aI p.W, aI (a+b)] (aI (Wd.maskV p.W (a+b))) [],.lv (aI (Wd.maskV p.W (a+b))),.bd true] [] (.tup [.agg (cfA (upE c k fun e=>(e.done.ad (Wd.maskV p.W (a+b))).flt)),.nils,.bool true]) []):=al (fG p (jQ p c (pW c (cj (rf (k:Int)) (cj hC (cj (ap 0 c.b.length 48) (cj (bi k (↑((0:Nat)+c.b.length):Int)) (cj (lz k c.b.length) (cj (lz k c.b.length) (fG p (rU p c k b (cj (bw p (c.b.getD k default).pc) (fG p (jQ p c (rV c (cj (pv ((0:Nat)+c.b.length=(List.set c.b k (En.done (c.b.getD k default))).length)) (cj (si c k hk) (rW p c k a d (rX p c k b (cj hT (cj (aa.2 k1) (cj (aa.2 k4) (cj (aa.2 k3) (cj (ay.2 k2) (cj (i6 (a+b)) (cj (rf p.W) (cj (rf (a+b)) (cj (aZ p.W (a+b)) (cj (lz k c.b.length) (cj (lz k c.b.length) (cj (z7 p c k a b) (cj (lz k c.b.length) (cj (dt (Wd.maskV p.W (a+b)>=(↑(c.s.m.length):Int))) (cj (lz k c.b.length) (rY c (cj (pv ((0:Nat)+c.b.length=(List.set c.b k (En.flt (En.ad (Wd.maskV p.W (a+b)) (En.done (c.b.getD k default))))).length)) (cj (show ∀(i:Nat),i<0+c.b.length-> ∀(j:Nat),j<8->(bif Nat.ble (7:Nat) j&&Nat.blt j (8:Nat)&&Nat.beq (i+0) (k+0) then List.getD [AV.bool true] (j-7) AV.junk else bif Nat.ble (6:Nat) j&&Nat.blt j (7:Nat)&&Nat.beq (i+0) (k+0) then List.getD [AV.bool true] (j-6) AV.junk else bif Nat.ble (2:Nat) j&&Nat.blt j (3:Nat)&&Nat.beq (i+0) (k+0) then List.getD [aI (Wd.maskV p.W (a+b))] (j-2) AV.junk else bif Nat.ble (5:Nat) j&&Nat.blt j (6:Nat)&&Nat.beq (i+0) (k+0) then List.getD [AV.bool true] (j-5) AV.junk else bif Nat.blt (i+0) (0:Nat) then AV.junk else an enC c.b (i+0-0) j)=an enC (List.set c.b k (En.flt (En.ad (Wd.maskV p.W (a+b)) (En.done (c.b.getD k default))))) i j from(fun i hi j hj=>by cases hq:Nat.beq (i+0) (k+0) with |true=>obtain rfl:=jM hq;rw[dp hk];exact(match j,hj with |0,_=>rfl |1,_=>rfl |2,_=>rfl |3,_=>rfl |4,_=>rfl |5,_=>rfl |6,_=>rfl |7,_=>rfl)|false=>rw[fm hq];exact(match j,hj with |0,_=>rfl |1,_=>rfl |2,_=>rfl |3,_=>rfl |4,_=>rfl |5,_=>rfl |6,_=>rfl |7,_=>rfl))) (ti c trivial))))))))))))))))))))))))))))))))))))))
theorem Fv(p:Pg)(c:Cf)(k:Nat)(hk:k<c.b.length)(hb:c.b.length<900000)(a b d:Int)(ab so:Bool)(hC:sE p c k)(hT:sD p c k a b d ab so)(hab: -1000000<=a+b∧a+b<=1000000)(hm:c.s.m.length<1000000)(ho: ¬(c.s.m.length:Int)<=(Wd.maskV p.W (a+b)))(k1: ¬(enX p c k).kind=1)(k4: ¬(enX p c k).kind=4)(k3: ¬(enX p c k).kind=3)(k2:(enX p c k).kind=2):Vc (vF_ 46 [.agg (pgA p),.agg (cfA c), aI k] [.fv,sK p c k,sJ p c k,sI p c k a b d ab so,.bd false,.bd false,.bd false,.bd true,.cl [aI p.W, aI (a+b)] (aI (Wd.maskV p.W (a+b))) [],.lv (aI (Wd.maskV p.W (a+b))),.bd false,.lv (.agg (pgA p)),.lv (lR c.s.m),.lv (.own 2 1 8 0 (0+c.b.length)),.lv (aI (Wd.maskV p.W (a+b))),.cp [.agg (pgA p),lR c.s.m,enR (c.b.set k ((c.b.getD k default).done.ad (Wd.maskV p.W (a+b)))), aI k, aI (Wd.maskV p.W (a+b))] (.tup [aI (ldV p c.s.m (c.b.set k ((c.b.getD k default).done.ad (Wd.maskV p.W (a+b)))) k (Wd.maskV p.W (a+b))).1, aI (ldV p c.s.m (c.b.set k ((c.b.getD k default).done.ad (Wd.maskV p.W (a+b)))) k (Wd.maskV p.W (a+b))).2.1,.bool (ldV p c.s.m (c.b.set k ((c.b.getD k default).done.ad (Wd.maskV p.W (a+b)))) k (Wd.maskV p.W (a+b))).2.2]),.lv (.agg (cfO c (.own 2 1 8 0 (0+c.b.length)))),.lv (aI (Wd.maskV p.W (a+b)))] [] (.tup [.agg (cfA (upE c k fun e=>(e.done.ad (Wd.maskV p.W (a+b))).ld (ldV p c.s.m (c.b.set k ((c.b.getD k default).done.ad (Wd.maskV p.W (a+b)))) k (Wd.maskV p.W (a+b))).1 (ldV p c.s.m (c.b.set k ((c.b.getD k default).done.ad (Wd.maskV p.W (a+b)))) k (Wd.maskV p.W (a+b))).2.1)),(obR [⟨1,(Wd.maskV p.W (a+b))⟩]),.bool true]) []):=al (fG p (jQ p c (pW c (cj (rf (k:Int)) (cj hC (cj (ap 0 c.b.length 48) (cj (bi k (↑((0:Nat)+c.b.length):Int)) (cj (lz k c.b.length) (cj (lz k c.b.length) (fG p (rU p c k b (cj (bw p (c.b.getD k default).pc) (fG p (jQ p c (rV c (cj (pv ((0:Nat)+c.b.length=(List.set c.b k (En.done (c.b.getD k default))).length)) (cj (si c k hk) (rW p c k a d (rX p c k b (cj hT (cj (aa.2 k1) (cj (aa.2 k4) (cj (aa.2 k3) (cj (ay.2 k2) (cj (i6 (a+b)) (cj (rf p.W) (cj (rf (a+b)) (cj (aZ p.W (a+b)) (cj (lz k c.b.length) (cj (lz k c.b.length) (cj (z7 p c k a b) (cj (lz k c.b.length) (cj (df (Wd.maskV p.W (a+b)>=(↑(c.s.m.length):Int))) (cj (rf (Option.some (AV.agg [aI p.W,aI p.win,aI p.fuel,aI p.r0,aI p.r1,aI p.r2,aI p.r3,AV.row (nat_lit 3) p.ms.length fun(a a_1:Nat)=>an mmC p.ms a a_1,AV.row (nat_lit 2) p.ls.length fun(a a_1:Nat)=>an lbC p.ls a a_1,AV.row (nat_lit 9) p.is.length fun(a a_1:Nat)=>an inC p.is a a_1]))) (cj (rf (Option.some (AV.row (nat_lit 1) c.s.m.length fun(a a_1:Nat)=>aI (List.getD c.s.m a (0:Int))))) (cj (rf (Option.some (AV.own (2:Nat) (1:Nat) (8:Nat) (0:Nat) ((0:Nat)+c.b.length)))) (cj (z7 p c k a b) (cj (lz k c.b.length) (fG p (cj (rf p.ls.length) (cj (rr p.ls.length 2 fun i j=>an lbC p.ls i j) (cj (rf p.is.length) (cj (rr p.is.length 9 fun i j=>an inC p.is i j) (cj (rf c.s.m.length) (cj (rr c.s.m.length 1 fun i j=>aI (List.getD c.s.m i 0)) (cj (pv ((0:Nat)+c.b.length=(List.set c.b k (En.ad (Wd.maskV p.W (a+b)) (En.done (c.b.getD k default)))).length)) (cj (show ∀(i:Nat),i<0+c.b.length-> ∀(j:Nat),j<8->(bif Nat.ble (6:Nat) j&&Nat.blt j (7:Nat)&&Nat.beq (i+0) (k+0) then List.getD [AV.bool true] (j-6) AV.junk else bif Nat.ble (2:Nat) j&&Nat.blt j (3:Nat)&&Nat.beq (i+0) (k+0) then List.getD [aI (Wd.maskV p.W (a+b))] (j-2) AV.junk else bif Nat.ble (5:Nat) j&&Nat.blt j (6:Nat)&&Nat.beq (i+0) (k+0) then List.getD [AV.bool true] (j-5) AV.junk else bif Nat.blt (i+0) (0:Nat) then AV.junk else an enC c.b (i+0-0) j)=an enC (List.set c.b k (En.ad (Wd.maskV p.W (a+b)) (En.done (c.b.getD k default)))) i j from(fun i hi j hj=>by cases hq:Nat.beq (i+0) (k+0) with |true=>obtain rfl:=jM hq;rw[dp hk];exact(match j,hj with |0,_=>rfl |1,_=>rfl |2,_=>rfl |3,_=>rfl |4,_=>rfl |5,_=>rfl |6,_=>rfl |7,_=>rfl)|false=>rw[fm hq];exact(match j,hj with |0,_=>rfl |1,_=>rfl |2,_=>rfl |3,_=>rfl |4,_=>rfl |5,_=>rfl |6,_=>rfl |7,_=>rfl))) (cj (rf (k:Int)) (cj (rf (Wd.maskV p.W (a+b))) (cj (w9 p c.s.m (c.b.set k ((c.b.getD k default).done.ad (Wd.maskV p.W (a+b)))) k (Wd.maskV p.W (a+b)) (by rw[av];omega)) (cj (lz k c.b.length) (cj (lz k c.b.length) (cj (rf (Option.some (AV.agg [aI c.s.r0,aI c.s.r1,aI c.s.r2,aI c.s.r3,AV.row (nat_lit 1) c.s.m.length fun(a a_1:Nat)=>aI (List.getD c.s.m a (0:Int)),AV.row (nat_lit 1) c.s.st.length fun(a a_1:Nat)=>aI (List.getD c.s.st a (0:Int)),aI c.s.pc,AV.own (nat_lit 2) (nat_lit 1) (nat_lit 8) (nat_lit 0) ((0:Nat)+c.b.length),AV.row (nat_lit 1) c.r.length fun(a a_1:Nat)=>aI (c.r.getD a 0),aI c.e]))) (cj (show Option.some (bif Nat.ble (3:Nat) (2:Nat)&&Nat.blt (2:Nat) (4:Nat)&&Nat.beq (k+0) (k+0) then aI (Prod.fst (Prod.snd (ldV p c.s.m (List.set c.b k (En.ad (Wd.maskV p.W (a+b)) (En.done (c.b.getD k default)))) k (Wd.maskV p.W (a+b))))) else bif Nat.ble (1:Nat) (2:Nat)&&Nat.blt (2:Nat) (2:Nat)&&Nat.beq (k+0) (k+0) then AV.junk else bif Nat.ble (6:Nat) (2:Nat)&&Nat.blt (2:Nat) (7:Nat)&&Nat.beq (k+0) (k+0) then AV.bool true else bif Nat.ble (2:Nat) (2:Nat)&&Nat.blt (2:Nat) (3:Nat)&&Nat.beq (k+0) (k+0) then aI (Wd.maskV p.W (a+b)) else aI (c.b.getD (k+0-0) default).adr)=Option.some (aI (Wd.maskV p.W (a+b))) from by rw[cy];rfl) (cj (lz k c.b.length) (rY c (cj (pv ((0:Nat)+c.b.length=(List.set c.b k (En.ld (Prod.fst (ldV p c.s.m (List.set c.b k (En.ad (Wd.maskV p.W (a+b)) (En.done (c.b.getD k default)))) (k:Int) (Wd.maskV p.W (a+b)))) (Prod.fst (Prod.snd (ldV p c.s.m (List.set c.b k (En.ad (Wd.maskV p.W (a+b)) (En.done (c.b.getD k default)))) k (Wd.maskV p.W (a+b))))) (En.ad (Wd.maskV p.W (a+b)) (En.done (c.b.getD k default))))).length)) (cj (show ∀(i:Nat),i<0+c.b.length-> ∀(j:Nat),j<8->(bif Nat.ble (3:Nat) j&&Nat.blt j (4:Nat)&&Nat.beq (i+0) (k+0) then List.getD [aI (Prod.fst (Prod.snd (ldV p c.s.m (List.set c.b k (En.ad (Wd.maskV p.W (a+b)) (En.done (c.b.getD k default)))) k (Wd.maskV p.W (a+b)))))] (j-3) AV.junk else bif Nat.ble (1:Nat) j&&Nat.blt j (2:Nat)&&Nat.beq (i+0) (k+0) then List.getD [aI (Prod.fst (ldV p c.s.m (List.set c.b k (En.ad (Wd.maskV p.W (a+b)) (En.done (c.b.getD k default)))) k (Wd.maskV p.W (a+b))))] (j-1) AV.junk else bif Nat.ble (6:Nat) j&&Nat.blt j (7:Nat)&&Nat.beq (i+0) (k+0) then List.getD [AV.bool true] (j-6) AV.junk else bif Nat.ble (2:Nat) j&&Nat.blt j (3:Nat)&&Nat.beq (i+0) (k+0) then List.getD [aI (Wd.maskV p.W (a+b))] (j-2) AV.junk else bif Nat.ble (5:Nat) j&&Nat.blt j (6:Nat)&&Nat.beq (i+0) (k+0) then List.getD [AV.bool true] (j-5) AV.junk else bif Nat.blt (i+0) (0:Nat) then AV.junk else an enC c.b (i+0-0) j)=an enC (List.set c.b k (En.ld (Prod.fst (ldV p c.s.m (List.set c.b k (En.ad (Wd.maskV p.W (a+b)) (En.done (c.b.getD k default)))) (k:Int) (Wd.maskV p.W (a+b)))) (Prod.fst (Prod.snd (ldV p c.s.m (List.set c.b k (En.ad (Wd.maskV p.W (a+b)) (En.done (c.b.getD k default)))) (k:Int) (Wd.maskV p.W (a+b))))) (En.ad (Wd.maskV p.W (a+b)) (En.done (c.b.getD k default))))) i j from(fun i hi j hj=>by cases hq:Nat.beq (i+0) (k+0) with |true=>obtain rfl:=jM hq;rw[dp hk];exact(match j,hj with |0,_=>rfl |1,_=>rfl |2,_=>rfl |3,_=>rfl |4,_=>rfl |5,_=>rfl |6,_=>rfl |7,_=>rfl)|false=>rw[fm hq];exact(match j,hj with |0,_=>rfl |1,_=>rfl |2,_=>rfl |3,_=>rfl |4,_=>rfl |5,_=>rfl |6,_=>rfl |7,_=>rfl))) (cj (rf c.r.length) (cj (rr c.r.length 1 fun i j=>aI (c.r.getD i 0)) (cj (rf c.e) (cj (rf (1:Nat)) (cj (show ∀(i:Nat),i<1-> ∀(j:Nat),j<2->List.getD [aI 1,aI (Wd.maskV p.W (a+b))] ((i+0)*2+j) AV.junk=an obC [Ob.mk (1:Int) (Wd.maskV p.W (a+b))] i j from(fun i hi j hj=>match i,hi,j,hj with |0,_,0,_=>rfl |0,_,1,_=>rfl)) (cj (rf true) trivial))))))))))))))))))))))))))))))))))))))))))))))))))))))))))))))))
def goV(c:Cf)(k:Nat)(t:Int):Cf:=if(c.b.getD k default).nxt=t then c else⟨c.s.go t,(c.b.set k ((c.b.getD k default).to t)).take (k+1),c.r,c.e⟩
theorem rc{b:List En}{n i:Nat}(h:i<n)(j:Nat):an enC (b.take n) i j=an enC b i j:=by
 unfold an;rw[aq,bg,ai h,aq]
theorem yR(t:Int): ∀(i:Nat),i<1-> ∀(j:Nat),j<2->List.getD [aI 3,aI t] ((i+0)*2+j) AV.junk=an obC [Ob.mk (3:Int) t] i j:=(fun i hi j hj=>match i,hi,j,hj with |0,_,0,_=>rfl |0,_,1,_=>rfl)
theorem yx(c:Cf){Z:Prop}(z:Z):(RF c.r.length (RR c.r.length 1 (fun i j=>aI (c.r.getD i 0)) (RF c.e (RF (1:Nat) Z)))):=⟨rfl,fun _ _ _ _=>rfl,rfl,rfl,z⟩
theorem yw(c:Cf){Z:Prop}(z:Z):(RF c.s.r0 (RF c.s.r1 (RF c.s.r2 (RF c.s.r3 (RF c.s.m.length (RR c.s.m.length 1 (fun i j=>aI (List.getD c.s.m i 0)) (RF c.s.st.length (RR c.s.st.length 1 (fun i j=>aI (List.getD c.s.st i 0)) Z)))))))):=⟨rfl,rfl,rfl,rfl,rfl,fun _ _ _ _=>rfl,rfl,fun _ _ _ _=>rfl,z⟩
theorem G6(c:Cf)(k:Nat)(t:Int)(hk:k<c.b.length)(hb:c.b.length<1000000)(hn:(c.b.getD k default).nxt=t):Vc (qV Try.prog false 65 [.agg (cfO c (enO c.b)), aI k, aI t] [enB c.b] [.bd false] [] (.tup [.agg (cfA c),(obR [⟨3,t⟩])]) []):=al (cj (bi k c.b.length) (cj (pv (k+0<c.b.length)) (cj (aw.2 hn) (yw c (cj (rf c.s.pc) (cj (rf c.b.length) (cj (rr c.b.length 8 fun i j=>an enC c.b i j) (yx c (cj (yR t) trivial)))))))))
theorem G7(c:Cf)(k:Nat)(t:Int)(hk:k<c.b.length)(hb:c.b.length<1000000)(hn: ¬(c.b.getD k default).nxt=t):Vc (qV Try.prog false 65 [.agg (cfO c (enO c.b)), aI k, aI t] [enB c.b] [.bd true] [] (.tup [.agg (cfA ⟨c.s.go t,(c.b.set k ((c.b.getD k default).to t)).take (k+1),c.r,c.e⟩),(obR [⟨3,t⟩])]) []):=al (cj (bi k c.b.length) (cj (pv (k+0<c.b.length)) (cj (bU.2 hn) (cj (bi k c.b.length) (cj (pv (k+0<c.b.length)) (cj (i6 (k+1)) (cj (pv ((0:Int)<=k+1∧(k:Int)+1<=c.b.length)) (yw c (cj (rf t) (cj (show k+nat_lit 1=(List.take (k+1) (List.set c.b k (En.to t (c.b.getD k default)))).length from by rw[aT,av];exact(mI hk).symm) (cj (show ∀(i:Nat),i<k+nat_lit 1-> ∀(j:Nat),j<8->(bif Nat.ble (4:Nat) j&&Nat.blt j (5:Nat)&&Nat.beq (i+0) (k+0) then List.getD [aI t] (j-4) AV.junk else an enC c.b (i+0) j)=an enC (List.take (k+1) (List.set c.b k (En.to t (c.b.getD k default)))) i j from(fun i hi j hj=>by rw[rc (show i<k+1 from hi)];cases hq:Nat.beq (i+0) (k+0) with |true=>obtain rfl:=jM hq;rw[dp hk];exact(match j,hj with |0,_=>rfl |1,_=>rfl |2,_=>rfl |3,_=>rfl |4,_=>rfl |5,_=>rfl |6,_=>rfl |7,_=>rfl)|false=>rw[fm hq];exact(match j,hj with |0,_=>rfl |1,_=>rfl |2,_=>rfl |3,_=>rfl |4,_=>rfl |5,_=>rfl |6,_=>rfl |7,_=>rfl))) (yx c (cj (yR t) trivial)))))))))))))
theorem rL(c:Cf)(k:Nat)(t:Int)(hk:k<c.b.length)(hb:c.b.length<1000000):MutC Try.prog 65 [.agg (cfO c (enO c.b)),.int .i64 k,.int .i64 t] [enB c.b] (.tup [.agg (cfA (goV c k t)),(obR [⟨3,t⟩])]) []:=by
 unfold goV
 by_cases hn:(c.b.getD k default).nxt=t
 ·rw[ai hn];exact MutC.vc (G6 c k t hk hb hn)
 ·rw[af hn];exact MutC.vc (G7 c k t hk hb hn)
theorem jt(c:Cf)(k:Nat)(hk:k<c.b.length): ∀(i:Nat),i<0+c.b.length-> ∀(j:Nat),j<8->(bif Nat.ble (5:Nat) j&&Nat.blt j (6:Nat)&&Nat.beq (i+0) (k+0) then List.getD [AV.bool true] (j-5) AV.junk else bif Nat.blt (i+0) (0:Nat) then AV.junk else an enC c.b (i+0-0) j)=an enC (List.set c.b k (En.done (c.b.getD k default))) i j:=(fun i hi j hj=>by cases hq:Nat.beq (i+0) (k+0) with |true=>obtain rfl:=jM hq;rw[dp hk];exact(match j,hj with |0,_=>rfl |1,_=>rfl |2,_=>rfl |3,_=>rfl |4,_=>rfl |5,_=>rfl |6,_=>rfl |7,_=>rfl)|false=>rw[fm hq];exact(match j,hj with |0,_=>rfl |1,_=>rfl |2,_=>rfl |3,_=>rfl |4,_=>rfl |5,_=>rfl |6,_=>rfl |7,_=>rfl))
theorem qZ(c:Cf)(k:Nat)(hk:k<c.b.length): ∀(i:Nat),i<0+c.b.length-> ∀(j:Nat),j<8->(bif Nat.ble (5:Nat) j&&Nat.blt j (6:Nat)&&Nat.beq i (k+0) then List.getD [AV.bool true] (j-5) AV.junk else bif Nat.blt i (0:Nat) then AV.junk else an enC c.b (i-0) j)=an enC (List.set c.b k (En.done (c.b.getD k default))) i j:=(fun i hi j hj=>by cases hq:Nat.beq i (k+0) with |true=>obtain rfl:=jM (i:=i) hq;rw[dp hk];exact(match j,hj with |0,_=>rfl |1,_=>rfl |2,_=>rfl |3,_=>rfl |4,_=>rfl |5,_=>rfl |6,_=>rfl |7,_=>rfl)|false=>rw[fm (i:=i) hq];exact(match j,hj with |0,_=>rfl |1,_=>rfl |2,_=>rfl |3,_=>rfl |4,_=>rfl |5,_=>rfl |6,_=>rfl |7,_=>rfl))
theorem nb(c:Cf){Z:Prop}(z:Z):(RF c.s.r0 (RF c.s.r1 (RF c.s.r2 (RF c.s.r3 (RF c.s.m.length (RR c.s.m.length 1 (fun i j=>aI (List.getD c.s.m i 0)) (RF c.s.st.length (RR c.s.st.length 1 (fun i j=>aI (List.getD c.s.st i 0)) (RF c.s.pc Z))))))))):=⟨rfl,rfl,rfl,rfl,rfl,fun _ _ _ _=>rfl,rfl,fun _ _ _ _=>rfl,rfl,z⟩
theorem yz(p:Pg)(c:Cf)(k:Nat)(a:Int)(b:Int){Z:Prop}(z:Z):(RF p.W (RF ((enX p c k).op) (RF a (RF b Z)))):=⟨rfl,rfl,rfl,rfl,z⟩
theorem na(p:Pg)(c:Cf)(k:Nat)(b:Int){Z:Prop}(z:Z):(RF ((enX p c k).b.reg) (RF ((enX p c k).b.n) (RF ((enX p c k).nm) (RF ((enX p c k).tg) Z)))):=⟨rfl,rfl,rfl,rfl,z⟩
theorem m9(p:Pg)(c:Cf)(k:Nat)(a:Int)(d:Int){Z:Prop}(z:Z):(RF c.r.length (RR c.r.length 1 (fun i j=>aI (c.r.getD i 0)) (RF c.e (RF (k:Int) (RF ((enX p c k).kind) (RF ((enX p c k).op) (RF ((enX p c k).d) (RF ((enX p c k).a.reg) (RF ((enX p c k).a.n) Z))))))))):=⟨rfl,fun _ _ _ _=>rfl,rfl,rfl,rfl,rfl,rfl,rfl,rfl,z⟩
theorem mZ(c:Cf){Z:Prop}(z:Z):(RR c.s.m.length 1 (fun i j=>aI (List.getD c.s.m i 0)) (RF c.s.st.length (RR c.s.st.length 1 (fun i j=>aI (List.getD c.s.st i 0)) (RF c.s.pc Z)))):=⟨fun _ _ _ _=>rfl,rfl,fun _ _ _ _=>rfl,rfl,z⟩
theorem gr(p:Pg)(c:Cf){Z:Prop}(z:Z):(RF p.ls.length (RR p.ls.length 2 (fun i j=>an lbC p.ls i j) (RF p.is.length (RR p.is.length 9 (fun i j=>an inC p.is i j) (RF c.s.r0 (RF c.s.r1 (RF c.s.r2 (RF c.s.r3 (RF c.s.m.length Z))))))))):=⟨rfl,fun _ _ _ _=>rfl,rfl,fun _ _ _ _=>rfl,rfl,rfl,rfl,rfl,rfl,z⟩
theorem dH(p:Pg){Z:Prop}(z:Z):(RF p.W (RF p.win (RF p.fuel (RF p.r0 (RF p.r1 (RF p.r2 (RF p.r3 (RF p.ms.length (RR p.ms.length 3 (fun i j=>an mmC p.ms i j) Z))))))))):=⟨rfl,rfl,rfl,rfl,rfl,rfl,rfl,rfl,fun _ _ _ _=>rfl,z⟩
theorem mY(p:Pg)(c:Cf)(k:Nat)(b:Int){Z:Prop}(z:Z):(RF p.ls.length (RR p.ls.length 2 (fun i j=>an lbC p.ls i j) (RF p.is.length (RR p.is.length 9 (fun i j=>an inC p.is i j) (RF ((c.b.getD k default).pc) Z))))):=⟨rfl,fun _ _ _ _=>rfl,rfl,fun _ _ _ _=>rfl,rfl,z⟩
theorem mX(c:Cf)(b:Int){Z:Prop}(z:Z):(RR c.s.m.length 1 (fun i j=>aI (List.getD c.s.m i 0)) (RF c.s.st.length (RR c.s.st.length 1 (fun i j=>aI (List.getD c.s.st i 0)) (RF c.s.pc (RF c.b.length (RR c.b.length 8 (fun i j=>an enC c.b i j) (RF c.r.length (RR c.r.length 1 (fun i j=>aI (c.r.getD i 0)) (RF c.e Z))))))))):=⟨fun _ _ _ _=>rfl,rfl,fun _ _ _ _=>rfl,rfl,rfl,fun _ _ _ _=>rfl,rfl,fun _ _ _ _=>rfl,rfl,z⟩
abbrev nl(p:Pg)(c:Cf)(k:Nat)(a:Int)(b:Int)(d:Int)(ab:Bool)(so:Bool):Prop:=PureC Try.prog 60 [.agg (pgA p),.agg (cfA (upE c k En.done)),.int .i64 k,.agg (inA (enX p c k))] (.tup [.int .i64 a,.int .i64 b,.int .i64 d,.bool ab,.bool so]) []
abbrev no(p:Pg)(c:Cf)(k:Nat):Prop:=PureC Try.prog 43 [.agg (pgA p),.agg (cfA c),.int .i64 k] (.bool true) []
abbrev y6(p:Pg)(c:Cf)(k:Nat)(a:Int)(b:Int):Orc:= .cl [aI p.W, aI (enX p c k).op, aI a, aI b] (.tup [aI (Wd.doV p.W (enX p c k).op a b),.bool (Wd.doB p.W (enX p c k).op)]) []
abbrev nu(p:Pg)(c:Cf)(k:Nat)(a:Int)(b:Int)(d:Int)(ab:Bool)(so:Bool):Orc:= .cp [.agg (pgA p),.agg (cfA (upE c k En.done)), aI k,.agg (inA (enX p c k))] (.tup [aI a, aI b, aI d,.bool ab,.bool so])
abbrev nv(p:Pg)(c:Cf)(k:Nat):Orc:= .cl [.agg (pgA p), aI (c.b.getD k default).pc] (.agg (inA (enX p c k))) []
abbrev nx(p:Pg)(c:Cf)(k:Nat):Orc:= .cl [.agg (pgA p),.agg (cfA c), aI k] (.bool true) []
theorem Fq(p:Pg)(c:Cf)(k:Nat)(hk:k<c.b.length)(hb:c.b.length<900000)(a b d:Int)(ab so:Bool)(hC:no p c k)(hT:nl p c k a b d ab so)(hp: -1<=(c.b.getD k default).pc∧(c.b.getD k default).pc<=1000000)(hz:(Wd.doV p.W (enX p c k).op a b)≠0)(k1: ¬(enX p c k).kind=1)(k4: ¬(enX p c k).kind=4)(k3: ¬(enX p c k).kind=3)(k2: ¬(enX p c k).kind=2)(k5:(enX p c k).kind=5):Vc (vF_ 46 [.agg (pgA p),.agg (cfA c), aI k] [.fv,nx p c k,nv p c k,nu p c k a b d ab so,.bd false,.bd false,.bd false,.bd false,.bd true,y6 p c k a b,.bd true,.cm [.agg (cfO (upE c k En.done) (enO (c.b.set k (c.b.getD k default).done))), aI k, aI (enX p c k).tg] [enB (c.b.set k (c.b.getD k default).done)] [(0,2)] (.tup [.agg (cfA (goV (upE c k En.done) k (enX p c k).tg)),(obR [⟨3,(enX p c k).tg⟩])]) []] [] (.tup [.agg (cfA (goV (upE c k En.done) k (enX p c k).tg)),(obR [⟨3,(enX p c k).tg⟩]),.bool true]) []):=al (dH p (gr p c (mX c b (cj (rf (k:Int)) (cj hC (cj (ap 0 c.b.length 48) (cj (bi k (↑((0:Nat)+c.b.length):Int)) (cj (lz k c.b.length) (cj (lz k c.b.length) (dH p (mY p c k b (cj (bw p (c.b.getD k default).pc) (dH p (gr p c (mZ c (cj (pv ((0:Nat)+c.b.length=(List.set c.b k (En.done (c.b.getD k default))).length)) (cj (jt c k hk) (m9 p c k a d (na p c k b (cj hT (cj (aa.2 k1) (cj (aa.2 k4) (cj (aa.2 k3) (cj (aa.2 k2) (cj (ay.2 k5) (cj (lz k c.b.length) (cj (show inK IntKind.i64 ((c.b.getD (k+0-0) default).pc+1) from by simp only[cz,fC];exact dM (by omega) (by omega)) (yz p c k a b (cj (sC p.W (enX p c k).op a b) (cj (bU.2 hz) (cj (pv ((0:Nat)+c.b.length=(List.set c.b k (En.done (c.b.getD k default))).length)) (cj (qZ c k hk) (nb c (cj (rf (0:Nat)) (cj (pv ((0:Nat)+c.b.length=(List.set c.b k (En.done (c.b.getD k default))).length)) (cj (rf c.r.length) (cj (rr c.r.length 1 fun i j=>aI (c.r.getD i 0)) (cj (rf c.e) (cj (rf (k:Int)) (cj (rf ((enX p c k).tg)) (cj (show MutC Try.prog 65 [.agg (cfO (upE c k En.done) (enO (c.b.set k (c.b.getD k default).done))), aI k, aI (enX p c k).tg] [enB (c.b.set k (c.b.getD k default).done)] (.tup [.agg (cfA (goV (upE c k En.done) k (enX p c k).tg)),(obR [⟨3,(enX p c k).tg⟩])]) [] from rL (upE c k En.done) k (enX p c k).tg (by show k<(List.set _ _ _).length;rw[av];exact hk) (by show(List.set _ _ _).length<_;rw[av];omega)) (cj (rf (((goV (upE c k En.done) k (enX p c k).tg).s).r0)) (cj (rf (((goV (upE c k En.done) k (enX p c k).tg).s).r1)) (cj (rf (((goV (upE c k En.done) k (enX p c k).tg).s).r2)) (cj (rf (((goV (upE c k En.done) k (enX p c k).tg).s).r3)) (cj (rf ((((goV (upE c k En.done) k (enX p c k).tg).s).m).length)) (cj (rr ((((goV (upE c k En.done) k (enX p c k).tg).s).m).length) 1 fun i j=>aI (List.getD (((goV (upE c k En.done) k (enX p c k).tg).s).m) i 0)) (cj (rf ((((goV (upE c k En.done) k (enX p c k).tg).s).st).length)) (cj (rr ((((goV (upE c k En.done) k (enX p c k).tg).s).st).length) 1 fun i j=>aI (List.getD (((goV (upE c k En.done) k (enX p c k).tg).s).st) i 0)) (cj (rf (((goV (upE c k En.done) k (enX p c k).tg).s).pc)) (cj (rf (((goV (upE c k En.done) k (enX p c k).tg).b).length)) (cj (rr (((goV (upE c k En.done) k (enX p c k).tg).b).length) 8 fun i j=>an enC ((goV (upE c k En.done) k (enX p c k).tg).b) i j) (cj (rf (((goV (upE c k En.done) k (enX p c k).tg).r).length)) (cj (rr (((goV (upE c k En.done) k (enX p c k).tg).r).length) 1 fun i j=>aI (List.getD ((goV (upE c k En.done) k (enX p c k).tg).r) i 0)) (cj (rf ((goV (upE c k En.done) k (enX p c k).tg).e)) (cj (rf (1:Nat)) (cj (rr 1 2 fun i j=>an obC [Ob.mk (3:Int) (enX p c k).tg] i j) (cj (rf true) trivial))))))))))))))))))))))))))))))))))))))))))))))))))))))))))
theorem tf(c:Cf)(k:Nat){Z:Prop}(z:Z):(RF c.r.length (RR c.r.length 1 (fun i j=>aI (c.r.getD i 0)) (RF c.e (RF (k:Int) Z)))):=⟨rfl,fun _ _ _ _=>rfl,rfl,rfl,z⟩
theorem Fr(p:Pg)(c:Cf)(k:Nat)(hk:k<c.b.length)(hb:c.b.length<900000)(a b d:Int)(ab so:Bool)(hC:no p c k)(hT:nl p c k a b d ab so)(hp: -1<=(c.b.getD k default).pc∧(c.b.getD k default).pc<=1000000)(hz:(Wd.doV p.W (enX p c k).op a b)=0)(k1: ¬(enX p c k).kind=1)(k4: ¬(enX p c k).kind=4)(k3: ¬(enX p c k).kind=3)(k2: ¬(enX p c k).kind=2)(k5:(enX p c k).kind=5):Vc (vF_ 46 [.agg (pgA p),.agg (cfA c), aI k] [.fv,nx p c k,nv p c k,nu p c k a b d ab so,.bd false,.bd false,.bd false,.bd false,.bd true,y6 p c k a b,.bd false,.cm [.agg (cfO (upE c k En.done) (enO (c.b.set k (c.b.getD k default).done))), aI k, aI ((c.b.getD k default).pc+1)] [enB (c.b.set k (c.b.getD k default).done)] [(0,2)] (.tup [.agg (cfA (goV (upE c k En.done) k ((c.b.getD k default).pc+1))),(obR [⟨3,((c.b.getD k default).pc+1)⟩])]) []] [] (.tup [.agg (cfA (goV (upE c k En.done) k ((c.b.getD k default).pc+1))),(obR [⟨3,((c.b.getD k default).pc+1)⟩]),.bool true]) []):=al (dH p (gr p c (mX c b (cj (rf (k:Int)) (cj hC (cj (ap 0 c.b.length 48) (cj (bi k (↑((0:Nat)+c.b.length):Int)) (cj (lz k c.b.length) (cj (lz k c.b.length) (dH p (mY p c k b (cj (bw p (c.b.getD k default).pc) (dH p (gr p c (mZ c (cj (pv ((0:Nat)+c.b.length=(List.set c.b k (En.done (c.b.getD k default))).length)) (cj (jt c k hk) (m9 p c k a d (na p c k b (cj hT (cj (aa.2 k1) (cj (aa.2 k4) (cj (aa.2 k3) (cj (aa.2 k2) (cj (ay.2 k5) (cj (lz k c.b.length) (cj (show inK IntKind.i64 ((c.b.getD (k+0-0) default).pc+1) from by simp only[cz,fC];exact dM (by omega) (by omega)) (yz p c k a b (cj (sC p.W (enX p c k).op a b) (cj (aw.2 hz) (cj (pv ((0:Nat)+c.b.length=(List.set c.b k (En.done (c.b.getD k default))).length)) (cj (qZ c k hk) (nb c (cj (rf (0:Nat)) (cj (pv ((0:Nat)+c.b.length=(List.set c.b k (En.done (c.b.getD k default))).length)) (tf c k (cj (rf ((c.b.getD k default).pc+1)) (cj (show MutC Try.prog 65 [.agg (cfO (upE c k En.done) (enO (c.b.set k (c.b.getD k default).done))), aI k, aI ((c.b.getD k default).pc+1)] [enB (c.b.set k (c.b.getD k default).done)] (.tup [.agg (cfA (goV (upE c k En.done) k ((c.b.getD k default).pc+1))),(obR [⟨3,((c.b.getD k default).pc+1)⟩])]) [] from rL (upE c k En.done) k ((c.b.getD k default).pc+1) (by show k<(List.set _ _ _).length;rw[av];exact hk) (by show(List.set _ _ _).length<_;rw[av];omega)) (cj (rf (((goV (upE c k En.done) k ((c.b.getD k default).pc+1)).s).r0)) (cj (rf (((goV (upE c k En.done) k ((c.b.getD k default).pc+1)).s).r1)) (cj (rf (((goV (upE c k En.done) k ((c.b.getD k default).pc+1)).s).r2)) (cj (rf (((goV (upE c k En.done) k ((c.b.getD k default).pc+1)).s).r3)) (cj (rf ((((goV (upE c k En.done) k ((c.b.getD k default).pc+1)).s).m).length)) (cj (rr ((((goV (upE c k En.done) k ((c.b.getD k default).pc+1)).s).m).length) 1 fun i j=>aI (List.getD (((goV (upE c k En.done) k ((c.b.getD k default).pc+1)).s).m) i 0)) (cj (rf ((((goV (upE c k En.done) k ((c.b.getD k default).pc+1)).s).st).length)) (cj (rr ((((goV (upE c k En.done) k ((c.b.getD k default).pc+1)).s).st).length) 1 fun i j=>aI (List.getD (((goV (upE c k En.done) k ((c.b.getD k default).pc+1)).s).st) i 0)) (cj (rf (((goV (upE c k En.done) k ((c.b.getD k default).pc+1)).s).pc)) (cj (rf (((goV (upE c k En.done) k ((c.b.getD k default).pc+1)).b).length)) (cj (rr (((goV (upE c k En.done) k ((c.b.getD k default).pc+1)).b).length) 8 fun i j=>an enC ((goV (upE c k En.done) k ((c.b.getD k default).pc+1)).b) i j) (cj (rf (((goV (upE c k En.done) k ((c.b.getD k default).pc+1)).r).length)) (cj (rr (((goV (upE c k En.done) k ((c.b.getD k default).pc+1)).r).length) 1 fun i j=>aI (List.getD ((goV (upE c k En.done) k ((c.b.getD k default).pc+1)).r) i 0)) (cj (rf ((goV (upE c k En.done) k ((c.b.getD k default).pc+1)).e)) (cj (rf (1:Nat)) (cj (rr 1 2 fun i j=>an obC [Ob.mk (3:Int) ((c.b.getD k default).pc+1)] i j) (cj (rf true) trivial)))))))))))))))))))))))))))))))))))))))))))))))))))))))
theorem Hp(p:Pg)(c:Cf)(k:Nat)(hk:k<c.b.length)(hb:c.b.length<900000)(a b d:Int)(ab so:Bool)(hC:no p c k)(hT:nl p c k a b d ab so)(k1: ¬(enX p c k).kind=1)(k4: ¬(enX p c k).kind=4)(k3: ¬(enX p c k).kind=3)(k2: ¬(enX p c k).kind=2)(k5: ¬(enX p c k).kind=5)(k7:(enX p c k).kind=7):Vc (vF_ 46 [.agg (pgA p),.agg (cfA c), aI k] [.fv,nx p c k,nv p c k,nu p c k a b d ab so,.bd false,.bd false,.bd false,.bd false,.bd false,.bd true,.cl [.agg (pgA p), aI a] (aI (cO p a)) [],.cm [.agg (cfO (upE c k En.done) (enO (c.b.set k (c.b.getD k default).done))), aI k, aI (cO p a)] [enB (c.b.set k (c.b.getD k default).done)] [(0,2)] (.tup [.agg (cfA (goV (upE c k En.done) k (cO p a))),(obR [⟨3,(cO p a)⟩])]) []] [] (.tup [.agg (cfA (goV (upE c k En.done) k (cO p a))),(obR [⟨3,(cO p a)⟩]),.bool true]) []):=al (dH p (gr p c (mX c b (cj (rf (k:Int)) (cj hC (cj (ap 0 c.b.length 48) (cj (bi k (↑((0:Nat)+c.b.length):Int)) (cj (lz k c.b.length) (cj (lz k c.b.length) (dH p (mY p c k b (cj (bw p (c.b.getD k default).pc) (dH p (gr p c (mZ c (cj (pv ((0:Nat)+c.b.length=(List.set c.b k (En.done (c.b.getD k default))).length)) (cj (jt c k hk) (m9 p c k a d (na p c k b (cj hT (cj (aa.2 k1) (cj (aa.2 k4) (cj (aa.2 k3) (cj (aa.2 k2) (cj (aa.2 k5) (cj (ay.2 k7) (dH p (cj (rf p.ls.length) (cj (rr p.ls.length 2 fun i j=>an lbC p.ls i j) (cj (rf p.is.length) (cj (rr p.is.length 9 fun i j=>an inC p.is i j) (cj (rf a) (cj (DT p a) (cj (pv ((0:Nat)+c.b.length=(List.set c.b k (En.done (c.b.getD k default))).length)) (cj (qZ c k hk) (nb c (cj (rf (0:Nat)) (cj (pv ((0:Nat)+c.b.length=(List.set c.b k (En.done (c.b.getD k default))).length)) (tf c k (cj (rf (cO p a)) (cj (show MutC Try.prog 65 [.agg (cfO (upE c k En.done) (enO (c.b.set k (c.b.getD k default).done))), aI k, aI (cO p a)] [enB (c.b.set k (c.b.getD k default).done)] (.tup [.agg (cfA (goV (upE c k En.done) k (cO p a))),(obR [⟨3,(cO p a)⟩])]) [] from rL (upE c k En.done) k (cO p a) (by show k<(List.set _ _ _).length;rw[av];exact hk) (by show(List.set _ _ _).length<_;rw[av];omega)) (cj (rf ((goV (upE c k En.done) k (cO p a)).s.r0)) (cj (rf ((goV (upE c k En.done) k (cO p a)).s.r1)) (cj (rf ((goV (upE c k En.done) k (cO p a)).s.r2)) (cj (rf ((goV (upE c k En.done) k (cO p a)).s.r3)) (cj (rf (((goV (upE c k En.done) k (cO p a)).s.m).length)) (cj (rr (((goV (upE c k En.done) k (cO p a)).s.m).length) 1 fun i j=>aI (List.getD ((goV (upE c k En.done) k (cO p a)).s.m) i 0)) (cj (rf (((goV (upE c k En.done) k (cO p a)).s.st).length)) (cj (rr (((goV (upE c k En.done) k (cO p a)).s.st).length) 1 fun i j=>aI (List.getD ((goV (upE c k En.done) k (cO p a)).s.st) i 0)) (cj (rf ((goV (upE c k En.done) k (cO p a)).s.pc)) (cj (rf ((goV (upE c k En.done) k (cO p a)).b.length)) (cj (rr ((goV (upE c k En.done) k (cO p a)).b.length) 8 fun i j=>an enC (goV (upE c k En.done) k (cO p a)).b i j) (cj (rf ((goV (upE c k En.done) k (cO p a)).r.length)) (cj (rr ((goV (upE c k En.done) k (cO p a)).r.length) 1 fun i j=>aI (List.getD (goV (upE c k En.done) k (cO p a)).r i 0)) (cj (rf ((goV (upE c k En.done) k (cO p a)).e)) (cj (rf (1:Nat)) (cj (rr 1 2 fun i j=>an obC [Ob.mk (3:Int) (cO p a)] i j) (cj (rf true) trivial))))))))))))))))))))))))))))))))))))))))))))))))))))))))))
theorem yS(c:Cf)(k:Nat)(hk:k<c.b.length): ∀(i:Nat),i<0+c.b.length-> ∀(j:Nat),j<8->(bif Nat.ble (7:Nat) j&&Nat.blt j (8:Nat)&&Nat.beq (i+0) (k+0) then List.getD [AV.bool true] (j-7) AV.junk else bif Nat.ble (5:Nat) j&&Nat.blt j (6:Nat)&&Nat.beq (i+0) (k+0) then List.getD [AV.bool true] (j-5) AV.junk else bif Nat.blt (i+0) (0:Nat) then AV.junk else an enC c.b (i+0-0) j)=an enC (List.set c.b k (En.flt (En.done (c.b.getD k default)))) i j:=(fun i hi j hj=>by cases hq:Nat.beq (i+0) (k+0) with |true=>obtain rfl:=jM hq;rw[dp hk];exact(match j,hj with |0,_=>rfl |1,_=>rfl |2,_=>rfl |3,_=>rfl |4,_=>rfl |5,_=>rfl |6,_=>rfl |7,_=>rfl)|false=>rw[fm hq];exact(match j,hj with |0,_=>rfl |1,_=>rfl |2,_=>rfl |3,_=>rfl |4,_=>rfl |5,_=>rfl |6,_=>rfl |7,_=>rfl))
theorem th(c:Cf){Z:Prop}(z:Z):(RF c.r.length (RR c.r.length 1 (fun i j=>aI (c.r.getD i 0)) (RF c.e (RF true Z)))):=⟨rfl,fun _ _ _ _=>rfl,rfl,rfl,z⟩
theorem pV(p:Pg)(c:Cf){Z:Prop}(z:Z):(RF p.ls.length (RR p.ls.length 2 (fun i j=>an lbC p.ls i j) (RF p.is.length (RR p.is.length 9 (fun i j=>an inC p.is i j) (RF c.s.st.length (RR c.s.st.length 1 (fun i j=>aI (List.getD c.s.st i 0)) Z)))))):=⟨rfl,fun _ _ _ _=>rfl,rfl,fun _ _ _ _=>rfl,rfl,fun _ _ _ _=>rfl,z⟩
theorem Fp(p:Pg)(c:Cf)(k:Nat)(hk:k<c.b.length)(hb:c.b.length<900000)(a b d:Int)(ab so:Bool)(hC:no p c k)(hT:nl p c k a b d ab so)(hst:c.s.st.length<=1000)(hbp: ∀e∈(c.b.set k (c.b.getD k default).done), -1<=e.pc∧e.pc<=1000000)(hv:reV p c.s.st (c.b.set k (c.b.getD k default).done) k=none)(k1: ¬(enX p c k).kind=1)(k4: ¬(enX p c k).kind=4)(k3: ¬(enX p c k).kind=3)(k2: ¬(enX p c k).kind=2)(k5: ¬(enX p c k).kind=5)(k7: ¬(enX p c k).kind=7)(k9:(enX p c k).kind=9):Vc (vF_ 46 [.agg (pgA p),.agg (cfA c), aI k] [.fv,nx p c k,nv p c k,nu p c k a b d ab so,.bd false,.bd false,.bd false,.bd false,.bd false,.bd false,.bd true,.cp [.agg (pgA p),lR c.s.st,enR (c.b.set k (c.b.getD k default).done), aI k] (.tup [.nils,.bool false])] [] (.tup [.agg (cfA (upE c k fun e=>e.done.flt)),.nils,.bool true]) []):=al (dH p (gr p c (mX c b (cj (rf (k:Int)) (cj hC (cj (ap 0 c.b.length 48) (cj (bi k (↑((0:Nat)+c.b.length):Int)) (cj (lz k c.b.length) (cj (lz k c.b.length) (dH p (mY p c k b (cj (bw p (c.b.getD k default).pc) (dH p (gr p c (mZ c (cj (pv ((0:Nat)+c.b.length=(List.set c.b k (En.done (c.b.getD k default))).length)) (cj (jt c k hk) (m9 p c k a d (na p c k b (cj hT (cj (aa.2 k1) (cj (aa.2 k4) (cj (aa.2 k3) (cj (aa.2 k2) (cj (aa.2 k5) (cj (aa.2 k7) (cj (ay.2 k9) (dH p (pV p c (cj (pv ((0:Nat)+c.b.length=(List.set c.b k (En.done (c.b.getD k default))).length)) (cj (jt c k hk) (cj (rf (k:Int)) (cj (o5 p c.s.st (c.b.set k (c.b.getD k default).done) k (by rw[av];omega) hst hbp hv) (cj (lz k c.b.length) (nb c (cj (pv ((0:Nat)+c.b.length=(List.set c.b k (En.flt (En.done (c.b.getD k default)))).length)) (cj (yS c k hk) (th c trivial))))))))))))))))))))))))))))))))))))))
abbrev y5(p:Pg)(c:Cf)(k:Nat)(L:List Int):Orc:= .cq [.agg (pgA p),lR c.s.st,enR (c.b.set k (c.b.getD k default).done), aI k] (.tup [.own 0 0 1 0 L.length,.bool true]) [(3,L)]
theorem Fo(p:Pg)(c:Cf)(k:Nat)(hk:k<c.b.length)(hb:c.b.length<900000)(a b d:Int)(ab so:Bool)(hC:no p c k)(hT:nl p c k a b d ab so)(L:List Int)(hst:c.s.st.length<=1000)(hbp: ∀e∈(c.b.set k (c.b.getD k default).done), -1<=e.pc∧e.pc<=1000000)(hv:reV p c.s.st (c.b.set k (c.b.getD k default).done) k=some L)(hL:L.length=0)(k1: ¬(enX p c k).kind=1)(k4: ¬(enX p c k).kind=4)(k3: ¬(enX p c k).kind=3)(k2: ¬(enX p c k).kind=2)(k5: ¬(enX p c k).kind=5)(k7: ¬(enX p c k).kind=7)(k9:(enX p c k).kind=9):Vc (vF_ 46 [.agg (pgA p),.agg (cfA c), aI k] [.fv,nx p c k,nv p c k,nu p c k a b d ab so,.bd false,.bd false,.bd false,.bd false,.bd false,.bd false,.bd true,y5 p c k L,.bd true] [] (.tup [.agg (cfA (upE c k fun e=>e.done.flt)),.nils,.bool true]) []):=al (dH p (gr p c (mX c b (cj (rf (k:Int)) (cj hC (cj (ap 0 c.b.length 48) (cj (bi k (↑((0:Nat)+c.b.length):Int)) (cj (lz k c.b.length) (cj (lz k c.b.length) (dH p (mY p c k b (cj (bw p (c.b.getD k default).pc) (dH p (gr p c (mZ c (cj (pv ((0:Nat)+c.b.length=(List.set c.b k (En.done (c.b.getD k default))).length)) (cj (jt c k hk) (m9 p c k a d (na p c k b (cj hT (cj (aa.2 k1) (cj (aa.2 k4) (cj (aa.2 k3) (cj (aa.2 k2) (cj (aa.2 k5) (cj (aa.2 k7) (cj (ay.2 k9) (dH p (pV p c (cj (pv ((0:Nat)+c.b.length=(List.set c.b k (En.done (c.b.getD k default))).length)) (cj (jt c k hk) (cj (rf (k:Int)) (cj (ut p c.s.st (c.b.set k (c.b.getD k default).done) k L (by rw[av];omega) hst hbp hv) (cj (e1 L.length 0) (cj (lz k c.b.length) (nb c (cj (pv ((0:Nat)+c.b.length=(List.set c.b k (En.flt (En.done (c.b.getD k default)))).length)) (cj (yS c k hk) (th c trivial)))))))))))))))))))))))))))))))))))))))
theorem Ho(p:Pg)(c:Cf)(k:Nat)(hk:k<c.b.length)(hb:c.b.length<900000)(a b d:Int)(ab so:Bool)(hC:no p c k)(hT:nl p c k a b d ab so)(L:List Int)(hst:c.s.st.length<=1000)(hbp: ∀e∈(c.b.set k (c.b.getD k default).done), -1<=e.pc∧e.pc<=1000000)(hv:reV p c.s.st (c.b.set k (c.b.getD k default).done) k=some L)(hL: ¬L.length=0)(hl6:L.length<1000000)(k1: ¬(enX p c k).kind=1)(k4: ¬(enX p c k).kind=4)(k3: ¬(enX p c k).kind=3)(k2: ¬(enX p c k).kind=2)(k5: ¬(enX p c k).kind=5)(k7: ¬(enX p c k).kind=7)(k9:(enX p c k).kind=9):Vc (vF_ 46 [.agg (pgA p),.agg (cfA c), aI k] [.fv,nx p c k,nv p c k,nu p c k a b d ab so,.bd false,.bd false,.bd false,.bd false,.bd false,.bd false,.bd true,y5 p c k L,.bd false,.cm [.agg (cfO (upE c k En.done) (enO (c.b.set k (c.b.getD k default).done))), aI k, aI (bq L)] [enB (c.b.set k (c.b.getD k default).done)] [(0,2)] (.tup [.agg (cfA (goV (upE c k En.done) k (bq L))),(obR [⟨3,(bq L)⟩])]) []] [] (.tup [.agg (cfA (goV (upE c k En.done) k (bq L))),(obR [⟨3,(bq L)⟩]),.bool true]) []):=al (dH p (gr p c (mX c b (cj (rf (k:Int)) (cj hC (cj (ap 0 c.b.length 48) (cj (bi k (↑((0:Nat)+c.b.length):Int)) (cj (lz k c.b.length) (cj (lz k c.b.length) (dH p (mY p c k b (cj (bw p (c.b.getD k default).pc) (dH p (gr p c (mZ c (cj (pv ((0:Nat)+c.b.length=(List.set c.b k (En.done (c.b.getD k default))).length)) (cj (jt c k hk) (m9 p c k a d (na p c k b (cj hT (cj (aa.2 k1) (cj (aa.2 k4) (cj (aa.2 k3) (cj (aa.2 k2) (cj (aa.2 k5) (cj (aa.2 k7) (cj (ay.2 k9) (dH p (pV p c (cj (pv ((0:Nat)+c.b.length=(List.set c.b k (En.done (c.b.getD k default))).length)) (cj (jt c k hk) (cj (rf (k:Int)) (cj (ut p c.s.st (c.b.set k (c.b.getD k default).done) k L (by rw[av];omega) hst hbp hv) (cj (e0 L.length 0) (cj (i6 (L.length-1)) (cj (bi (L.length-1) L.length) (cj (pv (Int.toNat ((L.length:Int)-1)+0<L.length)) (cj (pv ((0:Nat)+c.b.length=(List.set c.b k (En.done (c.b.getD k default))).length)) (cj (qZ c k hk) (nb c (cj (rf (0:Nat)) (cj (pv ((0:Nat)+c.b.length=(List.set c.b k (En.done (c.b.getD k default))).length)) (tf c k (cj (rf (bq L)) (cj (show MutC Try.prog 65 [.agg (cfO (upE c k En.done) (enO (c.b.set k (c.b.getD k default).done))), aI k, aI (bq L)] [enB (c.b.set k (c.b.getD k default).done)] (.tup [.agg (cfA (goV (upE c k En.done) k (bq L))),(obR [⟨3,(bq L)⟩])]) [] from rL (upE c k En.done) k (bq L) (by show k<(List.set _ _ _).length;rw[av];exact hk) (by show(List.set _ _ _).length<_;rw[av];omega)) (cj (rf ((goV (upE c k En.done) k (bq L)).s.r0)) (cj (rf ((goV (upE c k En.done) k (bq L)).s.r1)) (cj (rf ((goV (upE c k En.done) k (bq L)).s.r2)) (cj (rf ((goV (upE c k En.done) k (bq L)).s.r3)) (cj (rf (((goV (upE c k En.done) k (bq L)).s.m).length)) (cj (rr (((goV (upE c k En.done) k (bq L)).s.m).length) 1 fun i j=>aI (List.getD ((goV (upE c k En.done) k (bq L)).s.m) i 0)) (cj (rf (((goV (upE c k En.done) k (bq L)).s.st).length)) (cj (rr (((goV (upE c k En.done) k (bq L)).s.st).length) 1 fun i j=>aI (List.getD ((goV (upE c k En.done) k (bq L)).s.st) i 0)) (cj (rf ((goV (upE c k En.done) k (bq L)).s.pc)) (cj (rf ((goV (upE c k En.done) k (bq L)).b.length)) (cj (rr ((goV (upE c k En.done) k (bq L)).b.length) 8 fun i j=>an enC (goV (upE c k En.done) k (bq L)).b i j) (cj (rf ((goV (upE c k En.done) k (bq L)).r.length)) (cj (rr ((goV (upE c k En.done) k (bq L)).r.length) 1 fun i j=>aI (List.getD (goV (upE c k En.done) k (bq L)).r i 0)) (cj (rf ((goV (upE c k En.done) k (bq L)).e)) (cj (rf (1:Nat)) (cj (rr 1 2 fun i j=>an obC [Ob.mk (3:Int) (bq L)] i j) (cj (rf true) trivial))))))))))))))))))))))))))))))))))))))))))))))))))))))))))))))
def obX(l:List Ob):AV:=match l with
 | []=> .nils
 |o::r=>obR (o::r)
def dmV(p:Pg)(c:Cf)(k:Nat):Cf×List Ob:=
 if(enX p c k).kind=1 then(upE c k fun e=>e.done.vl (Wd.doV p.W (enX p c k).op (tA p (upE c k En.done) k (enX p c k)).1 (tB p (upE c k En.done) k (enX p c k)).1),[])
 else if(enX p c k).kind=4 then(upE c k fun e=>e.done.vl (if(tA p (upE c k En.done) k (enX p c k)).1=0 then(tD p (upE c k En.done) k (enX p c k)).1 else(tB p (upE c k En.done) k (enX p c k)).1),[])
 else if(enX p c k).kind=3 then(upE c k fun e=>e.done.vl (tD p (upE c k En.done) k (enX p c k)).1,[])
 else if(enX p c k).kind=2 then(if(c.s.m.length:Int)<=adV p (upE c k En.done) k (enX p c k) then(upE c k fun e=>(e.done.ad (adV p (upE c k En.done) k (enX p c k))).flt,[])
  else(upE c k fun e=>(e.done.ad (adV p (upE c k En.done) k (enX p c k))).ld (ldV p c.s.m (upE c k fun e=>e.done.ad (adV p (upE c k En.done) k (enX p c k))).b k (adV p (upE c k En.done) k (enX p c k))).1 (ldV p c.s.m (upE c k fun e=>e.done.ad (adV p (upE c k En.done) k (enX p c k))).b k (adV p (upE c k En.done) k (enX p c k))).2.1,[⟨1,adV p (upE c k En.done) k (enX p c k)⟩]))
 else if(enX p c k).kind=5 then(goV (upE c k En.done) k (if Wd.doV p.W (enX p c k).op (tA p (upE c k En.done) k (enX p c k)).1 (tB p (upE c k En.done) k (enX p c k)).1=0 then(c.b.getD k default).pc+1 else(enX p c k).tg),[⟨3,if Wd.doV p.W (enX p c k).op (tA p (upE c k En.done) k (enX p c k)).1 (tB p (upE c k En.done) k (enX p c k)).1=0 then(c.b.getD k default).pc+1 else(enX p c k).tg⟩])
 else if(enX p c k).kind=7 then(goV (upE c k En.done) k (cO p (tA p (upE c k En.done) k (enX p c k)).1),[⟨3,cO p (tA p (upE c k En.done) k (enX p c k)).1⟩])
 else match reV p c.s.st (upE c k En.done).b k with
  |none=>(upE c k fun e=>e.done.flt,[])
  |some L=>if L.length=0 then(upE c k fun e=>e.done.flt,[]) else(goV (upE c k En.done) k (bq L),[⟨3,bq L⟩])
def doO(p:Pg)(c:Cf)(i:Int):Option (Cf×List Ob):=if cnV p c i=true then some (dmV p c i.toNat) else none
def dmA(o:Option (Cf×List Ob)):AV:=match o with
 |some q=> .tup [.agg (cfA q.1),obX q.2,.bool true]
 |none=> .tup [.agg (cfA Cf0),.nils,.bool false]
theorem li(p:Pg)(l:List En): ∀j k st L,reG p l k j st=some L->L.length<=st.length+j
 |0,k,st,L,h=>by cases h;omega
 |j+1,k,st,L,h=>by
  unfold reG at h
  split at h
  ·split at h
   ·cases h
   ·have:=li p l j _ _ _ h;rw[aJ,bO] at this;omega
  ·split at h
   ·split at h
    ·cases h
    ·have:=li p l j _ _ _ h;rw[aT] at this;omega
   ·have:=li p l j _ _ _ h;omega
theorem zT{l:List En}{k:Nat}{g:En->En}(hg: ∀e,(g e).pc=e.pc)(hk:k<l.length)(h: ∀e∈l, -1<=e.pc∧e.pc<=1000000): ∀e∈l.set k (g (l.getD k default)), -1<=e.pc∧e.pc<=1000000:=fun e he=>by
 rcases b7 he with h1 |h1
 ·exact h e h1
 ·rw[h1,hg];exact h _ (by simp[List.getD,hk])
theorem gk{p:Pg}{c:Cf}{i:Int}(h:cnV p c i=true): ∃k:Nat,i=(k:Int)∧k<c.b.length∧(c.b.getD k default).dn=false∧cnK p c k (enX p c k)=true:=by
 unfold cnV at h
 rw[au] at h
 obtain⟨k,rfl,hk⟩:=oc h.1
 rw[aK,au] at h
 exact⟨k,rfl,hk,by simpa using h.2.1,h.2.2⟩
theorem Gu(p:Pg)(c:Cf)(i:Int)(hb:c.b.length<900000)(hm:c.s.m.length<1000000)(hv:Sml p c)(hv': ∀k,Sml p (upE c k En.done))(hst:c.s.st.length<=1000)(hbp: ∀e∈c.b, -1<=e.pc∧e.pc<=1000000):pC_ 46 [.agg (pgA p),.agg (cfA c),.int .i64 i] (dmA (doO p c i)) []:=by
 have hC:=yU p c i (by omega) hm hv
 unfold doO
 cases hc:cnV p c i with
 |false=>
  rw[hc] at hC
  exact PureC.vc (Hn p c i hC)
 |true=>
  rw[hc] at hC
  obtain⟨k,rfl,hk,hd,hK⟩:=gk hc
  rw[ai rfl,aK]
  have hT:=wW p (upE c k En.done) k (enX p c k) (by show(List.set _ _ _).length<_;rw[av];omega)
  have ha:=(hv' k).add k (enX p c k)
  have hp: -1<=(c.b.getD k default).pc∧(c.b.getD k default).pc<=1000000:=hbp _ (by simp[List.getD,hk])
  have hbs:=zT (g:=En.done) (fun e=>rfl) hk hbp
  unfold dmV
  by_cases k1:(enX p c k).kind=1
  ·rw[ai k1];exact PureC.vc (Hr p c k hk hb _ _ _ _ _ hC hT k1)
  rw[af k1]
  by_cases k4:(enX p c k).kind=4
  ·rw[ai k4]
   by_cases h0:(tA p (upE c k En.done) k (enX p c k)).1=0
   ·rw[ai h0];exact PureC.vc (Ft p c k hk hb _ _ _ _ _ hC hT h0 k1 k4)
   ·rw[af h0];exact PureC.vc (Fs p c k hk hb _ _ _ _ _ hC hT h0 k1 k4)
  rw[af k4]
  by_cases k3:(enX p c k).kind=3
  ·rw[ai k3];exact PureC.vc (Hq p c k hk hb _ _ _ _ _ hC hT k1 k4 k3)
  rw[af k3]
  by_cases k2:(enX p c k).kind=2
  ·rw[ai k2]
   by_cases ho:(c.s.m.length:Int)<=adV p (upE c k En.done) k (enX p c k)
   ·rw[ai ho];exact PureC.vc (Fu p c k hk hb _ _ _ _ _ hC hT ha hm ho k1 k4 k3 k2)
   ·rw[af ho];exact PureC.vc (Fv p c k hk hb _ _ _ _ _ hC hT ha hm ho k1 k4 k3 k2)
  rw[af k2]
  by_cases k5:(enX p c k).kind=5
  ·rw[ai k5]
   by_cases h0:Wd.doV p.W (enX p c k).op (tA p (upE c k En.done) k (enX p c k)).1 (tB p (upE c k En.done) k (enX p c k)).1=0
   ·rw[ai h0];exact PureC.vc (Fr p c k hk hb _ _ _ _ _ hC hT hp h0 k1 k4 k3 k2 k5)
   ·rw[af h0];exact PureC.vc (Fq p c k hk hb _ _ _ _ _ hC hT hp h0 k1 k4 k3 k2 k5)
  rw[af k5]
  by_cases k7:(enX p c k).kind=7
  ·rw[ai k7];exact PureC.vc (Hp p c k hk hb _ _ _ _ _ hC hT k1 k4 k3 k2 k5 k7)
  rw[af k7]
  have k9:(enX p c k).kind=9:=by
   unfold cnK at hK
   rw[af k1,af k5,af k4,af k2,af k3,af k7] at hK
   exact ay.1 hK
  cases hv:reV p c.s.st (upE c k En.done).b k with
  |none=>exact PureC.vc (Fp p c k hk hb _ _ _ _ _ hC hT hst hbs hv k1 k4 k3 k2 k5 k7 k9)
  |some L=>
   have h6:=li _ _ _ _ _ _ hv
   have h7:=jf k (upE c k En.done).b.length
   have h8:(upE c k En.done).b.length=c.b.length:=av
   by_cases h0:L.length=0
   ·show PureC _ _ _ (dmA (some (if _ then _ else _))) _
    rw[ai h0];exact PureC.vc (Fo p c k hk hb _ _ _ _ _ hC hT L hst hbs hv h0 k1 k4 k3 k2 k5 k7 k9)
   ·show PureC _ _ _ (dmA (some (if _ then _ else _))) _
    rw[af h0];exact PureC.vc (Ho p c k hk hb _ _ _ _ _ hC hT L hst hbs hv h0 (by omega) k1 k4 k3 k2 k5 k7 k9)
end
end Go.Proofs.Ytdanmboalfmifaa.Px
