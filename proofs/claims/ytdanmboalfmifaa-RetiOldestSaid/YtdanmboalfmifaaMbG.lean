import Derived.Test.YtdanmboalfmifaaMbF
import Derived.Test.YtdanmboalfmifaaMbD
import Derived.Test.YtdanmboalfmifaaMbA
import Derived.Outline
import Derived.Test.YtdanmboalfmifaaRows
import Derived.Lib.Bytes
import Derived.Lib.Bytealg
import Derived.Deep.QuietTactic
import Derived.BigQuiet
set_option linter.unusedVariables false
set_option linter.unusedSimpArgs false
set_option maxRecDepth 100000
namespace Go.Proofs.Ytdanmboalfmifaa.Px
section
open Go.RowKit Go.Proofs.Ytdanmboalfmifaa.Rx
structure M1 where
 p:Int
 s:Int
 r0:Int
 r1:Int
 r2:Int
 r3:Int
def M1.set(m:M1)(k:Nat)(v:Int):M1:=match k with
 |0=>{m with r0:=v}
 |1=>{m with r1:=v}
 |2=>{m with r2:=v}
 |_=>{m with r3:=v}
def mq(l:List Int)(k:Nat):Nat:=(bits .and .i64 (Int.fdiv (kN l 1) (2^(2*k))) 3).toNat
def jF(W:Int)(q k:Nat)(m:M1):M1:=
 if q=2 then(if m.p+W<=2 then{m.set k 1 with p:=m.p+W} else m.set k 0)
 else if q=3 then(if m.s+W<=2 then{m.set k 2 with s:=m.s+W} else m.set k 0) else m.set k 0
def mK(W:Int)(l:List Int):Nat->M1
 |0=>⟨0,0,0,0,0,0⟩
 |k+1=>jF W (mq l k) k (mK W l k)
def Cm:AV:= .clo 34 [.bptr 0 0]
def Cl(l:List Int):Blk:=⟨0,true,38,.box [.row 1 l.length (dz l)]⟩
def bJ(n:Nat):Blk:=⟨0,false,33,.box (List.replicate n .junk)⟩
def bP(W w:Int)(m:M1)(a b c:AV):Blk:=⟨0,false,33,.box [.int .i64 W,.int .i64 w,.int .i64 6,.int .i64 m.r0,.int .i64 m.r1,.int .i64 m.r2,.int .i64 m.r3,a,b,c]⟩
def mmB(ms:List Mm):Blk:=⟨0,false,23,.rows 3 ms.length (an mmC ms)⟩
def lbN(i:Nat):Lb:=⟨⟨#[108]⟩++dgS i,i⟩
def lbL:Nat->List Lb
 |0=>[]
 |k+1=>lbL k++[lbN k]
def inL(l:List Int)(n:Nat):Nat->List In
 |0=>[]
 |k+1=>inL l n k++[g9 (kN l (k+2)) n]
def lbB(l:List Lb):Blk:=⟨0,false,86,.rows 2 l.length (an lbC l)⟩
def inB(l:List In):Blk:=⟨0,false,28,.rows 9 l.length (an inC l)⟩
def aW(l:List Int):Int:=Int.tmod (bits .and .i64 (Int.fdiv (kN l 0) (2^1)) 255) 3+1
def mk1(W w:Int)(l:List Int)(m:M1)(k:Nat):Sm:=⟨[(3,Cm),(4,.bptr 2 0),(2,.bptr 1 0),(5,.int .i64 m.p),(6,.int .i64 m.s),(7,.int .i64 k)],[(0,Cl l),(1,bJ 10),(2,bP W w m .nils .nils .nils)],3⟩
def mk2(W w:Int)(l:List Int)(m:M1)(ms:List Mm)(n k:Nat):Sm:=⟨[(3,Cm),(4,.bptr 2 0),(2,.bptr 1 0),(8,.int .i64 n),(9,.int .i64 k)],[(0,Cl l),(1,bJ 10),(2,bP W w m (.own 3 0 3 0 ms.length) (.own 4 0 2 0 (lbL k).length) .nils),(3,mmB ms),(4,lbB (lbL k))],5⟩
def mk3(W w:Int)(l:List Int)(m:M1)(ms:List Mm)(n k:Nat):Sm:=⟨[(3,Cm),(4,.bptr 2 0),(2,.bptr 1 0),(8,.int .i64 n),(10,.int .i64 k)],[(0,Cl l),(1,bJ 10),(2,bP W w m (.own 3 0 3 0 ms.length) (.own 4 0 2 0 (lbL (n+1)).length) (.own 5 0 9 0 (inL l n k).length)),(3,mmB ms),(4,lbB (lbL (n+1))),(5,inB (inL l n k))],6⟩
def shK(k:Nat):Nat:=min (IntKind.u64.wrap (2*(k:Int))).toNat 64
def bpC(W w:Int)(m:M1):List AV:=[.int .i64 W,.int .i64 w,.int .i64 6,.int .i64 m.r0,.int .i64 m.r1,.int .i64 m.r2,.int .i64 m.r3,.nils,.nils,.nils]
def M1.up(m:M1)(p s:Int):M1:={m with p:=p,s:=s}
theorem bs1(W w:Int)(m:M1)(k:Nat)(v:Int)(hk:k<4):setR (bpC W w m) (3+k*1) [.int .i64 v]=bpC W w (m.set k v):=match k,hk with |0,_=>rfl |1,_=>rfl |2,_=>rfl |3,_=>rfl
theorem bs2(W w:Int)(m:M1)(k:Nat)(u:Int)(hk:k<4):setR (bpC W w (m.set k u)) (3+k*1) [.int .i64 0]=bpC W w (m.set k 0):=match k,hk with |0,_=>rfl |1,_=>rfl |2,_=>rfl |3,_=>rfl
theorem bs3(W w:Int)(m:M1)(k:Nat)(v:Int)(hk:k<4):ei Try.prog 3 (bpC W w (m.set k v)) (3+k*1)=some (.int .i64 v):=match k,hk with |0,_=>rfl |1,_=>rfl |2,_=>rfl |3,_=>rfl
theorem M1.sp{m:M1}{k:Nat}{v:Int}:m.p=(m.set k v).p:=by unfold M1.set;split<;>rfl
theorem M1.ss{m:M1}{k:Nat}{v:Int}:m.s=(m.set k v).s:=by unfold M1.set;split<;>rfl
theorem xH(W:Int)(w:Int)(m:M1)(k:Nat)(hk:k<4):ei Try.prog 3 (bpC W w (m.set k 0)) (3+k*1)=some (aI 0):=bs3 W w m k 0 hk
theorem xd(W:Int)(w:Int)(l:List Int)(m:M1)(k:Nat){Z:Prop}(z:Z):(RF l.length (RR l.length 1 (fun i j=>aI (l.getD i 0)) (RF W (RF w (RF (6:Int) (RF ((M1.set m k (0:Int)).r0) (RF ((M1.set m k (0:Int)).r1) (RF ((M1.set m k (0:Int)).r2) (RF ((M1.set m k (0:Int)).r3) Z))))))))):=⟨rfl,fun _ _ _ _=>rfl,rfl,rfl,rfl,rfl,rfl,rfl,rfl,z⟩
theorem dI(l:List Int){Z:Prop}(z:Z):(RF (1:Int) (RF l.length (RR l.length 1 (fun i j=>aI (l.getD i 0)) Z))):=⟨rfl,rfl,fun _ _ _ _=>rfl,z⟩
abbrev dw(l:List Int):Orc:= .cl [aI (1:Nat),tJ l] (aI (kN l 1)) []
theorem HZ(W w:Int)(l:List Int)(m:M1)(k:Nat)(hk:k<4)(hW:1<=W∧W<=2)(hp:0<=m.p∧m.p<=2)(hs:0<=m.s∧m.s<=2)(hq:bits .and .i64 (Int.fdiv (kN l 1) (2^shK k)) 3=((0:Nat):Int)):Vc (vC_ 12 0 (mk1 W w l m k) [.bd true,dw l,.iy 0,.iz,.sv (bpC W w (m.set k 0)),.iz,.lv (aI 0),.bd false,.iz,.lv (aI 0),.bd false,.iz,.sv (bpC W w (m.set k 0))] .nrm [(0,0),(1,1),(2,2)] (mk1 W w l (m.set k 0) (k+1))):=al (cj (dt ((k:Int)<4)) (dI l (cj (kC l 1 (by omega)) (cj (i6 (2*k)) (cj (show(0:Int)<=IntKind.wrap IntKind.u64 ((2:Int)*(k:Int)) from by rw[IntKind.wrap_u64];omega) (cj hq (cj (bi (0:Nat) (4:Nat)) (cj (pv ((0:Nat)<4)) (cj (bi k (4:Nat)) (cj (pv ((3:Nat)+k*1+1<=10)) (cj (show setR (bpC W w m) (3+k*1) [aI 0]=bpC W w (m.set k 0) from bs1 W w m k 0 hk) (cj (bi k (4:Nat)) (cj (xH W w m k hk) (cj (e0 0 1) (cj (bi k (4:Nat)) (cj (xH W w m k hk) (cj (e0 0 2) (cj (bi k (4:Nat)) (cj (pv ((3:Nat)+k*1+1<=10)) (cj (show setR (bpC W w (m.set k 0)) (3+k*1) [aI 0]=bpC W w (m.set k 0) from bs2 W w m k 0 hk) (cj (i6 (k+1)) (xd W w l m k (cj (show m.p=(M1.set m k (0:Int)).p from M1.sp) (cj (show m.s=(M1.set m k (0:Int)).s from M1.ss) (cj (rf ((k:Int)+1)) trivial)))))))))))))))))))))))))
theorem HY(W w:Int)(l:List Int)(m:M1)(k:Nat)(hk:k<4)(hW:1<=W∧W<=2)(hp:0<=m.p∧m.p<=2)(hs:0<=m.s∧m.s<=2)(hq:bits .and .i64 (Int.fdiv (kN l 1) (2^shK k)) 3=((1:Nat):Int)):Vc (vC_ 12 0 (mk1 W w l m k) [.bd true,dw l,.iy 1,.iz,.sv (bpC W w (m.set k 0)),.iz,.lv (aI 0),.bd false,.iz,.lv (aI 0),.bd false,.iz,.sv (bpC W w (m.set k 0))] .nrm [(0,0),(1,1),(2,2)] (mk1 W w l (m.set k 0) (k+1))):=al (cj (dt ((k:Int)<4)) (dI l (cj (kC l 1 (by omega)) (cj (i6 (2*k)) (cj (show(0:Int)<=IntKind.wrap IntKind.u64 ((2:Int)*(k:Int)) from by rw[IntKind.wrap_u64];omega) (cj hq (cj (bi (1:Nat) (4:Nat)) (cj (pv ((1:Nat)<4)) (cj (bi k (4:Nat)) (cj (pv ((3:Nat)+k*1+1<=10)) (cj (show setR (bpC W w m) (3+k*1) [aI 0]=bpC W w (m.set k 0) from bs1 W w m k 0 hk) (cj (bi k (4:Nat)) (cj (xH W w m k hk) (cj (e0 0 1) (cj (bi k (4:Nat)) (cj (xH W w m k hk) (cj (e0 0 2) (cj (bi k (4:Nat)) (cj (pv ((3:Nat)+k*1+1<=10)) (cj (show setR (bpC W w (m.set k 0)) (3+k*1) [aI 0]=bpC W w (m.set k 0) from bs2 W w m k 0 hk) (cj (i6 (k+1)) (xd W w l m k (cj (show m.p=(M1.set m k (0:Int)).p from M1.sp) (cj (show m.s=(M1.set m k (0:Int)).s from M1.ss) (cj (rf ((k:Int)+1)) trivial)))))))))))))))))))))))))
theorem AZ(W:Int)(w:Int)(m:M1)(k:Nat)(hk:k<4):ei Try.prog 3 (bpC W w (m.set k 1)) (3+k*1)=some (aI 1):=bs3 W w m k 1 hk
theorem DL(W:Int)(w:Int)(l:List Int){Z:Prop}(z:Z):(RF l.length (RR l.length 1 (fun i j=>aI (l.getD i 0)) (RF W (RF w (RF (6:Int) Z))))):=⟨rfl,fun _ _ _ _=>rfl,rfl,rfl,rfl,z⟩
theorem FB(W w:Int)(l:List Int)(m:M1)(k:Nat)(hk:k<4)(hW:1<=W∧W<=2)(hp:0<=m.p∧m.p<=2)(hs:0<=m.s∧m.s<=2)(hq:bits .and .i64 (Int.fdiv (kN l 1) (2^shK k)) 3=((2:Nat):Int))(hc:decide (m.p+W<=2)=true):Vc (vC_ 12 0 (mk1 W w l m k) [.bd true,dw l,.iy 2,.iz,.sv (bpC W w (m.set k 1)),.iz,.lv (aI 1),.bd true,.bd true] .nrm [(0,0),(1,1),(2,2)] (mk1 W w l ((m.set k 1).up (m.p+W) (m.set k 1).s) (k+1))):=al (cj (dt ((k:Int)<4)) (dI l (cj (kC l 1 (by omega)) (cj (i6 (2*k)) (cj (show(0:Int)<=IntKind.wrap IntKind.u64 ((2:Int)*(k:Int)) from by rw[IntKind.wrap_u64];omega) (cj hq (cj (bi (2:Nat) (4:Nat)) (cj (pv ((2:Nat)<4)) (cj (bi k (4:Nat)) (cj (pv ((3:Nat)+k*1+1<=10)) (cj (show setR (bpC W w m) (3+k*1) [aI 1]=bpC W w (m.set k 1) from bs1 W w m k 1 hk) (cj (bi k (4:Nat)) (cj (AZ W w m k hk) (cj (e1 1 1) (cj (i6 (m.p+W)) (cj hc (cj (i6 (m.p+W)) (cj (i6 (k+1)) (DL W w l (cj (rf ((M1.set m k (1:Int)).r0)) (cj (rf ((M1.set m k (1:Int)).r1)) (cj (rf ((M1.set m k (1:Int)).r2)) (cj (rf ((M1.set m k (1:Int)).r3)) (cj (rf (m.p+W)) (cj (show m.s=(M1.set m k (1:Int)).s from M1.ss) (cj (rf ((k:Int)+1)) trivial))))))))))))))))))))))))))
theorem FC(W w:Int)(l:List Int)(m:M1)(k:Nat)(hk:k<4)(hW:1<=W∧W<=2)(hp:0<=m.p∧m.p<=2)(hs:0<=m.s∧m.s<=2)(hq:bits .and .i64 (Int.fdiv (kN l 1) (2^shK k)) 3=((2:Nat):Int))(hc:decide (m.p+W<=2)=false):Vc (vC_ 12 0 (mk1 W w l m k) [.bd true,dw l,.iy 2,.iz,.sv (bpC W w (m.set k 1)),.iz,.lv (aI 1),.bd true,.bd false,.iz,.lv (aI 1),.bd false,.iz,.sv (bpC W w (m.set k 0))] .nrm [(0,0),(1,1),(2,2)] (mk1 W w l (m.set k 0) (k+1))):=al (cj (dt ((k:Int)<4)) (dI l (cj (kC l 1 (by omega)) (cj (i6 (2*k)) (cj (show(0:Int)<=IntKind.wrap IntKind.u64 ((2:Int)*(k:Int)) from by rw[IntKind.wrap_u64];omega) (cj hq (cj (bi (2:Nat) (4:Nat)) (cj (pv ((2:Nat)<4)) (cj (bi k (4:Nat)) (cj (pv ((3:Nat)+k*1+1<=10)) (cj (show setR (bpC W w m) (3+k*1) [aI 1]=bpC W w (m.set k 1) from bs1 W w m k 1 hk) (cj (bi k (4:Nat)) (cj (AZ W w m k hk) (cj (e1 1 1) (cj (i6 (m.p+W)) (cj hc (cj (bi k (4:Nat)) (cj (AZ W w m k hk) (cj (e0 1 2) (cj (bi k (4:Nat)) (cj (pv ((3:Nat)+k*1+1<=10)) (cj (show setR (bpC W w (m.set k 1)) (3+k*1) [aI 0]=bpC W w (m.set k 0) from bs2 W w m k 1 hk) (cj (i6 (k+1)) (xd W w l m k (cj (show m.p=(M1.set m k (0:Int)).p from M1.sp) (cj (show m.s=(M1.set m k (0:Int)).s from M1.ss) (cj (rf ((k:Int)+1)) trivial)))))))))))))))))))))))))))
theorem xG(W:Int)(w:Int)(m:M1)(k:Nat)(hk:k<4):ei Try.prog 3 (bpC W w (m.set k 2)) (3+k*1)=some (aI 2):=bs3 W w m k 2 hk
theorem Fz(W w:Int)(l:List Int)(m:M1)(k:Nat)(hk:k<4)(hW:1<=W∧W<=2)(hp:0<=m.p∧m.p<=2)(hs:0<=m.s∧m.s<=2)(hq:bits .and .i64 (Int.fdiv (kN l 1) (2^shK k)) 3=((3:Nat):Int))(hc:decide (m.s+W<=2)=true):Vc (vC_ 12 0 (mk1 W w l m k) [.bd true,dw l,.iy 3,.iz,.sv (bpC W w (m.set k 2)),.iz,.lv (aI 2),.bd false,.iz,.lv (aI 2),.bd true,.bd true] .nrm [(0,0),(1,1),(2,2)] (mk1 W w l ((m.set k 2).up (m.set k 2).p (m.s+W)) (k+1))):=al (cj (dt ((k:Int)<4)) (dI l (cj (kC l 1 (by omega)) (cj (i6 (2*k)) (cj (show(0:Int)<=IntKind.wrap IntKind.u64 ((2:Int)*(k:Int)) from by rw[IntKind.wrap_u64];omega) (cj hq (cj (bi (3:Nat) (4:Nat)) (cj (pv ((3:Nat)<4)) (cj (bi k (4:Nat)) (cj (pv ((3:Nat)+k*1+1<=10)) (cj (show setR (bpC W w m) (3+k*1) [aI 2]=bpC W w (m.set k 2) from bs1 W w m k 2 hk) (cj (bi k (4:Nat)) (cj (xG W w m k hk) (cj (e0 2 1) (cj (bi k (4:Nat)) (cj (xG W w m k hk) (cj (e1 2 2) (cj (i6 (m.s+W)) (cj hc (cj (i6 (m.s+W)) (cj (i6 (k+1)) (DL W w l (cj (rf ((M1.set m k (2:Int)).r0)) (cj (rf ((M1.set m k (2:Int)).r1)) (cj (rf ((M1.set m k (2:Int)).r2)) (cj (rf ((M1.set m k (2:Int)).r3)) (cj (show m.p=(M1.set m k (2:Int)).p from M1.sp) (cj (rf (m.s+W)) (cj (rf ((k:Int)+1)) trivial)))))))))))))))))))))))))))))
theorem FA(W w:Int)(l:List Int)(m:M1)(k:Nat)(hk:k<4)(hW:1<=W∧W<=2)(hp:0<=m.p∧m.p<=2)(hs:0<=m.s∧m.s<=2)(hq:bits .and .i64 (Int.fdiv (kN l 1) (2^shK k)) 3=((3:Nat):Int))(hc:decide (m.s+W<=2)=false):Vc (vC_ 12 0 (mk1 W w l m k) [.bd true,dw l,.iy 3,.iz,.sv (bpC W w (m.set k 2)),.iz,.lv (aI 2),.bd false,.iz,.lv (aI 2),.bd true,.bd false,.iz,.sv (bpC W w (m.set k 0))] .nrm [(0,0),(1,1),(2,2)] (mk1 W w l (m.set k 0) (k+1))):=al (cj (dt ((k:Int)<4)) (dI l (cj (kC l 1 (by omega)) (cj (i6 (2*k)) (cj (show(0:Int)<=IntKind.wrap IntKind.u64 ((2:Int)*(k:Int)) from by rw[IntKind.wrap_u64];omega) (cj hq (cj (bi (3:Nat) (4:Nat)) (cj (pv ((3:Nat)<4)) (cj (bi k (4:Nat)) (cj (pv ((3:Nat)+k*1+1<=10)) (cj (show setR (bpC W w m) (3+k*1) [aI 2]=bpC W w (m.set k 2) from bs1 W w m k 2 hk) (cj (bi k (4:Nat)) (cj (xG W w m k hk) (cj (e0 2 1) (cj (bi k (4:Nat)) (cj (xG W w m k hk) (cj (e1 2 2) (cj (i6 (m.s+W)) (cj hc (cj (bi k (4:Nat)) (cj (pv ((3:Nat)+k*1+1<=10)) (cj (show setR (bpC W w (m.set k 2)) (3+k*1) [aI 0]=bpC W w (m.set k 0) from bs2 W w m k 2 hk) (cj (i6 (k+1)) (xd W w l m k (cj (show m.p=(M1.set m k (0:Int)).p from M1.sp) (cj (show m.s=(M1.set m k (0:Int)).s from M1.ss) (cj (rf ((k:Int)+1)) trivial)))))))))))))))))))))))))))
theorem ur(W:Int)(w:Int)(l:List Int)(m:M1){Z:Prop}(z:Z):(RF l.length (RR l.length 1 (fun i j=>aI (l.getD i 0)) (RF W (RF w (RF (6:Int) (RF m.r0 (RF m.r1 (RF m.r2 (RF m.r3 Z))))))))):=⟨rfl,fun _ _ _ _=>rfl,rfl,rfl,rfl,rfl,rfl,rfl,rfl,z⟩
theorem B9(W w:Int)(l:List Int)(m:M1):Vc (vC_ 12 0 (mk1 W w l m 4) [.b false] (.ext 0) [(0,0),(1,1),(2,2)] (mk1 W w l m 4)):=al (cj (df (((4:Nat):Int)<4)) (ur W w l m (cj (rf m.p) (cj (rf m.s) (cj (rf ((4:Nat):Int)) trivial)))))
theorem vy{W:Int}{q k:Nat}{m:M1}(hW:1<=W∧W<=2)(hp:0<=m.p∧m.p<=2)(hs:0<=m.s∧m.s<=2):(0<=(jF W q k m).p∧(jF W q k m).p<=2)∧(0<=(jF W q k m).s∧(jF W q k m).s<=2):=by
 have h1: ∀v,(m.set k v).p=m.p∧(m.set k v).s=m.s:=fun v=>by unfold M1.set;split<;>exact⟨rfl,rfl⟩
 have e0:=h1 0
 have e1:=h1 1
 have e2:=h1 2
 unfold jF
 repeat' split
 all_goals simp only[e0.1,e0.2,e1.1,e1.2,e2.1,e2.2]
 all_goals omega
theorem vK{W:Int}(hW:1<=W∧W<=2)(l:List Int)(k:Nat):(0<=(mK W l k).p∧(mK W l k).p<=2)∧(0<=(mK W l k).s∧(mK W l k).s<=2):=by
 induction k with
 |zero=>exact⟨⟨by show(0:Int)<=0;omega,by show(0:Int)<=2;omega⟩,⟨by show(0:Int)<=0;omega,by show(0:Int)<=2;omega⟩⟩
 |succ k ih=>exact vy hW ih.1 ih.2
theorem AL: ∀{k:Nat},k<4->shK k=2*k
 |0,_=>rfl
 |1,_=>rfl
 |2,_=>rfl
 |3,_=>rfl
theorem Fy(l:List Int)(k:Nat):mq l k<4∧bits .and .i64 (Int.fdiv (kN l 1) (2^(2*k))) 3=((mq l k:Nat):Int):=by
 obtain⟨q,h1,h2⟩:=qk (Int.fdiv (kN l 1) (2^(2*k)))
 unfold mq
 rw[h2]
 exact⟨by omega,by simp⟩
theorem dT(W w:Int)(l:List Int)(hW:1<=W∧W<=2):oL_ 12 0 (mk1 W w l ⟨0,0,0,0,0,0⟩ 0).st (.ext 0) (mk1 W w l (mK W l 4) 4).st:=
 Ok.loop (P:=Try.prog) (nt:=cN Try.prog 12) (c:=lpC Try.prog 12 0) (F:=fun k=>mk1 W w l (mK W l k) k) (m:=4) (x:= .ext 0) (J:=mk1 W w l (mK W l 4) 4) (fun k hk=>by
  obtain⟨hq4,hq⟩:=Fy l k
  obtain⟨hp,hs⟩:=vK hW l k
  rw[<-AL hk] at hq
  show Ok _ _ _ _ _ (mk1 W w l (jF W (mq l k) k (mK W l k)) (k+1)).st
  match mq l k,hq4,hq with
  |0,_,hq=>exact Ok.vc (HZ W w l _ k hk hW hp hs hq)
  |1,_,hq=>exact Ok.vc (HY W w l _ k hk hW hp hs hq)
  |2,_,hq=>
   unfold jF
   rw[ai rfl]
   by_cases hc:(mK W l k).p+W<=2
   ·rw[ai hc];exact Ok.vc (FB W w l _ k hk hW hp hs hq (bL hc))
   ·rw[ah hc];exact Ok.vc (FC W w l _ k hk hW hp hs hq (bC hc))
  |3,_,hq=>
   unfold jF
   rw[ah (by omega),ai rfl]
   by_cases hc:(mK W l k).s+W<=2
   ·rw[ai hc];exact Ok.vc (Fz W w l _ k hk hW hp hs hq (bL hc))
   ·rw[ah hc];exact Ok.vc (FA W w l _ k hk hW hp hs hq (bC hc))) (Ok.vc (B9 W w l _)) (by simp)
theorem gc(l:List Int)(n:Nat): ∀k,(inL l n k).length=k
 |0=>rfl
 |k+1=>by simp[inL,gc l n k]
theorem iB: ∀k,(lbL k).length=k
 |0=>rfl
 |k+1=>by simp[lbL,iB k]
theorem Gz(k:Nat)(hk:k<6):(⟨#[108]⟩:ByteArray).size+(dgS k).size<=9223372036854775807:=match k,hk with
 |0,_=>by decide
 |1,_=>by decide
 |2,_=>by decide
 |3,_=>by decide
 |4,_=>by decide
 |5,_=>by decide
theorem yq(W w:Int)(l:List Int)(m:M1)(ms:List Mm)(n:Nat)(k:Nat)(hn:n<6)(hk:k<=n):Vc (vC_ 12 1 (mk2 W w l m ms n k) [.b true,.cl [aI k] (.str (dgS k)) []] .nrm [(0,0),(1,1),(2,2),(3,3),(4,4)] (mk2 W w l m ms n (k+1))):=al (cj (dt ((k:Int)<=n)) (cj (rf (k:Int)) (cj (IR k (by omega)) (cj (show(1:Nat)+ByteArray.size (dgS k)<=9223372036854775807 from(Gz k (by omega))) (cj (show(0:Nat)=0∧(lbL k).length=(lbL k).length∧((lbL k).length+1)*24<=140737488355328∧(lbL k).length+1<=140737488355328 from by rw[iB];omega) (cj (i6 (k+1)) (ur W w l m (cj (rf (0:Nat)) (cj (rf ms.length) (cj (rf (0:Nat)) (cj (show(lbL k).length+1=(lbL (k+1)).length from by rw[iB,iB]) (cj (rf ms.length) (cj (rr ms.length 3 fun i j=>an mmC ms i j) (cj (show(lbL k).length+1=(lbL (k+1)).length from by rw[iB,iB]) (cj (show ∀(i:Nat),i<(lbL k).length+1-> ∀(j:Nat),j<2->(bif Nat.blt i (lbL k).length then an lbC (lbL k) i j else List.getD [AV.str (ByteArray.mk (Array.mk [(108:UInt8)])++dgS k),aI k] ((i-(lbL k).length+0)*2+j) AV.junk)=an lbC (lbL (k+1)) i j from(fun i hi j hj=>(show _=an lbC (lbL k++[lbN k]) i j from dK (fun h=>(ci h).symm) (fun h=>by obtain rfl:i=_:=bK (bI.mp hi) (bt.mp h);rw[cn,bT];match j,hj with |0,_=>rfl |1,_=>rfl)))) (cj (rf (n:Int)) (cj (rf ((k:Int)+1)) trivial)))))))))))))))))
theorem B8(W w:Int)(l:List Int)(m:M1)(ms:List Mm)(n:Nat)(hn:n<6):Vc (vC_ 12 1 (mk2 W w l m ms n (n+1)) [.b false] (.ext 3) [(0,0),(1,1),(2,2),(3,3),(4,4)] (mk2 W w l m ms n (n+1))):=al (cj (df ((↑(n+1):Int)<=(n:Int))) (ur W w l m (cj (rf (0:Nat)) (cj (rf ms.length) (cj (rf (0:Nat)) (cj (rf ((lbL (n+1)).length)) (cj (rf ms.length) (cj (rr ms.length 3 fun i j=>an mmC ms i j) (cj (rf ((lbL (n+1)).length)) (cj (rr ((lbL (n+1)).length) 2 fun i j=>an lbC (lbL (n+1)) i j) (cj (rf (n:Int)) (cj (rf (↑(n+1):Int)) trivial))))))))))))
theorem yp(W w:Int)(l:List Int)(m:M1)(ms:List Mm)(n:Nat)(k:Nat)(hn:n<6)(hk:k<n):Vc (vC_ 12 2 (mk3 W w l m ms n k) [.b true,.cl [aI (k+2:Nat),tJ l] (aI (kN l (k+2))) [],.cl [aI (kN l (k+2)), aI n] (.agg (inA (g9 (kN l (k+2)) n))) []] .nrm [(0,0),(1,1),(2,2),(3,3),(4,4),(5,5)] (mk3 W w l m ms n (k+1))):=al (cj (dt ((k:Int)<n)) (cj (i6 (k+2)) (cj (rf ((k:Int)+2)) (cj (rf l.length) (cj (rr l.length 1 fun i j=>aI (l.getD i 0)) (cj (kC l (k+2) (by omega)) (cj (rf (kN l (k+2))) (cj (rf (n:Int)) (cj (FG (kN l (k+2)) n (by omega)) (cj (show(0:Nat)=0∧(inL l n k).length=(inL l n k).length∧((inL l n k).length+1)*80<=140737488355328∧(inL l n k).length+1<=140737488355328 from by rw[gc];omega) (cj (i6 (k+1)) (ur W w l m (cj (rf (0:Nat)) (cj (rf ms.length) (cj (rf (0:Nat)) (cj (rf ((lbL (n+1)).length)) (cj (rf (0:Nat)) (cj (show(inL l n k).length+1=(inL l n (k+1)).length from by rw[gc,gc]) (cj (rf ms.length) (cj (rr ms.length 3 fun i j=>an mmC ms i j) (cj (rf ((lbL (n+1)).length)) (cj (rr ((lbL (n+1)).length) 2 fun i j=>an lbC (lbL (n+1)) i j) (cj (show(inL l n k).length+1=(inL l n (k+1)).length from by rw[gc,gc]) (cj (show ∀(i:Nat),i<(inL l n k).length+1-> ∀(j:Nat),j<9->(bif Nat.blt i (inL l n k).length then an inC (inL l n k) i j else List.getD [aI ((g9 (kN l (k+2)) n).kind),aI ((g9 (kN l (k+2)) n).op),aI ((g9 (kN l (k+2)) n).d),AV.bool (((g9 (kN l (k+2)) n).a).reg),aI (((g9 (kN l (k+2)) n).a).n),AV.bool (((g9 (kN l (k+2)) n).b).reg),aI (((g9 (kN l (k+2)) n).b).n),AV.str ((g9 (kN l (k+2)) n).nm),aI ((g9 (kN l (k+2)) n).tg)] ((i-(inL l n k).length+0)*9+j) AV.junk)=an inC (inL l n (k+1)) i j from(fun i hi j hj=>(show _=an inC (inL l n k++[g9 (kN l (k+2)) n]) i j from dK (fun h=>(ci h).symm) (fun h=>by obtain rfl:i=_:=bK (bI.mp hi) (bt.mp h);rw[cn,bT];match j,hj with |0,_=>rfl |1,_=>rfl |2,_=>rfl |3,_=>rfl |4,_=>rfl |5,_=>rfl |6,_=>rfl |7,_=>rfl |8,_=>rfl)))) (cj (rf (n:Int)) (cj (rf ((k:Int)+1)) trivial))))))))))))))))))))))))))
theorem B6(W w:Int)(l:List Int)(m:M1)(ms:List Mm)(n:Nat)(hn:n<6):Vc (vC_ 12 2 (mk3 W w l m ms n n) [.b false] (.ext 5) [(0,0),(1,1),(2,2),(3,3),(4,4),(5,5)] (mk3 W w l m ms n n)):=al (cj (df ((n:Int)<n)) (ur W w l m (cj (rf (0:Nat)) (cj (rf ms.length) (cj (rf (0:Nat)) (cj (rf ((lbL (n+1)).length)) (cj (rf (0:Nat)) (cj (rf ((inL l n n).length)) (cj (rf ms.length) (cj (rr ms.length 3 fun i j=>an mmC ms i j) (cj (rf ((lbL (n+1)).length)) (cj (rr ((lbL (n+1)).length) 2 fun i j=>an lbC (lbL (n+1)) i j) (cj (rf ((inL l n n).length)) (cj (rr ((inL l n n).length) 9 fun i j=>an inC (inL l n n) i j) (cj (rf (n:Int)) (cj (rf (n:Int)) trivial))))))))))))))))
theorem dS(W w:Int)(l:List Int)(m:M1)(ms:List Mm)(n:Nat)(hn:n<6):oL_ 12 1 (mk2 W w l m ms n 0).st (.ext 3) (mk2 W w l m ms n (n+1)).st:=
 Ok.loop (P:=Try.prog) (nt:=cN Try.prog 12) (c:=lpC Try.prog 12 1) (F:=fun k=>mk2 W w l m ms n k) (m:=n+1) (x:= .ext 3) (J:=mk2 W w l m ms n (n+1)) (fun k hk=>Ok.vc (yq W w l m ms n k hn (by omega))) (Ok.vc (B8 W w l m ms n hn)) (by simp)
theorem dR(W w:Int)(l:List Int)(m:M1)(ms:List Mm)(n:Nat)(hn:n<6):oL_ 12 2 (mk3 W w l m ms n 0).st (.ext 5) (mk3 W w l m ms n n).st:=
 Ok.loop (P:=Try.prog) (nt:=cN Try.prog 12) (c:=lpC Try.prog 12 2) (F:=fun k=>mk3 W w l m ms n k) (m:=n) (x:= .ext 5) (J:=mk3 W w l m ms n n) (fun k hk=>Ok.vc (yp W w l m ms n k hn hk)) (Ok.vc (B6 W w l m ms n hn)) (by simp)
def mm1:Mm:=⟨⟨#[109]⟩,false,1⟩
def mm2:Mm:=⟨⟨#[109]⟩,false,2⟩
def ms1:Mm:=⟨⟨#[115]⟩,true,1⟩
theorem lh(W:Int)(l:List Int)(n:Nat)(hW1:bits .and .i64 (kN l 0) 1+1=W)(hW:1<=W∧W<=2)(hn1:bits .and .i64 (Int.fdiv (kN l 0) (2^12)) 3+2=(n:Int))(hn:n<6):inK IntKind.i64 (Go.bits Go.BinOp.and IntKind.i64 (kN l (0:Nat)) (1:Int)+1):=by rw[hW1];exact fu (by omega) (by omega)
theorem lg(W:Int)(l:List Int)(n:Nat)(hW1:bits .and .i64 (kN l 0) 1+1=W)(hW:1<=W∧W<=2)(hn1:bits .and .i64 (Int.fdiv (kN l 0) (2^12)) 3+2=(n:Int))(hn:n<6):inK IntKind.i64 (Int.tmod (Go.bits Go.BinOp.and IntKind.i64 (Int.fdiv (kN l (0:Nat)) ((2:Int)^(1:Nat))) (255:Int)) (3:Int)+1):=(sC _ _ (by omega) (by omega))
theorem AY(W:Int)(l:List Int)(hW1:bits .and .i64 (kN l 0) 1+1=W)(c1f:(decide (bits .and .i64 (Int.fdiv (kN l 1) (2^8)) 3>0))=false):decide (Go.bits Go.BinOp.and IntKind.i64 (Int.fdiv (kN l (1:Nat)) ((2:Int)^(8:Nat))) (3:Int)>0)=false:=by first |exact c1f | (rw[hW1];exact c1f)| (simpa [hW1] using c1f)
theorem eU(W:Int)(l:List Int)(hW1:bits .and .i64 (kN l 0) 1+1=W)(c4f:(decide (bits .and .i64 (Int.fdiv (kN l 1) (2^12)) 3>0))=false):decide (Go.bits Go.BinOp.and IntKind.i64 (Int.fdiv (kN l (1:Nat)) ((2:Int)^(12:Nat))) (3:Int)>0)=false:=by first |exact c4f | (rw[hW1];exact c4f)| (simpa [hW1] using c4f)
theorem lf(W:Int)(l:List Int)(n:Nat)(hW1:bits .and .i64 (kN l 0) 1+1=W)(hW:1<=W∧W<=2)(hn1:bits .and .i64 (Int.fdiv (kN l 0) (2^12)) 3+2=(n:Int))(hn:n<6):inK IntKind.i64 (Go.bits Go.BinOp.and IntKind.i64 (Int.fdiv (kN l (0:Nat)) ((2:Int)^(12:Nat))) (3:Int)+2):=by rw[hn1];exact fu (by omega) (by omega)
theorem DK(W:Int)(l:List Int)(n:Nat){Z:Prop}(z:Z):(RF ((mK W l (4:Nat)).r0) (RF ((mK W l (4:Nat)).r1) (RF ((mK W l (4:Nat)).r2) (RF ((mK W l (4:Nat)).r3) (RF (0:Nat) (RF (0:Nat) (RF (0:Nat) (RF ((lbL (n+1)).length) (RF (0:Nat) Z))))))))):=⟨rfl,rfl,rfl,rfl,rfl,rfl,rfl,rfl,rfl,z⟩
theorem DJ(W:Int)(l:List Int)(n:Nat){Z:Prop}(z:Z):(RF (0:Nat) (RR 0 3 (fun i j=>an mmC [] i j) (RF ((lbL (n+1)).length) (RR ((lbL (n+1)).length) 2 (fun i j=>an lbC (lbL (n+1)) i j) (RF ((inL l n n).length) (RR ((inL l n n).length) 9 (fun i j=>an inC (inL l n n) i j) (RF W (RF (aW l) (RF (6:Int) Z))))))))):=⟨rfl,fun _ _ _ _=>rfl,rfl,fun _ _ _ _=>rfl,rfl,fun _ _ _ _=>rfl,rfl,rfl,rfl,z⟩
theorem la(n:Nat){Z:Prop}(z:Z):(RR ((lbL (n+1)).length) 2 (fun i j=>an lbC (lbL (n+1)) i j) (RF (0:Nat) (RF (n:Int) (RF (0:Int) Z)))):=⟨fun _ _ _ _=>rfl,rfl,rfl,rfl,z⟩
theorem DI(n:Nat){Z:Prop}(z:Z):(RF (0:Nat) (RF (0:Nat) (RF (0:Nat) (RF ((lbL (n+1)).length) (RF (0:Nat) (RF (0:Nat) (RF (0:Nat) (RR 0 3 (fun i j=>an mmC [] i j) (RF ((lbL (n+1)).length) Z))))))))):=⟨rfl,rfl,rfl,rfl,rfl,rfl,rfl,fun _ _ _ _=>rfl,rfl,z⟩
theorem eT(W:Int)(l:List Int){Z:Prop}(z:Z):(RF l.length (RR l.length 1 (fun i j=>aI (l.getD i 0)) (RF W (RF (aW l) (RF (6:Int) (RF ((mK W l (4:Nat)).r0) (RF ((mK W l (4:Nat)).r1) (RF ((mK W l (4:Nat)).r2) (RF ((mK W l (4:Nat)).r3) Z))))))))):=⟨rfl,fun _ _ _ _=>rfl,rfl,rfl,rfl,rfl,rfl,rfl,rfl,z⟩
theorem DH{Z:Prop}(z:Z):(RF (0:Nat) (RF (0:Nat) (RF (0:Nat) (RF (0:Nat) (RF (0:Nat) (RF (0:Nat) Z)))))):=⟨rfl,rfl,rfl,rfl,rfl,rfl,z⟩
theorem co(l:List Int){Z:Prop}(z:Z):(RF (0:Int) (RF l.length (RR l.length 1 (fun i j=>aI (l.getD i 0)) Z))):=⟨rfl,rfl,fun _ _ _ _=>rfl,z⟩
theorem gr(l:List Int){Z:Prop}(z:Z):(RF (aW l) (RF (6:Int) (RF (0:Int) (RF (0:Int) (RF (0:Int) (RF (0:Int) (RF (0:Int) (RF (0:Int) (RF (0:Int) Z))))))))):=⟨rfl,rfl,rfl,rfl,rfl,rfl,rfl,rfl,rfl,z⟩
abbrev dv(l:List Int):Orc:= .cl [aI (0:Nat),tJ l] (aI (kN l 0)) []
theorem B1(W:Int)(l:List Int)(n:Nat)(hW1:bits .and .i64 (kN l 0) 1+1=W)(hW:1<=W∧W<=2)(hn1:bits .and .i64 (Int.fdiv (kN l 0) (2^12)) 3+2=(n:Int))(hn:n<6)(c1f:(decide (bits .and .i64 (Int.fdiv (kN l 1) (2^8)) 3>0))=false)(c4f:(decide (bits .and .i64 (Int.fdiv (kN l 1) (2^12)) 3>0))=false):Vc (vF_ 12 [.row 1 l.length (dz l)] [dv l,dv l,.lp [(0,0),(1,1),(2,2)] (mk1 W (aW l) l ⟨0,0,0,0,0,0⟩ 0) (.ext 0) (mk1 W (aW l) l (mK W l 4) 4),dw l,.b false,dw l,.b false,.b false,.b false,.b false,.b false,.b false,dv l,.lp [(0,0),(1,1),(2,2)] (mk2 W (aW l) l (mK W l 4) ([]:List Mm) n 0) (.ext 3) (mk2 W (aW l) l (mK W l 4) ([]:List Mm) n (n+1)),.lp [(0,0),(1,1),(2,2),(3,3),(4,4)] (mk3 W (aW l) l (mK W l 4) ([]:List Mm) n 0) (.ext 5) (mk3 W (aW l) l (mK W l 4) ([]:List Mm) n n)] [(0,3),(1,4),(2,5)] (.agg [aI W, aI (aW l), aI 6, aI (mK W l 4).r0, aI (mK W l 4).r1, aI (mK W l 4).r2, aI (mK W l 4).r3,.own 0 0 3 0 ([]:List Mm).length,.own 1 0 2 0 (lbL (n+1)).length,.own 2 0 9 0 (inL l n n).length]) [mmB ([]:List Mm),lbB (lbL (n+1)),inB (inL l n n)]):=al (co l (cj (kC l 0 (by omega)) (cj (lh W l n hW1 hW hn1 hn) (co l (cj (kC l 0 (by omega)) (cj (pv ((0:Int)<=1)) (cj (pv ((3:Int)≠0)) (cj (lg W l n hW1 hW hn1 hn) (cj (rf l.length) (cj (rr l.length 1 fun i j=>aI (l.getD i 0)) (cj hW1 (gr l (cj (dT W (aW l) l hW) (dI l (cj (kC l 1 (by omega)) (cj (pv ((0:Int)<=8)) (cj (AY W l hW1 c1f) (dI l (cj (kC l 1 (by omega)) (cj (pv ((0:Int)<=12)) (cj (eU W l hW1 c4f) (cj (eU W l hW1 c4f) (cj (eU W l hW1 c4f) (cj (eU W l hW1 c4f) (cj (eU W l hW1 c4f) (cj (eU W l hW1 c4f) (co l (cj (kC l 0 (by omega)) (cj (pv ((0:Int)<=12)) (cj (lf W l n hW1 hW hn1 hn) (eT W l (DH (cj hn1 (cj (rf (0:Int)) (cj (dS W (aW l) l (mK W l 4) ([]:List Mm) n hn) (eT W l (DI n (la n (cj (dR W (aW l) l (mK W l 4) ([]:List Mm) n hn) (DJ W l n (DK W l n (cj (rf ((inL l n n).length)) trivial))))))))))))))))))))))))))))))))))))))))))
theorem cE(W:Int)(l:List Int)(hW1:bits .and .i64 (kN l 0) 1+1=W)(c4t:(decide (bits .and .i64 (Int.fdiv (kN l 1) (2^12)) 3>0))=true):decide (Go.bits Go.BinOp.and IntKind.i64 (Int.fdiv (kN l (1:Nat)) ((2:Int)^(12:Nat))) (3:Int)>0)=true:=by first |exact c4t | (rw[hW1];exact c4t)| (simpa [hW1] using c4t)
theorem pi(W:Int)(l:List Int)(n:Nat)(hW1:bits .and .i64 (kN l 0) 1+1=W)(hW:1<=W∧W<=2)(hn1:bits .and .i64 (Int.fdiv (kN l 0) (2^12)) 3+2=(n:Int))(hn:n<6):inK IntKind.i64 ((mK W l (4:Nat)).s+W):=(fu (by have:=(vK hW l 4).2;omega) (by have:=(vK hW l 4).2;omega))
theorem cU(W:Int)(l:List Int)(hW1:bits .and .i64 (kN l 0) 1+1=W)(c5f:(decide ((mK W l 4).s+W<=3))=false):decide ((mK W l (4:Nat)).s+W<=3)=false:=by first |exact c5f | (rw[hW1];exact c5f)| (simpa [hW1] using c5f)
theorem yo(W:Int)(l:List Int)(n:Nat)(hW1:bits .and .i64 (kN l 0) 1+1=W)(hW:1<=W∧W<=2)(hn1:bits .and .i64 (Int.fdiv (kN l 0) (2^12)) 3+2=(n:Int))(hn:n<6)(c1f:(decide (bits .and .i64 (Int.fdiv (kN l 1) (2^8)) 3>0))=false)(c4t:(decide (bits .and .i64 (Int.fdiv (kN l 1) (2^12)) 3>0))=true)(c5f:(decide ((mK W l 4).s+W<=3))=false):Vc (vF_ 12 [.row 1 l.length (dz l)] [dv l,dv l,.lp [(0,0),(1,1),(2,2)] (mk1 W (aW l) l ⟨0,0,0,0,0,0⟩ 0) (.ext 0) (mk1 W (aW l) l (mK W l 4) 4),dw l,.b false,dw l,.b true,.b true,.b true,.b true,.b true,.b true,.b false,.b false,.b false,.b false,.b false,.b false,.b false,dv l,.lp [(0,0),(1,1),(2,2)] (mk2 W (aW l) l (mK W l 4) ([]:List Mm) n 0) (.ext 3) (mk2 W (aW l) l (mK W l 4) ([]:List Mm) n (n+1)),.lp [(0,0),(1,1),(2,2),(3,3),(4,4)] (mk3 W (aW l) l (mK W l 4) ([]:List Mm) n 0) (.ext 5) (mk3 W (aW l) l (mK W l 4) ([]:List Mm) n n)] [(0,3),(1,4),(2,5)] (.agg [aI W, aI (aW l), aI 6, aI (mK W l 4).r0, aI (mK W l 4).r1, aI (mK W l 4).r2, aI (mK W l 4).r3,.own 0 0 3 0 ([]:List Mm).length,.own 1 0 2 0 (lbL (n+1)).length,.own 2 0 9 0 (inL l n n).length]) [mmB ([]:List Mm),lbB (lbL (n+1)),inB (inL l n n)]):=al (co l (cj (kC l 0 (by omega)) (cj (lh W l n hW1 hW hn1 hn) (co l (cj (kC l 0 (by omega)) (cj (pv ((0:Int)<=1)) (cj (pv ((3:Int)≠0)) (cj (lg W l n hW1 hW hn1 hn) (cj (rf l.length) (cj (rr l.length 1 fun i j=>aI (l.getD i 0)) (cj hW1 (gr l (cj (dT W (aW l) l hW) (dI l (cj (kC l 1 (by omega)) (cj (pv ((0:Int)<=8)) (cj (AY W l hW1 c1f) (dI l (cj (kC l 1 (by omega)) (cj (pv ((0:Int)<=12)) (cj (cE W l hW1 c4t) (cj (cE W l hW1 c4t) (cj (cE W l hW1 c4t) (cj (cE W l hW1 c4t) (cj (pi W l n hW1 hW hn1 hn) (cj (cE W l hW1 c4t) (cj (cE W l hW1 c4t) (cj (cU W l hW1 c5f) (cj (cU W l hW1 c5f) (cj (cU W l hW1 c5f) (cj (cU W l hW1 c5f) (cj (cU W l hW1 c5f) (cj (cU W l hW1 c5f) (cj (cU W l hW1 c5f) (co l (cj (kC l 0 (by omega)) (cj (pv ((0:Int)<=12)) (cj (lf W l n hW1 hW hn1 hn) (eT W l (DH (cj hn1 (cj (rf (0:Int)) (cj (dS W (aW l) l (mK W l 4) ([]:List Mm) n hn) (eT W l (DI n (la n (cj (dR W (aW l) l (mK W l 4) ([]:List Mm) n hn) (DJ W l n (DK W l n (cj (rf ((inL l n n).length)) trivial))))))))))))))))))))))))))))))))))))))))))))))))))
theorem cT(W:Int)(l:List Int)(hW1:bits .and .i64 (kN l 0) 1+1=W)(c5t:(decide ((mK W l 4).s+W<=3))=true):decide ((mK W l (4:Nat)).s+W<=3)=true:=by first |exact c5t | (rw[hW1];exact c5t)| (simpa [hW1] using c5t)
theorem kB(W:Int)(l:List Int)(n:Nat){Z:Prop}(z:Z):(RF ((mK W l (4:Nat)).r0) (RF ((mK W l (4:Nat)).r1) (RF ((mK W l (4:Nat)).r2) (RF ((mK W l (4:Nat)).r3) (RF (0:Nat) (RF (1:Nat) (RF (0:Nat) (RF ((lbL (n+1)).length) (RF (0:Nat) Z))))))))):=⟨rfl,rfl,rfl,rfl,rfl,rfl,rfl,rfl,rfl,z⟩
theorem kA{Z:Prop}(z:Z):(RF (0:Nat) (RF (1:Nat) (RF (0:Nat) (RF (0:Nat) (RF (1:Nat) Z))))):=⟨rfl,rfl,rfl,rfl,rfl,z⟩
theorem yn(W:Int)(l:List Int)(n:Nat)(hW1:bits .and .i64 (kN l 0) 1+1=W)(hW:1<=W∧W<=2)(hn1:bits .and .i64 (Int.fdiv (kN l 0) (2^12)) 3+2=(n:Int))(hn:n<6)(c1f:(decide (bits .and .i64 (Int.fdiv (kN l 1) (2^8)) 3>0))=false)(c4t:(decide (bits .and .i64 (Int.fdiv (kN l 1) (2^12)) 3>0))=true)(c5t:(decide ((mK W l 4).s+W<=3))=true):Vc (vF_ 12 [.row 1 l.length (dz l)] [dv l,dv l,.lp [(0,0),(1,1),(2,2)] (mk1 W (aW l) l ⟨0,0,0,0,0,0⟩ 0) (.ext 0) (mk1 W (aW l) l (mK W l 4) 4),dw l,.b false,dw l,.b true,.b true,.b true,.b true,.b true,.b true,.b true,.b true,.b true,.b true,.b true,.b true,.b true,.b true,.b true,.b true,.b true,.b true,.b true,.b true,dv l,.lp [(0,0),(1,1),(2,2),(3,4)] (mk2 W (aW l) l (mK W l 4) ([ms1]:List Mm) n 0) (.ext 3) (mk2 W (aW l) l (mK W l 4) ([ms1]:List Mm) n (n+1)),.lp [(0,0),(1,1),(2,2),(3,3),(4,4)] (mk3 W (aW l) l (mK W l 4) ([ms1]:List Mm) n 0) (.ext 5) (mk3 W (aW l) l (mK W l 4) ([ms1]:List Mm) n n)] [(0,3),(1,4),(2,5)] (.agg [aI W, aI (aW l), aI 6, aI (mK W l 4).r0, aI (mK W l 4).r1, aI (mK W l 4).r2, aI (mK W l 4).r3,.own 0 0 3 0 ([ms1]:List Mm).length,.own 1 0 2 0 (lbL (n+1)).length,.own 2 0 9 0 (inL l n n).length]) [mmB ([ms1]:List Mm),lbB (lbL (n+1)),inB (inL l n n)]):=al (co l (cj (kC l 0 (by omega)) (cj (lh W l n hW1 hW hn1 hn) (co l (cj (kC l 0 (by omega)) (cj (pv ((0:Int)<=1)) (cj (pv ((3:Int)≠0)) (cj (lg W l n hW1 hW hn1 hn) (cj (rf l.length) (cj (rr l.length 1 fun i j=>aI (l.getD i 0)) (cj hW1 (gr l (cj (dT W (aW l) l hW) (dI l (cj (kC l 1 (by omega)) (cj (pv ((0:Int)<=8)) (cj (AY W l hW1 c1f) (dI l (cj (kC l 1 (by omega)) (cj (pv ((0:Int)<=12)) (cj (cE W l hW1 c4t) (cj (cE W l hW1 c4t) (cj (cE W l hW1 c4t) (cj (cE W l hW1 c4t) (cj (pi W l n hW1 hW hn1 hn) (cj (cE W l hW1 c4t) (cj (cE W l hW1 c4t) (cj (cT W l hW1 c5t) (cj (cT W l hW1 c5t) (cj (cT W l hW1 c5t) (cj (cT W l hW1 c5t) (cj (cT W l hW1 c5t) (cj (e1 0 0) (cj (e1 0 0) (cj (e1 0 0) (cj (e1 0 0) (cj (e1 0 0) (cj (e1 0 0) (cj (cT W l hW1 c5t) (cj (e1 0 0) (cj (cT W l hW1 c5t) (cj (pv ((32:Nat)<=140737488355328∧(1:Nat)<=140737488355328)) (co l (cj (kC l 0 (by omega)) (cj (pv ((0:Int)<=12)) (cj (lf W l n hW1 hW hn1 hn) (eT W l (kA (cj (show ∀(i:Nat),i<1-> ∀(j:Nat),j<3->List.getD [AV.str (ByteArray.mk (Array.mk [(115:UInt8)])),AV.bool true,aI 1] ((i+0)*3+j) AV.junk=an mmC [ms1] i j from(fun i hi j hj=>match i,hi,j,hj with |0,_,0,_=>rfl |0,_,1,_=>rfl |0,_,2,_=>rfl)) (cj (rf (0:Nat)) (cj hn1 (cj (rf (0:Int)) (cj (dS W (aW l) l (mK W l 4) ([ms1]:List Mm) n hn) (eT W l (cj (rf (0:Nat)) (cj (rf (1:Nat)) (cj (rf (0:Nat)) (cj (rf ((lbL (n+1)).length)) (cj (rf (0:Nat)) (cj (rf (0:Nat)) (cj (rf (1:Nat)) (cj (rr 1 3 fun i j=>an mmC [ms1] i j) (cj (rf ((lbL (n+1)).length)) (la n (cj (dR W (aW l) l (mK W l 4) ([ms1]:List Mm) n hn) (cj (rf (1:Nat)) (cj (rr 1 3 fun i j=>an mmC [ms1] i j) (cj (rf ((lbL (n+1)).length)) (cj (rr ((lbL (n+1)).length) 2 fun i j=>an lbC (lbL (n+1)) i j) (cj (rf ((inL l n n).length)) (cj (rr ((inL l n n).length) 9 fun i j=>an inC (inL l n n) i j) (cj (rf W) (cj (rf (aW l)) (cj (rf (6:Int)) (kB W l n (cj (rf ((inL l n n).length)) trivial))))))))))))))))))))))))))))))))))))))))))))))))))))))))))))))))))))))))))))
theorem jx(W:Int)(l:List Int)(hW1:bits .and .i64 (kN l 0) 1+1=W)(c1t:(decide (bits .and .i64 (Int.fdiv (kN l 1) (2^8)) 3>0))=true):decide (Go.bits Go.BinOp.and IntKind.i64 (Int.fdiv (kN l (1:Nat)) ((2:Int)^(8:Nat))) (3:Int)>0)=true:=by first |exact c1t | (rw[hW1];exact c1t)| (simpa [hW1] using c1t)
theorem er(W:Int)(l:List Int)(hW1:bits .and .i64 (kN l 0) 1+1=W)(c2f:(W==1)=false):(W==(1:Int))=false:=by first |exact c2f | (rw[hW1];exact c2f)| (simpa [hW1] using c2f)
theorem rN: ∀(i:Nat),i<1-> ∀(j:Nat),j<3->List.getD [AV.str (ByteArray.mk (Array.mk [(109:UInt8)])),AV.bool false,aI 1] ((i+0)*3+j) AV.junk=an mmC [mm1] i j:=(fun i hi j hj=>match i,hi,j,hj with |0,_,0,_=>rfl |0,_,1,_=>rfl |0,_,2,_=>rfl)
theorem rB(W:Int)(l:List Int)(n:Nat){Z:Prop}(z:Z):(RF (1:Nat) (RR 1 3 (fun i j=>an mmC [mm1] i j) (RF ((lbL (n+1)).length) (RR ((lbL (n+1)).length) 2 (fun i j=>an lbC (lbL (n+1)) i j) (RF ((inL l n n).length) (RR ((inL l n n).length) 9 (fun i j=>an inC (inL l n n) i j) (RF W (RF (aW l) (RF (6:Int) Z))))))))):=⟨rfl,fun _ _ _ _=>rfl,rfl,fun _ _ _ _=>rfl,rfl,fun _ _ _ _=>rfl,rfl,rfl,rfl,z⟩
theorem rA(n:Nat){Z:Prop}(z:Z):(RF (0:Nat) (RF (1:Nat) (RF (0:Nat) (RF ((lbL (n+1)).length) (RF (0:Nat) (RF (0:Nat) (RF (1:Nat) (RR 1 3 (fun i j=>an mmC [mm1] i j) (RF ((lbL (n+1)).length) Z))))))))):=⟨rfl,rfl,rfl,rfl,rfl,rfl,rfl,fun _ _ _ _=>rfl,rfl,z⟩
theorem uv(l:List Int){Z:Prop}(z:Z):(RF false (RF (1:Int) (RF l.length (RR l.length 1 (fun i j=>aI (l.getD i 0)) Z)))):=⟨rfl,rfl,rfl,fun _ _ _ _=>rfl,z⟩
theorem ym(W:Int)(l:List Int)(n:Nat)(hW1:bits .and .i64 (kN l 0) 1+1=W)(hW:1<=W∧W<=2)(hn1:bits .and .i64 (Int.fdiv (kN l 0) (2^12)) 3+2=(n:Int))(hn:n<6)(c1t:(decide (bits .and .i64 (Int.fdiv (kN l 1) (2^8)) 3>0))=true)(c2f:(W==1)=false)(c4f:(decide (bits .and .i64 (Int.fdiv (kN l 1) (2^12)) 3>0))=false):Vc (vF_ 12 [.row 1 l.length (dz l)] [dv l,dv l,.lp [(0,0),(1,1),(2,2)] (mk1 W (aW l) l ⟨0,0,0,0,0,0⟩ 0) (.ext 0) (mk1 W (aW l) l (mK W l 4) 4),dw l,.b true,.b false,.b false,.b false,.b false,.b false,.b false,.b false,dw l,.b false,.b false,.b false,.b false,.b false,.b false,dv l,.lp [(0,0),(1,1),(2,2),(3,4)] (mk2 W (aW l) l (mK W l 4) ([mm1]:List Mm) n 0) (.ext 3) (mk2 W (aW l) l (mK W l 4) ([mm1]:List Mm) n (n+1)),.lp [(0,0),(1,1),(2,2),(3,3),(4,4)] (mk3 W (aW l) l (mK W l 4) ([mm1]:List Mm) n 0) (.ext 5) (mk3 W (aW l) l (mK W l 4) ([mm1]:List Mm) n n)] [(0,3),(1,4),(2,5)] (.agg [aI W, aI (aW l), aI 6, aI (mK W l 4).r0, aI (mK W l 4).r1, aI (mK W l 4).r2, aI (mK W l 4).r3,.own 0 0 3 0 ([mm1]:List Mm).length,.own 1 0 2 0 (lbL (n+1)).length,.own 2 0 9 0 (inL l n n).length]) [mmB ([mm1]:List Mm),lbB (lbL (n+1)),inB (inL l n n)]):=al (co l (cj (kC l 0 (by omega)) (cj (lh W l n hW1 hW hn1 hn) (co l (cj (kC l 0 (by omega)) (cj (pv ((0:Int)<=1)) (cj (pv ((3:Int)≠0)) (cj (lg W l n hW1 hW hn1 hn) (cj (rf l.length) (cj (rr l.length 1 fun i j=>aI (l.getD i 0)) (cj hW1 (gr l (cj (dT W (aW l) l hW) (dI l (cj (kC l 1 (by omega)) (cj (pv ((0:Int)<=8)) (cj (jx W l hW1 c1t) (cj (pv ((32:Nat)<=140737488355328∧(1:Nat)<=140737488355328)) (cj (er W l hW1 c2f) (cj (er W l hW1 c2f) (cj (er W l hW1 c2f) (cj (er W l hW1 c2f) (cj (er W l hW1 c2f) (cj (er W l hW1 c2f) (uv l (cj (kC l 1 (by omega)) (cj (pv ((0:Int)<=12)) (cj (eU W l hW1 c4f) (cj (eU W l hW1 c4f) (cj (eU W l hW1 c4f) (cj (eU W l hW1 c4f) (cj (eU W l hW1 c4f) (cj (eU W l hW1 c4f) (co l (cj (kC l 0 (by omega)) (cj (pv ((0:Int)<=12)) (cj (lf W l n hW1 hW hn1 hn) (eT W l (kA (cj (rN) (cj (rf (0:Nat)) (cj hn1 (cj (rf (0:Int)) (cj (dS W (aW l) l (mK W l 4) ([mm1]:List Mm) n hn) (eT W l (rA n (la n (cj (dR W (aW l) l (mK W l 4) ([mm1]:List Mm) n hn) (rB W l n (kB W l n (cj (rf ((inL l n n).length)) trivial)))))))))))))))))))))))))))))))))))))))))))))))))))
theorem vG(W:Int)(l:List Int)(n:Nat)(hW1:bits .and .i64 (kN l 0) 1+1=W)(hW:1<=W∧W<=2)(hn1:bits .and .i64 (Int.fdiv (kN l 0) (2^12)) 3+2=(n:Int))(hn:n<6)(c1t:(decide (bits .and .i64 (Int.fdiv (kN l 1) (2^8)) 3>0))=true)(c2f:(W==1)=false)(c4t:(decide (bits .and .i64 (Int.fdiv (kN l 1) (2^12)) 3>0))=true)(c5f:(decide ((mK W l 4).s+W<=3))=false):Vc (vF_ 12 [.row 1 l.length (dz l)] [dv l,dv l,.lp [(0,0),(1,1),(2,2)] (mk1 W (aW l) l ⟨0,0,0,0,0,0⟩ 0) (.ext 0) (mk1 W (aW l) l (mK W l 4) 4),dw l,.b true,.b false,.b false,.b false,.b false,.b false,.b false,.b false,dw l,.b true,.b true,.b true,.b true,.b true,.b true,.b false,.b false,.b false,.b false,.b false,.b false,.b false,dv l,.lp [(0,0),(1,1),(2,2),(3,4)] (mk2 W (aW l) l (mK W l 4) ([mm1]:List Mm) n 0) (.ext 3) (mk2 W (aW l) l (mK W l 4) ([mm1]:List Mm) n (n+1)),.lp [(0,0),(1,1),(2,2),(3,3),(4,4)] (mk3 W (aW l) l (mK W l 4) ([mm1]:List Mm) n 0) (.ext 5) (mk3 W (aW l) l (mK W l 4) ([mm1]:List Mm) n n)] [(0,3),(1,4),(2,5)] (.agg [aI W, aI (aW l), aI 6, aI (mK W l 4).r0, aI (mK W l 4).r1, aI (mK W l 4).r2, aI (mK W l 4).r3,.own 0 0 3 0 ([mm1]:List Mm).length,.own 1 0 2 0 (lbL (n+1)).length,.own 2 0 9 0 (inL l n n).length]) [mmB ([mm1]:List Mm),lbB (lbL (n+1)),inB (inL l n n)]):=al (co l (cj (kC l 0 (by omega)) (cj (lh W l n hW1 hW hn1 hn) (co l (cj (kC l 0 (by omega)) (cj (pv ((0:Int)<=1)) (cj (pv ((3:Int)≠0)) (cj (lg W l n hW1 hW hn1 hn) (cj (rf l.length) (cj (rr l.length 1 fun i j=>aI (l.getD i 0)) (cj hW1 (gr l (cj (dT W (aW l) l hW) (dI l (cj (kC l 1 (by omega)) (cj (pv ((0:Int)<=8)) (cj (jx W l hW1 c1t) (cj (pv ((32:Nat)<=140737488355328∧(1:Nat)<=140737488355328)) (cj (er W l hW1 c2f) (cj (er W l hW1 c2f) (cj (er W l hW1 c2f) (cj (er W l hW1 c2f) (cj (er W l hW1 c2f) (cj (er W l hW1 c2f) (uv l (cj (kC l 1 (by omega)) (cj (pv ((0:Int)<=12)) (cj (cE W l hW1 c4t) (cj (cE W l hW1 c4t) (cj (cE W l hW1 c4t) (cj (cE W l hW1 c4t) (cj (pi W l n hW1 hW hn1 hn) (cj (cE W l hW1 c4t) (cj (cE W l hW1 c4t) (cj (cU W l hW1 c5f) (cj (cU W l hW1 c5f) (cj (cU W l hW1 c5f) (cj (cU W l hW1 c5f) (cj (cU W l hW1 c5f) (cj (cU W l hW1 c5f) (cj (cU W l hW1 c5f) (co l (cj (kC l 0 (by omega)) (cj (pv ((0:Int)<=12)) (cj (lf W l n hW1 hW hn1 hn) (eT W l (kA (cj (rN) (cj (rf (0:Nat)) (cj hn1 (cj (rf (0:Int)) (cj (dS W (aW l) l (mK W l 4) ([mm1]:List Mm) n hn) (eT W l (rA n (la n (cj (dR W (aW l) l (mK W l 4) ([mm1]:List Mm) n hn) (rB W l n (kB W l n (cj (rf ((inL l n n).length)) trivial)))))))))))))))))))))))))))))))))))))))))))))))))))))))))))
theorem zM: ∀(i:Nat),i<2-> ∀(j:Nat),j<3->(bif Nat.blt i (1:Nat) then List.getD [AV.str (ByteArray.mk (Array.mk [(109:UInt8)])),AV.bool false,aI 1] ((i+0)*3+j) AV.junk else List.getD [AV.str (ByteArray.mk (Array.mk [(115:UInt8)])),AV.bool true,aI 1] ((i-1+0)*3+j) AV.junk)=an mmC [mm1,ms1] i j:=(fun i hi j hj=>match i,hi,j,hj with |0,_,0,_=>rfl |0,_,1,_=>rfl |0,_,2,_=>rfl |1,_,0,_=>rfl |1,_,1,_=>rfl |1,_,2,_=>rfl)
theorem zH(W:Int)(l:List Int)(n:Nat){Z:Prop}(z:Z):(RF ((mK W l (4:Nat)).r0) (RF ((mK W l (4:Nat)).r1) (RF ((mK W l (4:Nat)).r2) (RF ((mK W l (4:Nat)).r3) (RF (0:Nat) (RF (2:Nat) (RF (0:Nat) (RF ((lbL (n+1)).length) (RF (0:Nat) Z))))))))):=⟨rfl,rfl,rfl,rfl,rfl,rfl,rfl,rfl,rfl,z⟩
theorem zG(W:Int)(l:List Int)(n:Nat){Z:Prop}(z:Z):(RF (2:Nat) (RR 2 3 (fun i j=>an mmC [mm1,ms1] i j) (RF ((lbL (n+1)).length) (RR ((lbL (n+1)).length) 2 (fun i j=>an lbC (lbL (n+1)) i j) (RF ((inL l n n).length) (RR ((inL l n n).length) 9 (fun i j=>an inC (inL l n n) i j) (RF W (RF (aW l) (RF (6:Int) Z))))))))):=⟨rfl,fun _ _ _ _=>rfl,rfl,fun _ _ _ _=>rfl,rfl,fun _ _ _ _=>rfl,rfl,rfl,rfl,z⟩
theorem zF(n:Nat){Z:Prop}(z:Z):(RF (0:Nat) (RF (2:Nat) (RF (0:Nat) (RF ((lbL (n+1)).length) (RF (0:Nat) (RF (0:Nat) (RF (2:Nat) (RR 2 3 (fun i j=>an mmC [mm1,ms1] i j) (RF ((lbL (n+1)).length) Z))))))))):=⟨rfl,rfl,rfl,rfl,rfl,rfl,rfl,fun _ _ _ _=>rfl,rfl,z⟩
theorem zE{Z:Prop}(z:Z):(RF (0:Nat) (RF (2:Nat) (RF (0:Nat) (RF (0:Nat) (RF (2:Nat) Z))))):=⟨rfl,rfl,rfl,rfl,rfl,z⟩
theorem vF(W:Int)(l:List Int)(n:Nat)(hW1:bits .and .i64 (kN l 0) 1+1=W)(hW:1<=W∧W<=2)(hn1:bits .and .i64 (Int.fdiv (kN l 0) (2^12)) 3+2=(n:Int))(hn:n<6)(c1t:(decide (bits .and .i64 (Int.fdiv (kN l 1) (2^8)) 3>0))=true)(c2f:(W==1)=false)(c4t:(decide (bits .and .i64 (Int.fdiv (kN l 1) (2^12)) 3>0))=true)(c5t:(decide ((mK W l 4).s+W<=3))=true):Vc (vF_ 12 [.row 1 l.length (dz l)] [dv l,dv l,.lp [(0,0),(1,1),(2,2)] (mk1 W (aW l) l ⟨0,0,0,0,0,0⟩ 0) (.ext 0) (mk1 W (aW l) l (mK W l 4) 4),dw l,.b true,.b false,.b false,.b false,.b false,.b false,.b false,.b false,dw l,.b true,.b true,.b true,.b true,.b true,.b true,.b true,.b true,.b true,.b true,.b true,.b false,.b false,.b false,.b false,.b false,.b false,.b true,.b false,.b true,dv l,.lp [(0,0),(1,1),(2,2),(3,4)] (mk2 W (aW l) l (mK W l 4) ([mm1,ms1]:List Mm) n 0) (.ext 3) (mk2 W (aW l) l (mK W l 4) ([mm1,ms1]:List Mm) n (n+1)),.lp [(0,0),(1,1),(2,2),(3,3),(4,4)] (mk3 W (aW l) l (mK W l 4) ([mm1,ms1]:List Mm) n 0) (.ext 5) (mk3 W (aW l) l (mK W l 4) ([mm1,ms1]:List Mm) n n)] [(0,3),(1,4),(2,5)] (.agg [aI W, aI (aW l), aI 6, aI (mK W l 4).r0, aI (mK W l 4).r1, aI (mK W l 4).r2, aI (mK W l 4).r3,.own 0 0 3 0 ([mm1,ms1]:List Mm).length,.own 1 0 2 0 (lbL (n+1)).length,.own 2 0 9 0 (inL l n n).length]) [mmB ([mm1,ms1]:List Mm),lbB (lbL (n+1)),inB (inL l n n)]):=al (co l (cj (kC l 0 (by omega)) (cj (lh W l n hW1 hW hn1 hn) (co l (cj (kC l 0 (by omega)) (cj (pv ((0:Int)<=1)) (cj (pv ((3:Int)≠0)) (cj (lg W l n hW1 hW hn1 hn) (cj (rf l.length) (cj (rr l.length 1 fun i j=>aI (l.getD i 0)) (cj hW1 (gr l (cj (dT W (aW l) l hW) (dI l (cj (kC l 1 (by omega)) (cj (pv ((0:Int)<=8)) (cj (jx W l hW1 c1t) (cj (pv ((32:Nat)<=140737488355328∧(1:Nat)<=140737488355328)) (cj (er W l hW1 c2f) (cj (er W l hW1 c2f) (cj (er W l hW1 c2f) (cj (er W l hW1 c2f) (cj (er W l hW1 c2f) (cj (er W l hW1 c2f) (uv l (cj (kC l 1 (by omega)) (cj (pv ((0:Int)<=12)) (cj (cE W l hW1 c4t) (cj (cE W l hW1 c4t) (cj (cE W l hW1 c4t) (cj (cE W l hW1 c4t) (cj (pi W l n hW1 hW hn1 hn) (cj (cE W l hW1 c4t) (cj (cE W l hW1 c4t) (cj (cT W l hW1 c5t) (cj (cT W l hW1 c5t) (cj (cT W l hW1 c5t) (cj (cT W l hW1 c5t) (cj (cT W l hW1 c5t) (cj (e0 (1:Nat) 0) (cj (e0 (1:Nat) 0) (cj (e0 (1:Nat) 0) (cj (pv ((0:Int)<=0∧(0:Int)<(1:Nat))) (cj (e0 (1:Nat) 0) (cj (e0 (1:Nat) 0) (cj (pv ((0:Nat)<1)) (cj (e0 (1:Nat) 0) (cj (cT W l hW1 c5t) (cj (e0 (1:Nat) 0) (cj (cT W l hW1 c5t) (cj (pv ((0:Nat)=0∧(1:Nat)=1∧(64:Nat)<=140737488355328∧(2:Nat)<=140737488355328)) (co l (cj (kC l 0 (by omega)) (cj (pv ((0:Int)<=12)) (cj (lf W l n hW1 hW hn1 hn) (eT W l (zE (cj (zM) (cj (rf (0:Nat)) (cj hn1 (cj (rf (0:Int)) (cj (dS W (aW l) l (mK W l 4) ([mm1,ms1]:List Mm) n hn) (eT W l (zF n (la n (cj (dR W (aW l) l (mK W l 4) ([mm1,ms1]:List Mm) n hn) (zG W l n (zH W l n (cj (rf ((inL l n n).length)) trivial)))))))))))))))))))))))))))))))))))))))))))))))))))))))))))))))))))))
theorem ct(W:Int)(l:List Int)(hW1:bits .and .i64 (kN l 0) 1+1=W)(c2t:(W==1)=true):(W==(1:Int))=true:=by first |exact c2t | (rw[hW1];exact c2t)| (simpa [hW1] using c2t)
theorem uQ(W:Int)(l:List Int)(hW1:bits .and .i64 (kN l 0) 1+1=W)(c3f:(bits .and .i64 (Int.fdiv (kN l 1) (2^10)) 3==0)=false):(Go.bits Go.BinOp.and IntKind.i64 (Int.fdiv (kN l (1:Nat)) ((2:Int)^(10:Nat))) (3:Int)==(0:Int))=false:=by first |exact c3f | (rw[hW1];exact c3f)| (simpa [hW1] using c3f)
theorem vE(W:Int)(l:List Int)(n:Nat)(hW1:bits .and .i64 (kN l 0) 1+1=W)(hW:1<=W∧W<=2)(hn1:bits .and .i64 (Int.fdiv (kN l 0) (2^12)) 3+2=(n:Int))(hn:n<6)(c1t:(decide (bits .and .i64 (Int.fdiv (kN l 1) (2^8)) 3>0))=true)(c2t:(W==1)=true)(c3f:(bits .and .i64 (Int.fdiv (kN l 1) (2^10)) 3==0)=false)(c4f:(decide (bits .and .i64 (Int.fdiv (kN l 1) (2^12)) 3>0))=false):Vc (vF_ 12 [.row 1 l.length (dz l)] [dv l,dv l,.lp [(0,0),(1,1),(2,2)] (mk1 W (aW l) l ⟨0,0,0,0,0,0⟩ 0) (.ext 0) (mk1 W (aW l) l (mK W l 4) 4),dw l,.b true,.b true,.b true,dw l,.b true,.b true,.b true,.b true,.b false,dw l,.b false,.b false,.b false,.b false,.b false,.b false,dv l,.lp [(0,0),(1,1),(2,2),(3,4)] (mk2 W (aW l) l (mK W l 4) ([mm1]:List Mm) n 0) (.ext 3) (mk2 W (aW l) l (mK W l 4) ([mm1]:List Mm) n (n+1)),.lp [(0,0),(1,1),(2,2),(3,3),(4,4)] (mk3 W (aW l) l (mK W l 4) ([mm1]:List Mm) n 0) (.ext 5) (mk3 W (aW l) l (mK W l 4) ([mm1]:List Mm) n n)] [(0,3),(1,4),(2,5)] (.agg [aI W, aI (aW l), aI 6, aI (mK W l 4).r0, aI (mK W l 4).r1, aI (mK W l 4).r2, aI (mK W l 4).r3,.own 0 0 3 0 ([mm1]:List Mm).length,.own 1 0 2 0 (lbL (n+1)).length,.own 2 0 9 0 (inL l n n).length]) [mmB ([mm1]:List Mm),lbB (lbL (n+1)),inB (inL l n n)]):=al (co l (cj (kC l 0 (by omega)) (cj (lh W l n hW1 hW hn1 hn) (co l (cj (kC l 0 (by omega)) (cj (pv ((0:Int)<=1)) (cj (pv ((3:Int)≠0)) (cj (lg W l n hW1 hW hn1 hn) (cj (rf l.length) (cj (rr l.length 1 fun i j=>aI (l.getD i 0)) (cj hW1 (gr l (cj (dT W (aW l) l hW) (dI l (cj (kC l 1 (by omega)) (cj (pv ((0:Int)<=8)) (cj (jx W l hW1 c1t) (cj (pv ((32:Nat)<=140737488355328∧(1:Nat)<=140737488355328)) (cj (ct W l hW1 c2t) (cj (ct W l hW1 c2t) (dI l (cj (kC l 1 (by omega)) (cj (ct W l hW1 c2t) (cj (pv ((0:Int)<=10)) (cj (ct W l hW1 c2t) (cj (ct W l hW1 c2t) (cj (ct W l hW1 c2t) (cj (uQ W l hW1 c3f) (dI l (cj (kC l 1 (by omega)) (cj (pv ((0:Int)<=12)) (cj (eU W l hW1 c4f) (cj (eU W l hW1 c4f) (cj (eU W l hW1 c4f) (cj (eU W l hW1 c4f) (cj (eU W l hW1 c4f) (cj (eU W l hW1 c4f) (co l (cj (kC l 0 (by omega)) (cj (pv ((0:Int)<=12)) (cj (lf W l n hW1 hW hn1 hn) (eT W l (kA (cj (rN) (cj (rf (0:Nat)) (cj hn1 (cj (rf (0:Int)) (cj (dS W (aW l) l (mK W l 4) ([mm1]:List Mm) n hn) (eT W l (rA n (la n (cj (dR W (aW l) l (mK W l 4) ([mm1]:List Mm) n hn) (rB W l n (kB W l n (cj (rf ((inL l n n).length)) trivial)))))))))))))))))))))))))))))))))))))))))))))))))))))))
theorem tC(W:Int)(l:List Int)(n:Nat)(hW1:bits .and .i64 (kN l 0) 1+1=W)(hW:1<=W∧W<=2)(hn1:bits .and .i64 (Int.fdiv (kN l 0) (2^12)) 3+2=(n:Int))(hn:n<6)(c1t:(decide (bits .and .i64 (Int.fdiv (kN l 1) (2^8)) 3>0))=true)(c2t:(W==1)=true)(c3f:(bits .and .i64 (Int.fdiv (kN l 1) (2^10)) 3==0)=false)(c4t:(decide (bits .and .i64 (Int.fdiv (kN l 1) (2^12)) 3>0))=true)(c5f:(decide ((mK W l 4).s+W<=3))=false):Vc (vF_ 12 [.row 1 l.length (dz l)] [dv l,dv l,.lp [(0,0),(1,1),(2,2)] (mk1 W (aW l) l ⟨0,0,0,0,0,0⟩ 0) (.ext 0) (mk1 W (aW l) l (mK W l 4) 4),dw l,.b true,.b true,.b true,dw l,.b true,.b true,.b true,.b true,.b false,dw l,.b true,.b true,.b true,.b true,.b true,.b true,.b false,.b false,.b false,.b false,.b false,.b false,.b false,dv l,.lp [(0,0),(1,1),(2,2),(3,4)] (mk2 W (aW l) l (mK W l 4) ([mm1]:List Mm) n 0) (.ext 3) (mk2 W (aW l) l (mK W l 4) ([mm1]:List Mm) n (n+1)),.lp [(0,0),(1,1),(2,2),(3,3),(4,4)] (mk3 W (aW l) l (mK W l 4) ([mm1]:List Mm) n 0) (.ext 5) (mk3 W (aW l) l (mK W l 4) ([mm1]:List Mm) n n)] [(0,3),(1,4),(2,5)] (.agg [aI W, aI (aW l), aI 6, aI (mK W l 4).r0, aI (mK W l 4).r1, aI (mK W l 4).r2, aI (mK W l 4).r3,.own 0 0 3 0 ([mm1]:List Mm).length,.own 1 0 2 0 (lbL (n+1)).length,.own 2 0 9 0 (inL l n n).length]) [mmB ([mm1]:List Mm),lbB (lbL (n+1)),inB (inL l n n)]):=al (co l (cj (kC l 0 (by omega)) (cj (lh W l n hW1 hW hn1 hn) (co l (cj (kC l 0 (by omega)) (cj (pv ((0:Int)<=1)) (cj (pv ((3:Int)≠0)) (cj (lg W l n hW1 hW hn1 hn) (cj (rf l.length) (cj (rr l.length 1 fun i j=>aI (l.getD i 0)) (cj hW1 (gr l (cj (dT W (aW l) l hW) (dI l (cj (kC l 1 (by omega)) (cj (pv ((0:Int)<=8)) (cj (jx W l hW1 c1t) (cj (pv ((32:Nat)<=140737488355328∧(1:Nat)<=140737488355328)) (cj (ct W l hW1 c2t) (cj (ct W l hW1 c2t) (dI l (cj (kC l 1 (by omega)) (cj (ct W l hW1 c2t) (cj (pv ((0:Int)<=10)) (cj (ct W l hW1 c2t) (cj (ct W l hW1 c2t) (cj (ct W l hW1 c2t) (cj (uQ W l hW1 c3f) (dI l (cj (kC l 1 (by omega)) (cj (pv ((0:Int)<=12)) (cj (cE W l hW1 c4t) (cj (cE W l hW1 c4t) (cj (cE W l hW1 c4t) (cj (cE W l hW1 c4t) (cj (pi W l n hW1 hW hn1 hn) (cj (cE W l hW1 c4t) (cj (cE W l hW1 c4t) (cj (cU W l hW1 c5f) (cj (cU W l hW1 c5f) (cj (cU W l hW1 c5f) (cj (cU W l hW1 c5f) (cj (cU W l hW1 c5f) (cj (cU W l hW1 c5f) (cj (cU W l hW1 c5f) (co l (cj (kC l 0 (by omega)) (cj (pv ((0:Int)<=12)) (cj (lf W l n hW1 hW hn1 hn) (eT W l (kA (cj (rN) (cj (rf (0:Nat)) (cj hn1 (cj (rf (0:Int)) (cj (dS W (aW l) l (mK W l 4) ([mm1]:List Mm) n hn) (eT W l (rA n (la n (cj (dR W (aW l) l (mK W l 4) ([mm1]:List Mm) n hn) (rB W l n (kB W l n (cj (rf ((inL l n n).length)) trivial)))))))))))))))))))))))))))))))))))))))))))))))))))))))))))))))
theorem tz(W:Int)(l:List Int)(n:Nat)(hW1:bits .and .i64 (kN l 0) 1+1=W)(hW:1<=W∧W<=2)(hn1:bits .and .i64 (Int.fdiv (kN l 0) (2^12)) 3+2=(n:Int))(hn:n<6)(c1t:(decide (bits .and .i64 (Int.fdiv (kN l 1) (2^8)) 3>0))=true)(c2t:(W==1)=true)(c3f:(bits .and .i64 (Int.fdiv (kN l 1) (2^10)) 3==0)=false)(c4t:(decide (bits .and .i64 (Int.fdiv (kN l 1) (2^12)) 3>0))=true)(c5t:(decide ((mK W l 4).s+W<=3))=true):Vc (vF_ 12 [.row 1 l.length (dz l)] [dv l,dv l,.lp [(0,0),(1,1),(2,2)] (mk1 W (aW l) l ⟨0,0,0,0,0,0⟩ 0) (.ext 0) (mk1 W (aW l) l (mK W l 4) 4),dw l,.b true,.b true,.b true,dw l,.b true,.b true,.b true,.b true,.b false,dw l,.b true,.b true,.b true,.b true,.b true,.b true,.b true,.b true,.b true,.b true,.b true,.b false,.b false,.b false,.b false,.b false,.b false,.b true,.b false,.b true,dv l,.lp [(0,0),(1,1),(2,2),(3,4)] (mk2 W (aW l) l (mK W l 4) ([mm1,ms1]:List Mm) n 0) (.ext 3) (mk2 W (aW l) l (mK W l 4) ([mm1,ms1]:List Mm) n (n+1)),.lp [(0,0),(1,1),(2,2),(3,3),(4,4)] (mk3 W (aW l) l (mK W l 4) ([mm1,ms1]:List Mm) n 0) (.ext 5) (mk3 W (aW l) l (mK W l 4) ([mm1,ms1]:List Mm) n n)] [(0,3),(1,4),(2,5)] (.agg [aI W, aI (aW l), aI 6, aI (mK W l 4).r0, aI (mK W l 4).r1, aI (mK W l 4).r2, aI (mK W l 4).r3,.own 0 0 3 0 ([mm1,ms1]:List Mm).length,.own 1 0 2 0 (lbL (n+1)).length,.own 2 0 9 0 (inL l n n).length]) [mmB ([mm1,ms1]:List Mm),lbB (lbL (n+1)),inB (inL l n n)]):=al (co l (cj (kC l 0 (by omega)) (cj (lh W l n hW1 hW hn1 hn) (co l (cj (kC l 0 (by omega)) (cj (pv ((0:Int)<=1)) (cj (pv ((3:Int)≠0)) (cj (lg W l n hW1 hW hn1 hn) (cj (rf l.length) (cj (rr l.length 1 fun i j=>aI (l.getD i 0)) (cj hW1 (gr l (cj (dT W (aW l) l hW) (dI l (cj (kC l 1 (by omega)) (cj (pv ((0:Int)<=8)) (cj (jx W l hW1 c1t) (cj (pv ((32:Nat)<=140737488355328∧(1:Nat)<=140737488355328)) (cj (ct W l hW1 c2t) (cj (ct W l hW1 c2t) (dI l (cj (kC l 1 (by omega)) (cj (ct W l hW1 c2t) (cj (pv ((0:Int)<=10)) (cj (ct W l hW1 c2t) (cj (ct W l hW1 c2t) (cj (ct W l hW1 c2t) (cj (uQ W l hW1 c3f) (dI l (cj (kC l 1 (by omega)) (cj (pv ((0:Int)<=12)) (cj (cE W l hW1 c4t) (cj (cE W l hW1 c4t) (cj (cE W l hW1 c4t) (cj (cE W l hW1 c4t) (cj (pi W l n hW1 hW hn1 hn) (cj (cE W l hW1 c4t) (cj (cE W l hW1 c4t) (cj (cT W l hW1 c5t) (cj (cT W l hW1 c5t) (cj (cT W l hW1 c5t) (cj (cT W l hW1 c5t) (cj (cT W l hW1 c5t) (cj (e0 (1:Nat) 0) (cj (e0 (1:Nat) 0) (cj (e0 (1:Nat) 0) (cj (pv ((0:Int)<=0∧(0:Int)<(1:Nat))) (cj (e0 (1:Nat) 0) (cj (e0 (1:Nat) 0) (cj (pv ((0:Nat)<1)) (cj (e0 (1:Nat) 0) (cj (cT W l hW1 c5t) (cj (e0 (1:Nat) 0) (cj (cT W l hW1 c5t) (cj (pv ((0:Nat)=0∧(1:Nat)=1∧(64:Nat)<=140737488355328∧(2:Nat)<=140737488355328)) (co l (cj (kC l 0 (by omega)) (cj (pv ((0:Int)<=12)) (cj (lf W l n hW1 hW hn1 hn) (eT W l (zE (cj (zM) (cj (rf (0:Nat)) (cj hn1 (cj (rf (0:Int)) (cj (dS W (aW l) l (mK W l 4) ([mm1,ms1]:List Mm) n hn) (eT W l (zF n (la n (cj (dR W (aW l) l (mK W l 4) ([mm1,ms1]:List Mm) n hn) (zG W l n (zH W l n (cj (rf ((inL l n n).length)) trivial)))))))))))))))))))))))))))))))))))))))))))))))))))))))))))))))))))))))))
theorem uP(W:Int)(l:List Int)(hW1:bits .and .i64 (kN l 0) 1+1=W)(c3t:(bits .and .i64 (Int.fdiv (kN l 1) (2^10)) 3==0)=true):(Go.bits Go.BinOp.and IntKind.i64 (Int.fdiv (kN l (1:Nat)) ((2:Int)^(10:Nat))) (3:Int)==(0:Int))=true:=by first |exact c3t | (rw[hW1];exact c3t)| (simpa [hW1] using c3t)
theorem uO: ∀(i:Nat),i<1-> ∀(j:Nat),j<3->(bif Nat.ble (2:Nat) j&&Nat.blt j (3:Nat)&&Nat.beq i (0:Nat) then List.getD [aI 2] (j-2) AV.junk else List.getD [AV.str (ByteArray.mk (Array.mk [(109:UInt8)])),AV.bool false,aI 1] ((i+0)*3+j) AV.junk)=an mmC [mm2] i j:=(fun i hi j hj=>match i,hi,j,hj with |0,_,0,_=>rfl |0,_,1,_=>rfl |0,_,2,_=>rfl)
theorem uu(W:Int)(l:List Int)(n:Nat){Z:Prop}(z:Z):(RF (1:Nat) (RR 1 3 (fun i j=>an mmC [mm2] i j) (RF ((lbL (n+1)).length) (RR ((lbL (n+1)).length) 2 (fun i j=>an lbC (lbL (n+1)) i j) (RF ((inL l n n).length) (RR ((inL l n n).length) 9 (fun i j=>an inC (inL l n n) i j) (RF W (RF (aW l) (RF (6:Int) Z))))))))):=⟨rfl,fun _ _ _ _=>rfl,rfl,fun _ _ _ _=>rfl,rfl,fun _ _ _ _=>rfl,rfl,rfl,rfl,z⟩
theorem ut(n:Nat){Z:Prop}(z:Z):(RF (0:Nat) (RF (1:Nat) (RF (0:Nat) (RF ((lbL (n+1)).length) (RF (0:Nat) (RF (0:Nat) (RF (1:Nat) (RR 1 3 (fun i j=>an mmC [mm2] i j) (RF ((lbL (n+1)).length) Z))))))))):=⟨rfl,rfl,rfl,rfl,rfl,rfl,rfl,fun _ _ _ _=>rfl,rfl,z⟩
theorem vD(W:Int)(l:List Int)(n:Nat)(hW1:bits .and .i64 (kN l 0) 1+1=W)(hW:1<=W∧W<=2)(hn1:bits .and .i64 (Int.fdiv (kN l 0) (2^12)) 3+2=(n:Int))(hn:n<6)(c1t:(decide (bits .and .i64 (Int.fdiv (kN l 1) (2^8)) 3>0))=true)(c2t:(W==1)=true)(c3t:(bits .and .i64 (Int.fdiv (kN l 1) (2^10)) 3==0)=true)(c4f:(decide (bits .and .i64 (Int.fdiv (kN l 1) (2^12)) 3>0))=false):Vc (vF_ 12 [.row 1 l.length (dz l)] [dv l,dv l,.lp [(0,0),(1,1),(2,2)] (mk1 W (aW l) l ⟨0,0,0,0,0,0⟩ 0) (.ext 0) (mk1 W (aW l) l (mK W l 4) 4),dw l,.b true,.b true,.b true,dw l,.b true,.b true,.b true,.b true,.b true,dw l,.b false,.b false,.b false,.b false,.b false,.b false,dv l,.lp [(0,0),(1,1),(2,2),(3,4)] (mk2 W (aW l) l (mK W l 4) ([mm2]:List Mm) n 0) (.ext 3) (mk2 W (aW l) l (mK W l 4) ([mm2]:List Mm) n (n+1)),.lp [(0,0),(1,1),(2,2),(3,3),(4,4)] (mk3 W (aW l) l (mK W l 4) ([mm2]:List Mm) n 0) (.ext 5) (mk3 W (aW l) l (mK W l 4) ([mm2]:List Mm) n n)] [(0,3),(1,4),(2,5)] (.agg [aI W, aI (aW l), aI 6, aI (mK W l 4).r0, aI (mK W l 4).r1, aI (mK W l 4).r2, aI (mK W l 4).r3,.own 0 0 3 0 ([mm2]:List Mm).length,.own 1 0 2 0 (lbL (n+1)).length,.own 2 0 9 0 (inL l n n).length]) [mmB ([mm2]:List Mm),lbB (lbL (n+1)),inB (inL l n n)]):=al (co l (cj (kC l 0 (by omega)) (cj (lh W l n hW1 hW hn1 hn) (co l (cj (kC l 0 (by omega)) (cj (pv ((0:Int)<=1)) (cj (pv ((3:Int)≠0)) (cj (lg W l n hW1 hW hn1 hn) (cj (rf l.length) (cj (rr l.length 1 fun i j=>aI (l.getD i 0)) (cj hW1 (gr l (cj (dT W (aW l) l hW) (dI l (cj (kC l 1 (by omega)) (cj (pv ((0:Int)<=8)) (cj (jx W l hW1 c1t) (cj (pv ((32:Nat)<=140737488355328∧(1:Nat)<=140737488355328)) (cj (ct W l hW1 c2t) (cj (ct W l hW1 c2t) (dI l (cj (kC l 1 (by omega)) (cj (ct W l hW1 c2t) (cj (pv ((0:Int)<=10)) (cj (ct W l hW1 c2t) (cj (ct W l hW1 c2t) (cj (ct W l hW1 c2t) (cj (uP W l hW1 c3t) (cj (pv ((0:Int)<=0∧(0:Int)<(1:Nat))) (cj (pv ((0:Nat)<1)) (dI l (cj (kC l 1 (by omega)) (cj (pv ((0:Int)<=12)) (cj (eU W l hW1 c4f) (cj (eU W l hW1 c4f) (cj (eU W l hW1 c4f) (cj (eU W l hW1 c4f) (cj (eU W l hW1 c4f) (cj (eU W l hW1 c4f) (co l (cj (kC l 0 (by omega)) (cj (pv ((0:Int)<=12)) (cj (lf W l n hW1 hW hn1 hn) (eT W l (kA (cj (uO) (cj (rf (0:Nat)) (cj hn1 (cj (rf (0:Int)) (cj (dS W (aW l) l (mK W l 4) ([mm2]:List Mm) n hn) (eT W l (ut n (la n (cj (dR W (aW l) l (mK W l 4) ([mm2]:List Mm) n hn) (uu W l n (kB W l n (cj (rf ((inL l n n).length)) trivial)))))))))))))))))))))))))))))))))))))))))))))))))))))))))
theorem tx(W:Int)(l:List Int)(n:Nat)(hW1:bits .and .i64 (kN l 0) 1+1=W)(hW:1<=W∧W<=2)(hn1:bits .and .i64 (Int.fdiv (kN l 0) (2^12)) 3+2=(n:Int))(hn:n<6)(c1t:(decide (bits .and .i64 (Int.fdiv (kN l 1) (2^8)) 3>0))=true)(c2t:(W==1)=true)(c3t:(bits .and .i64 (Int.fdiv (kN l 1) (2^10)) 3==0)=true)(c4t:(decide (bits .and .i64 (Int.fdiv (kN l 1) (2^12)) 3>0))=true)(c5f:(decide ((mK W l 4).s+W<=3))=false):Vc (vF_ 12 [.row 1 l.length (dz l)] [dv l,dv l,.lp [(0,0),(1,1),(2,2)] (mk1 W (aW l) l ⟨0,0,0,0,0,0⟩ 0) (.ext 0) (mk1 W (aW l) l (mK W l 4) 4),dw l,.b true,.b true,.b true,dw l,.b true,.b true,.b true,.b true,.b true,dw l,.b true,.b true,.b true,.b true,.b true,.b true,.b false,.b false,.b false,.b false,.b false,.b false,.b false,dv l,.lp [(0,0),(1,1),(2,2),(3,4)] (mk2 W (aW l) l (mK W l 4) ([mm2]:List Mm) n 0) (.ext 3) (mk2 W (aW l) l (mK W l 4) ([mm2]:List Mm) n (n+1)),.lp [(0,0),(1,1),(2,2),(3,3),(4,4)] (mk3 W (aW l) l (mK W l 4) ([mm2]:List Mm) n 0) (.ext 5) (mk3 W (aW l) l (mK W l 4) ([mm2]:List Mm) n n)] [(0,3),(1,4),(2,5)] (.agg [aI W, aI (aW l), aI 6, aI (mK W l 4).r0, aI (mK W l 4).r1, aI (mK W l 4).r2, aI (mK W l 4).r3,.own 0 0 3 0 ([mm2]:List Mm).length,.own 1 0 2 0 (lbL (n+1)).length,.own 2 0 9 0 (inL l n n).length]) [mmB ([mm2]:List Mm),lbB (lbL (n+1)),inB (inL l n n)]):=al (co l (cj (kC l 0 (by omega)) (cj (lh W l n hW1 hW hn1 hn) (co l (cj (kC l 0 (by omega)) (cj (pv ((0:Int)<=1)) (cj (pv ((3:Int)≠0)) (cj (lg W l n hW1 hW hn1 hn) (cj (rf l.length) (cj (rr l.length 1 fun i j=>aI (l.getD i 0)) (cj hW1 (gr l (cj (dT W (aW l) l hW) (dI l (cj (kC l 1 (by omega)) (cj (pv ((0:Int)<=8)) (cj (jx W l hW1 c1t) (cj (pv ((32:Nat)<=140737488355328∧(1:Nat)<=140737488355328)) (cj (ct W l hW1 c2t) (cj (ct W l hW1 c2t) (dI l (cj (kC l 1 (by omega)) (cj (ct W l hW1 c2t) (cj (pv ((0:Int)<=10)) (cj (ct W l hW1 c2t) (cj (ct W l hW1 c2t) (cj (ct W l hW1 c2t) (cj (uP W l hW1 c3t) (cj (pv ((0:Int)<=0∧(0:Int)<(1:Nat))) (cj (pv ((0:Nat)<1)) (dI l (cj (kC l 1 (by omega)) (cj (pv ((0:Int)<=12)) (cj (cE W l hW1 c4t) (cj (cE W l hW1 c4t) (cj (cE W l hW1 c4t) (cj (cE W l hW1 c4t) (cj (pi W l n hW1 hW hn1 hn) (cj (cE W l hW1 c4t) (cj (cE W l hW1 c4t) (cj (cU W l hW1 c5f) (cj (cU W l hW1 c5f) (cj (cU W l hW1 c5f) (cj (cU W l hW1 c5f) (cj (cU W l hW1 c5f) (cj (cU W l hW1 c5f) (cj (cU W l hW1 c5f) (co l (cj (kC l 0 (by omega)) (cj (pv ((0:Int)<=12)) (cj (lf W l n hW1 hW hn1 hn) (eT W l (kA (cj (uO) (cj (rf (0:Nat)) (cj hn1 (cj (rf (0:Int)) (cj (dS W (aW l) l (mK W l 4) ([mm2]:List Mm) n hn) (eT W l (ut n (la n (cj (dR W (aW l) l (mK W l 4) ([mm2]:List Mm) n hn) (uu W l n (kB W l n (cj (rf ((inL l n n).length)) trivial)))))))))))))))))))))))))))))))))))))))))))))))))))))))))))))))))
theorem tw(W:Int)(l:List Int)(n:Nat)(hW1:bits .and .i64 (kN l 0) 1+1=W)(hW:1<=W∧W<=2)(hn1:bits .and .i64 (Int.fdiv (kN l 0) (2^12)) 3+2=(n:Int))(hn:n<6)(c1t:(decide (bits .and .i64 (Int.fdiv (kN l 1) (2^8)) 3>0))=true)(c2t:(W==1)=true)(c3t:(bits .and .i64 (Int.fdiv (kN l 1) (2^10)) 3==0)=true)(c4t:(decide (bits .and .i64 (Int.fdiv (kN l 1) (2^12)) 3>0))=true)(c5t:(decide ((mK W l 4).s+W<=3))=true):Vc (vF_ 12 [.row 1 l.length (dz l)] [dv l,dv l,.lp [(0,0),(1,1),(2,2)] (mk1 W (aW l) l ⟨0,0,0,0,0,0⟩ 0) (.ext 0) (mk1 W (aW l) l (mK W l 4) 4),dw l,.b true,.b true,.b true,dw l,.b true,.b true,.b true,.b true,.b true,dw l,.b true,.b true,.b true,.b true,.b true,.b true,.b true,.b true,.b true,.b true,.b true,.b false,.b false,.b false,.b false,.b false,.b false,.b true,.b false,.b true,dv l,.lp [(0,0),(1,1),(2,2),(3,4)] (mk2 W (aW l) l (mK W l 4) ([mm2]:List Mm) n 0) (.ext 3) (mk2 W (aW l) l (mK W l 4) ([mm2]:List Mm) n (n+1)),.lp [(0,0),(1,1),(2,2),(3,3),(4,4)] (mk3 W (aW l) l (mK W l 4) ([mm2]:List Mm) n 0) (.ext 5) (mk3 W (aW l) l (mK W l 4) ([mm2]:List Mm) n n)] [(0,3),(1,4),(2,5)] (.agg [aI W, aI (aW l), aI 6, aI (mK W l 4).r0, aI (mK W l 4).r1, aI (mK W l 4).r2, aI (mK W l 4).r3,.own 0 0 3 0 ([mm2]:List Mm).length,.own 1 0 2 0 (lbL (n+1)).length,.own 2 0 9 0 (inL l n n).length]) [mmB ([mm2]:List Mm),lbB (lbL (n+1)),inB (inL l n n)]):=al (co l (cj (kC l 0 (by omega)) (cj (lh W l n hW1 hW hn1 hn) (co l (cj (kC l 0 (by omega)) (cj (pv ((0:Int)<=1)) (cj (pv ((3:Int)≠0)) (cj (lg W l n hW1 hW hn1 hn) (cj (rf l.length) (cj (rr l.length 1 fun i j=>aI (l.getD i 0)) (cj hW1 (gr l (cj (dT W (aW l) l hW) (dI l (cj (kC l 1 (by omega)) (cj (pv ((0:Int)<=8)) (cj (jx W l hW1 c1t) (cj (pv ((32:Nat)<=140737488355328∧(1:Nat)<=140737488355328)) (cj (ct W l hW1 c2t) (cj (ct W l hW1 c2t) (dI l (cj (kC l 1 (by omega)) (cj (ct W l hW1 c2t) (cj (pv ((0:Int)<=10)) (cj (ct W l hW1 c2t) (cj (ct W l hW1 c2t) (cj (ct W l hW1 c2t) (cj (uP W l hW1 c3t) (cj (pv ((0:Int)<=0∧(0:Int)<(1:Nat))) (cj (pv ((0:Nat)<1)) (dI l (cj (kC l 1 (by omega)) (cj (pv ((0:Int)<=12)) (cj (cE W l hW1 c4t) (cj (cE W l hW1 c4t) (cj (cE W l hW1 c4t) (cj (cE W l hW1 c4t) (cj (pi W l n hW1 hW hn1 hn) (cj (cE W l hW1 c4t) (cj (cE W l hW1 c4t) (cj (cT W l hW1 c5t) (cj (cT W l hW1 c5t) (cj (cT W l hW1 c5t) (cj (cT W l hW1 c5t) (cj (cT W l hW1 c5t) (cj (e0 (1:Nat) 0) (cj (e0 (1:Nat) 0) (cj (e0 (1:Nat) 0) (cj (pv ((0:Int)<=0∧(0:Int)<(1:Nat))) (cj (e0 (1:Nat) 0) (cj (e0 (1:Nat) 0) (cj (pv ((0:Nat)<1)) (cj (e0 (1:Nat) 0) (cj (cT W l hW1 c5t) (cj (e0 (1:Nat) 0) (cj (cT W l hW1 c5t) (co l (cj (kC l 0 (by omega)) (cj (pv ((0:Int)<=12)) (cj (lf W l n hW1 hW hn1 hn) (eT W l (kA (cj (uO) (cj (rf (0:Nat)) (cj hn1 (cj (rf (0:Int)) (cj (dS W (aW l) l (mK W l 4) ([mm2]:List Mm) n hn) (eT W l (ut n (la n (cj (dR W (aW l) l (mK W l 4) ([mm2]:List Mm) n hn) (uu W l n (kB W l n (cj (rf ((inL l n n).length)) trivial))))))))))))))))))))))))))))))))))))))))))))))))))))))))))))))))))))))))))
def wN(l:List Int):Int:=bits .and .i64 (kN l 0) 1+1
def nN(l:List Int):Nat:=(bits .and .i64 (Int.fdiv (kN l 0) (2^12)) 3+2).toNat
def msA(c1 c2 c3 c4 c5:Bool):List Mm:=bif c1 then(bif c2 then(bif c3 then[mm2] else(bif c4 then(bif c5 then[mm1,ms1] else[mm1]) else[mm1])) else(bif c4 then(bif c5 then[mm1,ms1] else[mm1]) else[mm1])) else(bif c4 then(bif c5 then[ms1] else[]) else[])
def HX(W:Int)(n:Nat)(l:List Int)(c1 c2 c3 c4 c5:Bool):Pg:=⟨W,aW l,6,(mK W l 4).r0,(mK W l 4).r1,(mK W l 4).r2,(mK W l 4).r3,msA c1 c2 c3 c4 c5,lbL (n+1),inL l n n⟩
def bB(l:List Int):Pg:=HX (wN l) (nN l) l (decide (bits .and .i64 (Int.fdiv (kN l 1) (2^8)) 3>0)) ((wN l)==1) (bits .and .i64 (Int.fdiv (kN l 1) (2^10)) 3==0) (decide (bits .and .i64 (Int.fdiv (kN l 1) (2^12)) 3>0)) (decide ((mK (wN l) l 4).s+wN l<=3))
theorem DU(l:List Int):wN l=1∨wN l=2:=by
 have hb1:bits .and .i64 (kN l 0) 1=kN l 0%2:=Wd.bits_mask (kN l 0) 1 (by omega)
 unfold wN
 omega
theorem z6(l:List Int):2<=nN l∧nN l<=5∧bits .and .i64 (Int.fdiv (kN l 0) (2^12)) 3+2=((nN l:Nat):Int):=by
 have hb2:bits .and .i64 (Int.fdiv (kN l 0) (2^12)) 3=Int.fdiv (kN l 0) (2^12)%4:=Wd.bits_mask _ 2 (by omega)
 unfold nN
 omega
theorem mkC(l:List Int):pC_ 12 [.row 1 l.length (dz l)] (.agg (pgA (bB l))) []:=by
 have hWW:=DU l
 have hnn:=z6 l
 unfold bB
 obtain⟨W,hW1⟩: ∃W,wN l=W:=⟨_,rfl⟩
 obtain⟨n,hn0⟩: ∃n,nN l=n:=⟨_,rfl⟩
 rw[hW1] at hWW
 rw[hn0] at hnn
 rw[hW1,hn0]
 have hW:1<=W∧W<=2:=by omega
 obtain⟨_,hn5,hn1⟩:=hnn
 have hn:n<6:=by omega
 unfold wN at hW1
 cases c1:decide (bits .and .i64 (Int.fdiv (kN l 1) (2^8)) 3>0) with
 |false=>
  have c1f:=c1
  cases c4:decide (bits .and .i64 (Int.fdiv (kN l 1) (2^12)) 3>0) with
  |false=>exact(PureC.vc (B1 W l n hW1 hW hn1 hn c1f c4)).frozen
  |true=>
   cases c5:decide ((mK W l 4).s+W<=3) with
   |false=>exact(PureC.vc (yo W l n hW1 hW hn1 hn c1f c4 c5)).frozen
   |true=>exact(PureC.vc (yn W l n hW1 hW hn1 hn c1f c4 c5)).frozen
 |true=>
  have c1t:=c1
  cases c2:(W==1) with
  |false=>
   have c2f:=c2
   cases c4:decide (bits .and .i64 (Int.fdiv (kN l 1) (2^12)) 3>0) with
   |false=>exact(PureC.vc (ym W l n hW1 hW hn1 hn c1t c2f c4)).frozen
   |true=>
    cases c5:decide ((mK W l 4).s+W<=3) with
    |false=>exact(PureC.vc (vG W l n hW1 hW hn1 hn c1t c2f c4 c5)).frozen
    |true=>exact(PureC.vc (vF W l n hW1 hW hn1 hn c1t c2f c4 c5)).frozen
  |true=>
   have c2t:=c2
   cases c3:(bits .and .i64 (Int.fdiv (kN l 1) (2^10)) 3==0) with
   |false=>
    have c3f:=c3
    cases c4:decide (bits .and .i64 (Int.fdiv (kN l 1) (2^12)) 3>0) with
    |false=>exact(PureC.vc (vE W l n hW1 hW hn1 hn c1t c2t c3f c4)).frozen
    |true=>
     cases c5:decide ((mK W l 4).s+W<=3) with
     |false=>exact(PureC.vc (tC W l n hW1 hW hn1 hn c1t c2t c3f c4 c5)).frozen
     |true=>exact(PureC.vc (tz W l n hW1 hW hn1 hn c1t c2t c3f c4 c5)).frozen
   |true=>
    have c3t:=c3
    cases c4:decide (bits .and .i64 (Int.fdiv (kN l 1) (2^12)) 3>0) with
    |false=>exact(PureC.vc (vD W l n hW1 hW hn1 hn c1t c2t c3t c4)).frozen
    |true=>
     cases c5:decide ((mK W l 4).s+W<=3) with
     |false=>exact(PureC.vc (tx W l n hW1 hW hn1 hn c1t c2t c3t c4 c5)).frozen
     |true=>exact(PureC.vc (tw W l n hW1 hW hn1 hn c1t c2t c3t c4 c5)).frozen
theorem zI(y m:Int)(hm:0<m):0<=tmN y m∧tmN y m<m:=rJ y m hm
theorem Ag(y:Int):0<=bits .and .i64 y 3∧bits .and .i64 y 3<4:=by
 obtain⟨q,h1,h2⟩:=qk y
 omega
theorem uA(x:Int):okV (vlN x):=by
 unfold vlN
 split
 ·exact fun h=>by cases h
 ·exact fun _=>Ag x
theorem cg(k:Nat)(x:Int)(n:Nat)(hk:1<=k∧k<=11):OkI (cQ k x n) n:=by
 have h14:=Ag (x2 x 14)
 have ha:=uA (x2 x 8)
 have hb:=uA (x2 x 11)
 have ht:=zI (x2 x 18) (n+1) (by omega)
 match k,hk with
 |1,_=>exact⟨⟨show(1:Int)<=1 by decide,show(1:Int)<=12 by decide⟩,ha,hb,h14,show(0:Int)<=0 by decide,by show(0:Int)<=_;omega⟩
 |2,_=>exact⟨⟨show(1:Int)<=2 by decide,show(2:Int)<=12 by decide⟩,ha,hb,h14,show(0:Int)<=0 by decide,by show(0:Int)<=_;omega⟩
 |3,_=>exact⟨⟨show(1:Int)<=3 by decide,show(3:Int)<=12 by decide⟩,ha,hb,h14,show(0:Int)<=0 by decide,by show(0:Int)<=_;omega⟩
 |4,_=>exact⟨⟨show(1:Int)<=4 by decide,show(4:Int)<=12 by decide⟩,ha,hb,h14,show(0:Int)<=0 by decide,by show(0:Int)<=_;omega⟩
 |5,_=>exact⟨⟨show(1:Int)<=5 by decide,show(5:Int)<=12 by decide⟩,ha,hb,⟨show(0:Int)<=0 by decide,show(0:Int)<4 by decide⟩,ht.1,by show tmN _ _<=_;omega⟩
 |6,_=>exact⟨⟨show(1:Int)<=6 by decide,show(6:Int)<=12 by decide⟩,j8,j8,⟨show(0:Int)<=0 by decide,show(0:Int)<4 by decide⟩,ht.1,by show tmN _ _<=_;omega⟩
 |7,_=>exact⟨⟨show(1:Int)<=7 by decide,show(7:Int)<=12 by decide⟩,ha,j8,⟨show(0:Int)<=0 by decide,show(0:Int)<4 by decide⟩,show(0:Int)<=0 by decide,by show(0:Int)<=_;omega⟩
 |8,_=>exact⟨⟨show(1:Int)<=8 by decide,show(8:Int)<=12 by decide⟩,j8,j8,⟨show(0:Int)<=0 by decide,show(0:Int)<4 by decide⟩,ht.1,by show tmN _ _<=_;omega⟩
 |9,_=>exact⟨⟨show(1:Int)<=9 by decide,show(9:Int)<=12 by decide⟩,j8,j8,⟨show(0:Int)<=0 by decide,show(0:Int)<4 by decide⟩,show(0:Int)<=0 by decide,by show(0:Int)<=_;omega⟩
 |10,_=>exact⟨⟨show(1:Int)<=10 by decide,show(10:Int)<=12 by decide⟩,j8,j8,⟨show(0:Int)<=0 by decide,show(0:Int)<4 by decide⟩,show(0:Int)<=0 by decide,by show(0:Int)<=_;omega⟩
 |11,_=>exact⟨⟨show(1:Int)<=11 by decide,show(11:Int)<=12 by decide⟩,j8,j8,⟨show(0:Int)<=0 by decide,show(0:Int)<4 by decide⟩,show(0:Int)<=0 by decide,by show(0:Int)<=_;omega⟩
 |0,h=>exact absurd h.1 (by omega)
 |k+12,h=>exact absurd h.2 (by omega)
theorem yz(x:Int)(n:Nat):OkI (g9 x n) n∧(g9 x n).kind<=11:=by
 have h:=zI x 18 (by omega)
 unfold g9
 obtain⟨q,e⟩: ∃q:Nat,tmN x 18=(q:Int):=⟨(tmN x 18).toNat,by omega⟩
 have hq:q<18:=by omega
 rw[e,aK]
 match q,hq with
 |0,_=>exact⟨cg 1 x n (by decide),by show(1:Int)<=11;decide⟩
 |1,_=>exact⟨cg 1 x n (by decide),by show(1:Int)<=11;decide⟩
 |2,_=>exact⟨cg 2 x n (by decide),by show(2:Int)<=11;decide⟩
 |3,_=>exact⟨cg 2 x n (by decide),by show(2:Int)<=11;decide⟩
 |4,_=>exact⟨cg 2 x n (by decide),by show(2:Int)<=11;decide⟩
 |5,_=>exact⟨cg 3 x n (by decide),by show(3:Int)<=11;decide⟩
 |6,_=>exact⟨cg 3 x n (by decide),by show(3:Int)<=11;decide⟩
 |7,_=>exact⟨cg 4 x n (by decide),by show(4:Int)<=11;decide⟩
 |8,_=>exact⟨cg 5 x n (by decide),by show(5:Int)<=11;decide⟩
 |9,_=>exact⟨cg 5 x n (by decide),by show(5:Int)<=11;decide⟩
 |10,_=>exact⟨cg 5 x n (by decide),by show(5:Int)<=11;decide⟩
 |11,_=>exact⟨cg 6 x n (by decide),by show(6:Int)<=11;decide⟩
 |12,_=>exact⟨cg 7 x n (by decide),by show(7:Int)<=11;decide⟩
 |13,_=>exact⟨cg 8 x n (by decide),by show(8:Int)<=11;decide⟩
 |14,_=>exact⟨cg 9 x n (by decide),by show(9:Int)<=11;decide⟩
 |15,_=>exact⟨cg 10 x n (by decide),by show(10:Int)<=11;decide⟩
 |16,_=>exact⟨cg 11 x n (by decide),by show(11:Int)<=11;decide⟩
 |17,_=>exact⟨cg 1 x n (by decide),by show(1:Int)<=11;decide⟩
 |_+18,h=>exact absurd h (by omega)
theorem vX(l:List Int)(n:Nat): ∀k, ∀i∈inL l n k,OkI i n∧i.kind<=11
 |0,i,hi=>by cases hi
 |k+1,i,hi=>by
  rcases aV.1 hi with h |h
  ·exact vX l n k i h
  ·rw[aH.1 h];exact yz _ _
theorem B0(c1 c2 c3 c4 c5:Bool):bU (msA c1 c2 c3 c4 c5)<=3∧(msA c1 c2 c3 c4 c5).length<=2:=by
 cases c1<;>cases c2<;>cases c3<;>cases c4<;>cases c5<;>decide
theorem eG(l:List Int):OkP (bB l):=by
 have hnn:=z6 l
 have hm:=B0 (decide (bits .and .i64 (Int.fdiv (kN l 1) (2^8)) 3>0)) ((wN l)==1) (bits .and .i64 (Int.fdiv (kN l 1) (2^10)) 3==0) (decide (bits .and .i64 (Int.fdiv (kN l 1) (2^12)) 3>0)) (decide ((mK (wN l) l 4).s+wN l<=3))
 have e:(bB l).is.length=nN l:=gc _ _ _
 refine⟨fun i hi=> ?_,by rw[e];omega,Nat.lt_of_le_of_lt hm.2 (by omega),bF hm.1 (by omega)⟩
 rw[e]
 exact(vX _ _ _ i hi).1
def plF(p:Pg):List Pl:=places (rg p.r0 p.r1 p.r2 p.r3) p.ms
def plR(l:List Pl):AV:= .row 3 l.length (an plC l)
def rsS(p:Pg)(pl:List Pl)(l:List Int)(s:S7)(k:Nat):Sm:=⟨[(1,lR l),(2,pgP p),(4,.bptr 0 0),(5,.bool false),(6,plR pl),(7,.bptr 1 0),(8,.int .i64 k)],
 [(0,bx 40 (stZ .nils)),(1,bx 40 (stC s (.own 2 0 1 0 s.m.length))),(2,aZ s.m)],3⟩
theorem xc(p:Pg)(pl:List Pl)(k:Nat){Z:Prop}(z:Z):(RF p.is.length (RR p.is.length 9 (fun i j=>an inC p.is i j) (RF false (RF pl.length (RR pl.length 3 (fun i j=>an plC pl i j) (RF ((k:Int)+1) Z)))))):=⟨rfl,fun _ _ _ _=>rfl,rfl,rfl,fun _ _ _ _=>rfl,rfl,z⟩
theorem uq(p:Pg){Z:Prop}(z:Z):(RF p.fuel (RF p.r0 (RF p.r1 (RF p.r2 (RF p.r3 (RF p.ms.length (RR p.ms.length 3 (fun i j=>an mmC p.ms i j) (RF p.ls.length (RR p.ls.length 2 (fun i j=>an lbC p.ls i j) Z))))))))):=⟨rfl,rfl,rfl,rfl,rfl,rfl,fun _ _ _ _=>rfl,rfl,fun _ _ _ _=>rfl,z⟩
theorem un(p:Pg)(l:List Int)(s:S7){Z:Prop}(z:Z):(RF (0:Nat) (RF s.m.length (RF (0:Int) (RF s.m.length (RR s.m.length 1 (fun i j=>aI (s.m.getD i 0)) (RF l.length (RR l.length 1 (fun i j=>aI (l.getD i 0)) (RF p.W (RF p.win Z))))))))):=⟨rfl,rfl,rfl,rfl,fun _ _ _ _=>rfl,rfl,fun _ _ _ _=>rfl,rfl,rfl,z⟩
abbrev vw(p:Pg)(l:List Int)(k:Nat):Orc:= .cl [aI p.W, aI (l.getD k 0)] (aI (Wd.maskV p.W (l.getD k 0))) []
theorem xP(p:Pg)(pl:List Pl)(l:List Int)(s:S7)(k:Nat)(hk:k<pl.length)(hl:l.length=pl.length)(hp:pl.length<1000000)(hr:(pl.getD k default).reg=true)(hn:(pl.getD k default).n=0):Vc (vC_ 38 0 (rsS p pl l s k) [.b true,vw p l k,.b true,.ix 0] .nrm [(0,0),(1,1),(2,2)] (rsS p pl l {s with r0:=Wd.maskV p.W (l.getD k 0)} (k+1))):=al (cj (dt ((k:Int)<pl.length)) (cj (bi k l.length) (cj (rf p.W) (cj (rf (l.getD k 0)) (cj (bu p.W (l.getD k 0)) (cj (bi k pl.length) (cj hr (cj (bi k pl.length) (cj (show(↑((pl.getD k default).n):Int)=((0:Nat):Int) from(congrArg Int.ofNat hn)) (cj (i6 (k+1)) (cj (rf (0:Int)) (cj (rf (0:Int)) (cj (rf (0:Int)) (cj (rf (0:Int)) (cj (rf (0:Int)) (cj (rf (Wd.maskV p.W (l.getD k 0))) (cj (rf s.r1) (cj (rf s.r2) (cj (rf s.r3) (un p l s (uq p (xc p pl k trivial))))))))))))))))))))))
theorem xO(p:Pg)(pl:List Pl)(l:List Int)(s:S7)(k:Nat)(hk:k<pl.length)(hl:l.length=pl.length)(hp:pl.length<1000000)(hr:(pl.getD k default).reg=true)(hn:(pl.getD k default).n=1):Vc (vC_ 38 0 (rsS p pl l s k) [.b true,vw p l k,.b true,.ix 1] .nrm [(0,0),(1,1),(2,2)] (rsS p pl l {s with r1:=Wd.maskV p.W (l.getD k 0)} (k+1))):=al (cj (dt ((k:Int)<pl.length)) (cj (bi k l.length) (cj (rf p.W) (cj (rf (l.getD k 0)) (cj (bu p.W (l.getD k 0)) (cj (bi k pl.length) (cj hr (cj (bi k pl.length) (cj (show(↑((pl.getD k default).n):Int)=((1:Nat):Int) from(congrArg Int.ofNat hn)) (cj (i6 (k+1)) (cj (rf (0:Int)) (cj (rf (0:Int)) (cj (rf (0:Int)) (cj (rf (0:Int)) (cj (rf (0:Int)) (cj (rf s.r0) (cj (rf (Wd.maskV p.W (l.getD k 0))) (cj (rf s.r2) (cj (rf s.r3) (un p l s (uq p (xc p pl k trivial))))))))))))))))))))))
theorem xN(p:Pg)(pl:List Pl)(l:List Int)(s:S7)(k:Nat)(hk:k<pl.length)(hl:l.length=pl.length)(hp:pl.length<1000000)(hr:(pl.getD k default).reg=true)(hn:(pl.getD k default).n=2):Vc (vC_ 38 0 (rsS p pl l s k) [.b true,vw p l k,.b true,.ix 2] .nrm [(0,0),(1,1),(2,2)] (rsS p pl l {s with r2:=Wd.maskV p.W (l.getD k 0)} (k+1))):=al (cj (dt ((k:Int)<pl.length)) (cj (bi k l.length) (cj (rf p.W) (cj (rf (l.getD k 0)) (cj (bu p.W (l.getD k 0)) (cj (bi k pl.length) (cj hr (cj (bi k pl.length) (cj (show(↑((pl.getD k default).n):Int)=((2:Nat):Int) from(congrArg Int.ofNat hn)) (cj (i6 (k+1)) (cj (rf (0:Int)) (cj (rf (0:Int)) (cj (rf (0:Int)) (cj (rf (0:Int)) (cj (rf (0:Int)) (cj (rf s.r0) (cj (rf s.r1) (cj (rf (Wd.maskV p.W (l.getD k 0))) (cj (rf s.r3) (un p l s (uq p (xc p pl k trivial))))))))))))))))))))))
theorem xM(p:Pg)(pl:List Pl)(l:List Int)(s:S7)(k:Nat)(hk:k<pl.length)(hl:l.length=pl.length)(hp:pl.length<1000000)(hr:(pl.getD k default).reg=true)(hn:(pl.getD k default).n=3):Vc (vC_ 38 0 (rsS p pl l s k) [.b true,vw p l k,.b true,.ix 3] .nrm [(0,0),(1,1),(2,2)] (rsS p pl l {s with r3:=Wd.maskV p.W (l.getD k 0)} (k+1))):=al (cj (dt ((k:Int)<pl.length)) (cj (bi k l.length) (cj (rf p.W) (cj (rf (l.getD k 0)) (cj (bu p.W (l.getD k 0)) (cj (bi k pl.length) (cj hr (cj (bi k pl.length) (cj (show(↑((pl.getD k default).n):Int)=((3:Nat):Int) from(congrArg Int.ofNat hn)) (cj (i6 (k+1)) (cj (rf (0:Int)) (cj (rf (0:Int)) (cj (rf (0:Int)) (cj (rf (0:Int)) (cj (rf (0:Int)) (cj (rf s.r0) (cj (rf s.r1) (cj (rf s.r2) (cj (rf (Wd.maskV p.W (l.getD k 0))) (un p l s (uq p (xc p pl k trivial))))))))))))))))))))))
theorem DG(p:Pg)(l:List Int){Z:Prop}(z:Z):(RF l.length (RR l.length 1 (fun i j=>aI (l.getD i 0)) (RF p.W (RF p.win (RF p.fuel (RF p.r0 (RF p.r1 (RF p.r2 (RF p.r3 Z))))))))):=⟨rfl,fun _ _ _ _=>rfl,rfl,rfl,rfl,rfl,rfl,rfl,rfl,z⟩
theorem DF(s:S7){Z:Prop}(z:Z):(RF (0:Int) (RF (0:Int) (RF (0:Int) (RF (0:Int) (RF (0:Int) (RF s.r0 (RF s.r1 (RF s.r2 (RF s.r3 Z))))))))):=⟨rfl,rfl,rfl,rfl,rfl,rfl,rfl,rfl,rfl,z⟩
theorem Bn(p:Pg)(pl:List Pl)(l:List Int)(s:S7)(k:Nat)(hk:k<pl.length)(hl:l.length=pl.length)(hp:pl.length<1000000)(hr:(pl.getD k default).reg=false)(hn:(pl.getD k default).n<s.m.length):Vc (vC_ 38 0 (rsS p pl l s k) [.b true,vw p l k,.b false] .nrm [(0,0),(1,1),(2,2)] (rsS p pl l {s with m:=s.m.set (pl.getD k default).n (Wd.maskV p.W (l.getD k 0))} (k+1))):=al (cj (dt ((k:Int)<pl.length)) (cj (bi k l.length) (cj (rf p.W) (cj (rf (l.getD k 0)) (cj (bu p.W (l.getD k 0)) (cj (bi k pl.length) (cj hr (cj (bi k pl.length) (cj (show(0:Int)<=(↑((pl.getD k default).n):Int)∧(↑((pl.getD k default).n):Int)<(↑s.m.length:Int) from⟨Int.natCast_nonneg _,Int.ofNat_lt.2 hn⟩) (cj hn (cj (i6 (k+1)) (DF s (cj (rf (0:Nat)) (cj (show s.m.length=(List.set s.m (pl.getD k default).n (Wd.maskV p.W (l.getD k 0))).length from aq.symm) (cj (rf (0:Int)) (cj (show s.m.length=(List.set s.m (pl.getD k default).n (Wd.maskV p.W (l.getD k 0))).length from aq.symm) (cj (show ∀(i:Nat),i<s.m.length-> ∀(j:Nat),j<1->(bif Nat.ble (0:Nat) j&&Nat.blt j (1:Nat)&&Nat.beq i ((pl.getD k default).n+0) then List.getD [aI (Wd.maskV p.W (l.getD k 0))] (j-0) AV.junk else aI (s.m.getD i 0))=aI (List.getD (List.set s.m (pl.getD k default).n (Wd.maskV p.W (l.getD k 0))) i 0) from fV) (DG p l (cj (rf p.ms.length) (cj (rr p.ms.length 3 fun i j=>an mmC p.ms i j) (cj (rf p.ls.length) (cj (rr p.ls.length 2 fun i j=>an lbC p.ls i j) (cj (rf p.is.length) (cj (rr p.is.length 9 fun i j=>an inC p.is i j) (cj (rf false) (cj (rf pl.length) (cj (rr pl.length 3 fun i j=>an plC pl i j) (cj (rf ((k:Int)+1)) trivial))))))))))))))))))))))))))))
theorem Bo(p:Pg)(pl:List Pl)(l:List Int)(s:S7):Vc (vC_ 38 0 (rsS p pl l s pl.length) [.b false] (.ext 0) [(0,0),(1,1),(2,2)] (rsS p pl l s pl.length)):=al (cj (df ((pl.length:Int)<pl.length)) (DF s (un p l s (uq p (cj (rf p.is.length) (cj (rr p.is.length 9 fun i j=>an inC p.is i j) (cj (rf false) (cj (rf pl.length) (cj (rr pl.length 3 fun i j=>an plC pl i j) (cj (rf (pl.length:Int)) trivial))))))))))
theorem xQ(p:Pg)(pl:List Pl)(l:List Int)(s:S7)(hl:l.length=pl.length)(hp:pl.length<1000000)(ho: ∀x∈pl,BO s.m.length x):oL_ 38 0 (rsS p pl l s 0).st (.ext 0) (rsS p pl l (ol p.W pl l s pl.length) pl.length).st:=
 Ok.loop (P:=Try.prog) (nt:=cN Try.prog 38) (c:=lpC Try.prog 38 0) (F:=fun k=>rsS p pl l (ol p.W pl l s k) k) (m:=pl.length) (x:= .ext 0) (J:=rsS p pl l (ol p.W pl l s pl.length) pl.length) (fun k hk=>by
  have hm:=pB p.W pl l s k
  obtain⟨h1,h2⟩:=ho _ (v3 hk)
  show Ok _ _ _ _ _ (rsS p pl l (pC (ol p.W pl l s k) (pl.getD k default) (Wd.maskV p.W (l.getD k 0))) (k+1)).st
  cases hr:(pl.getD k default).reg with
  |true=>
   have hn:=h1 hr
   unfold pC
   rw[ai hr]
   match hq:(pl.getD k default).n,hn with
   |0,_=>exact Ok.vc (xP p pl l _ k hk hl hp hr hq)
   |1,_=>exact Ok.vc (xO p pl l _ k hk hl hp hr hq)
   |2,_=>exact Ok.vc (xN p pl l _ k hk hl hp hr hq)
   |3,_=>exact Ok.vc (xM p pl l _ k hk hl hp hr hq)
  |false=>
   have hn:=h2 hr
   unfold pC
   rw[ah (by rw[hr];simp)]
   exact Ok.vc (Bn p pl l _ k hk hl hp hr (by rw[hm];exact hn))) (Ok.vc (Bo p pl l _)) (by simp)
def stK(p:Pg)(l:List Int):S7:=ol p.W (plF p) l (oZ (bU p.ms)) (plF p).length
theorem n7(p:Pg)(l:List Int):(stK p l).m.length=bU p.ms:=by simp[stK,pB,oZ]
theorem oq{p:Pg}(h:OkP p):(plF p).length<=20:=by
 have:=nb (rg p.r0 p.r1 p.r2 p.r3) p.ms
 have:=h.sum
 unfold plF
 omega
theorem BP(p:Pg): ∀x∈plF p,BO (bU p.ms) x:=tm _ _
theorem Ev(p:Pg):bU p.ms=(List.replicate (bU p.ms) (0:Int)).length:=by simp[oZ,n7]
theorem qu{Z:Prop}(z:Z):(RF (0:Int) (RF (0:Int) (RF (0:Int) (RF (0:Int) (RF (0:Int) (RF (0:Int) (RF (0:Int) (RF (0:Int) (RF (0:Int) Z))))))))):=⟨rfl,rfl,rfl,rfl,rfl,rfl,rfl,rfl,rfl,z⟩
theorem Aw(p:Pg){Z:Prop}(z:Z):(RF p.W (RF p.r0 (RF p.r1 (RF p.r2 (RF p.r3 (RF p.ms.length (RR p.ms.length 3 (fun i j=>an mmC p.ms i j) Z))))))):=⟨rfl,rfl,rfl,rfl,rfl,rfl,fun _ _ _ _=>rfl,z⟩
theorem Bm(p:Pg)(l:List Int)(hP:OkP p)(hl:l.length=(plF p).length):Vc (vF_ 38 [.agg (pgA p),lR l] [.fz,.cl [.agg (bn p.W p.r0 p.r1 p.r2 p.r3 (bX p.ms))] (plR (plF p)) [],.b false,.cl [.agg (bn p.W p.r0 p.r1 p.r2 p.r3 (bX p.ms))] (aI (bU p.ms)) [],.lp [(0,1),(1,3),(2,2)] (rsS p (plF p) l (oZ (bU p.ms)) 0) (.ext 0) (rsS p (plF p) l (stK p l) (plF p).length)] [(0,2)] (.tup [.agg (stC (stK p l) (.own 0 0 1 0 (stK p l).m.length)),.bool true]) [aZ (stK p l).m]):=al (Aw p (cj (nB p.W p.r0 p.r1 p.r2 p.r3 p.ms (by have:=hP.ms;omega) (by have:=hP.sum;omega)).frozen (cj (show((l.length:Int) !=(↑((plF p).length):Int))=false from by rw[hl];simp) (Aw p (cj (u7 p.W p.r0 p.r1 p.r2 p.r3 p.ms (by have:=hP.ms;omega) (by have:=hP.sum;omega)) (cj (show(0:Int)<=(↑(bU p.ms):Int)∧(↑(bU p.ms):Int)<=(↑(bU p.ms):Int)∧(↑(bU p.ms):Int)*((8:Nat):Int)<=140737488355328∧(↑(bU p.ms):Int)<=140737488355328 from by have:=hP.sum;omega) (qu (cj (rf (0:Nat)) (cj (Ev p) (cj (rf (0:Int)) (cj (Ev p) (cj (show ∀(i:Nat),i<bU p.ms-> ∀(j:Nat),j<1->List.getD [aI 0] j AV.junk=aI (List.getD (List.replicate (bU p.ms) 0) i 0) from(fun i hi j hj=>(match j,hj with |0,_=>pw rfl i 0 (by simpa using hi)))) (DG p l (cj (rf p.ms.length) (cj (rr p.ms.length 3 fun i j=>an mmC p.ms i j) (cj (rf p.ls.length) (cj (rr p.ls.length 2 fun i j=>an lbC p.ls i j) (cj (rf p.is.length) (cj (rr p.is.length 9 fun i j=>an inC p.is i j) (cj (rf false) (cj (rf ((plF p).length)) (cj (rr ((plF p).length) 3 fun i j=>an plC (plF p) i j) (cj (rf (0:Int)) (cj (show oL_ 38 0 (rsS p (plF p) l (oZ (bU p.ms)) 0).st (.ext 0) (rsS p (plF p) l (stK p l) (plF p).length).st from xQ p (plF p) l _ hl (by have:=oq hP;omega) (by simpa [oZ] using BP p)) (cj (rf ((stK p l).m.length)) (cj (rr ((stK p l).m.length) 1 fun i j=>aI (List.getD (stK p l).m i 0)) (cj (rf ((stK p l).r0)) (cj (rf ((stK p l).r1)) (cj (rf ((stK p l).r2)) (cj (rf ((stK p l).r3)) (cj (rf (0:Nat)) (cj (rf ((stK p l).m.length)) (cj (rf (0:Int)) (cj (rf true) trivial))))))))))))))))))))))))))))))))))
theorem rQ(p:Pg)(l:List Int)(hP:OkP p)(hl:l.length=(plF p).length):pC_ 38 [.agg (pgA p),lR l] (.tup [.agg (stC (stK p l) (.own 0 0 1 0 (stK p l).m.length)),.bool true]) [aZ (stK p l).m]:=PureC.vc (Bm p l hP hl)
def xSt(pl:List Pl)(l:List Int)(how:Int):Nat->List Int
 |0=>List.replicate pl.length 0
 |k+1=>if k<l.length then(xSt pl l how k).set k (l.getD k 0) else xSt pl l how k
def ySt(pl:List Pl)(l:List Int)(how:Int):Nat->List Int
 |0=>List.replicate pl.length 0
 |k+1=>if k<l.length then(if(pl.getD k default).sec=true∨bits .and .i64 how 7=0 then((ySt pl l how k).set k (l.getD k 0)).set k (Int.fdiv (l.getD k 0) (2^4)) else(ySt pl l how k).set k (l.getD k 0)) else ySt pl l how k
def ssS(p:Pg)(pl:List Pl)(l X Y:List Int)(how:Int)(k:Nat):Sm:=⟨[(1,lR l),(2,.int .i64 how),(3,pgP p),(6,.bptr 0 0),(7,.bptr 1 0),(8,plR pl),(9,.own 2 0 1 0 X.length),(10,.own 3 0 1 0 Y.length),(25,.int .i64 pl.length),(26,.int .i64 k)],
 [(0,bx 40 (stZ .nils)),(1,bx 40 (stZ .nils)),(2,aZ X),(3,aZ Y)],4⟩
theorem uL{m:List Int}{n:Nat}{u v:Int}: ∀i,i<m.length-> ∀j,j<1->(bif Nat.ble 0 j&&Nat.blt j 1&&Nat.beq i (n+0) then[AV.int .i64 v].getD (j-0) .junk else(bif Nat.ble 0 j&&Nat.blt j 1&&Nat.beq i (n+0) then[AV.int .i64 u].getD (j-0) .junk else AV.int .i64 (m.getD i 0)))= .int .i64 (((m.set n u).set n v).getD i 0):=by
 intro i hi j hj
 obtain rfl:j=0:=by omega
 rw[List.set_set,fV (m:=m) (n:=n) (v:=u) i hi 0 (by omega)]
 have:=fV (m:=m) (n:=n) (v:=v) i hi 0 (by omega)
 rw[<-this]
 cases hb:Nat.beq i (n+0) with
 |true=>rfl
 |false=>
  have hne: ¬i=n:=fun e=>by subst e;simp at hb
  show AV.int .i64 ((m.set n u).getD i 0)=AV.int .i64 (m.getD i 0)
  simp[List.getD,cd,Ne.symm hne]
theorem DE(p:Pg)(pl:List Pl)(X:List Int)(Y:List Int){Z:Prop}(z:Z):(RR p.ls.length 2 (fun i j=>an lbC p.ls i j) (RF p.is.length (RR p.is.length 9 (fun i j=>an inC p.is i j) (RF pl.length (RR pl.length 3 (fun i j=>an plC pl i j) (RF (0:Nat) (RF X.length (RF (0:Nat) (RF Y.length Z))))))))):=⟨fun _ _ _ _=>rfl,rfl,fun _ _ _ _=>rfl,rfl,fun _ _ _ _=>rfl,rfl,rfl,rfl,rfl,z⟩
theorem DD(p:Pg){Z:Prop}(z:Z):(RF p.win (RF p.fuel (RF p.r0 (RF p.r1 (RF p.r2 (RF p.r3 (RF p.ms.length (RR p.ms.length 3 (fun i j=>an mmC p.ms i j) (RF p.ls.length Z))))))))):=⟨rfl,rfl,rfl,rfl,rfl,rfl,rfl,fun _ _ _ _=>rfl,rfl,z⟩
theorem DC(p:Pg)(l:List Int)(X:List Int)(Y:List Int)(how:Int){Z:Prop}(z:Z):(RF (0:Int) (RF X.length (RR X.length 1 (fun i j=>aI (X.getD i 0)) (RF Y.length (RR Y.length 1 (fun i j=>aI (Y.getD i 0)) (RF l.length (RR l.length 1 (fun i j=>aI (l.getD i 0)) (RF how (RF p.W Z))))))))):=⟨rfl,rfl,fun _ _ _ _=>rfl,rfl,fun _ _ _ _=>rfl,rfl,fun _ _ _ _=>rfl,rfl,rfl,z⟩
theorem AF(p:Pg)(pl:List Pl)(l X Y:List Int)(how:Int)(k:Nat)(hk:k<pl.length)(hX:X.length=pl.length)(hY:Y.length=pl.length)(hp:pl.length<1000)(hl: ¬k<l.length):Vc (vC_ 13 0 (ssS p pl l X Y how k) [.b true,.b false] .nrm [(0,0),(1,1),(2,2),(3,3)] (ssS p pl l X Y how (k+1))):=al (cj (dt ((k:Int)<pl.length)) (cj (df ((k:Int)<l.length)) (cj (i6 (k+1)) (qu (DC p l X Y how (DD p (DE p pl X Y (cj (rf (pl.length:Int)) (cj (rf ((k:Int)+1)) trivial)))))))))
theorem AX(l:List Int)(X:List Int)(k:Nat): ∀(i:Nat),i<X.length-> ∀(j:Nat),j<1->(bif Nat.ble (0:Nat) j&&Nat.blt j (1:Nat)&&Nat.beq i (k+0) then List.getD [aI (l.getD k 0)] (j-0) AV.junk else aI (X.getD i 0))=aI (List.getD (List.set X k (l.getD k 0)) i 0):=fV
theorem xE(l:List Int)(Y:List Int)(k:Nat):Y.length=(List.set (List.set Y k (l.getD k 0)) k (Int.fdiv (l.getD k 0) ((2:Int)^(4:Nat)))).length:=by simp
theorem Eu(l:List Int)(Y:List Int)(k:Nat): ∀(i:Nat),i<Y.length-> ∀(j:Nat),j<1->(bif Nat.ble (0:Nat) j&&Nat.blt j (1:Nat)&&Nat.beq i (k+0) then List.getD [aI (Int.fdiv (l.getD k 0) ((2:Int)^(4:Nat)))] (j-0) AV.junk else bif Nat.ble (0:Nat) j&&Nat.blt j (1:Nat)&&Nat.beq i (k+0) then List.getD [aI (l.getD k 0)] (j-0) AV.junk else aI (Y.getD i 0))=aI (List.getD (List.set (List.set Y k (l.getD k 0)) k (Int.fdiv (l.getD k 0) ((2:Int)^(4:Nat)))) i 0):=uL
theorem uo(p:Pg)(pl:List Pl){Z:Prop}(z:Z):(RF p.r3 (RF p.ms.length (RR p.ms.length 3 (fun i j=>an mmC p.ms i j) (RF p.ls.length (RR p.ls.length 2 (fun i j=>an lbC p.ls i j) (RF p.is.length (RR p.is.length 9 (fun i j=>an inC p.is i j) (RF pl.length (RR pl.length 3 (fun i j=>an plC pl i j) Z))))))))):=⟨rfl,rfl,fun _ _ _ _=>rfl,rfl,fun _ _ _ _=>rfl,rfl,fun _ _ _ _=>rfl,rfl,fun _ _ _ _=>rfl,z⟩
theorem rz(p:Pg)(l:List Int)(how:Int){Z:Prop}(z:Z):(RF l.length (RR l.length 1 (fun i j=>aI (l.getD i 0)) (RF how (RF p.W (RF p.win (RF p.fuel (RF p.r0 (RF p.r1 (RF p.r2 Z))))))))):=⟨rfl,fun _ _ _ _=>rfl,rfl,rfl,rfl,rfl,rfl,rfl,rfl,z⟩
theorem AD(p:Pg)(pl:List Pl)(l X Y:List Int)(how:Int)(k:Nat)(hk:k<pl.length)(hX:X.length=pl.length)(hY:Y.length=pl.length)(hp:pl.length<1000)(hl:k<l.length)(hs:(pl.getD k default).sec=true):Vc (vC_ 13 0 (ssS p pl l X Y how k) [.b true,.b true,.b true,.b true,.b true,.b true,.b true] .nrm [(0,0),(1,1),(2,2),(3,3)] (ssS p pl l (X.set k (l.getD k 0)) ((Y.set k (l.getD k 0)).set k (Int.fdiv (l.getD k 0) (2^4))) how (k+1))):=al (cj (dt ((k:Int)<pl.length)) (cj (dt ((k:Int)<l.length)) (cj (bi k l.length) (cj (bi k l.length) (cj (bi k X.length) (cj (pv (k+0<X.length)) (cj (bi k Y.length) (cj (pv (k+0<Y.length)) (cj (bi k pl.length) (cj hs (cj hs (cj hs (cj hs (cj (rf true) (cj (bi k l.length) (cj (pv ((0:Int)<=4)) (cj (bi k Y.length) (cj (pv (k+0<Y.length)) (cj (i6 (k+1)) (qu (cj (rf (0:Int)) (cj (show X.length=(List.set X k (l.getD k 0)).length from by simp) (cj (AX l X k) (cj (xE l Y k) (cj (Eu l Y k) (rz p l how (uo p pl (cj (rf (0:Nat)) (cj (show X.length=(List.set X k (l.getD k 0)).length from by simp) (cj (rf (0:Nat)) (cj (xE l Y k) (cj (rf (pl.length:Int)) (cj (rf ((k:Int)+1)) trivial)))))))))))))))))))))))))))))))))
theorem AG(p:Pg)(pl:List Pl)(l X Y:List Int)(how:Int)(k:Nat)(hk:k<pl.length)(hX:X.length=pl.length)(hY:Y.length=pl.length)(hp:pl.length<1000)(hl:k<l.length)(hs:(pl.getD k default).sec=false)(hh:bits .and .i64 how 7=0):Vc (vC_ 13 0 (ssS p pl l X Y how k) [.b true,.b true,.b false,.b false,.b false,.b false,.b true] .nrm [(0,0),(1,1),(2,2),(3,3)] (ssS p pl l (X.set k (l.getD k 0)) ((Y.set k (l.getD k 0)).set k (Int.fdiv (l.getD k 0) (2^4))) how (k+1))):=al (cj (dt ((k:Int)<pl.length)) (cj (dt ((k:Int)<l.length)) (cj (bi k l.length) (cj (bi k l.length) (cj (bi k X.length) (cj (pv (k+0<X.length)) (cj (bi k Y.length) (cj (pv (k+0<Y.length)) (cj (bi k pl.length) (cj hs (cj hs (cj hs (cj hs (cj (show(Go.bits Go.BinOp.and IntKind.i64 how (7:Int)==(0:Int))=true from by rw[hh];rfl) (cj (bi k l.length) (cj (pv ((0:Int)<=4)) (cj (bi k Y.length) (cj (pv (k+0<Y.length)) (cj (i6 (k+1)) (qu (cj (rf (0:Int)) (cj (show X.length=(List.set X k (l.getD k 0)).length from by simp) (cj (AX l X k) (cj (xE l Y k) (cj (Eu l Y k) (rz p l how (uo p pl (cj (rf (0:Nat)) (cj (show X.length=(List.set X k (l.getD k 0)).length from by simp) (cj (rf (0:Nat)) (cj (xE l Y k) (cj (rf (pl.length:Int)) (cj (rf ((k:Int)+1)) trivial)))))))))))))))))))))))))))))))))
theorem AE(p:Pg)(pl:List Pl)(l X Y:List Int)(how:Int)(k:Nat)(hk:k<pl.length)(hX:X.length=pl.length)(hY:Y.length=pl.length)(hp:pl.length<1000)(hl:k<l.length)(hs:(pl.getD k default).sec=false)(hh: ¬bits .and .i64 how 7=0):Vc (vC_ 13 0 (ssS p pl l X Y how k) [.b true,.b true,.b false,.b false,.b false,.b false,.b false] .nrm [(0,0),(1,1),(2,2),(3,3)] (ssS p pl l (X.set k (l.getD k 0)) (Y.set k (l.getD k 0)) how (k+1))):=al (cj (dt ((k:Int)<pl.length)) (cj (dt ((k:Int)<l.length)) (cj (bi k l.length) (cj (bi k l.length) (cj (bi k X.length) (cj (pv (k+0<X.length)) (cj (bi k Y.length) (cj (pv (k+0<Y.length)) (cj (bi k pl.length) (cj hs (cj hs (cj hs (cj hs (cj (show(Go.bits Go.BinOp.and IntKind.i64 how (7:Int)==(0:Int))=false from by simpa using hh) (cj (i6 (k+1)) (qu (cj (rf (0:Int)) (cj (show X.length=(List.set X k (l.getD k 0)).length from by simp) (cj (AX l X k) (cj (show Y.length=(List.set Y k (l.getD k 0)).length from by simp) (cj (show ∀(i:Nat),i<Y.length-> ∀(j:Nat),j<1->(bif Nat.ble (0:Nat) j&&Nat.blt j (1:Nat)&&Nat.beq i (k+0) then List.getD [aI (l.getD k 0)] (j-0) AV.junk else aI (Y.getD i 0))=aI (List.getD (List.set Y k (l.getD k 0)) i 0) from fV) (rz p l how (uo p pl (cj (rf (0:Nat)) (cj (show X.length=(List.set X k (l.getD k 0)).length from by simp) (cj (rf (0:Nat)) (cj (show Y.length=(List.set Y k (l.getD k 0)).length from by simp) (cj (rf (pl.length:Int)) (cj (rf ((k:Int)+1)) trivial)))))))))))))))))))))))))))))
theorem AH(p:Pg)(pl:List Pl)(l X Y:List Int)(how:Int):Vc (vC_ 13 0 (ssS p pl l X Y how pl.length) [.b false] (.ext 0) [(0,0),(1,1),(2,2),(3,3)] (ssS p pl l X Y how pl.length)):=al (cj (df ((pl.length:Int)<pl.length)) (qu (DC p l X Y how (DD p (DE p pl X Y (cj (rf (pl.length:Int)) (cj (rf (pl.length:Int)) trivial)))))))
theorem ln(pl:List Pl)(l:List Int)(how:Int): ∀k,(xSt pl l how k).length=pl.length
 |0=>List.length_replicate
 |k+1=>by
  unfold xSt
  split
  ·rw[aq,ln pl l how k]
  ·exact ln pl l how k
theorem jq(pl:List Pl)(l:List Int)(how:Int): ∀k,(ySt pl l how k).length=pl.length
 |0=>List.length_replicate
 |k+1=>by
  unfold ySt
  split
  ·split
   ·rw[aq,aq,jq pl l how k]
   ·rw[aq,jq pl l how k]
  ·exact jq pl l how k
theorem xm(p:Pg)(pl:List Pl)(l:List Int)(how:Int)(hp:pl.length<1000):oL_ 13 0 (ssS p pl l (List.replicate pl.length 0) (List.replicate pl.length 0) how 0).st (.ext 0) (ssS p pl l (xSt pl l how pl.length) (ySt pl l how pl.length) how pl.length).st:=
 Ok.loop (P:=Try.prog) (nt:=cN Try.prog 13) (c:=lpC Try.prog 13 0) (F:=fun k=>ssS p pl l (xSt pl l how k) (ySt pl l how k) how k) (m:=pl.length) (x:= .ext 0) (J:=ssS p pl l (xSt pl l how pl.length) (ySt pl l how pl.length) how pl.length) (fun k hk=>by
  have hX:=ln pl l how k
  have hY:=jq pl l how k
  show Ok _ _ _ _ _ (ssS p pl l (xSt pl l how (k+1)) (ySt pl l how (k+1)) how (k+1)).st
  have ex:xSt pl l how (k+1)=if k<l.length then(xSt pl l how k).set k (l.getD k 0) else xSt pl l how k:=rfl
  have ey:ySt pl l how (k+1)=if k<l.length then(if(pl.getD k default).sec=true∨bits .and .i64 how 7=0 then((ySt pl l how k).set k (l.getD k 0)).set k (Int.fdiv (l.getD k 0) (2^4)) else(ySt pl l how k).set k (l.getD k 0)) else ySt pl l how k:=rfl
  rw[ex,ey]
  by_cases hl:k<l.length
  ·rw[ai hl,ai hl]
   cases hs:(pl.getD k default).sec with
   |true=>rw[ai (.inl rfl)];exact Ok.vc (AD p pl l _ _ how k hk hX hY hp hl hs)
   |false=>
    by_cases hh:bits .and .i64 how 7=0
    ·rw[ai (.inr hh)];exact Ok.vc (AG p pl l _ _ how k hk hX hY hp hl hs hh)
    ·rw[ah (by rintro(h |h);exact absurd h (by simp);exact hh h)];exact Ok.vc (AE p pl l _ _ how k hk hX hY hp hl hs hh)
  ·rw[ah hl,ah hl]
   exact Ok.vc (AF p pl l _ _ how k hk hX hY hp hl)) (Ok.vc (AH p pl l _ _ how)) (by simp)
def s8S(s:S7):S8:=⟨s.r0,s.r1,s.r2,s.r3,s.m,[],0⟩
def xF(p:Pg)(l:List Int):List Int:=xSt (plF p) l 0 (plF p).length
def yF(p:Pg)(l:List Int)(how:Int):List Int:=ySt (plF p) l how (plF p).length
def sA(p:Pg)(l:List Int):S8:=s8S (stK p (xF p l))
def sB(p:Pg)(l:List Int)(how:Int):S8:=s8S (stK p (yF p l how))
theorem rD(pl:List Pl)(l:List Int)(h h':Int): ∀k,xSt pl l h k=xSt pl l h' k
 |0=>rfl
 |k+1=>by simp only[xSt,rD pl l h h' k]
theorem Et(p:Pg)(hP:OkP p):(0:Int)<=(↑((plF p).length):Int)∧(↑((plF p).length):Int)<=(↑((plF p).length):Int)∧(↑((plF p).length):Int)*((8:Nat):Int)<=140737488355328∧(↑((plF p).length):Int)<=140737488355328:=by have:=oq hP;omega
theorem xD(p:Pg):(plF p).length=(List.replicate (plF p).length (0:Int)).length:=by simp
theorem Es(p:Pg): ∀(i:Nat),i<(plF p).length-> ∀(j:Nat),j<1->List.getD [aI 0] j AV.junk=aI (List.getD (List.replicate (plF p).length 0) i 0):=(fun i hi j hj=>(match j,hj with |0,_=>pw rfl i 0 (by simpa using hi)))
theorem zD(p:Pg){Z:Prop}(z:Z):(RF p.ls.length (RR p.ls.length 2 (fun i j=>an lbC p.ls i j) (RF p.is.length (RR p.is.length 9 (fun i j=>an inC p.is i j) Z)))):=⟨rfl,fun _ _ _ _=>rfl,rfl,fun _ _ _ _=>rfl,z⟩
theorem zC(p:Pg){Z:Prop}(z:Z):(RF p.W (RF p.win (RF p.fuel (RF p.r0 (RF p.r1 (RF p.r2 (RF p.r3 (RF p.ms.length (RR p.ms.length 3 (fun i j=>an mmC p.ms i j) Z))))))))):=⟨rfl,rfl,rfl,rfl,rfl,rfl,rfl,rfl,fun _ _ _ _=>rfl,z⟩
theorem Eb(p:Pg)(l:List Int)(how:Int)(hP:OkP p):Vc (vF_ 13 [.agg (pgA p),lR l, aI how] [.fz,.cl [.agg (bn p.W p.r0 p.r1 p.r2 p.r3 (bX p.ms))] (plR (plF p)) [],.lp [(0,1),(1,2),(2,3),(3,4)] (ssS p (plF p) l (List.replicate (plF p).length 0) (List.replicate (plF p).length 0) how 0) (.ext 0) (ssS p (plF p) l (xSt (plF p) l how (plF p).length) (yF p l how) how (plF p).length),.cl [.agg (pgA p),lR (xSt (plF p) l how (plF p).length)] (.tup [.agg (stC (stK p (xSt (plF p) l how (plF p).length)) (lR (stK p (xSt (plF p) l how (plF p).length)).m)),.bool true]) [],.cl [.agg (pgA p),lR (yF p l how)] (.tup [.agg (stC (stK p (yF p l how)) (lR (stK p (yF p l how)).m)),.bool true]) [],.ll [4,5]] [] (.tup [.agg (stC (stK p (xSt (plF p) l how (plF p).length)) (lR (stK p (xSt (plF p) l how (plF p).length)).m)),.agg (stC (stK p (yF p l how)) (lR (stK p (yF p l how)).m))]) []):=al (Aw p (cj (nB p.W p.r0 p.r1 p.r2 p.r3 p.ms (by have:=hP.ms;omega) (by have:=hP.sum;omega)).frozen (cj (Et p hP) (cj (Et p hP) (qu (cj (rf (0:Int)) (cj (xD p) (cj (Es p) (cj (xD p) (cj (Es p) (rz p l how (cj (rf p.r3) (cj (rf p.ms.length) (cj (rr p.ms.length 3 fun i j=>an mmC p.ms i j) (cj (rf p.ls.length) (cj (rr p.ls.length 2 fun i j=>an lbC p.ls i j) (cj (rf p.is.length) (cj (rr p.is.length 9 fun i j=>an inC p.is i j) (cj (rf ((plF p).length)) (cj (rr ((plF p).length) 3 fun i j=>an plC (plF p) i j) (cj (rf (0:Nat)) (cj (xD p) (cj (rf (0:Nat)) (cj (xD p) (cj (rf (↑((plF p).length):Int)) (cj (rf (0:Int)) (cj (xm p (plF p) l how (by have:=oq hP;omega)) (zC p (zD p (cj (rf ((xSt (plF p) l how (plF p).length).length)) (cj (rr ((xSt (plF p) l how (plF p).length).length) 1 fun i j=>aI (List.getD (xSt (plF p) l how (plF p).length) i 0)) (cj (show pC_ 38 [.agg (pgA p),lR (xSt (plF p) l how (plF p).length)] (.tup [.agg (stC (stK p (xSt (plF p) l how (plF p).length)) (lR (stK p (xSt (plF p) l how (plF p).length)).m)),.bool true]) [] from(rQ p (xSt (plF p) l how (plF p).length) hP (ln _ _ _ _)).frozen2) (zC p (zD p (cj (rf ((yF p l how).length)) (cj (rr ((yF p l how).length) 1 fun i j=>aI (List.getD (yF p l how) i 0)) (cj (show pC_ 38 [.agg (pgA p),lR (yF p l how)] (.tup [.agg (stC (stK p (yF p l how)) (lR (stK p (yF p l how)).m)),.bool true]) [] from(rQ p (yF p l how) hP (jq _ _ _ _)).frozen2) (cj (rf ((stK p (xSt (plF p) l how (plF p).length)).r0)) (cj (rf ((stK p (xSt (plF p) l how (plF p).length)).r1)) (cj (rf ((stK p (xSt (plF p) l how (plF p).length)).r2)) (cj (rf ((stK p (xSt (plF p) l how (plF p).length)).r3)) (cj (rf (((stK p (xSt (plF p) l how (plF p).length)).m).length)) (cj (rr (((stK p (xSt (plF p) l how (plF p).length)).m).length) 1 fun i j=>aI (List.getD ((stK p (xSt (plF p) l how (plF p).length)).m) i 0)) (cj (rf (0:Int)) (cj (rf ((stK p (yF p l how)).r0)) (cj (rf ((stK p (yF p l how)).r1)) (cj (rf ((stK p (yF p l how)).r2)) (cj (rf ((stK p (yF p l how)).r3)) (cj (rf ((stK p (yF p l how)).m.length)) (cj (rr ((stK p (yF p l how)).m.length) 1 fun i j=>aI (List.getD (stK p (yF p l how)).m i 0)) (cj (rf (0:Int)) trivial)))))))))))))))))))))))))))))))))))))))))))))))))))
theorem ip(p:Pg)(l:List Int)(how:Int)(hP:OkP p):pC_ 13 [.agg (pgA p),lR l,.int .i64 how] (.tup [.agg (s8N (sA p l)),.agg (s8N (sB p l how))]) []:=by
 have h:=PureC.vc (Eb p l how hP)
 rw[rD (plF p) l how 0] at h
 exact h
def B7(s:S7):Prop:=((0<=s.r0∧s.r0<65536)∧(0<=s.r1∧s.r1<65536)∧(0<=s.r2∧s.r2<65536)∧(0<=s.r3∧s.r3<65536))∧ ∀x∈s.m,0<=x∧x<65536
theorem BL{s:S7}(h:B7 s)(P:Pl){v:Int}(hv:0<=v∧v<65536):B7 (pC s P v):=by
 obtain⟨⟨h0,h1,h2,h3⟩,hm⟩:=h
 unfold pC
 split
 ·split
  ·exact⟨⟨hv,h1,h2,h3⟩,hm⟩
  ·split
   ·exact⟨⟨h0,hv,h2,h3⟩,hm⟩
   ·split
    ·exact⟨⟨h0,h1,hv,h3⟩,hm⟩
    ·exact⟨⟨h0,h1,h2,hv⟩,hm⟩
 ·refine⟨⟨h0,h1,h2,h3⟩,fun x hx=> ?_⟩
  rcases bQ hx with h |rfl
  ·exact hm x h
  ·exact hv
theorem zz:(0:Int)<=0∧(0:Int)<65536:=by decide
theorem Ah(n:Nat):B7 (oZ n):=⟨⟨zz,zz,zz,zz⟩,fun x hx=>by
 have:=(List.mem_replicate.1 hx).2
 omega⟩
theorem vd(W:Int)(pl:List Pl)(l:List Int)(s:S7)(h:B7 s): ∀k,B7 (ol W pl l s k)
 |0=>h
 |k+1=>BL (vd W pl l s h k) _ (Wd.maskV_bd _ _)
theorem A7(p:Pg)(l:List Int):OkS ((bU p.ms:Nat):Int) p.is.length (s8S (stK p l)):=by
 obtain⟨h1,h2⟩:=vd p.W (plF p) l (oZ (bU p.ms)) (Ah _) (plF p).length
 refine⟨h1,h2, ?_,⟨by show(-1:Int)<=0;decide,by show(0:Int)<=_;omega⟩,by show(0:Nat)<=100;decide,fun x hx=>by cases hx⟩
 show((bU p.ms:Nat):Int)=(((stK p l).m.length:Nat):Int)
 rw[n7]
theorem Ex(p:Pg)(l:List Int):OkS ((bU p.ms:Nat):Int) p.is.length (sA p l):=A7 p _
theorem fI(l:List Int):1<=(bB l).win∧(bB l).win<=3:=by
 have h:=rJ (Int.fdiv (kN l 0) (2^1)) 3 (by omega)
 show 1<=aW l∧aW l<=3
 unfold aW
 omega
theorem qN(m z:List Int):Inv (bB m) (beg (sA (bB m) z)):=by
 have h:=Ex (bB m) z
 have e:(sA (bB m) z).m.length=bU (bB m).ms:=n7 _ _
 refine Inv.begin (e▸h) e (cc _) fun x hx=> ?_
 cases hx
def wkC(m z w:List Int):Cf:=(wkV (bB m) (sA (bB m) z) w).1
theorem jr(m z w:List Int):Inv (bB m) (wkC m z w):=rG (eG m) (by have:=fI m;omega) _ _ _ _ (qN m z)
theorem ns(m z w:List Int):pC_ 14 [.agg (pgA (bB m)),.agg (s8R (sA (bB m) z)),lR w] (.tup [.agg (cfA (wkC m z w)),drR (wkV (bB m) (sA (bB m) z) w).2]) []:=
 A8 (bB m) (sA (bB m) z) w (eG m) (by have:=fI m;omega) (qN m z)
structure Liv (p:Pg) (c:Cf):Prop where
 e:c.e=0∨c.e=1∨c.e=2
 fin: ¬c.e=0->c.b=[]∧c.r=[]
 lst:c.s.pc= -1->c.e=0-> ∃k,c.b.length=k+1∧((enX p c k).kind=11∨(enX p c k).kind=12)
 und: ∀k,k<c.b.length->(c.b.getD k default).dn=false->(enX p c k).kind≠6∧(enX p c k).kind≠8∧(enX p c k).kind≠11∧(enX p c k).kind≠12
theorem Liv.up{p:Pg}{c:Cf}(h:Liv p c)(he:c.e=0){k:Nat}(hk:k<c.b.length){e:En}(hp:e.pc=(c.b.getD k default).pc)(hd:e.dn=false->(c.b.getD k default).dn=false):Liv p ⟨c.s,c.b.set k e,c.r,c.e⟩:=by
 have hpc: ∀i,((c.b.set k e).getD i default).pc=(c.b.getD i default).pc:=fun i=>by
  rw[lG hk]
  split
  ·rename_i hi;rw[hi];exact hp
  ·rfl
 have hx: ∀i,enX p ⟨c.s,c.b.set k e,c.r,c.e⟩ i=enX p c i:=fun i=>by
  show atI p ((c.b.set k e).getD i default).pc=_
  rw[hpc];rfl
 refine⟨h.e,fun hn=>absurd he hn,fun h1 h2=> ?_,fun i hi hdn=> ?_⟩
 ·obtain⟨q,h3,h4⟩:=h.lst h1 h2
  exact⟨q,(aq).trans h3,by rw[hx];exact h4⟩
 ·have hi:i<c.b.length:=by have:(c.b.set k e).length=c.b.length:=aq;exact this▸hi
  rw[hx]
  refine h.und i hi ?_
  have hdn:((c.b.set k e).getD i default).dn=false:=hdn
  rw[lG hk] at hdn
  split at hdn
  ·rename_i hq;rw[hq];exact hd hdn
  ·exact hdn
theorem Liv.cut{p:Pg}{c:Cf}(h:Liv p c)(he:c.e=0)(n:Nat){t:Int}(ht:0<=t):Liv p ⟨c.s.go t,c.b.take n,c.r,c.e⟩:=by
 refine⟨h.e,fun hn=>absurd he hn,fun h1 _=> ?_,fun i hi hdn=> ?_⟩
 ·have:t= -1:=h1
  omega
 ·have hi:i<min n c.b.length:=by have:(c.b.take n).length=min n c.b.length:=aS;exact this▸hi
  have e1:(c.b.take n).getD i default=c.b.getD i default:=mw (by omega)
  have hdn:((c.b.take n).getD i default).dn=false:=hdn
  rw[e1] at hdn
  have:=h.und i (by omega) hdn
  show(atI p ((c.b.take n).getD i default).pc).kind≠6∧_
  unfold enX
  show(atI p ((c.b.take n).getD i default).pc).kind≠6∧(atI p ((c.b.take n).getD i default).pc).kind≠8∧(atI p ((c.b.take n).getD i default).pc).kind≠11∧(atI p ((c.b.take n).getD i default).pc).kind≠12
  rw[e1];exact this
theorem Liv.goV{p:Pg}{c:Cf}(h:Liv p c)(he:c.e=0){k:Nat}(hk:k<c.b.length){t:Int}(ht:0<=t):Liv p (goV c k t):=by
 unfold Px.goV
 split
 ·exact h
 ·exact(h.up he hk (e:=(c.b.getD k default).to t) rfl (fun h=>h)).cut he (k+1) ht
theorem zV{p:Pg}{c:Cf}{i:Int}(h:opV p c i=true):c.e=0:=by
 unfold opV at h
 split at h
 ·rename_i h1;exact h1.1
 ·cases h
theorem Ab{p:Pg}{c:Cf}{i:Int}(h:cnV p c i=true):c.e=0:=by
 unfold cnV at h
 rw[av] at h
 exact zV h.1
theorem Ae{p:Pg}{c:Cf}{i:Int}(h:caV p c i=true):c.e=0:=by
 unfold caV at h
 rw[av] at h
 exact zV h.1
theorem vT{p:Pg}(hP:OkP p){c:Cf}(h:Inv p c){k:Nat}{L:List Int}(hv:reG p c.b 0 k c.s.st=some L)(h0: ¬L.length=0):0<=br L:=by
 have hm:br L∈L:=by unfold br;exact lF (by omega)
 have:=jC p c.b (fun x=>0<=x∧x<=p.is.length) k 0 c.s.st L h.stk (fun i _ hi h8=>by
  have:=(ik hP (c.b.getD i default).pc).2 (by unfold enI at h8;omega)
  omega) hv _ hm
 exact this.1
theorem F7(c:Cf)(k:Nat)(t:Int):(Px.goV c k t).e=c.e:=by unfold Px.goV;split<;>rfl
theorem Liv.doO{p:Pg}{c c2:Cf}{o:List Ob}(hP:OkP p)(hI:Inv p c)(h:Liv p c){i:Int}(e:doO p c i=some (c2,o)):Liv p c2∧c2.e=c.e:=by
 unfold Px.doO at e
 split at e
 ·rename_i hc
  have he:=Ab hc
  obtain⟨k,rfl,hk,hd,hK⟩:=ii hc
  rw[aK,af] at e
  obtain⟨hx,hx2⟩:=oP hP c k
  have mk: ∀g:En->En,(g (c.b.getD k default)).pc=(c.b.getD k default).pc->(g (c.b.getD k default)).dn=true->Liv p (upE c k g):=fun g h1 h2=>h.up he hk h1 (fun h3=>by rw[h2] at h3;cases h3)
  have hD:Liv p (upE c k En.done):=mk _ rfl rfl
  have hlD:(upE c k En.done).b.length=c.b.length:=aq
  have go: ∀t,0<=t->Liv p (Px.goV (upE c k En.done) k t)∧(Px.goV (upE c k En.done) k t).e=c.e:=fun t ht=>⟨hD.goV he (by rw[hlD];exact hk) ht,F7 _ _ _⟩
  have hbD: ∀i,((upE c k En.done).b.getD i default).pc=(c.b.getD i default).pc:=fun i=>ot (l:=c.b) (k:=k) (g:=En.done) (fun _=>rfl) i
  unfold dmV at e
  by_cases k1:(enX p c k).kind=1
  ·rw[ai k1] at e
   cases e
   exact⟨mk _ rfl rfl,rfl⟩
  rw[ah k1] at e
  by_cases k4:(enX p c k).kind=4
  ·rw[ai k4] at e
   cases e
   exact⟨mk _ rfl rfl,rfl⟩
  rw[ah k4] at e
  by_cases k3:(enX p c k).kind=3
  ·rw[ai k3] at e
   cases e
   exact⟨mk _ rfl rfl,rfl⟩
  rw[ah k3] at e
  by_cases k2:(enX p c k).kind=2
  ·rw[ai k2] at e
   split at e
   ·cases e
    exact⟨mk _ rfl rfl,rfl⟩
   ·cases e
    exact⟨mk _ rfl rfl,rfl⟩
  rw[ah k2] at e
  by_cases k5:(enX p c k).kind=5
  ·rw[ai k5] at e
   cases e
   refine go _ ?_
   have hpc:=hx2 (by omega)
   have htg:=hx.2.2.2.2
   split
   ·omega
   ·omega
  rw[ah k5] at e
  by_cases k7:(enX p c k).kind=7
  ·rw[ai k7] at e
   cases e
   refine go _ ?_
   have:=(lq (p:=p) hI.reg (hI.done k) (k:Int) (enX p c k).a).1
   unfold da tA
   show 0<=min (cC p c.s (upE c k En.done).b k (enX p c k).a).1 _
   omega
  rw[ah k7,oi p c.s.st _ (by rw[hlD];omega),oj p c.s.st (fun i _=>hbD i)] at e
  cases hv:reG p c.b 0 k c.s.st with
  |none=>rw[hv] at e;cases e;exact⟨mk _ rfl rfl,rfl⟩
  |some L=>
   rw[hv] at e
   by_cases h0:L.length=0
   ·have e':(if L.length=0 then((upE c k fun e=>e.done.flt,[]):Cf×List Ob) else(Px.goV (upE c k En.done) k (br L),[⟨3,br L⟩]))=(c2,o):=e
    rw[ai h0] at e';cases e';exact⟨mk _ rfl rfl,rfl⟩
   ·have e':(if L.length=0 then((upE c k fun e=>e.done.flt,[]):Cf×List Ob) else(Px.goV (upE c k En.done) k (br L),[⟨3,br L⟩]))=(c2,o):=e
    rw[ah h0] at e';cases e'
    exact go _ (vT hP hI hv h0)
 ·cases e
theorem Liv.adrO{p:Pg}{c c2:Cf}{o:List Ob}(hI:Inv p c)(h:Liv p c){i:Int}(e:adrO p c i=some (c2,o)):Liv p c2∧c2.e=c.e:=by
 unfold Px.adrO at e
 split at e
 ·rename_i hc
  have he:=Ae hc
  obtain⟨k,rfl,hk,hd,hK⟩:=mI hc
  rw[aK,af] at e
  have mk: ∀g:En->En,(g (c.b.getD k default)).pc=(c.b.getD k default).pc->(g (c.b.getD k default)).dn=(c.b.getD k default).dn->Liv p (upE c k g):=fun g h1 h2=>h.up he hk h1 (fun h3=>by rw[h2] at h3;exact h3)
  unfold tV at e
  split at e
  ·cases e;exact⟨mk _ rfl rfl,rfl⟩
  ·split at e
   ·rename_i q hz
    cases e
    obtain⟨q',rfl,hq⟩:=qP hz
    refine⟨(mk (fun e=>e.ad (adV p c k (enX p c k))) rfl rfl).cut he _ ?_,rfl⟩
    rw[aK]
    have hl:q'<c.b.length:=by have:(upE c k fun e=>e.ad (adV p c k (enX p c k))).b.length=c.b.length:=aq;exact this▸hq
    have e1:((upE c k fun e=>e.ad (adV p c k (enX p c k))).b.getD q' default).pc=(c.b.getD q' default).pc:=ot (l:=c.b) (k:=k) (g:=fun e=>e.ad (adV p c k (enX p c k))) (fun _=>rfl) q'
    rw[e1]
    exact(hI.be _ (cW hl)).pc.1
   ·cases e;exact⟨mk _ rfl rfl,rfl⟩
 ·cases e
theorem Liv.ftO{p:Pg}{c c2:Cf}{g:Int}(hP:OkP p)(hI:Inv p c)(h:Liv p c)(e:ftO p c g=some c2):Liv p c2∧c2.e=c.e:=by
 unfold Px.ftO at e
 split at e
 ·rename_i hg
  cases e
  obtain⟨⟨he,hp1,hw⟩,h7,h9⟩:=oH hg.1 hg.2
  have hpc:=hI.pc
  obtain⟨hx,hx2⟩:=ik hP c.s.pc
  have htg:=hx.2.2.2.2
  have key:(ftE p c g).pc=c.s.pc∧((ftE p c g).nxt= -1->(atI p c.s.pc).kind=11∨(atI p c.s.pc).kind=12)∧((ftE p c g).dn=false->(atI p c.s.pc).kind≠6∧(atI p c.s.pc).kind≠8∧(atI p c.s.pc).kind≠11∧(atI p c.s.pc).kind≠12):=by
   unfold ftE
   by_cases k5:(atI p c.s.pc).kind=5
   ·rw[ai k5]
    refine⟨rfl,fun hn=> ?_,fun _=>by omega⟩
    have hn:(if g=1 then(atI p c.s.pc).tg else c.s.pc+1)= -1:=hn
    split at hn<;>omega
   rw[ah k5]
   by_cases k6:(atI p c.s.pc).kind=6
   ·rw[ai k6]
    exact⟨rfl,fun hn=>by have hn:(atI p c.s.pc).tg= -1:=hn;omega,fun hd=>by cases hd⟩
   rw[ah k6]
   by_cases k7:(atI p c.s.pc).kind=7
   ·rw[ai k7]
    exact⟨rfl,fun hn=>by have hn:g= -1:=hn;omega,fun _=>by omega⟩
   rw[ah k7]
   by_cases k9:(atI p c.s.pc).kind=9
   ·rw[ai k9]
    refine⟨rfl,fun hn=> ?_,fun _=>by omega⟩
    have hn:(if c.r.length=0 then g else br c.r)= -1:=hn
    split at hn
    ·omega
    ·rename_i hr
     have:=hI.rb (br c.r) (by unfold br;exact lF (by omega))
     omega
   rw[ah k9]
   by_cases k8:(atI p c.s.pc).kind=8
   ·rw[ai k8]
    exact⟨rfl,fun hn=>by have hn:(atI p c.s.pc).tg= -1:=hn;omega,fun hd=>by cases hd⟩
   rw[ah k8]
   by_cases k1:(atI p c.s.pc).kind=11∨(atI p c.s.pc).kind=12
   ·rw[ai k1]
    exact⟨rfl,fun _=>k1,fun hd=>by cases hd⟩
   rw[ah k1]
   exact⟨rfl,fun hn=>by have hn:c.s.pc+1= -1:=hn;omega,fun _=>by omega⟩
  obtain⟨kp,kn,kd⟩:=key
  have hlast:enX p (ftD p c g) c.b.length=atI p c.s.pc:=by
   show atI p ((c.b++[ftE p c g]).getD c.b.length default).pc=_
   rw[my,kp]
  refine⟨⟨h.e,fun hn=>absurd he hn,fun h1 _=>⟨c.b.length,by show(c.b++[_]).length=_;rw[aJ];rfl, ?_⟩,fun i hi hdn=> ?_⟩,rfl⟩
  ·rw[hlast];exact kn h1
  ·have hi:i<c.b.length+1:=by
    have:(c.b++[ftE p c g]).length=c.b.length+1:=by rw[aJ];rfl
    exact this▸hi
   by_cases hq:i<c.b.length
   ·have e1:(c.b++[ftE p c g]).getD i default=c.b.getD i default:=lI hq
    have hdn:((c.b++[ftE p c g]).getD i default).dn=false:=hdn
    rw[e1] at hdn
    have:=h.und i hq hdn
    show(atI p ((c.b++[ftE p c g]).getD i default).pc).kind≠6∧(atI p ((c.b++[ftE p c g]).getD i default).pc).kind≠8∧(atI p ((c.b++[ftE p c g]).getD i default).pc).kind≠11∧(atI p ((c.b++[ftE p c g]).getD i default).pc).kind≠12
    rw[e1];exact this
   ·obtain rfl:i=c.b.length:=by omega
    rw[hlast]
    have hdn:((c.b++[ftE p c g]).getD c.b.length default).dn=false:=hdn
    rw[my] at hdn
    exact kd hdn
 ·cases e
theorem Liv.rtO{p:Pg}{c c2:Cf}(h:Liv p c)(e:rtO p c=some c2):Liv p c2:=by
 unfold Px.rtO at e
 split at e
 ·rename_i hc
  cases e
  obtain⟨h0,hl,hdn,hkn⟩:=gh hc
  have hpop: ∀s:S8,s.pc=c.s.pc-> ¬((enX p c 0).kind=11∨(enX p c 0).kind=12)->Liv p ⟨s,ay c.b,c.r,c.e⟩:=fun s hs hk=>by
   have hx: ∀i,i+1<c.b.length->enX p ⟨s,ay c.b,c.r,c.e⟩ i=enX p c (i+1):=fun i hi=>by
    show atI p ((ay c.b).getD i default).pc=atI p (c.b.getD (i+1) default).pc
    rw[dB c.b (by omega)];rfl
   refine⟨h.e,fun hn=>absurd h0 hn,fun h1 h2=> ?_,fun i hi hd=> ?_⟩
   ·have h1:s.pc= -1:=h1
    obtain⟨q,h3,h4⟩:=h.lst (hs▸h1) h0
    cases q with
    |zero=>exact absurd h4 hk
    |succ q=>exact⟨q,by show(ay c.b).length=_;rw[dA];omega,by rw[hx q (by omega)];exact h4⟩
   ·have hi:i<c.b.length-1:=by have:=dA c.b;exact this▸hi
    rw[hx i (by omega)]
    refine h.und (i+1) (by omega) ?_
    have hd:((ay c.b).getD i default).dn=false:=hd
    rw[dB c.b (by omega)] at hd
    exact hd
  have hfin: ∀t q,q=1∨q=2->Liv p ⟨c.s.go t,[],[],q⟩:=fun t q hq=>
   ⟨.inr hq,fun _=>⟨rfl,rfl⟩,fun _ he=>by have he:q=0:=he;omega,fun k hk=>absurd hk (mV k)⟩
  unfold rtV
  by_cases n12:(c.b.getD 0 default).ft=true∨(enX p c 0).kind=12
  ·rw[ai n12];exact hfin _ 2 (.inr rfl)
  rw[ah n12]
  by_cases k11:(enX p c 0).kind=11
  ·rw[ai k11];exact hfin _ 1 (.inl rfl)
  rw[ah k11]
  have hk: ¬((enX p c 0).kind=11∨(enX p c 0).kind=12):=fun hk=>hk.elim k11 fun h=>n12 (.inr h)
  by_cases kd:dl (enX p c 0)=true
  ·rw[ai kd];exact hpop _ rfl hk
  rw[ah kd]
  by_cases k3:(enX p c 0).kind=3
  ·rw[ai k3];exact hpop _ rfl hk
  rw[ah k3]
  by_cases k8:(enX p c 0).kind=8
  ·rw[ai k8];exact hpop _ rfl hk
  rw[ah k8]
  by_cases k9:(enX p c 0).kind=9
  ·rw[ai k9];exact hpop _ rfl hk
  rw[ah k9]
  exact hpop _ rfl hk
 ·cases e
theorem Liv.sayO{p:Pg}{c c2:Cf}{o:List Ob}(hP:OkP p)(hI:Inv p c)(h:Liv p c){d:Dr}(e:sayO p c d=some (c2,o)):Liv p c2∧(d.k≠4->c2.e=c.e):=by
 unfold Px.sayO at e
 split at e
 ·cases hq:Px.ftO p c d.n with
  |none=>rw[hq] at e;cases e
  |some x=>rw[hq] at e;cases e;exact⟨(h.ftO hP hI hq).1,fun _=>(h.ftO hP hI hq).2⟩
 ·split at e
  ·exact⟨(h.doO hP hI e).1,fun _=>(h.doO hP hI e).2⟩
  ·split at e
   ·exact⟨(h.adrO hI e).1,fun _=>(h.adrO hI e).2⟩
   ·split at e
    ·rename_i h4
     split at e
     ·cases hq:Px.rtO p c with
      |none=>rw[hq] at e;cases e
      |some x=>rw[hq] at e;cases e;exact⟨h.rtO hq,fun hn=>absurd h4 hn⟩
     ·cases e
    ·cases e
theorem Liv.beg{p:Pg}{s:S8}(hs:s.pc≠ -1):Liv p (beg s):=
 ⟨.inl rfl,fun hn=>absurd rfl hn,fun h=>absurd h hs,fun k hk=>absurd hk (mV k)⟩
theorem y9{p:Pg}{c:Cf}(he: ¬c.e=0):(cK p c).length=0:=by
 have h1:gsV p c=0:=by unfold gsV;rw[ai (.inl he)]
 have h2: ∀k:Nat,aX p c [] k=[]:=fun k=>by
  induction k with
  |zero=>rfl
  |succ k ih=>unfold aX;rw[ah (fun hc=>he (Ab hc)),ih]
 have h3: ∀k:Nat,aA p c [] k=[]:=fun k=>by
  induction k with
  |zero=>rfl
  |succ k ih=>unfold aA;rw[ah (fun hc=>he (Ae hc)),ih]
 unfold cK
 rw[h1,show aF (Int.toNat 0)=[] from rfl,h2,h3]
 unfold aR
 rw[ah (fun hc=>he (gh hc).1)];rfl
def Lst(c:Cf)(o:List Dr):Prop:= ¬c.e=0-> ∃q d,o=q++[d]∧d.k=4
theorem rF{p:Pg}{l:List Int}(hP:OkP p)(hw:p.win<=1000)(hw1:1<=p.win): ∀j i c o,Inv p c->Liv p c->Lst c o->Liv p (wkR p l j i c o).1∧Lst (wkR p l j i c o).1 (wkR p l j i c o).2
 |0,i,c,o,hI,h,hL=>⟨h,hL⟩
 |j+1,i,c,o,hI,h,hL=>by
  unfold wkR
  split
  ·exact⟨h,hL⟩
  ·rename_i hn
   cases e:sayO p c (wkD p l c i) with
   |none=>exact⟨h,hL⟩
   |some x=>
    have hs:=h.sayO hP hI (o:=x.2) e
    have he:c.e=0:=Classical.byContradiction fun he=>hn (y9 he)
    refine rF hP hw hw1 j (i+1) x.1 _ (hI.sayO hP hw (o:=x.2) e) hs.1 fun hx=>⟨o,_,rfl, ?_⟩
    exact Classical.byContradiction fun hk=>hx ((hs.2 hk).trans he)
theorem Ew(p:Pg)(z:List Int):(sA p z).pc=0:=rfl
theorem rH(m z w:List Int):Liv (bB m) (wkC m z w)∧Lst (wkC m z w) (wkV (bB m) (sA (bB m) z) w).2:=by
 have hw:=fI m
 exact rF (eG m) (by omega) (by omega) _ _ _ _ (qN m z) (Liv.beg (by rw[Ew];decide)) fun hn=>absurd rfl hn
end
end Go.Proofs.Ytdanmboalfmifaa.Px
namespace Go.Proofs.Ytdanmboalfmifaa
section
open Go.RowKit
def Ret(v:Value)(w:World)(e:Ending)(w':World):Prop:=e= .returned v∧w=w'
theorem Ret.mk{v v':Value}{w:World}(h:v'=v):Ret v w (.returned v') w:=⟨by rw[h],rfl⟩
theorem Ret.b{X:Value}{a a':Bool}{w:World}(hx:X= .bool a')(h:a'=a):Ret (.bool a) w (.returned X) w:=⟨by rw[hx,h],rfl⟩
theorem Ret.i{X:Value}{k:IntKind}{a a':Int}{w:World}(hx:X= .int k a')(h:a'=a):Ret (.int k a) w (.returned X) w:=⟨by rw[hx,h],rfl⟩
theorem FY:(Try.prog.info? 3).map (fun i=>(i.zero,i.size,i.bytes))=some (some (.int .i64 0),1,8):=by kernel_rfl
theorem FZ:(Try.prog.info? 5).map (fun i=>(i.zero,i.size,i.bytes))=some (some (.int .u8 0),1,1):=by kernel_rfl
end
section
namespace Cd
def nrB(n:Int):Bool:=decide (-1<=n)&&decide (n<=253)
theorem nrB_iff{n:Int}:nrB n=true↔ -1<=n∧n<=253:=by simp[nrB]
theorem nrB_not{n:Int}:nrB n=false↔n< -1∨253<n:=by
 cases h:nrB n
 ·simp[nrB] at h;simp;omega
 ·have:=nrB_iff.1 h;simp;omega
def byteAt(n:Int)(k:Nat):Int:=n%18446744073709551616/2^(8*(7-k))%256
def eight(n:Int):List Int:=(List.range 8).map (byteAt n)
def putN(n:Int):List Int:=if nrB n=true then[n+1] else 255::eight n
def putL:List Int->List Int
 | []=>[]
 |n::l=>putN n++putL l
def isI(xs:List Int):Prop:= ∀x∈xs, -9223372036854775808<=x∧x<9223372036854775808
theorem eight_len(n:Int):(eight n).length=8:=by simp[eight]
theorem vb(n:Int):(putN n).length=if nrB n=true then 1 else 9:=by
 unfold putN;split<;>simp[eight_len]
theorem pA(l m:List Int):putL (l++m)=putL l++putL m:=by
 induction l with
 |nil=>rfl
 |cons n l ih=>simp[putL,ih]
theorem putL_snoc(l:List Int)(n:Int):putL (l++[n])=putL l++putN n:=by rw[pA];simp[putL]
theorem putL_len_le(l:List Int):(putL l).length<=9*l.length:=by
 induction l with
 |nil=>simp[putL]
 |cons n l ih=>
  have:=vb n
  simp only[putL,aJ,gl]
  split at this<;>omega
end Cd
end
section
open Go.RowKit
theorem qX(m:Int)(k:Nat)(h:k<8):(Cd.eight m).take (k+1)=(Cd.eight m).take k++[Cd.byteAt m k]:=by
 rw[List.take_succ_eq_append_getElem (by rw[Cd.eight_len];exact h)]
 simp[Cd.eight]
theorem qj(m:Int)(k:Nat):IntKind.u64.wrap m/2^(8*(7-k))%256=Cd.byteAt m k:=by unfold Cd.byteAt;rw[IntKind.wrap_u64]
theorem RetOwn.mk{B:Nat}{t:TypeId}{xs ys:List Value}{n:Nat}{w w':World}{v:Value}(h:w'.ownsRow B t 1 v n ys)(he:ys=xs)(hb:Below B w w'):RetOwn B t xs w (.returned v) w':=by
 subst he
 have:=rX h
 subst this
 exact⟨v,rfl,h,hb⟩
theorem Co{l:List Int}(h:Cd.isI l){k:Nat}(hk:k<l.length): -9223372036854775808<=l.getD k 0∧l.getD k 0<9223372036854775808:=by
 have:=h l[k] (eI hk)
 simpa [List.getD,hk] using this
theorem sZ(l:List Int)(k:Nat)(h:k<l.length):l.take (k+1)=l.take k++[l.getD k 0]:=by
 rw[List.take_succ_eq_append_getElem h]
 simp[List.getD,h]
theorem wG(m:Int)(k:Nat)(h0:0<=m)(h1:m<9223372036854775808):m/2^(8*(7-k))%256=Cd.byteAt m k:=by
 rw[<-qj,IntKind.wrap_u64,Int.emod_eq_of_lt h0 (by omega)]
set_option maxHeartbeats 2000000 in
theorem va(A:Option Addr)(n c:Nat)(l:List Int)(w:World)(hn:n=l.length)(hx:Rd w w.heap.size A (l.map (Value.int .i64)))(hl:Cd.isI l)(hs:n<=1000000):
  Calls Try.prog 39 #[.slice A n c] w (RetOwn w.heap.size 5 ((Cd.putL l).map (Value.int .u8)) w):=by
 subst hn
 obtain⟨i0,hi0,hz0,hs0,hb0⟩:=info_parts FZ
 go_enter Try.func39,Try.ntmps39
 go_wp2
 go_loopw [3,4] (fun v i wr=> ∃k:Nat,k<=l.length∧i= .int .i64 k∧wr.ownsRow w.heap.size 5 1 v ((Cd.putL (l.take k)).map (Value.int .u8)).length ((Cd.putL (l.take k)).map (Value.int .u8))∧Below w.heap.size w wr) (fun _ i _=>l.length-(intOf i).toNat)
 case atStart=>exact⟨0,by omega,rfl,by simpa [Cd.putL] using World.ownsRow_nil _ _ _ _,Below.refl _ _⟩
 case round=>
  obtain⟨k,hk,rfl,hown2,hb2⟩:=hrel
  have hs2:=hb2.size
  by_cases hlt:k<l.length
  ·have hx2:=hx.below hb2 (by omega)
   obtain⟨ad,rfl,hb,hc⟩:=hx2.at_ (k:=k) hlt
   obtain⟨z1,z2⟩:=Co hl hlt
   have hlen:((Cd.putL (l.take k)).map (Value.int .u8)).length<=9000000:=by
    rw[cS]
    have:=Cd.putL_len_le (l.take k)
    rw[aS] at this
    omega
   have hst:=sZ l k hlt
   generalize l.getD k 0=m at hc z1 z2 hst
   have hst2:(Cd.putL (l.take (k+1))).map (Value.int .u8)=(Cd.putL (l.take k)).map (Value.int .u8)++(Cd.putN m).map (Value.int .u8):=by rw[hst,Cd.putL_snoc,List.map_append]
   have HST:=Lib.hid hst2
   clear hst hst2
   generalize hX:(Cd.putL (l.take k)).map (Value.int .u8)=X at hown2 hlen HST
   clear hX
   cases hnr:Cd.nrB m
   ·have hp:(Cd.putN m).map (Value.int .u8)=[Value.int .u8 255]++(Cd.eight m).map (Value.int .u8):=by simp[Cd.putN,hnr]
    have HP:=Lib.hid hp
    have hm:=Cd.nrB_not.1 hnr
    clear hp hnr
    by_cases hm1: -1<=m
    all_goals
     first | (have hm2:253<m:=by omega)| (have hm2:m< -1:=by omega)
     clear hm
     obtain⟨wo,rfl⟩: ∃wo:World,wo=wr:=⟨_,rfl⟩
     go_wp2_with (at_builtin;refine n5 _ rfl (.tmp 29) (.tmp 30) _ rfl w.heap.size 5 i0 _ 1 Try.underlying59 hi0 hz0 hs0 hb0 rfl _ _ _ rfl hown2 (.int .u8 255) rfl rfl (by omega) (by omega) hs2 ?_;intro v1 w1 hown1 hb1)
     go_loopw [3,6] (fun v i w4=> ∃j:Nat,j<=8∧i= .int .i64 (7-j)∧w4.ownsRow w.heap.size 5 1 v (X.length+1+j) ((X++[Value.int .u8 255])++((Cd.eight m).take j).map (Value.int .u8))∧Below w.heap.size wo w4) (fun _ i _=>(intOf i+1).toNat)
     case atStart=>exact⟨0,by omega,rfl,by simpa using hown1,hb1⟩
     case round=>
      obtain⟨j,hj,rfl,hown5,hb5⟩:=hrel
      have hs5:=hb5.size
      by_cases hjt:j<8
      ·go_wp2_with (at_builtin;refine n5 _ rfl (.tmp 36) (.tmp 44) _ rfl w.heap.size 5 i0 _ 1 Try.underlying59 hi0 hz0 hs0 hb0 rfl _ _ _ rfl hown5 _ rfl rfl (by omega) (by omega) (by omega) ?_;intro v6 w6 hown6 hb6)
       go_round
       case rel=>
        refine⟨j+1,by omega,by go_num, ?_,hb5.trans hb6⟩
        rw[qX m j hjt,List.map_append,ky,List.map_nil, <-cB]
        first |rw[qj] at hown6 |rw[wG m j (by omega) (by omega)] at hown6
        exact hown6
       case measure=>simp[intOf];omega
      ·have:j=8:=by omega
       subst this
       go_wp2
       go_round
       case rel=>
        refine⟨k+1,by omega,by go_num, ?_,hb2.trans hb5⟩
        rw[HST.out,HP.out]
        rw[List.take_of_length_le (by rw[Cd.eight_len];omega),cB] at hown5
        have:=rX hown5
        rw[this];exact hown5
       case measure=>simp[intOf];omega
   ·have hm:=Cd.nrB_iff.1 hnr
    obtain⟨hm1,hm2⟩:=hm
    have hp:(Cd.putN m).map (Value.int .u8)=[Value.int .u8 (m+1)]:=by simp[Cd.putN,hnr]
    have HP:=Lib.hid hp
    clear hp hnr
    go_wp2_with (at_builtin;refine n5 _ rfl (.tmp 23) (.tmp 27) _ rfl w.heap.size 5 i0 _ 1 Try.underlying59 hi0 hz0 hs0 hb0 rfl _ _ _ rfl hown2 (.int .u8 (m+1)) rfl rfl (by omega) (by omega) hs2 ?_;intro v1 w1 hown1 hb1)
    go_round
    case rel=>exact⟨k+1,by omega,by go_num,by rw[HST.out,HP.out];simpa using hown1,hb2.trans hb1⟩
    case measure=>simp[intOf];omega
  ·go_wp2
   go_ret
   have hk:k=l.length:=by omega
   subst hk
   rw[List.take_of_length_le (by omega)] at hown2
   exact⟨_,rfl,hown2,hb2⟩
end
end Go.Proofs.Ytdanmboalfmifaa
namespace Go.Proofs.Ytdanmboalfmifaa.Px
section
open Go.RowKit Go.Proofs.Ytdanmboalfmifaa.Rx
def PartOk(a:AV)(l:List Int):Prop:=(a= .nils∧l=[])∨ ∃g,a= .row 1 l.length g∧ ∀i,i<l.length->g i 0= .int .i64 (l.getD i 0)
theorem PartOk.row(l:List Int):PartOk (.row 1 l.length (dz l)) l:= .inr ⟨_,rfl,fun _ _=>rfl⟩
theorem PartOk.rep{w:World}{R:Nat->Prop}{a:AV}{l:List Int}{v:Value}(h:PartOk a l)(hr:RepP w R a v)(hR: ∀g,R g->g<w.heap.size): ∃A c,v= .slice A l.length c∧Rd w w.heap.size A (l.map (Value.int .i64)):=by
 rcases h with⟨rfl,rfl⟩|⟨g,rfl,hg⟩
 ·cases hr with
  |nils=>exact⟨none,0,rfl,Rd.nil⟩
 ·obtain⟨A,c,e,_,_,h⟩:=hr.ints hR rfl hg
  exact⟨A,c,e,h⟩
theorem rZ{args:List AV}{vs:Array Value}{a:AV}(h:args=[a])(hl:args.length=vs.size){w:World}{R:Nat->Prop}(ha: ∀(j:Nat) a v,args[j]? =some a->vs[j]? =some v->RepP w R a v): ∃v,vs= #[v]∧RepP w R a v:=by
 subst h
 obtain⟨vs⟩:=vs
 match vs,hl with
 | [v],_=>exact⟨v,rfl,ha 0 a v rfl rfl⟩
def Jc(l:List Int):Blk:=⟨0,false,5,.rows 1 l.length (EK l)⟩
def bR(l:List Int):AV:= .row 1 l.length (EK l)
theorem EJ{a:AV}{l:List Int}(h:PartOk a l)(hl:l.length<=1000000)(hi:Cd.isI l):pC_ 39 [a] (.own 0 0 1 0 (Cd.putL l).length) [Jc (Cd.putL l)]:=
 PureC.ofOwn (k:= .u8) (l:=Cd.putL l) rfl (fun _ _=>rfl) fun w R vs hR hn ha=>by
  obtain⟨v,rfl,hv⟩:=rZ rfl hn ha
  obtain⟨A,c,rfl,hr⟩:=h.rep hv hR
  exact va A _ c l w rfl hr hi hl
def coK(c:Cf):Nat->List Int
 |0=>[(c.b.length:Int)]
 |k+1=>coK c k++enN (c.b.getD k default)
def coL(c:Cf):List Int:=((coK c c.b.length++[(c.r.length:Int)])++c.r)++[c.e]
theorem wB(c:Cf): ∀k,ciK c k=g7 c.s++coK c k
 |0=>rfl
 |k+1=>by rw[ciK,coK,wB c k,cB]
theorem CR(c:Cf):ciL c=g7 c.s++coL c:=by
 unfold ciL coL;rw[wB];simp only[cB]
def flE(b:List En):List Int:=b.flatMap enN
theorem wx(c:Cf): ∀k,k<=c.b.length->coK c k=(c.b.length:Int)::flE (c.b.take k)
 |0,_=>rfl
 |k+1,h=>by
  have e:c.b.take (k+1)=c.b.take k++[c.b.getD k default]:=by
   rw[List.take_add_one,au,aE (by omega)];rfl
  rw[coK,wx c k (by omega),e]
  unfold flE
  simp
theorem CO(c:Cf):coL c=(c.b.length:Int)::(flE c.b++((c.r.length:Int)::(c.r++[c.e]))):=by
 unfold coL
 rw[wx c _ (aB _),List.take_length]
 simp
theorem CQ(c:Cf):ciL c=c.s.r0::c.s.r1::c.s.r2::c.s.r3::(c.s.m.length:Int)::(c.s.m++((c.s.st.length:Int)::(c.s.st++(c.s.pc::(c.b.length:Int)::(flE c.b++((c.r.length:Int)::(c.r++[c.e]))))))):=by
 rw[CR,CO]
 simp[g7]
theorem fq{x:Int}(h1: -1000000<=x)(h2:x<=1000000): -9223372036854775808<=x∧x<9223372036854775808:=by omega
theorem yx{p:Pg}{c:Cf}(hP:OkP p)(hw:p.win<=1000)(h:Inv p c)(he:0<=c.e∧c.e<10):Cd.isI (ciL c):=by
 have hl:=hP.len
 have hs:=hP.sum
 obtain⟨h0,h1,h2,h3⟩:=h.reg
 have hml:=h.ml
 have hst:=h.st
 have hpc:=h.pc
 have hbl:=h.bl
 have hrl:=h.rl
 intro x hx
 rw[CQ] at hx
 simp only[aV,bN,dO,or_false] at hx
 rcases hx with rfl |rfl |rfl |rfl |rfl |hx |rfl |hx |rfl |rfl |hx |rfl |hx |rfl
 ·exact fq (by omega) (by omega)
 ·exact fq (by omega) (by omega)
 ·exact fq (by omega) (by omega)
 ·exact fq (by omega) (by omega)
 ·exact fq (by omega) (by omega)
 ·have:=h.mem x hx;exact fq (by omega) (by omega)
 ·exact fq (by omega) (by omega)
 ·have:=h.stk x hx;exact fq (by omega) (by omega)
 ·exact fq (by omega) (by omega)
 ·exact fq (by omega) (by omega)
 ·obtain⟨e,he,hx⟩:=bq.1 hx
  have hE:=h.be e he
  have e1:=hE.pc
  have e2:=hE.val
  have e3:=hE.frm
  have e4:=hE.nxt
  have e5:=hE.adr
  have ht: ∀b:Bool,0<=Wd.tI b∧Wd.tI b<=1:=fun b=>by cases b<;>decide
  have t1:=ht e.dn
  have t2:=ht e.kn
  have t3:=ht e.ft
  simp only[enN,bN,dO,or_false] at hx
  rcases hx with rfl |rfl |rfl |rfl |rfl |rfl |rfl |rfl<;>exact fq (by omega) (by omega)
 ·exact fq (by omega) (by omega)
 ·have:=h.rb x hx;exact fq (by omega) (by omega)
 ·exact fq (by omega) (by omega)
structure CfS (c:Cf):Prop where
 b:c.b.length<=3
 m:c.s.m.length<=16
 st:c.s.st.length<=4
 r:c.r.length<=2
 i:Cd.isI (ciL c)
theorem EZ(c:Cf)(L B:List Int)(h1:pC_ 33 [.agg (cfA c)] (lR L) [])(h2:pC_ 39 [lR L] (bR B) []):Vc (vF_ 17 [.agg (cfA c)] [.cl [.agg (cfA c)] (lR L) [],.cl [lR L] (bR B) []] [] (bR B) []):=al (cj (rf c.s.r0) (cj (rf c.s.r1) (cj (rf c.s.r2) (cj (rf c.s.r3) (cj (rf c.s.m.length) (cj (rr c.s.m.length 1 fun i j=>aI (List.getD c.s.m i 0)) (cj (rf c.s.st.length) (cj (rr c.s.st.length 1 fun i j=>aI (List.getD c.s.st i 0)) (cj (rf c.s.pc) (cj (rf c.b.length) (cj (rr c.b.length 8 fun i j=>an enC c.b i j) (cj (rf c.r.length) (cj (rr c.r.length 1 fun i j=>aI (c.r.getD i 0)) (cj (rf c.e) (cj h1 (cj (rf L.length) (cj (rr L.length 1 fun i j=>aI (L.getD i 0)) (cj h2 (cj (rf B.length) (cj (rr B.length 1 fun i j=>AV.int IntKind.u8 (B.getD i 0)) trivial))))))))))))))))))))
theorem CfS.of{p:Pg}{c:Cf}(hP:OkP p)(hw:p.win<=3)(hI:Inv p c)(he:0<=c.e∧c.e<10):CfS c:=
 ⟨by have:=hI.bl;omega,by rw[hI.ml];exact hP.sum,hI.st,hI.rl,yx hP (by omega) hI he⟩
theorem uy(m z w:List Int):CfS (wkC m z w):=CfS.of (eG m) (by have:=fI m;omega) (jr m z w) (by have:=(rH m z w).1.e;omega)
theorem CfS.len{c:Cf}(h:CfS c):(Cd.putL (ciL c)).length<1000:=by
 have h2:=Cd.putL_len_le (ciL c)
 rw[oR] at h2
 have:=h.b;have:=h.m;have:=h.st;have:=h.r
 omega
theorem CfS.rcode{c:Cf}(h:CfS c):pC_ 17 [.agg (cfA c)] (bR (Cd.putL (ciL c))) []:=
 PureC.vc (EZ c _ _ (ciC c (by have:=h.b;omega) (by have:=h.m;omega) (by have:=h.st;omega) (by have:=h.r;omega)) (EJ (.row _) (by rw[oR];have:=h.b;have:=h.m;have:=h.st;have:=h.r;omega) h.i).frozen)
theorem CfS.same{a b:Cf}(h:CfS a)(k:CfS b):pC_ 10 [.agg (cfA a),.agg (cfA b)] (.bool (decide (ciL a=ciL b))) []:=uX a b (by have:=h.b;omega) (by have:=h.m;omega) (by have:=h.st;omega) (by have:=h.r;omega) (by have:=k.b;omega) (by have:=k.m;omega) (by have:=k.st;omega) (by have:=k.r;omega)
theorem CfS.self{a:Cf}(h:CfS a):pC_ 10 [.agg (cfA a),.agg (cfA a)] (.bool true) []:=by
 have:=h.same h
 rw[bL rfl] at this
 exact this
def Fb(p:Pg):Bool:=p.is.all (fun i=>decide ((1<=i.kind∧i.kind<=12)∧(i.a.reg=true->0<=i.a.n∧i.a.n<4)∧(i.b.reg=true->0<=i.b.n∧i.b.n<4)∧(0<=i.d∧i.d<4)∧(0<=i.tg∧i.tg<=p.is.length)))&&decide (p.is.length<1000)&&decide (p.ms.length<1000)&&decide (bU p.ms<=16)
def vQ(n:Int):Vl:=⟨false,n⟩
theorem Fc{p:Pg}(h:Fb p=true):OkP p:=by
 unfold Fb at h
 simp only[av,aL,decide_eq_true_eq] at h
 obtain⟨⟨⟨h1,h2⟩,h3⟩,h4⟩:=h
 refine⟨fun i hi=> ?_,h2,h3,h4⟩
 obtain⟨hk,ha,hb,hd,ht⟩:=h1 i hi
 exact⟨hk,ha,hb,hd,ht⟩
theorem sm0:pC_ 10 [.agg (cfA Cf0),.agg (cfA Cf0)] (.bool true) []:=by
 have h:=uX Cf0 Cf0 (by decide) (by decide) (by decide) (by decide) (by decide) (by decide) (by decide) (by decide)
 rw[bL rfl] at h
 exact h
def ouV(p:Pg)(c:Cf)(k:Nat):En×Option Int×List Ob:=
 if(enX p c k).kind=1 then((c.b.getD k default).done.vl (Wd.doV p.W (enX p c k).op (tA p c k (enX p c k)).1 (tB p c k (enX p c k)).1),none,[])
 else if(enX p c k).kind=4 then((c.b.getD k default).done.vl (if(tA p c k (enX p c k)).1=0 then(tD p c k (enX p c k)).1 else(tB p c k (enX p c k)).1),none,[])
 else if(enX p c k).kind=3 then((c.b.getD k default).done.vl (tD p c k (enX p c k)).1,none,[])
 else if(enX p c k).kind=2 then(if(c.s.m.length:Int)<=adV p c k (enX p c k) then(((c.b.getD k default).done.ad (adV p c k (enX p c k))).flt,none,[])
  else(((c.b.getD k default).done.ad (adV p c k (enX p c k))).ld (ldV p c.s.m c.b k (adV p c k (enX p c k))).1 (ldV p c.s.m c.b k (adV p c k (enX p c k))).2.1,none,[⟨1,adV p c k (enX p c k)⟩]))
 else if(enX p c k).kind=5 then((c.b.getD k default).done,some (if Wd.doV p.W (enX p c k).op (tA p c k (enX p c k)).1 (tB p c k (enX p c k)).1=0 then(c.b.getD k default).pc+1 else(enX p c k).tg),[⟨3,if Wd.doV p.W (enX p c k).op (tA p c k (enX p c k)).1 (tB p c k (enX p c k)).1=0 then(c.b.getD k default).pc+1 else(enX p c k).tg⟩])
 else if(enX p c k).kind=7 then((c.b.getD k default).done,some (da p (tA p c k (enX p c k)).1),[⟨3,da p (tA p c k (enX p c k)).1⟩])
 else match reV p c.s.st c.b k with
  |none=>((c.b.getD k default).done.flt,none,[])
  |some L=>if L.length=0 then((c.b.getD k default).done.flt,none,[]) else((c.b.getD k default).done,some (br L),[⟨3,br L⟩])
def apl(c:Cf)(k:Nat)(e:En)(t:Option Int):Cf:=match t with
 |none=>⟨c.s,c.b.set k e,c.r,c.e⟩
 |some t=>goV ⟨c.s,c.b.set k e,c.r,c.e⟩ k t
structure Alk (p:Pg) (c d:Cf) (k:Nat):Prop where
 lc:k<c.b.length
 ld:k<d.b.length
 m:d.s.m=c.s.m
 e:d.e=c.e
 en:d.b.getD k default=c.b.getD k default
 rg: ∀r,(c8 p c.s c.b k r).2=true->c8 p d.s d.b k r=c8 p c.s c.b k r
 lo:(enX p c k).kind=2-> ¬(c.s.m.length:Int)<=adV p c k (enX p c k)->(ldV p c.s.m c.b k (adV p c k (enX p c k))).2.2=true->ldV p d.s.m d.b k (adV p c k (enX p c k))=ldV p c.s.m c.b k (adV p c k (enX p c k))
 re:reV p d.s.st d.b k=reV p c.s.st c.b k
 bl:mL p d.b k=mL p c.b k
theorem fG(p:Pg){l l':List En}(r:Int): ∀k,(∀j,j<k->l'.getD j default=l.getD j default)->eB p l' r k=eB p l r k
 |0,_=>rfl
 |k+1,h=>by
  unfold eB enI
  rw[h k (by omega),fG p r k fun j hj=>h j (by omega)]
theorem lE(p:Pg){l l':List En}(a:Int): ∀k,(∀j,j<k->l'.getD j default=l.getD j default)->ldF p l' a k=ldF p l a k
 |0,_=>rfl
 |k+1,h=>by
  unfold ldF enI
  rw[h k (by omega),lE p a k fun j hj=>h j (by omega)]
theorem lK(p:Pg){l l':List En}: ∀j k,(∀i,k<=i->i<k+j->(l'.getD i default).pc=(l.getD i default).pc)->nf p l' k j=nf p l k j
 |0,_,_=>rfl
 |j+1,k,h=>by
  unfold nf enI
  rw[h k (by omega) (by omega),lK p j (k+1) fun i h1 h2=>h i (by omega) (by omega)]
theorem cD(l:List En)(k j:Nat)(e:En)(hk:k<l.length):(l.set k e).getD j default=if k=j then e else l.getD j default:=by
 by_cases h:k=j
 ·subst h
  rw[ai rfl];simp[List.getD,hk]
 ·rw[ah h];simp[List.getD,cd,h]
theorem nA(p:Pg){l:List En}(r:Int){k:Nat}{e:En}(hk:k<l.length)(hp:e.pc=(l.getD k default).pc)(hd:(l.getD k default).dn=false): ∀i,(∀x,eB p l r i=some x->x.2=true)->eB p (l.set k e) r i=eB p l r i
 |0,_=>rfl
 |i+1,h=>by
  unfold eB at h ⊢
  have e1:enI p (l.set k e) i=enI p l i:=by
   unfold enI
   rw[cD l k i e hk]
   split
   ·rename_i h1;subst h1;rw[hp]
   ·rfl
  rw[e1]
  by_cases hc:dl (enI p l i)=true∧(enI p l i).d=r
  ·rw[ai hc] at h ⊢
   rw[ai hc,cD l k i e hk]
   split
   ·rename_i h1
    subst h1
    rw[hd] at h
    cases h _ rfl
   ·rfl
  ·rw[ah hc] at h ⊢
   rw[ah hc]
   exact nA p r hk hp hd i h
theorem mj(p:Pg){l:List En}(a:Int){k:Nat}{e:En}(hk:k<l.length)(hp:e.pc=(l.getD k default).pc)(hd:(l.getD k default).dn=false)(h3:(enI p l k).kind=3->e.kn=(l.getD k default).kn∧e.adr=(l.getD k default).adr): ∀i,(∀x,ldF p l a i=some x->x.2.2=true)->ldF p (l.set k e) a i=ldF p l a i
 |0,_=>rfl
 |i+1,h=>by
  unfold ldF at h ⊢
  by_cases h1:k=i
  ·subst h1
   have e1:enI p (l.set k e) k=enI p l k:=by unfold enI;rw[cD l k k e hk,ai rfl,hp]
   have e2:(l.set k e).getD k default=e:=by rw[cD l k k e hk,ai rfl]
   rw[e1,e2]
   by_cases hc:(enI p l k).kind=3∧(l.getD k default).kn=true∧(l.getD k default).adr=a
   ·rw[ai hc,hd] at h
    cases h _ rfl
   ·rw[ah hc] at h ⊢
    rw[ah (fun q=>hc ⟨q.1,by rw[<-(h3 q.1).1];exact q.2.1,by rw[<-(h3 q.1).2];exact q.2.2⟩)]
    exact mj p a hk hp hd h3 k h
  ·have e2:(l.set k e).getD i default=l.getD i default:=by rw[cD l k i e hk,ah h1]
   have e1:enI p (l.set k e) i=enI p l i:=by unfold enI;rw[e2]
   rw[e1,e2]
   split
   ·rfl
   ·rename_i hc
    rw[ah hc] at h
    exact mj p a hk hp hd h3 i h
theorem xk(p:Pg)(s:S8)(l:List En)(e:En)(k:Nat)(hk:k<l.length)(v:Vl):cC p s (l.set k e) k v=cC p s l k v:=by
 unfold cC c8
 rw[aq,bE (by omega),fG p (l:=l) (l':=l.set k e) v.n k fun j hj=>by rw[cD l k j e hk,ah (by omega)]]
theorem xT(p:Pg)(s:S8)(l:List En)(e:En)(k:Nat)(hk:k<l.length)(r:Int):c8 p s (l.set k e) k r=c8 p s l k r:=by
 unfold c8
 rw[aq,bE (by omega),fG p (l:=l) (l':=l.set k e) r k fun j hj=>by rw[cD l k j e hk,ah (by omega)]]
theorem Cj(p:Pg)(m:List Int)(l:List En)(e:En)(k:Nat)(hk:k<l.length)(a:Int):ldV p m (l.set k e) k a=ldV p m l k a:=by
 unfold ldV
 rw[aq,bE (by omega),lE p (l:=l) (l':=l.set k e) a k fun j hj=>by rw[cD l k j e hk,ah (by omega)]]
theorem BD(p:Pg)(st:List Int)(l:List En)(e:En)(k:Nat)(hk:k<l.length):reV p st (l.set k e) k=reV p st l k:=by
 unfold reV
 rw[aq,bE (by omega)]
 exact dm p _ _ _ _ _ _ fun i hi=>by rw[cD l k _ e hk,ah (by omega)]
theorem Gq(p:Pg)(c:Cf)(k:Nat)(hk:k<c.b.length):dmV p c k=(apl c k (ouV p c k).1 (ouV p c k).2.1,(ouV p c k).2.2):=by
 have hA: ∀v,cC p (upE c k En.done).s (upE c k En.done).b k v=cC p c.s c.b k v:=fun v=>xk p c.s c.b _ k hk v
 have hD: ∀r,c8 p (upE c k En.done).s (upE c k En.done).b k r=c8 p c.s c.b k r:=fun r=>xT p c.s c.b _ k hk r
 have hL: ∀(g:En->En) a,ldV p c.s.m (upE c k g).b k a=ldV p c.s.m c.b k a:=fun g a=>Cj p c.s.m c.b _ k hk a
 have hR:reV p c.s.st (upE c k En.done).b k=reV p c.s.st c.b k:=BD p c.s.st c.b _ k hk
 unfold dmV ouV adV tA tB tD
 simp only[hA,hD,hL,hR]
 by_cases k1:(enX p c k).kind=1
 ·simp only[ai k1];rfl
 simp only[ah k1]
 by_cases k4:(enX p c k).kind=4
 ·simp only[ai k4];rfl
 simp only[ah k4]
 by_cases k3:(enX p c k).kind=3
 ·simp only[ai k3];rfl
 simp only[ah k3]
 by_cases k2:(enX p c k).kind=2
 ·simp only[ai k2]
  split<;>rfl
 simp only[ah k2]
 by_cases k5:(enX p c k).kind=5
 ·simp only[ai k5];rfl
 simp only[ah k5]
 by_cases k7:(enX p c k).kind=7
 ·simp only[ai k7];rfl
 simp only[ah k7]
 cases reV p c.s.st c.b k with
 |none=>rfl
 |some L=>
  show(if L.length=0 then _ else _)=_
  by_cases h0:L.length=0
  ·simp only[ai h0];rfl
  ·simp only[ah h0];rfl
theorem vq(p:Pg)(c:Cf)(k:Nat):(ouV p c k).1.pc=(c.b.getD k default).pc∧(ouV p c k).1.dn=true∧(ouV p c k).1.nxt=(c.b.getD k default).nxt∧((enX p c k).kind=3->(ouV p c k).1.kn=(c.b.getD k default).kn∧(ouV p c k).1.adr=(c.b.getD k default).adr):=by
 unfold ouV
 by_cases k1:(enX p c k).kind=1
 ·rw[ai k1];exact⟨rfl,rfl,rfl,fun _=>⟨rfl,rfl⟩⟩
 rw[ah k1]
 by_cases k4:(enX p c k).kind=4
 ·rw[ai k4];exact⟨rfl,rfl,rfl,fun _=>⟨rfl,rfl⟩⟩
 rw[ah k4]
 by_cases k3:(enX p c k).kind=3
 ·rw[ai k3];exact⟨rfl,rfl,rfl,fun _=>⟨rfl,rfl⟩⟩
 rw[ah k3]
 repeat' split
 all_goals exact⟨rfl,rfl,rfl,fun h=>absurd h k3⟩
theorem Alk.val{p:Pg}{c d:Cf}{k:Nat}(h:Alk p c d k)(v:Vl)(ht:(cC p c.s c.b k v).2=true):cC p d.s d.b k v=cC p c.s c.b k v:=by
 unfold cC at ht ⊢
 split
 ·rename_i hv
  rw[ai hv] at ht
  exact h.rg _ ht
 ·rfl
theorem eS{a b:Bool}(h:(a&&b)=true):a=true∧b=true:=by
 cases a with
 |true=>exact⟨rfl,h⟩
 |false=>cases h
theorem Alk.ouK{p:Pg}{c d:Cf}{k:Nat}(h:Alk p c d k)(hK:cnK p c k (enX p c k)=true):cnK p d k (enX p d k)=true∧ouV p d k=ouV p c k:=by
 have hx:enX p d k=enX p c k:=by unfold enX;rw[h.en]
 rw[hx]
 have hV:=h.val
 have hlo:=h.lo
 unfold cnK at hK ⊢
 unfold ouV
 rw[hx,h.en]
 unfold tAB adV tA tB tD at*
 by_cases k1:(enX p c k).kind=1
 ·simp only[ai k1] at hK ⊢
  obtain⟨h1,h2⟩:=eS hK
  rw[hV _ h1,hV _ h2,h1,h2]
  exact⟨rfl,rfl⟩
 simp only[ah k1] at hK ⊢
 by_cases k5:(enX p c k).kind=5
 ·have k4: ¬(enX p c k).kind=4:=by omega
  have k3: ¬(enX p c k).kind=3:=by omega
  have k2: ¬(enX p c k).kind=2:=by omega
  simp only[ai k5,ah k4,ah k3,ah k2] at hK ⊢
  obtain⟨h1,h2⟩:=eS hK
  rw[hV _ h1,hV _ h2,h1,h2]
  exact⟨rfl,rfl⟩
 simp only[ah k5] at hK ⊢
 by_cases k4:(enX p c k).kind=4
 ·simp only[ai k4] at hK ⊢
  obtain⟨h0,h3⟩:=eS hK
  obtain⟨h1,h2⟩:=eS h0
  rw[hV _ h1,hV _ h2,h.rg _ h3,h1,h2,h3]
  exact⟨rfl,rfl⟩
 simp only[ah k4] at hK ⊢
 by_cases k2:(enX p c k).kind=2
 ·have k3: ¬(enX p c k).kind=3:=by omega
  simp only[ai k2,ah k3] at hK ⊢
  obtain⟨h0,h3⟩:=eS hK
  obtain⟨h1,h2⟩:=eS h0
  rw[hV _ h1,hV _ h2,h1,h2,h.m]
  by_cases hm:(c.s.m.length:Int)<=Wd.maskV p.W ((cC p c.s c.b k (enX p c k).a).1+(cC p c.s c.b k (enX p c k).b).1)
  ·simp only[ai hm,bL hm]
   exact⟨by simp,trivial⟩
  ·rw[bC hm,cZ] at h3
   have h4:=hlo k2 hm h3
   rw[h.m] at h4
   simp only[ah hm,bC hm]
   rw[h4,h3]
   exact⟨rfl,rfl⟩
 simp only[ah k2] at hK ⊢
 by_cases k3:(enX p c k).kind=3
 ·simp only[ai k3] at hK ⊢
  rw[h.rg _ hK]
  exact⟨hK,rfl⟩
 simp only[ah k3] at hK ⊢
 by_cases k7:(enX p c k).kind=7
 ·simp only[ai k7] at hK ⊢
  rw[hV _ hK]
  exact⟨hK,rfl⟩
 simp only[ah k7] at hK ⊢
 rw[h.re]
 exact⟨hK,rfl⟩
theorem Alk.ou{p:Pg}{c d:Cf}{k:Nat}(h:Alk p c d k)(hc:cnV p c k=true):cnV p d k=true∧ouV p d k=ouV p c k:=by
 obtain⟨q,hq,hk,hd,hK⟩:=ii hc
 obtain rfl:k=q:=by omega
 have hop:opV p c k=true:=(eS hc).1
 have ho:opV p d k=true:=by
  unfold opV at hop ⊢
  rw[h.e,h.bl]
  split at hop
  ·rename_i h1
   rw[ai ⟨h1.1,h1.2.1,by have:=h.ld;omega⟩]
   exact hop
  ·cases hop
 have hn:cnV p d k=(opV p d k&&(!(d.b.getD k default).dn&&cnK p d k (enX p d k))):=by unfold cnV;rw[aK]
 have h1:=h.ouK hK
 rw[hn,ho,h.en,hd,h1.1]
 exact⟨rfl,h1.2⟩
theorem Gl{p:Pg}{c x:Cf}{k:Nat}{o:List Ob}(e:doO p c k=some (x,o)):k<c.b.length∧(c.b.getD k default).dn=false∧cnV p c k=true∧x=apl c k (ouV p c k).1 (ouV p c k).2.1∧o=(ouV p c k).2.2:=by
 unfold doO at e
 split at e
 ·rename_i hc
  obtain⟨q,hq,hk,hd,_⟩:=ii hc
  obtain rfl:k=q:=by omega
  rw[aK,Gq p c k hk,af,Prod.mk.injEq] at e
  exact⟨hk,hd,hc,e.1.symm,e.2.symm⟩
 ·cases e
theorem Alk.loc{p:Pg}{c d:Cf}{k:Nat}(lc:k<c.b.length)(ld:k<d.b.length)(hr: ∀n,d.s.reg n=c.s.reg n)(hm:d.s.m=c.s.m)(hst:d.s.st=c.s.st)(he:d.e=c.e)(hb: ∀j,j<k+1->d.b.getD j default=c.b.getD j default):Alk p c d k:=by
 refine⟨lc,ld,hm,he,hb k (by omega),fun r _=> ?_,fun _ _ _=> ?_, ?_, ?_⟩
 ·unfold c8
  rw[bE (by omega),bE (by omega),fG p (l:=c.b) (l':=d.b) r k fun j hj=>hb j (by omega),hr]
 ·unfold ldV
  rw[bE (by omega),bE (by omega),lE p (l:=c.b) (l':=d.b) _ k fun j hj=>hb j (by omega),hm]
 ·unfold reV
  rw[bE (by omega),bE (by omega),hst]
  exact dm p _ _ _ _ _ _ fun i hi=>by rw[hb _ (by omega)]
 ·unfold mL
  rw[bE (by omega),bE (by omega)]
  exact lK p _ _ fun i _ hi=>by rw[hb i (by omega)]
theorem Alk.stab{p:Pg}{c:Cf}{k i:Nat}(hki:k<i)(hi:i<c.b.length){e:En}(hp:e.pc=(c.b.getD k default).pc)(hd:(c.b.getD k default).dn=false)(h3:(enX p c k).kind=3->e.kn=(c.b.getD k default).kn∧e.adr=(c.b.getD k default).adr):Alk p c ⟨c.s,c.b.set k e,c.r,c.e⟩ i:=by
 have hk:k<c.b.length:=by omega
 have hpc: ∀j,((c.b.set k e).getD j default).pc=(c.b.getD j default).pc:=fun j=>by
  rw[cD c.b k j e hk]
  split
  ·rename_i h1;subst h1;exact hp
  ·rfl
 refine⟨hi,by rw[aq];exact hi,rfl,rfl,by rw[cD c.b k i e hk,ah (by omega)],fun r ht=> ?_,fun _ _ ht=> ?_, ?_, ?_⟩
 ·unfold c8 at ht ⊢
  rw[aq]
  rw[bE (by omega)] at ht ⊢
  split
  ·rename_i hr
   rw[ai hr] at ht
   rw[nA p r hk hp hd i fun x hx=>by rw[hx] at ht;exact ht]
  ·rfl
 ·unfold ldV at ht ⊢
  rw[aq]
  rw[bE (by omega)] at ht ⊢
  rw[mj p _ hk hp hd h3 i fun x hx=>by rw[hx] at ht;exact ht]
 ·unfold reV
  rw[aq]
  exact dm p _ _ _ _ _ _ fun j _=>hpc _
 ·unfold mL
  rw[aq]
  exact lK p _ _ fun j _ _=>hpc j
structure EC (p:Pg) (c:Cf) (k:Nat):Prop where
 don:(c.b.getD k default).dn=true->((enX p c k).kind<=5∨(enX p c k).kind=7∨(enX p c k).kind=9)->cnK p c k (enX p c k)=true∧(ouV p c k).1=c.b.getD k default∧ ∀t,(ouV p c k).2.1=some t->(c.b.getD k default).nxt=t
 ftn:(c.b.getD k default).ft=true->(enX p c k).kind=3∨(enX p c k).kind=8∨(((enX p c k).kind=2∨(enX p c k).kind=9)∧(c.b.getD k default).dn=true∧(ouV p c k).2.2=[])
 kno:(enX p c k).kind=3->(c.b.getD k default).kn=true->tAB p c k (enX p c k)=true∧(c.b.getD k default).adr=adV p c k (enX p c k)∧(c.b.getD k default).ft=decide ((c.s.m.length:Int)<=adV p c k (enX p c k))
 f3:(enX p c k).kind=3->(c.b.getD k default).kn=false->(c.b.getD k default).ft=false
 cal:(enX p c k).kind=8->(c.b.getD k default).ft=(match reV p c.s.st c.b k with |none=>true |some L=>decide (4<=L.length))
 nx1:(enX p c k).kind<=4∨(enX p c k).kind=10->(c.b.getD k default).nxt=(c.b.getD k default).pc+1
 nx6:(enX p c k).kind=6∨(enX p c k).kind=8->(c.b.getD k default).nxt=(enX p c k).tg
def hdP(c:Cf):Int:=if c.b.length=0 then c.s.pc else(c.b.getD 0 default).pc
structure Cor (p:Pg) (c:Cf):Prop where
 ent: ∀k,k<c.b.length->EC p c k
 chn: ∀k,k+1<c.b.length->(c.b.getD (k+1) default).pc=(c.b.getD k default).nxt
 lst: ∀k,k+1=c.b.length->c.s.pc=(c.b.getD k default).nxt
structure Alk0 (p:Pg) (c d:Cf) (k:Nat):Prop where
 m:d.s.m=c.s.m
 en:d.b.getD k default=c.b.getD k default
 rg: ∀r,(c8 p c.s c.b k r).2=true->c8 p d.s d.b k r=c8 p c.s c.b k r
 re:reV p d.s.st d.b k=reV p c.s.st c.b k
theorem Alk0.val{p:Pg}{c d:Cf}{k:Nat}(h:Alk0 p c d k)(v:Vl)(ht:(cC p c.s c.b k v).2=true):cC p d.s d.b k v=cC p c.s c.b k v:=by
 unfold cC at ht ⊢
 split
 ·rename_i hv
  rw[ai hv] at ht
  exact h.rg _ ht
 ·rfl
theorem EC.alk0{p:Pg}{c d:Cf}{k:Nat}(h:EC p c k)(ha:Alk0 p c d k)(hl:(c.b.getD k default).dn=true->Alk p c d k):EC p d k:=by
 have hx:enX p d k=enX p c k:=by unfold enX;rw[ha.en]
 refine⟨fun hd hk=> ?_,fun hf=> ?_,fun hk hn=> ?_,fun hk hn=> ?_,fun hk=> ?_,fun hk=> ?_,fun hk=> ?_⟩
 ·rw[ha.en] at hd ⊢
  rw[hx] at hk
  obtain⟨h1,h2,h3⟩:=h.don hd hk
  have h4:=(hl hd).ouK h1
  rw[h4.2]
  exact⟨h4.1,h2,h3⟩
 ·rw[ha.en] at hf ⊢
  rw[hx]
  rcases h.ftn hf with h1 |h1 |⟨h1,h2,h3⟩
  ·exact .inl h1
  ·exact .inr (.inl h1)
  ·refine .inr (.inr ⟨h1,h2, ?_⟩)
   rw[((hl h2).ouK (h.don h2 (by rcases h1 with h1 |h1<;>omega)).1).2]
   exact h3
 ·rw[hx] at hk ⊢
  rw[ha.en] at hn ⊢
  obtain⟨h1,h2,h3⟩:=h.kno hk hn
  obtain⟨g1,g2⟩:=eS h1
  have v1:=ha.val _ g1
  have v2:=ha.val _ g2
  unfold tAB adV tA tB at*
  rw[v1,v2,ha.m]
  exact⟨h1,h2,h3⟩
 ·rw[hx] at hk
  rw[ha.en] at hn ⊢
  exact h.f3 hk hn
 ·rw[hx] at hk
  rw[ha.en,ha.re]
  exact h.cal hk
 ·rw[hx] at hk
  rw[ha.en]
  exact h.nx1 hk
 ·rw[hx] at hk ⊢
  rw[ha.en]
  exact h.nx6 hk
theorem EC.alk{p:Pg}{c d:Cf}{k:Nat}(h:EC p c k)(ha:Alk p c d k):EC p d k:=h.alk0 ⟨ha.m,ha.en,ha.rg,ha.re⟩ fun _=>ha
theorem ko(l:List En)(e:En){j:Nat}(h:j<l.length):(l++[e]).getD j default=l.getD j default:=by
 rw[au,au,bh h]
theorem qR(l:List En)(e:En):(l++[e]).getD l.length default=e:=by simp[List.getD]
theorem Cor.ftO{p:Pg}{c d:Cf}{g:Int}(h:Cor p c)(e:ftO p c g=some d):Cor p d∧hdP d=hdP c:=by
 unfold Px.ftO at e
 split at e
 ·rename_i hg
  obtain rfl:=Option.some.inj e
  have hl:(ftD p c g).b.length=c.b.length+1:=by show(c.b++[_]).length=_;rw[aJ];rfl
  have hpc:(ftE p c g).pc=c.s.pc:=by
   unfold ftE;repeat' split
   all_goals rfl
  have hx:enX p (ftD p c g) c.b.length=atI p c.s.pc:=by
   show atI p ((c.b++[ftE p c g]).getD c.b.length default).pc=_
   rw[qR,hpc]
  have he:(ftD p c g).b.getD c.b.length default=ftE p c g:=qR _ _
  refine⟨⟨fun k hk=> ?_,fun k hk=> ?_,fun k hk=> ?_⟩, ?_⟩
  ·by_cases hkl:k<c.b.length
   ·exact(h.ent k hkl).alk (Alk.loc hkl (by omega) (fun _=>rfl) rfl rfl rfl fun j hj=>ko _ _ (by omega))
   ·obtain rfl:k=c.b.length:=by omega
    have hre:reV p (ftD p c g).s.st (ftD p c g).b c.b.length=reV p c.s.st c.b c.b.length:=by
     unfold reV
     rw[bE (by omega),bE (by omega)]
     exact dm p _ _ _ _ _ _ fun i hi=>by rw[show(ftD p c g).b=c.b++[ftE p c g] from rfl,ko _ _ (by omega)]
    refine⟨fun hd hk=> ?_,fun hf=> ?_,fun hk hn=> ?_,fun hk _=> ?_,fun hk=> ?_,fun hk=> ?_,fun hk=> ?_⟩
    ·rw[hx] at hk
     rw[he] at hd
     unfold ftE at hd
     repeat' split at hd
     all_goals first |omega |cases hd
    ·rw[hx]
     rw[he] at hf
     unfold ftE at hf
     repeat' split at hf
     all_goals first |omega |cases hf
    ·rw[hx] at hk
     rw[he] at hn
     unfold ftE at hn
     repeat' split at hn
     all_goals first |omega |cases hn
    ·rw[hx] at hk
     rw[he]
     unfold ftE
     repeat' split
     all_goals first |omega |rfl
    ·rw[hx] at hk
     rw[he,hre]
     unfold ftE
     rw[ah (by omega),ah (by omega),ah (by omega),ah (by omega),ai hk]
     rfl
    ·rw[hx] at hk
     rw[he]
     unfold ftE
     rw[ah (by omega),ah (by omega),ah (by omega),ah (by omega),ah (by omega),ah (by omega)]
    ·rw[hx] at hk ⊢
     rw[he]
     unfold ftE
     rw[ah (by omega)]
     rcases hk with hk |hk
     ·rw[ai hk]
     ·rw[ah (by omega),ah (by omega),ah (by omega),ai hk]
  ·have hk:k+1<c.b.length+1:=by omega
   by_cases hkl:k+1<c.b.length
   ·show((c.b++[_]).getD (k+1) default).pc=((c.b++[_]).getD k default).nxt
    rw[ko _ _ hkl,ko _ _ (by omega)]
    exact h.chn k hkl
   ·have hq:k+1=c.b.length:=by omega
    show((c.b++[_]).getD (k+1) default).pc=((c.b++[_]).getD k default).nxt
    rw[hq,qR,ko _ _ (by omega),hpc]
    exact h.lst k hq
  ·have hq:k=c.b.length:=by omega
   rw[hq,he]
   rfl
  ·unfold hdP
   rw[hl,ah (by omega)]
   by_cases h0:c.b.length=0
   ·rw[ai h0,show(0:Nat)=c.b.length from h0.symm,he,hpc]
   ·rw[ah h0]
    show((c.b++[_]).getD 0 default).pc=_
    rw[ko _ _ (by omega)]
 ·cases e
structure Loc (p:Pg) (c d:Cf) (i:Nat):Prop where
 lc:i<c.b.length
 ld:i<d.b.length
 rg: ∀n,d.s.reg n=c.s.reg n
 m:d.s.m=c.s.m
 st:d.s.st=c.s.st
 pre: ∀j,j<i->d.b.getD j default=c.b.getD j default
theorem Loc.val{p:Pg}{c d:Cf}{i:Nat}(h:Loc p c d i)(v:Vl):cC p d.s d.b i v=cC p c.s c.b i v:=by
 unfold cC c8
 rw[bE (dY h.ld),bE (dY h.lc),fG p (l:=c.b) (l':=d.b) v.n i h.pre,h.rg]
theorem Loc.reg{p:Pg}{c d:Cf}{i:Nat}(h:Loc p c d i)(r:Int):c8 p d.s d.b i r=c8 p c.s c.b i r:=by
 unfold c8
 rw[bE (dY h.ld),bE (dY h.lc),fG p (l:=c.b) (l':=d.b) r i h.pre,h.rg]
theorem Loc.ldv{p:Pg}{c d:Cf}{i:Nat}(h:Loc p c d i)(a:Int):ldV p c.s.m d.b i a=ldV p c.s.m c.b i a:=by
 unfold ldV
 rw[bE (dY h.ld),bE (dY h.lc),lE p (l:=c.b) (l':=d.b) a i h.pre]
theorem Loc.rev{p:Pg}{c d:Cf}{i:Nat}(h:Loc p c d i):reV p c.s.st d.b i=reV p c.s.st c.b i:=by
 unfold reV
 rw[bE (dY h.ld),bE (dY h.lc)]
 exact dm p _ _ _ _ _ _ fun j hj=>by rw[h.pre _ (by omega)]
theorem Loc.cnK{p:Pg}{c d:Cf}{i:Nat}(h:Loc p c d i)(x:In):cnK p d i x=cnK p c i x:=by
 unfold Px.cnK tAB adV tA tB tD
 simp only[h.val,h.reg,h.m,h.ldv]
theorem Loc.tAB{p:Pg}{c d:Cf}{i:Nat}(h:Loc p c d i)(x:In):tAB p d i x=tAB p c i x∧adV p d i x=adV p c i x:=by
 unfold Px.tAB adV tA tB
 simp only[h.val]
 exact⟨trivial,trivial⟩
theorem wy{p:Pg}{c:Cf}{i:Int}{x:In}(h:cnK p c i x=true):x.kind=1∨x.kind=2∨x.kind=3∨x.kind=4∨x.kind=5∨x.kind=7∨x.kind=9:=by
 unfold Px.cnK at h
 repeat' split at h
 all_goals first |omega |skip
 have:=ax.1 h
 omega
theorem E9(p:Pg)(c:Cf)(k:Nat)(h:(ouV p c k).1.ft=true):(c.b.getD k default).ft=true∨(((enX p c k).kind=2∨((enX p c k).kind≠1∧(enX p c k).kind≠4∧(enX p c k).kind≠3∧(enX p c k).kind≠5∧(enX p c k).kind≠7))∧(ouV p c k).2.2=[]):=by
 unfold ouV at h ⊢
 by_cases k1:(enX p c k).kind=1
 ·rw[ai k1] at h;exact .inl h
 rw[ah k1] at h ⊢
 by_cases k4:(enX p c k).kind=4
 ·rw[ai k4] at h;exact .inl h
 rw[ah k4] at h ⊢
 by_cases k3:(enX p c k).kind=3
 ·rw[ai k3] at h;exact .inl h
 rw[ah k3] at h ⊢
 by_cases k2:(enX p c k).kind=2
 ·rw[ai k2] at h ⊢
  split at h
  ·rename_i hm
   rw[ai hm]
   exact .inr ⟨.inl k2,rfl⟩
  ·exact .inl h
 rw[ah k2] at h ⊢
 by_cases k5:(enX p c k).kind=5
 ·rw[ai k5] at h;exact .inl h
 rw[ah k5] at h ⊢
 by_cases k7:(enX p c k).kind=7
 ·rw[ai k7] at h;exact .inl h
 rw[ah k7] at h ⊢
 cases hv:reV p c.s.st c.b k with
 |none=>exact .inr ⟨.inr ⟨k1,k4,k3,k5,k7⟩,rfl⟩
 |some L=>
  rw[hv] at h
  by_cases h0:L.length=0
  ·exact .inr ⟨.inr ⟨k1,k4,k3,k5,k7⟩,by show(if L.length=0 then _ else _:En×Option Int×List Ob).2.2=_;rw[ai h0]⟩
  ·have h2:(if L.length=0 then((c.b.getD k default).done.flt,none,[]) else((c.b.getD k default).done,some (br L),[⟨3,br L⟩]):En×Option Int×List Ob).1.ft=true:=h
   rw[ah h0] at h2
   exact .inl h2
theorem E8(p:Pg)(c:Cf)(k:Nat)(h:(enX p c k).kind<=4∧1<=(enX p c k).kind):(ouV p c k).2.1=none:=by
 unfold ouV
 have:(enX p c k).kind=1∨(enX p c k).kind=2∨(enX p c k).kind=3∨(enX p c k).kind=4:=by omega
 rcases this with k1 |k1 |k1 |k1
 ·rw[ai k1]
 ·rw[ah (by omega),ah (by omega),ah (by omega),ai k1]
  split<;>rfl
 ·rw[ah (by omega),ah (by omega),ai k1]
 ·rw[ah (by omega),ai k1]
theorem Fa(p:Pg)(c:Cf)(k:Nat)(h:(enX p c k).kind=3):(ouV p c k).1.ft=(c.b.getD k default).ft:=by
 unfold ouV
 rw[ah (by omega),ah (by omega),ai h]
 rfl
theorem ye{p:Pg}{c d:Cf}{i:Nat}(h:Loc p c d i){u:Int}(he:d.b.getD i default=(ouV p c i).1.to u):enX p d i=enX p c i∧ouV p d i=((ouV p c i).1.to u,(ouV p c i).2.1,(ouV p c i).2.2):=by
 have hx:enX p d i=enX p c i:=by
  unfold enX
  rw[he]
  show atI p (ouV p c i).1.pc=_
  rw[(vq p c i).1]
 refine⟨hx, ?_⟩
 unfold ouV at he ⊢
 unfold adV tA tB tD at*
 simp only[hx,h.val,h.reg,h.m,h.ldv,h.st,h.rev]
 by_cases k1:(enX p c i).kind=1
 ·simp only[ai k1] at he ⊢
  rw[he];rfl
 simp only[ah k1] at he ⊢
 by_cases k4:(enX p c i).kind=4
 ·simp only[ai k4] at he ⊢
  rw[he];rfl
 simp only[ah k4] at he ⊢
 by_cases k3:(enX p c i).kind=3
 ·simp only[ai k3] at he ⊢
  rw[he];rfl
 simp only[ah k3] at he ⊢
 by_cases k2:(enX p c i).kind=2
 ·simp only[ai k2] at he ⊢
  by_cases hm:(c.s.m.length:Int)<=Wd.maskV p.W ((cC p c.s c.b i (enX p c i).a).1+(cC p c.s c.b i (enX p c i).b).1)
  ·simp only[ai hm] at he ⊢
   rw[he];rfl
  ·simp only[ah hm] at he ⊢
   rw[he];rfl
 simp only[ah k2] at he ⊢
 by_cases k5:(enX p c i).kind=5
 ·simp only[ai k5] at he ⊢
  rw[he];rfl
 simp only[ah k5] at he ⊢
 by_cases k7:(enX p c i).kind=7
 ·simp only[ai k7] at he ⊢
  rw[he];rfl
 simp only[ah k7] at he ⊢
 cases hv:reV p c.s.st c.b i with
 |none=>
  rw[hv] at he
  rw[he];rfl
 |some L=>
  rw[hv] at he
  by_cases h0:L.length=0
  ·simp only[ai h0] at he ⊢
   rw[he];rfl
  ·simp only[ah h0] at he ⊢
   rw[he];rfl
theorem EC.self{p:Pg}{c d:Cf}{i:Nat}(hE:EC p c i)(h:Loc p c d i)(hdn:(c.b.getD i default).dn=false)(hK:cnK p c i (enX p c i)=true){u:Int}(he:d.b.getD i default=(ouV p c i).1.to u)(hu: ∀t,(ouV p c i).2.1=some t->u=t)(hn:(ouV p c i).2.1=none->u=(c.b.getD i default).nxt):EC p d i:=by
 obtain⟨hx,ho⟩:=ye h he
 obtain⟨h1,h2,h3,h4⟩:=vq p c i
 have hkk:=wy hK
 refine⟨fun _ _=> ?_,fun hf=> ?_,fun hk hkn=> ?_,fun hk hkn=> ?_,fun hk=> ?_,fun hk=> ?_,fun hk=> ?_⟩
 ·rw[hx,ho,h.cnK,he]
  exact⟨hK,rfl,fun t ht=>hu t ht⟩
 ·rw[hx,ho,he]
  rw[he] at hf
  rcases E9 p c i hf with q |⟨q,r⟩
  ·rcases hE.ftn q with q1 |q1 |⟨_,q1,_⟩
   ·exact .inl q1
   ·exact .inr (.inl q1)
   ·rw[hdn] at q1;cases q1
  ·exact .inr (.inr ⟨by omega,h2,r⟩)
 ·rw[hx] at hk ⊢
  rw[he] at hkn ⊢
  obtain⟨q1,q2⟩:=h4 hk
  have q3:=Fa p c i hk
  have g:=hE.kno hk (q1▸hkn)
  rw[(h.tAB _).1,(h.tAB _).2,h.m]
  refine⟨g.1, ?_, ?_⟩
  ·exact q2.trans g.2.1
  ·exact q3.trans g.2.2
 ·rw[hx] at hk
  rw[he] at hkn ⊢
  exact(Fa p c i hk).trans (hE.f3 hk ((h4 hk).1.symm.trans hkn))
 ·rw[hx] at hk;omega
 ·rw[hx] at hk
  rw[he]
  show u=(ouV p c i).1.pc+1
  rw[h1,hn (E8 p c i (by omega))]
  exact hE.nx1 (by omega)
 ·rw[hx] at hk;omega
end
end Go.Proofs.Ytdanmboalfmifaa.Px
