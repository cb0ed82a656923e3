import Derived.Test.YtbhdoempeglgpaaMcF
import Derived.Test.YtbhdoempeglgpaaMcD
import Derived.Test.YtbhdoempeglgpaaMcA
import Derived.Outline
import Derived.Test.YtbhdoempeglgpaaRows
import Derived.Lib.Bytes
import Derived.Lib.Bytealg
import Derived.Deep.QuietTactic
import Derived.BigQuiet
import Derived.Test.YtbhdoempeglgpaaMcB
import Derived.Lib.AppendZeros
import Derived.Laws.Rows
import Derived.Test.YtbhdoempeglgpaaMcE
set_option linter.unusedVariables false
set_option linter.unusedSimpArgs false
set_option maxRecDepth 100000
namespace Go.Proofs.Ytbhdoempeglgpaa.Px
section
open Go.RowKit Go.Proofs.Ytbhdoempeglgpaa.Rx
structure M1 where
 p:Int
 s:Int
 r0:Int
 r1:Int
 r2:Int
 r3:Int
def M1.set(m:M1)(k:Nat)(v:Int):M1:=match k with
 |0=>{m with r0:=v}
 |1=>{m with r1:=v}
 |2=>{m with r2:=v}
 |_=>{m with r3:=v}
def mq(l:List Int)(k:Nat):Nat:=(bits .and .i64 (Int.fdiv (kN l 1) (2^(2*k))) 3).toNat
def jq(W:Int)(q k:Nat)(m:M1):M1:=
 if q=2 then(if m.p+W<=2 then{m.set k 1 with p:=m.p+W} else m.set k 0)
 else if q=3 then(if m.s+W<=2 then{m.set k 2 with s:=m.s+W} else m.set k 0) else m.set k 0
def mK(W:Int)(l:List Int):Nat->M1
 |0=>⟨0,0,0,0,0,0⟩
 |k+1=>jq W (mq l k) k (mK W l k)
def C6:AV:= .clo 24 [.bptr 0 0]
def CL(l:List Int):Blk:=⟨0,true,34,.box [.row 1 l.length (dd l)]⟩
def bJ(n:Nat):Blk:=⟨0,false,33,.box (List.replicate n .junk)⟩
def bP(W w:Int)(m:M1)(a b c:AV):Blk:=⟨0,false,33,.box [.int .i64 W,.int .i64 w,.int .i64 6,.int .i64 m.r0,.int .i64 m.r1,.int .i64 m.r2,.int .i64 m.r3,a,b,c]⟩
def mmB(ms:List Mm):Blk:=⟨0,false,70,.rows 3 ms.length (al mmC ms)⟩
def lbN(i:Nat):Lb:=⟨⟨#[108]⟩++dgS i,i⟩
def lbL:Nat->List Lb
 |0=>[]
 |k+1=>lbL k++[lbN k]
def inL(l:List Int)(n:Nat):Nat->List In
 |0=>[]
 |k+1=>inL l n k++[gT (kN l (k+2)) n]
def lbB(l:List Lb):Blk:=⟨0,false,73,.rows 2 l.length (al lbC l)⟩
def inB(l:List In):Blk:=⟨0,false,25,.rows 9 l.length (al inC l)⟩
def aU(l:List Int):Int:=Int.tmod (bits .and .i64 (Int.fdiv (kN l 0) (2^1)) 255) 3+1
def mk1(W w:Int)(l:List Int)(m:M1)(k:Nat):Sm:=⟨[(3,C6),(4,.bptr 2 0),(2,.bptr 1 0),(5,.int .i64 m.p),(6,.int .i64 m.s),(7,.int .i64 k)],[(0,CL l),(1,bJ 10),(2,bP W w m .nils .nils .nils)],3⟩
def mk2(W w:Int)(l:List Int)(m:M1)(ms:List Mm)(n k:Nat):Sm:=⟨[(3,C6),(4,.bptr 2 0),(2,.bptr 1 0),(8,.int .i64 n),(9,.int .i64 k)],[(0,CL l),(1,bJ 10),(2,bP W w m (.own 3 0 3 0 ms.length) (.own 4 0 2 0 (lbL k).length) .nils),(3,mmB ms),(4,lbB (lbL k))],5⟩
def mk3(W w:Int)(l:List Int)(m:M1)(ms:List Mm)(n k:Nat):Sm:=⟨[(3,C6),(4,.bptr 2 0),(2,.bptr 1 0),(8,.int .i64 n),(10,.int .i64 k)],[(0,CL l),(1,bJ 10),(2,bP W w m (.own 3 0 3 0 ms.length) (.own 4 0 2 0 (lbL (n+1)).length) (.own 5 0 9 0 (inL l n k).length)),(3,mmB ms),(4,lbB (lbL (n+1))),(5,inB (inL l n k))],6⟩
def shK(k:Nat):Nat:=min (IntKind.u64.wrap (2*(k:Int))).toNat 64
def bpC(W w:Int)(m:M1):List AV:=[.int .i64 W,.int .i64 w,.int .i64 6,.int .i64 m.r0,.int .i64 m.r1,.int .i64 m.r2,.int .i64 m.r3,.nils,.nils,.nils]
def M1.up(m:M1)(p s:Int):M1:={m with p:=p,s:=s}
theorem bs1(W w:Int)(m:M1)(k:Nat)(v:Int)(hk:k<4):setR (bpC W w m) (3+k*1) [.int .i64 v]=bpC W w (m.set k v):=match k,hk with |0,_=>rfl |1,_=>rfl |2,_=>rfl |3,_=>rfl
theorem bs2(W w:Int)(m:M1)(k:Nat)(u:Int)(hk:k<4):setR (bpC W w (m.set k u)) (3+k*1) [.int .i64 0]=bpC W w (m.set k 0):=match k,hk with |0,_=>rfl |1,_=>rfl |2,_=>rfl |3,_=>rfl
theorem bs3(W w:Int)(m:M1)(k:Nat)(v:Int)(hk:k<4):d9 Try.prog 3 (bpC W w (m.set k v)) (3+k*1)=some (.int .i64 v):=match k,hk with |0,_=>rfl |1,_=>rfl |2,_=>rfl |3,_=>rfl
theorem M1.sp{m:M1}{k:Nat}{v:Int}:m.p=(m.set k v).p:=by unfold M1.set;split<;>rfl
theorem M1.ss{m:M1}{k:Nat}{v:Int}:m.s=(m.set k v).s:=by unfold M1.set;split<;>rfl
theorem xI(W:Int)(w:Int)(m:M1)(k:Nat)(hk:k<4):d9 Try.prog 3 (bpC W w (m.set k 0)) (3+k*1)=some (aI 0):=bs3 W w m k 0 hk
theorem xm(W:Int)(w:Int)(l:List Int)(m:M1)(k:Nat){Z:Prop}(z:Z):(RF l.length (RR l.length 1 (fun i j=>aI (l.getD i 0)) (RF W (RF w (RF (6:Int) (RF ((M1.set m k (0:Int)).r0) (RF ((M1.set m k (0:Int)).r1) (RF ((M1.set m k (0:Int)).r2) (RF ((M1.set m k (0:Int)).r3) Z))))))))):=⟨rfl,fun _ _ _ _=>rfl,rfl,rfl,rfl,rfl,rfl,rfl,rfl,z⟩
theorem dD(l:List Int){Z:Prop}(z:Z):(RF (1:Int) (RF l.length (RR l.length 1 (fun i j=>aI (l.getD i 0)) Z))):=⟨rfl,rfl,fun _ _ _ _=>rfl,z⟩
abbrev dp(l:List Int):Orc:= .cl [aI (1:Nat),tH l] (aI (kN l 1)) []
theorem It(W w:Int)(l:List Int)(m:M1)(k:Nat)(hk:k<4)(hW:1<=W∧W<=2)(hp:0<=m.p∧m.p<=2)(hs:0<=m.s∧m.s<=2)(hq:bits .and .i64 (Int.fdiv (kN l 1) (2^shK k)) 3=((0:Nat):Int)):Vc (vC_ 11 0 (mk1 W w l m k) [.bd true,dp l,.iy 0,.iz,.sv (bpC W w (m.set k 0)),.iz,.lv (aI 0),.bd false,.iz,.lv (aI 0),.bd false,.iz,.sv (bpC W w (m.set k 0))] .nrm [(0,0),(1,1),(2,2)] (mk1 W w l (m.set k 0) (k+1))):=ai (cj (dt ((k:Int)<4)) (dD l (cj (kC l 1 (by omega)) (cj (i6 (2*k)) (cj (show(0:Int)<=IntKind.wrap IntKind.u64 ((2:Int)*(k:Int)) from by rw[IntKind.wrap_u64];omega) (cj hq (cj (bi (0:Nat) (4:Nat)) (cj (pv ((0:Nat)<4)) (cj (bi k (4:Nat)) (cj (pv ((3:Nat)+k*1+1<=10)) (cj (show setR (bpC W w m) (3+k*1) [aI 0]=bpC W w (m.set k 0) from bs1 W w m k 0 hk) (cj (bi k (4:Nat)) (cj (xI W w m k hk) (cj (e0 0 1) (cj (bi k (4:Nat)) (cj (xI W w m k hk) (cj (e0 0 2) (cj (bi k (4:Nat)) (cj (pv ((3:Nat)+k*1+1<=10)) (cj (show setR (bpC W w (m.set k 0)) (3+k*1) [aI 0]=bpC W w (m.set k 0) from bs2 W w m k 0 hk) (cj (i6 (k+1)) (xm W w l m k (cj (show m.p=(M1.set m k (0:Int)).p from M1.sp) (cj (show m.s=(M1.set m k (0:Int)).s from M1.ss) (cj (rf ((k:Int)+1)) trivial)))))))))))))))))))))))))
theorem Is(W w:Int)(l:List Int)(m:M1)(k:Nat)(hk:k<4)(hW:1<=W∧W<=2)(hp:0<=m.p∧m.p<=2)(hs:0<=m.s∧m.s<=2)(hq:bits .and .i64 (Int.fdiv (kN l 1) (2^shK k)) 3=((1:Nat):Int)):Vc (vC_ 11 0 (mk1 W w l m k) [.bd true,dp l,.iy 1,.iz,.sv (bpC W w (m.set k 0)),.iz,.lv (aI 0),.bd false,.iz,.lv (aI 0),.bd false,.iz,.sv (bpC W w (m.set k 0))] .nrm [(0,0),(1,1),(2,2)] (mk1 W w l (m.set k 0) (k+1))):=ai (cj (dt ((k:Int)<4)) (dD l (cj (kC l 1 (by omega)) (cj (i6 (2*k)) (cj (show(0:Int)<=IntKind.wrap IntKind.u64 ((2:Int)*(k:Int)) from by rw[IntKind.wrap_u64];omega) (cj hq (cj (bi (1:Nat) (4:Nat)) (cj (pv ((1:Nat)<4)) (cj (bi k (4:Nat)) (cj (pv ((3:Nat)+k*1+1<=10)) (cj (show setR (bpC W w m) (3+k*1) [aI 0]=bpC W w (m.set k 0) from bs1 W w m k 0 hk) (cj (bi k (4:Nat)) (cj (xI W w m k hk) (cj (e0 0 1) (cj (bi k (4:Nat)) (cj (xI W w m k hk) (cj (e0 0 2) (cj (bi k (4:Nat)) (cj (pv ((3:Nat)+k*1+1<=10)) (cj (show setR (bpC W w (m.set k 0)) (3+k*1) [aI 0]=bpC W w (m.set k 0) from bs2 W w m k 0 hk) (cj (i6 (k+1)) (xm W w l m k (cj (show m.p=(M1.set m k (0:Int)).p from M1.sp) (cj (show m.s=(M1.set m k (0:Int)).s from M1.ss) (cj (rf ((k:Int)+1)) trivial)))))))))))))))))))))))))
theorem Bp(W:Int)(w:Int)(m:M1)(k:Nat)(hk:k<4):d9 Try.prog 3 (bpC W w (m.set k 1)) (3+k*1)=some (aI 1):=bs3 W w m k 1 hk
theorem EF(W:Int)(w:Int)(l:List Int){Z:Prop}(z:Z):(RF l.length (RR l.length 1 (fun i j=>aI (l.getD i 0)) (RF W (RF w (RF (6:Int) Z))))):=⟨rfl,fun _ _ _ _=>rfl,rfl,rfl,rfl,z⟩
theorem F3(W w:Int)(l:List Int)(m:M1)(k:Nat)(hk:k<4)(hW:1<=W∧W<=2)(hp:0<=m.p∧m.p<=2)(hs:0<=m.s∧m.s<=2)(hq:bits .and .i64 (Int.fdiv (kN l 1) (2^shK k)) 3=((2:Nat):Int))(hc:decide (m.p+W<=2)=true):Vc (vC_ 11 0 (mk1 W w l m k) [.bd true,dp l,.iy 2,.iz,.sv (bpC W w (m.set k 1)),.iz,.lv (aI 1),.bd true,.bd true] .nrm [(0,0),(1,1),(2,2)] (mk1 W w l ((m.set k 1).up (m.p+W) (m.set k 1).s) (k+1))):=ai (cj (dt ((k:Int)<4)) (dD l (cj (kC l 1 (by omega)) (cj (i6 (2*k)) (cj (show(0:Int)<=IntKind.wrap IntKind.u64 ((2:Int)*(k:Int)) from by rw[IntKind.wrap_u64];omega) (cj hq (cj (bi (2:Nat) (4:Nat)) (cj (pv ((2:Nat)<4)) (cj (bi k (4:Nat)) (cj (pv ((3:Nat)+k*1+1<=10)) (cj (show setR (bpC W w m) (3+k*1) [aI 1]=bpC W w (m.set k 1) from bs1 W w m k 1 hk) (cj (bi k (4:Nat)) (cj (Bp W w m k hk) (cj (e1 1 1) (cj (i6 (m.p+W)) (cj hc (cj (i6 (m.p+W)) (cj (i6 (k+1)) (EF W w l (cj (rf ((M1.set m k (1:Int)).r0)) (cj (rf ((M1.set m k (1:Int)).r1)) (cj (rf ((M1.set m k (1:Int)).r2)) (cj (rf ((M1.set m k (1:Int)).r3)) (cj (rf (m.p+W)) (cj (show m.s=(M1.set m k (1:Int)).s from M1.ss) (cj (rf ((k:Int)+1)) trivial))))))))))))))))))))))))))
theorem F4(W w:Int)(l:List Int)(m:M1)(k:Nat)(hk:k<4)(hW:1<=W∧W<=2)(hp:0<=m.p∧m.p<=2)(hs:0<=m.s∧m.s<=2)(hq:bits .and .i64 (Int.fdiv (kN l 1) (2^shK k)) 3=((2:Nat):Int))(hc:decide (m.p+W<=2)=false):Vc (vC_ 11 0 (mk1 W w l m k) [.bd true,dp l,.iy 2,.iz,.sv (bpC W w (m.set k 1)),.iz,.lv (aI 1),.bd true,.bd false,.iz,.lv (aI 1),.bd false,.iz,.sv (bpC W w (m.set k 0))] .nrm [(0,0),(1,1),(2,2)] (mk1 W w l (m.set k 0) (k+1))):=ai (cj (dt ((k:Int)<4)) (dD l (cj (kC l 1 (by omega)) (cj (i6 (2*k)) (cj (show(0:Int)<=IntKind.wrap IntKind.u64 ((2:Int)*(k:Int)) from by rw[IntKind.wrap_u64];omega) (cj hq (cj (bi (2:Nat) (4:Nat)) (cj (pv ((2:Nat)<4)) (cj (bi k (4:Nat)) (cj (pv ((3:Nat)+k*1+1<=10)) (cj (show setR (bpC W w m) (3+k*1) [aI 1]=bpC W w (m.set k 1) from bs1 W w m k 1 hk) (cj (bi k (4:Nat)) (cj (Bp W w m k hk) (cj (e1 1 1) (cj (i6 (m.p+W)) (cj hc (cj (bi k (4:Nat)) (cj (Bp W w m k hk) (cj (e0 1 2) (cj (bi k (4:Nat)) (cj (pv ((3:Nat)+k*1+1<=10)) (cj (show setR (bpC W w (m.set k 1)) (3+k*1) [aI 0]=bpC W w (m.set k 0) from bs2 W w m k 1 hk) (cj (i6 (k+1)) (xm W w l m k (cj (show m.p=(M1.set m k (0:Int)).p from M1.sp) (cj (show m.s=(M1.set m k (0:Int)).s from M1.ss) (cj (rf ((k:Int)+1)) trivial)))))))))))))))))))))))))))
theorem xH(W:Int)(w:Int)(m:M1)(k:Nat)(hk:k<4):d9 Try.prog 3 (bpC W w (m.set k 2)) (3+k*1)=some (aI 2):=bs3 W w m k 2 hk
theorem F1(W w:Int)(l:List Int)(m:M1)(k:Nat)(hk:k<4)(hW:1<=W∧W<=2)(hp:0<=m.p∧m.p<=2)(hs:0<=m.s∧m.s<=2)(hq:bits .and .i64 (Int.fdiv (kN l 1) (2^shK k)) 3=((3:Nat):Int))(hc:decide (m.s+W<=2)=true):Vc (vC_ 11 0 (mk1 W w l m k) [.bd true,dp l,.iy 3,.iz,.sv (bpC W w (m.set k 2)),.iz,.lv (aI 2),.bd false,.iz,.lv (aI 2),.bd true,.bd true] .nrm [(0,0),(1,1),(2,2)] (mk1 W w l ((m.set k 2).up (m.set k 2).p (m.s+W)) (k+1))):=ai (cj (dt ((k:Int)<4)) (dD l (cj (kC l 1 (by omega)) (cj (i6 (2*k)) (cj (show(0:Int)<=IntKind.wrap IntKind.u64 ((2:Int)*(k:Int)) from by rw[IntKind.wrap_u64];omega) (cj hq (cj (bi (3:Nat) (4:Nat)) (cj (pv ((3:Nat)<4)) (cj (bi k (4:Nat)) (cj (pv ((3:Nat)+k*1+1<=10)) (cj (show setR (bpC W w m) (3+k*1) [aI 2]=bpC W w (m.set k 2) from bs1 W w m k 2 hk) (cj (bi k (4:Nat)) (cj (xH W w m k hk) (cj (e0 2 1) (cj (bi k (4:Nat)) (cj (xH W w m k hk) (cj (e1 2 2) (cj (i6 (m.s+W)) (cj hc (cj (i6 (m.s+W)) (cj (i6 (k+1)) (EF W w l (cj (rf ((M1.set m k (2:Int)).r0)) (cj (rf ((M1.set m k (2:Int)).r1)) (cj (rf ((M1.set m k (2:Int)).r2)) (cj (rf ((M1.set m k (2:Int)).r3)) (cj (show m.p=(M1.set m k (2:Int)).p from M1.sp) (cj (rf (m.s+W)) (cj (rf ((k:Int)+1)) trivial)))))))))))))))))))))))))))))
theorem F2(W w:Int)(l:List Int)(m:M1)(k:Nat)(hk:k<4)(hW:1<=W∧W<=2)(hp:0<=m.p∧m.p<=2)(hs:0<=m.s∧m.s<=2)(hq:bits .and .i64 (Int.fdiv (kN l 1) (2^shK k)) 3=((3:Nat):Int))(hc:decide (m.s+W<=2)=false):Vc (vC_ 11 0 (mk1 W w l m k) [.bd true,dp l,.iy 3,.iz,.sv (bpC W w (m.set k 2)),.iz,.lv (aI 2),.bd false,.iz,.lv (aI 2),.bd true,.bd false,.iz,.sv (bpC W w (m.set k 0))] .nrm [(0,0),(1,1),(2,2)] (mk1 W w l (m.set k 0) (k+1))):=ai (cj (dt ((k:Int)<4)) (dD l (cj (kC l 1 (by omega)) (cj (i6 (2*k)) (cj (show(0:Int)<=IntKind.wrap IntKind.u64 ((2:Int)*(k:Int)) from by rw[IntKind.wrap_u64];omega) (cj hq (cj (bi (3:Nat) (4:Nat)) (cj (pv ((3:Nat)<4)) (cj (bi k (4:Nat)) (cj (pv ((3:Nat)+k*1+1<=10)) (cj (show setR (bpC W w m) (3+k*1) [aI 2]=bpC W w (m.set k 2) from bs1 W w m k 2 hk) (cj (bi k (4:Nat)) (cj (xH W w m k hk) (cj (e0 2 1) (cj (bi k (4:Nat)) (cj (xH W w m k hk) (cj (e1 2 2) (cj (i6 (m.s+W)) (cj hc (cj (bi k (4:Nat)) (cj (pv ((3:Nat)+k*1+1<=10)) (cj (show setR (bpC W w (m.set k 2)) (3+k*1) [aI 0]=bpC W w (m.set k 0) from bs2 W w m k 2 hk) (cj (i6 (k+1)) (xm W w l m k (cj (show m.p=(M1.set m k (0:Int)).p from M1.sp) (cj (show m.s=(M1.set m k (0:Int)).s from M1.ss) (cj (rf ((k:Int)+1)) trivial)))))))))))))))))))))))))))
theorem uw(W:Int)(w:Int)(l:List Int)(m:M1){Z:Prop}(z:Z):(RF l.length (RR l.length 1 (fun i j=>aI (l.getD i 0)) (RF W (RF w (RF (6:Int) (RF m.r0 (RF m.r1 (RF m.r2 (RF m.r3 Z))))))))):=⟨rfl,fun _ _ _ _=>rfl,rfl,rfl,rfl,rfl,rfl,rfl,rfl,z⟩
theorem CC(W w:Int)(l:List Int)(m:M1):Vc (vC_ 11 0 (mk1 W w l m 4) [.b false] (.ext 0) [(0,0),(1,1),(2,2)] (mk1 W w l m 4)):=ai (cj (df (((4:Nat):Int)<4)) (uw W w l m (cj (rf m.p) (cj (rf m.s) (cj (rf ((4:Nat):Int)) trivial)))))
theorem vE{W:Int}{q k:Nat}{m:M1}(hW:1<=W∧W<=2)(hp:0<=m.p∧m.p<=2)(hs:0<=m.s∧m.s<=2):(0<=(jq W q k m).p∧(jq W q k m).p<=2)∧(0<=(jq W q k m).s∧(jq W q k m).s<=2):=by
 have h1: ∀v,(m.set k v).p=m.p∧(m.set k v).s=m.s:=fun v=>by unfold M1.set;split<;>exact⟨rfl,rfl⟩
 have e0:=h1 0
 have e1:=h1 1
 have e2:=h1 2
 unfold jq
 repeat' split
 all_goals simp only[e0.1,e0.2,e1.1,e1.2,e2.1,e2.2]
 all_goals omega
theorem vO{W:Int}(hW:1<=W∧W<=2)(l:List Int)(k:Nat):(0<=(mK W l k).p∧(mK W l k).p<=2)∧(0<=(mK W l k).s∧(mK W l k).s<=2):=by
 induction k with
 |zero=>exact⟨⟨by show(0:Int)<=0;omega,by show(0:Int)<=2;omega⟩,⟨by show(0:Int)<=0;omega,by show(0:Int)<=2;omega⟩⟩
 |succ k ih=>exact vE hW ih.1 ih.2
theorem Bd: ∀{k:Nat},k<4->shK k=2*k
 |0,_=>rfl
 |1,_=>rfl
 |2,_=>rfl
 |3,_=>rfl
theorem F0(l:List Int)(k:Nat):mq l k<4∧bits .and .i64 (Int.fdiv (kN l 1) (2^(2*k))) 3=((mq l k:Nat):Int):=by
 obtain⟨q,h1,h2⟩:=qp (Int.fdiv (kN l 1) (2^(2*k)))
 unfold mq
 rw[h2]
 exact⟨by omega,by simp⟩
theorem dL(W w:Int)(l:List Int)(hW:1<=W∧W<=2):oL_ 11 0 (mk1 W w l ⟨0,0,0,0,0,0⟩ 0).st (.ext 0) (mk1 W w l (mK W l 4) 4).st:=
 Ok.loop (P:=Try.prog) (nt:=cJ Try.prog 11) (c:=lpC Try.prog 11 0) (F:=fun k=>mk1 W w l (mK W l k) k) (m:=4) (x:= .ext 0) (J:=mk1 W w l (mK W l 4) 4) (fun k hk=>by
  obtain⟨hq4,hq⟩:=F0 l k
  obtain⟨hp,hs⟩:=vO hW l k
  rw[<-Bd hk] at hq
  show Ok _ _ _ _ _ (mk1 W w l (jq W (mq l k) k (mK W l k)) (k+1)).st
  match mq l k,hq4,hq with
  |0,_,hq=>exact Ok.vc (It W w l _ k hk hW hp hs hq)
  |1,_,hq=>exact Ok.vc (Is W w l _ k hk hW hp hs hq)
  |2,_,hq=>
   unfold jq
   rw[ao rfl]
   by_cases hc:(mK W l k).p+W<=2
   ·rw[ao hc];exact Ok.vc (F3 W w l _ k hk hW hp hs hq (cE hc))
   ·rw[an hc];exact Ok.vc (F4 W w l _ k hk hW hp hs hq (cN hc))
  |3,_,hq=>
   unfold jq
   rw[an (by omega),ao rfl]
   by_cases hc:(mK W l k).s+W<=2
   ·rw[ao hc];exact Ok.vc (F1 W w l _ k hk hW hp hs hq (cE hc))
   ·rw[an hc];exact Ok.vc (F2 W w l _ k hk hW hp hs hq (cN hc))) (Ok.vc (CC W w l _)) (by simp)
theorem f9(l:List Int)(n:Nat): ∀k,(inL l n k).length=k
 |0=>rfl
 |k+1=>by simp[inL,f9 l n k]
theorem ic: ∀k,(lbL k).length=k
 |0=>rfl
 |k+1=>by simp[lbL,ic k]
theorem G8(k:Nat)(hk:k<6):(⟨#[108]⟩:ByteArray).size+(dgS k).size<=9223372036854775807:=match k,hk with
 |0,_=>by decide
 |1,_=>by decide
 |2,_=>by decide
 |3,_=>by decide
 |4,_=>by decide
 |5,_=>by decide
theorem yq(W w:Int)(l:List Int)(m:M1)(ms:List Mm)(n:Nat)(k:Nat)(hn:n<6)(hk:k<=n):Vc (vC_ 11 1 (mk2 W w l m ms n k) [.b true,.cl [aI k] (.str (dgS k)) []] .nrm [(0,0),(1,1),(2,2),(3,3),(4,4)] (mk2 W w l m ms n (k+1))):=ai (cj (dt ((k:Int)<=n)) (cj (rf (k:Int)) (cj (Jk k (by omega)) (cj (show(1:Nat)+ByteArray.size (dgS k)<=9223372036854775807 from(G8 k (by omega))) (cj (show(0:Nat)=0∧(lbL k).length=(lbL k).length∧((lbL k).length+1)*24<=140737488355328∧(lbL k).length+1<=140737488355328 from by rw[ic];omega) (cj (i6 (k+1)) (uw W w l m (cj (rf (0:Nat)) (cj (rf ms.length) (cj (rf (0:Nat)) (cj (show(lbL k).length+1=(lbL (k+1)).length from by rw[ic,ic]) (cj (rf ms.length) (cj (rr ms.length 3 fun i j=>al mmC ms i j) (cj (show(lbL k).length+1=(lbL (k+1)).length from by rw[ic,ic]) (cj (show ∀(i:Nat),i<(lbL k).length+1-> ∀(j:Nat),j<2->(bif Nat.blt i (lbL k).length then al lbC (lbL k) i j else List.getD [AV.str (ByteArray.mk (Array.mk [(108:UInt8)])++dgS k),aI k] ((i-(lbL k).length+0)*2+j) AV.junk)=al lbC (lbL (k+1)) i j from(fun i hi j hj=>(show _=al lbC (lbL k++[lbN k]) i j from dv (fun h=>(bV h).symm) (fun h=>by obtain rfl:i=_:=bG (bF.mp hi) (bD.mp h);rw[b6,bH];match j,hj with |0,_=>rfl |1,_=>rfl)))) (cj (rf (n:Int)) (cj (rf ((k:Int)+1)) trivial)))))))))))))))))
theorem CB(W w:Int)(l:List Int)(m:M1)(ms:List Mm)(n:Nat)(hn:n<6):Vc (vC_ 11 1 (mk2 W w l m ms n (n+1)) [.b false] (.ext 3) [(0,0),(1,1),(2,2),(3,3),(4,4)] (mk2 W w l m ms n (n+1))):=ai (cj (df ((↑(n+1):Int)<=(n:Int))) (uw W w l m (cj (rf (0:Nat)) (cj (rf ms.length) (cj (rf (0:Nat)) (cj (rf ((lbL (n+1)).length)) (cj (rf ms.length) (cj (rr ms.length 3 fun i j=>al mmC ms i j) (cj (rf ((lbL (n+1)).length)) (cj (rr ((lbL (n+1)).length) 2 fun i j=>al lbC (lbL (n+1)) i j) (cj (rf (n:Int)) (cj (rf (↑(n+1):Int)) trivial))))))))))))
theorem yp(W w:Int)(l:List Int)(m:M1)(ms:List Mm)(n:Nat)(k:Nat)(hn:n<6)(hk:k<n):Vc (vC_ 11 2 (mk3 W w l m ms n k) [.b true,.cl [aI (k+2:Nat),tH l] (aI (kN l (k+2))) [],.cl [aI (kN l (k+2)), aI n] (.agg (inA (gT (kN l (k+2)) n))) []] .nrm [(0,0),(1,1),(2,2),(3,3),(4,4),(5,5)] (mk3 W w l m ms n (k+1))):=ai (cj (dt ((k:Int)<n)) (cj (i6 (k+2)) (cj (rf ((k:Int)+2)) (cj (rf l.length) (cj (rr l.length 1 fun i j=>aI (l.getD i 0)) (cj (kC l (k+2) (by omega)) (cj (rf (kN l (k+2))) (cj (rf (n:Int)) (cj (F9 (kN l (k+2)) n (by omega)) (cj (show(0:Nat)=0∧(inL l n k).length=(inL l n k).length∧((inL l n k).length+1)*80<=140737488355328∧(inL l n k).length+1<=140737488355328 from by rw[f9];omega) (cj (i6 (k+1)) (uw W w l m (cj (rf (0:Nat)) (cj (rf ms.length) (cj (rf (0:Nat)) (cj (rf ((lbL (n+1)).length)) (cj (rf (0:Nat)) (cj (show(inL l n k).length+1=(inL l n (k+1)).length from by rw[f9,f9]) (cj (rf ms.length) (cj (rr ms.length 3 fun i j=>al mmC ms i j) (cj (rf ((lbL (n+1)).length)) (cj (rr ((lbL (n+1)).length) 2 fun i j=>al lbC (lbL (n+1)) i j) (cj (show(inL l n k).length+1=(inL l n (k+1)).length from by rw[f9,f9]) (cj (show ∀(i:Nat),i<(inL l n k).length+1-> ∀(j:Nat),j<9->(bif Nat.blt i (inL l n k).length then al inC (inL l n k) i j else List.getD [aI ((gT (kN l (k+2)) n).kind),aI ((gT (kN l (k+2)) n).op),aI ((gT (kN l (k+2)) n).d),AV.bool (((gT (kN l (k+2)) n).a).reg),aI (((gT (kN l (k+2)) n).a).n),AV.bool (((gT (kN l (k+2)) n).b).reg),aI (((gT (kN l (k+2)) n).b).n),AV.str ((gT (kN l (k+2)) n).nm),aI ((gT (kN l (k+2)) n).tg)] ((i-(inL l n k).length+0)*9+j) AV.junk)=al inC (inL l n (k+1)) i j from(fun i hi j hj=>(show _=al inC (inL l n k++[gT (kN l (k+2)) n]) i j from dv (fun h=>(bV h).symm) (fun h=>by obtain rfl:i=_:=bG (bF.mp hi) (bD.mp h);rw[b6,bH];match j,hj with |0,_=>rfl |1,_=>rfl |2,_=>rfl |3,_=>rfl |4,_=>rfl |5,_=>rfl |6,_=>rfl |7,_=>rfl |8,_=>rfl)))) (cj (rf (n:Int)) (cj (rf ((k:Int)+1)) trivial))))))))))))))))))))))))))
theorem CA(W w:Int)(l:List Int)(m:M1)(ms:List Mm)(n:Nat)(hn:n<6):Vc (vC_ 11 2 (mk3 W w l m ms n n) [.b false] (.ext 5) [(0,0),(1,1),(2,2),(3,3),(4,4),(5,5)] (mk3 W w l m ms n n)):=ai (cj (df ((n:Int)<n)) (uw W w l m (cj (rf (0:Nat)) (cj (rf ms.length) (cj (rf (0:Nat)) (cj (rf ((lbL (n+1)).length)) (cj (rf (0:Nat)) (cj (rf ((inL l n n).length)) (cj (rf ms.length) (cj (rr ms.length 3 fun i j=>al mmC ms i j) (cj (rf ((lbL (n+1)).length)) (cj (rr ((lbL (n+1)).length) 2 fun i j=>al lbC (lbL (n+1)) i j) (cj (rf ((inL l n n).length)) (cj (rr ((inL l n n).length) 9 fun i j=>al inC (inL l n n) i j) (cj (rf (n:Int)) (cj (rf (n:Int)) trivial))))))))))))))))
theorem dK(W w:Int)(l:List Int)(m:M1)(ms:List Mm)(n:Nat)(hn:n<6):oL_ 11 1 (mk2 W w l m ms n 0).st (.ext 3) (mk2 W w l m ms n (n+1)).st:=
 Ok.loop (P:=Try.prog) (nt:=cJ Try.prog 11) (c:=lpC Try.prog 11 1) (F:=fun k=>mk2 W w l m ms n k) (m:=n+1) (x:= .ext 3) (J:=mk2 W w l m ms n (n+1)) (fun k hk=>Ok.vc (yq W w l m ms n k hn (by omega))) (Ok.vc (CB W w l m ms n hn)) (by simp)
theorem dJ(W w:Int)(l:List Int)(m:M1)(ms:List Mm)(n:Nat)(hn:n<6):oL_ 11 2 (mk3 W w l m ms n 0).st (.ext 5) (mk3 W w l m ms n n).st:=
 Ok.loop (P:=Try.prog) (nt:=cJ Try.prog 11) (c:=lpC Try.prog 11 2) (F:=fun k=>mk3 W w l m ms n k) (m:=n) (x:= .ext 5) (J:=mk3 W w l m ms n n) (fun k hk=>Ok.vc (yp W w l m ms n k hn hk)) (Ok.vc (CA W w l m ms n hn)) (by simp)
def mm1:Mm:=⟨⟨#[109]⟩,false,1⟩
def mm2:Mm:=⟨⟨#[109]⟩,false,2⟩
def ms1:Mm:=⟨⟨#[115]⟩,true,1⟩
theorem kU(W:Int)(l:List Int)(n:Nat)(hW1:bits .and .i64 (kN l 0) 1+1=W)(hW:1<=W∧W<=2)(hn1:bits .and .i64 (Int.fdiv (kN l 0) (2^12)) 3+2=(n:Int))(hn:n<6):inK IntKind.i64 (Go.bits Go.BinOp.and IntKind.i64 (kN l (0:Nat)) (1:Int)+1):=by rw[hW1];exact eS (by omega) (by omega)
theorem kT(W:Int)(l:List Int)(n:Nat)(hW1:bits .and .i64 (kN l 0) 1+1=W)(hW:1<=W∧W<=2)(hn1:bits .and .i64 (Int.fdiv (kN l 0) (2^12)) 3+2=(n:Int))(hn:n<6):inK IntKind.i64 (Int.tmod (Go.bits Go.BinOp.and IntKind.i64 (Int.fdiv (kN l (0:Nat)) ((2:Int)^(1:Nat))) (255:Int)) (3:Int)+1):=(sC _ _ (by omega) (by omega))
theorem Bo(W:Int)(l:List Int)(hW1:bits .and .i64 (kN l 0) 1+1=W)(c1f:(decide (bits .and .i64 (Int.fdiv (kN l 1) (2^8)) 3>0))=false):decide (Go.bits Go.BinOp.and IntKind.i64 (Int.fdiv (kN l (1:Nat)) ((2:Int)^(8:Nat))) (3:Int)>0)=false:=by first |exact c1f | (rw[hW1];exact c1f)| (simpa [hW1] using c1f)
theorem eJ(W:Int)(l:List Int)(hW1:bits .and .i64 (kN l 0) 1+1=W)(c4f:(decide (bits .and .i64 (Int.fdiv (kN l 1) (2^12)) 3>0))=false):decide (Go.bits Go.BinOp.and IntKind.i64 (Int.fdiv (kN l (1:Nat)) ((2:Int)^(12:Nat))) (3:Int)>0)=false:=by first |exact c4f | (rw[hW1];exact c4f)| (simpa [hW1] using c4f)
theorem kR(W:Int)(l:List Int)(n:Nat)(hW1:bits .and .i64 (kN l 0) 1+1=W)(hW:1<=W∧W<=2)(hn1:bits .and .i64 (Int.fdiv (kN l 0) (2^12)) 3+2=(n:Int))(hn:n<6):inK IntKind.i64 (Go.bits Go.BinOp.and IntKind.i64 (Int.fdiv (kN l (0:Nat)) ((2:Int)^(12:Nat))) (3:Int)+2):=by rw[hn1];exact eS (by omega) (by omega)
theorem EE(W:Int)(l:List Int)(n:Nat){Z:Prop}(z:Z):(RF ((mK W l (4:Nat)).r0) (RF ((mK W l (4:Nat)).r1) (RF ((mK W l (4:Nat)).r2) (RF ((mK W l (4:Nat)).r3) (RF (0:Nat) (RF (0:Nat) (RF (0:Nat) (RF ((lbL (n+1)).length) (RF (0:Nat) Z))))))))):=⟨rfl,rfl,rfl,rfl,rfl,rfl,rfl,rfl,rfl,z⟩
theorem ED(W:Int)(l:List Int)(n:Nat){Z:Prop}(z:Z):(RF (0:Nat) (RR 0 3 (fun i j=>al mmC [] i j) (RF ((lbL (n+1)).length) (RR ((lbL (n+1)).length) 2 (fun i j=>al lbC (lbL (n+1)) i j) (RF ((inL l n n).length) (RR ((inL l n n).length) 9 (fun i j=>al inC (inL l n n) i j) (RF W (RF (aU l) (RF (6:Int) Z))))))))):=⟨rfl,fun _ _ _ _=>rfl,rfl,fun _ _ _ _=>rfl,rfl,fun _ _ _ _=>rfl,rfl,rfl,rfl,z⟩
theorem kP(n:Nat){Z:Prop}(z:Z):(RR ((lbL (n+1)).length) 2 (fun i j=>al lbC (lbL (n+1)) i j) (RF (0:Nat) (RF (n:Int) (RF (0:Int) Z)))):=⟨fun _ _ _ _=>rfl,rfl,rfl,rfl,z⟩
theorem EC(n:Nat){Z:Prop}(z:Z):(RF (0:Nat) (RF (0:Nat) (RF (0:Nat) (RF ((lbL (n+1)).length) (RF (0:Nat) (RF (0:Nat) (RF (0:Nat) (RR 0 3 (fun i j=>al mmC [] i j) (RF ((lbL (n+1)).length) Z))))))))):=⟨rfl,rfl,rfl,rfl,rfl,rfl,rfl,fun _ _ _ _=>rfl,rfl,z⟩
theorem eI(W:Int)(l:List Int){Z:Prop}(z:Z):(RF l.length (RR l.length 1 (fun i j=>aI (l.getD i 0)) (RF W (RF (aU l) (RF (6:Int) (RF ((mK W l (4:Nat)).r0) (RF ((mK W l (4:Nat)).r1) (RF ((mK W l (4:Nat)).r2) (RF ((mK W l (4:Nat)).r3) Z))))))))):=⟨rfl,fun _ _ _ _=>rfl,rfl,rfl,rfl,rfl,rfl,rfl,rfl,z⟩
theorem EB{Z:Prop}(z:Z):(RF (0:Nat) (RF (0:Nat) (RF (0:Nat) (RF (0:Nat) (RF (0:Nat) (RF (0:Nat) Z)))))):=⟨rfl,rfl,rfl,rfl,rfl,rfl,z⟩
theorem cd(l:List Int){Z:Prop}(z:Z):(RF (0:Int) (RF l.length (RR l.length 1 (fun i j=>aI (l.getD i 0)) Z))):=⟨rfl,rfl,fun _ _ _ _=>rfl,z⟩
theorem gl(l:List Int){Z:Prop}(z:Z):(RF (aU l) (RF (6:Int) (RF (0:Int) (RF (0:Int) (RF (0:Int) (RF (0:Int) (RF (0:Int) (RF (0:Int) (RF (0:Int) Z))))))))):=⟨rfl,rfl,rfl,rfl,rfl,rfl,rfl,rfl,rfl,z⟩
abbrev dm(l:List Int):Orc:= .cl [aI (0:Nat),tH l] (aI (kN l 0)) []
theorem Cu(W:Int)(l:List Int)(n:Nat)(hW1:bits .and .i64 (kN l 0) 1+1=W)(hW:1<=W∧W<=2)(hn1:bits .and .i64 (Int.fdiv (kN l 0) (2^12)) 3+2=(n:Int))(hn:n<6)(c1f:(decide (bits .and .i64 (Int.fdiv (kN l 1) (2^8)) 3>0))=false)(c4f:(decide (bits .and .i64 (Int.fdiv (kN l 1) (2^12)) 3>0))=false):Vc (vF_ 11 [.row 1 l.length (dd l)] [dm l,dm l,.lp [(0,0),(1,1),(2,2)] (mk1 W (aU l) l ⟨0,0,0,0,0,0⟩ 0) (.ext 0) (mk1 W (aU l) l (mK W l 4) 4),dp l,.b false,dp l,.b false,.b false,.b false,.b false,.b false,.b false,dm l,.lp [(0,0),(1,1),(2,2)] (mk2 W (aU l) l (mK W l 4) ([]:List Mm) n 0) (.ext 3) (mk2 W (aU l) l (mK W l 4) ([]:List Mm) n (n+1)),.lp [(0,0),(1,1),(2,2),(3,3),(4,4)] (mk3 W (aU l) l (mK W l 4) ([]:List Mm) n 0) (.ext 5) (mk3 W (aU l) l (mK W l 4) ([]:List Mm) n n)] [(0,3),(1,4),(2,5)] (.agg [aI W, aI (aU l), aI 6, aI (mK W l 4).r0, aI (mK W l 4).r1, aI (mK W l 4).r2, aI (mK W l 4).r3,.own 0 0 3 0 ([]:List Mm).length,.own 1 0 2 0 (lbL (n+1)).length,.own 2 0 9 0 (inL l n n).length]) [mmB ([]:List Mm),lbB (lbL (n+1)),inB (inL l n n)]):=ai (cd l (cj (kC l 0 (by omega)) (cj (kU W l n hW1 hW hn1 hn) (cd l (cj (kC l 0 (by omega)) (cj (pv ((0:Int)<=1)) (cj (pv ((3:Int)≠0)) (cj (kT W l n hW1 hW hn1 hn) (cj (rf l.length) (cj (rr l.length 1 fun i j=>aI (l.getD i 0)) (cj hW1 (gl l (cj (dL W (aU l) l hW) (dD l (cj (kC l 1 (by omega)) (cj (pv ((0:Int)<=8)) (cj (Bo W l hW1 c1f) (dD l (cj (kC l 1 (by omega)) (cj (pv ((0:Int)<=12)) (cj (eJ W l hW1 c4f) (cj (eJ W l hW1 c4f) (cj (eJ W l hW1 c4f) (cj (eJ W l hW1 c4f) (cj (eJ W l hW1 c4f) (cj (eJ W l hW1 c4f) (cd l (cj (kC l 0 (by omega)) (cj (pv ((0:Int)<=12)) (cj (kR W l n hW1 hW hn1 hn) (eI W l (EB (cj hn1 (cj (rf (0:Int)) (cj (dK W (aU l) l (mK W l 4) ([]:List Mm) n hn) (eI W l (EC n (kP n (cj (dJ W (aU l) l (mK W l 4) ([]:List Mm) n hn) (ED W l n (EE W l n (cj (rf ((inL l n n).length)) trivial))))))))))))))))))))))))))))))))))))))))))
theorem cw(W:Int)(l:List Int)(hW1:bits .and .i64 (kN l 0) 1+1=W)(c4t:(decide (bits .and .i64 (Int.fdiv (kN l 1) (2^12)) 3>0))=true):decide (Go.bits Go.BinOp.and IntKind.i64 (Int.fdiv (kN l (1:Nat)) ((2:Int)^(12:Nat))) (3:Int)>0)=true:=by first |exact c4t | (rw[hW1];exact c4t)| (simpa [hW1] using c4t)
theorem po(W:Int)(l:List Int)(n:Nat)(hW1:bits .and .i64 (kN l 0) 1+1=W)(hW:1<=W∧W<=2)(hn1:bits .and .i64 (Int.fdiv (kN l 0) (2^12)) 3+2=(n:Int))(hn:n<6):inK IntKind.i64 ((mK W l (4:Nat)).s+W):=(eS (by have:=(vO hW l 4).2;omega) (by have:=(vO hW l 4).2;omega))
theorem cP(W:Int)(l:List Int)(hW1:bits .and .i64 (kN l 0) 1+1=W)(c5f:(decide ((mK W l 4).s+W<=3))=false):decide ((mK W l (4:Nat)).s+W<=3)=false:=by first |exact c5f | (rw[hW1];exact c5f)| (simpa [hW1] using c5f)
theorem yo(W:Int)(l:List Int)(n:Nat)(hW1:bits .and .i64 (kN l 0) 1+1=W)(hW:1<=W∧W<=2)(hn1:bits .and .i64 (Int.fdiv (kN l 0) (2^12)) 3+2=(n:Int))(hn:n<6)(c1f:(decide (bits .and .i64 (Int.fdiv (kN l 1) (2^8)) 3>0))=false)(c4t:(decide (bits .and .i64 (Int.fdiv (kN l 1) (2^12)) 3>0))=true)(c5f:(decide ((mK W l 4).s+W<=3))=false):Vc (vF_ 11 [.row 1 l.length (dd l)] [dm l,dm l,.lp [(0,0),(1,1),(2,2)] (mk1 W (aU l) l ⟨0,0,0,0,0,0⟩ 0) (.ext 0) (mk1 W (aU l) l (mK W l 4) 4),dp l,.b false,dp l,.b true,.b true,.b true,.b true,.b true,.b true,.b false,.b false,.b false,.b false,.b false,.b false,.b false,dm l,.lp [(0,0),(1,1),(2,2)] (mk2 W (aU l) l (mK W l 4) ([]:List Mm) n 0) (.ext 3) (mk2 W (aU l) l (mK W l 4) ([]:List Mm) n (n+1)),.lp [(0,0),(1,1),(2,2),(3,3),(4,4)] (mk3 W (aU l) l (mK W l 4) ([]:List Mm) n 0) (.ext 5) (mk3 W (aU l) l (mK W l 4) ([]:List Mm) n n)] [(0,3),(1,4),(2,5)] (.agg [aI W, aI (aU l), aI 6, aI (mK W l 4).r0, aI (mK W l 4).r1, aI (mK W l 4).r2, aI (mK W l 4).r3,.own 0 0 3 0 ([]:List Mm).length,.own 1 0 2 0 (lbL (n+1)).length,.own 2 0 9 0 (inL l n n).length]) [mmB ([]:List Mm),lbB (lbL (n+1)),inB (inL l n n)]):=ai (cd l (cj (kC l 0 (by omega)) (cj (kU W l n hW1 hW hn1 hn) (cd l (cj (kC l 0 (by omega)) (cj (pv ((0:Int)<=1)) (cj (pv ((3:Int)≠0)) (cj (kT W l n hW1 hW hn1 hn) (cj (rf l.length) (cj (rr l.length 1 fun i j=>aI (l.getD i 0)) (cj hW1 (gl l (cj (dL W (aU l) l hW) (dD l (cj (kC l 1 (by omega)) (cj (pv ((0:Int)<=8)) (cj (Bo W l hW1 c1f) (dD l (cj (kC l 1 (by omega)) (cj (pv ((0:Int)<=12)) (cj (cw W l hW1 c4t) (cj (cw W l hW1 c4t) (cj (cw W l hW1 c4t) (cj (cw W l hW1 c4t) (cj (po W l n hW1 hW hn1 hn) (cj (cw W l hW1 c4t) (cj (cw W l hW1 c4t) (cj (cP W l hW1 c5f) (cj (cP W l hW1 c5f) (cj (cP W l hW1 c5f) (cj (cP W l hW1 c5f) (cj (cP W l hW1 c5f) (cj (cP W l hW1 c5f) (cj (cP W l hW1 c5f) (cd l (cj (kC l 0 (by omega)) (cj (pv ((0:Int)<=12)) (cj (kR W l n hW1 hW hn1 hn) (eI W l (EB (cj hn1 (cj (rf (0:Int)) (cj (dK W (aU l) l (mK W l 4) ([]:List Mm) n hn) (eI W l (EC n (kP n (cj (dJ W (aU l) l (mK W l 4) ([]:List Mm) n hn) (ED W l n (EE W l n (cj (rf ((inL l n n).length)) trivial))))))))))))))))))))))))))))))))))))))))))))))))))
theorem cO(W:Int)(l:List Int)(hW1:bits .and .i64 (kN l 0) 1+1=W)(c5t:(decide ((mK W l 4).s+W<=3))=true):decide ((mK W l (4:Nat)).s+W<=3)=true:=by first |exact c5t | (rw[hW1];exact c5t)| (simpa [hW1] using c5t)
theorem kr(W:Int)(l:List Int)(n:Nat){Z:Prop}(z:Z):(RF ((mK W l (4:Nat)).r0) (RF ((mK W l (4:Nat)).r1) (RF ((mK W l (4:Nat)).r2) (RF ((mK W l (4:Nat)).r3) (RF (0:Nat) (RF (1:Nat) (RF (0:Nat) (RF ((lbL (n+1)).length) (RF (0:Nat) Z))))))))):=⟨rfl,rfl,rfl,rfl,rfl,rfl,rfl,rfl,rfl,z⟩
theorem kq{Z:Prop}(z:Z):(RF (0:Nat) (RF (1:Nat) (RF (0:Nat) (RF (0:Nat) (RF (1:Nat) Z))))):=⟨rfl,rfl,rfl,rfl,rfl,z⟩
theorem yn(W:Int)(l:List Int)(n:Nat)(hW1:bits .and .i64 (kN l 0) 1+1=W)(hW:1<=W∧W<=2)(hn1:bits .and .i64 (Int.fdiv (kN l 0) (2^12)) 3+2=(n:Int))(hn:n<6)(c1f:(decide (bits .and .i64 (Int.fdiv (kN l 1) (2^8)) 3>0))=false)(c4t:(decide (bits .and .i64 (Int.fdiv (kN l 1) (2^12)) 3>0))=true)(c5t:(decide ((mK W l 4).s+W<=3))=true):Vc (vF_ 11 [.row 1 l.length (dd l)] [dm l,dm l,.lp [(0,0),(1,1),(2,2)] (mk1 W (aU l) l ⟨0,0,0,0,0,0⟩ 0) (.ext 0) (mk1 W (aU l) l (mK W l 4) 4),dp l,.b false,dp l,.b true,.b true,.b true,.b true,.b true,.b true,.b true,.b true,.b true,.b true,.b true,.b true,.b true,.b true,.b true,.b true,.b true,.b true,.b true,.b true,dm l,.lp [(0,0),(1,1),(2,2),(3,4)] (mk2 W (aU l) l (mK W l 4) ([ms1]:List Mm) n 0) (.ext 3) (mk2 W (aU l) l (mK W l 4) ([ms1]:List Mm) n (n+1)),.lp [(0,0),(1,1),(2,2),(3,3),(4,4)] (mk3 W (aU l) l (mK W l 4) ([ms1]:List Mm) n 0) (.ext 5) (mk3 W (aU l) l (mK W l 4) ([ms1]:List Mm) n n)] [(0,3),(1,4),(2,5)] (.agg [aI W, aI (aU l), aI 6, aI (mK W l 4).r0, aI (mK W l 4).r1, aI (mK W l 4).r2, aI (mK W l 4).r3,.own 0 0 3 0 ([ms1]:List Mm).length,.own 1 0 2 0 (lbL (n+1)).length,.own 2 0 9 0 (inL l n n).length]) [mmB ([ms1]:List Mm),lbB (lbL (n+1)),inB (inL l n n)]):=ai (cd l (cj (kC l 0 (by omega)) (cj (kU W l n hW1 hW hn1 hn) (cd l (cj (kC l 0 (by omega)) (cj (pv ((0:Int)<=1)) (cj (pv ((3:Int)≠0)) (cj (kT W l n hW1 hW hn1 hn) (cj (rf l.length) (cj (rr l.length 1 fun i j=>aI (l.getD i 0)) (cj hW1 (gl l (cj (dL W (aU l) l hW) (dD l (cj (kC l 1 (by omega)) (cj (pv ((0:Int)<=8)) (cj (Bo W l hW1 c1f) (dD l (cj (kC l 1 (by omega)) (cj (pv ((0:Int)<=12)) (cj (cw W l hW1 c4t) (cj (cw W l hW1 c4t) (cj (cw W l hW1 c4t) (cj (cw W l hW1 c4t) (cj (po W l n hW1 hW hn1 hn) (cj (cw W l hW1 c4t) (cj (cw W l hW1 c4t) (cj (cO W l hW1 c5t) (cj (cO W l hW1 c5t) (cj (cO W l hW1 c5t) (cj (cO W l hW1 c5t) (cj (cO W l hW1 c5t) (cj (e1 0 0) (cj (e1 0 0) (cj (e1 0 0) (cj (e1 0 0) (cj (e1 0 0) (cj (e1 0 0) (cj (cO W l hW1 c5t) (cj (e1 0 0) (cj (cO W l hW1 c5t) (cj (pv ((32:Nat)<=140737488355328∧(1:Nat)<=140737488355328)) (cd l (cj (kC l 0 (by omega)) (cj (pv ((0:Int)<=12)) (cj (kR W l n hW1 hW hn1 hn) (eI W l (kq (cj (show ∀(i:Nat),i<1-> ∀(j:Nat),j<3->List.getD [AV.str (ByteArray.mk (Array.mk [(115:UInt8)])),AV.bool true,aI 1] ((i+0)*3+j) AV.junk=al mmC [ms1] i j from(fun i hi j hj=>match i,hi,j,hj with |0,_,0,_=>rfl |0,_,1,_=>rfl |0,_,2,_=>rfl)) (cj (rf (0:Nat)) (cj hn1 (cj (rf (0:Int)) (cj (dK W (aU l) l (mK W l 4) ([ms1]:List Mm) n hn) (eI W l (cj (rf (0:Nat)) (cj (rf (1:Nat)) (cj (rf (0:Nat)) (cj (rf ((lbL (n+1)).length)) (cj (rf (0:Nat)) (cj (rf (0:Nat)) (cj (rf (1:Nat)) (cj (rr 1 3 fun i j=>al mmC [ms1] i j) (cj (rf ((lbL (n+1)).length)) (kP n (cj (dJ W (aU l) l (mK W l 4) ([ms1]:List Mm) n hn) (cj (rf (1:Nat)) (cj (rr 1 3 fun i j=>al mmC [ms1] i j) (cj (rf ((lbL (n+1)).length)) (cj (rr ((lbL (n+1)).length) 2 fun i j=>al lbC (lbL (n+1)) i j) (cj (rf ((inL l n n).length)) (cj (rr ((inL l n n).length) 9 fun i j=>al inC (inL l n n) i j) (cj (rf W) (cj (rf (aU l)) (cj (rf (6:Int)) (kr W l n (cj (rf ((inL l n n).length)) trivial))))))))))))))))))))))))))))))))))))))))))))))))))))))))))))))))))))))))))))
theorem jf(W:Int)(l:List Int)(hW1:bits .and .i64 (kN l 0) 1+1=W)(c1t:(decide (bits .and .i64 (Int.fdiv (kN l 1) (2^8)) 3>0))=true):decide (Go.bits Go.BinOp.and IntKind.i64 (Int.fdiv (kN l (1:Nat)) ((2:Int)^(8:Nat))) (3:Int)>0)=true:=by first |exact c1t | (rw[hW1];exact c1t)| (simpa [hW1] using c1t)
theorem eh(W:Int)(l:List Int)(hW1:bits .and .i64 (kN l 0) 1+1=W)(c2f:(W==1)=false):(W==(1:Int))=false:=by first |exact c2f | (rw[hW1];exact c2f)| (simpa [hW1] using c2f)
theorem rQ: ∀(i:Nat),i<1-> ∀(j:Nat),j<3->List.getD [AV.str (ByteArray.mk (Array.mk [(109:UInt8)])),AV.bool false,aI 1] ((i+0)*3+j) AV.junk=al mmC [mm1] i j:=(fun i hi j hj=>match i,hi,j,hj with |0,_,0,_=>rfl |0,_,1,_=>rfl |0,_,2,_=>rfl)
theorem rE(W:Int)(l:List Int)(n:Nat){Z:Prop}(z:Z):(RF (1:Nat) (RR 1 3 (fun i j=>al mmC [mm1] i j) (RF ((lbL (n+1)).length) (RR ((lbL (n+1)).length) 2 (fun i j=>al lbC (lbL (n+1)) i j) (RF ((inL l n n).length) (RR ((inL l n n).length) 9 (fun i j=>al inC (inL l n n) i j) (RF W (RF (aU l) (RF (6:Int) Z))))))))):=⟨rfl,fun _ _ _ _=>rfl,rfl,fun _ _ _ _=>rfl,rfl,fun _ _ _ _=>rfl,rfl,rfl,rfl,z⟩
theorem rD(n:Nat){Z:Prop}(z:Z):(RF (0:Nat) (RF (1:Nat) (RF (0:Nat) (RF ((lbL (n+1)).length) (RF (0:Nat) (RF (0:Nat) (RF (1:Nat) (RR 1 3 (fun i j=>al mmC [mm1] i j) (RF ((lbL (n+1)).length) Z))))))))):=⟨rfl,rfl,rfl,rfl,rfl,rfl,rfl,fun _ _ _ _=>rfl,rfl,z⟩
theorem uz(l:List Int){Z:Prop}(z:Z):(RF false (RF (1:Int) (RF l.length (RR l.length 1 (fun i j=>aI (l.getD i 0)) Z)))):=⟨rfl,rfl,rfl,fun _ _ _ _=>rfl,z⟩
theorem ym(W:Int)(l:List Int)(n:Nat)(hW1:bits .and .i64 (kN l 0) 1+1=W)(hW:1<=W∧W<=2)(hn1:bits .and .i64 (Int.fdiv (kN l 0) (2^12)) 3+2=(n:Int))(hn:n<6)(c1t:(decide (bits .and .i64 (Int.fdiv (kN l 1) (2^8)) 3>0))=true)(c2f:(W==1)=false)(c4f:(decide (bits .and .i64 (Int.fdiv (kN l 1) (2^12)) 3>0))=false):Vc (vF_ 11 [.row 1 l.length (dd l)] [dm l,dm l,.lp [(0,0),(1,1),(2,2)] (mk1 W (aU l) l ⟨0,0,0,0,0,0⟩ 0) (.ext 0) (mk1 W (aU l) l (mK W l 4) 4),dp l,.b true,.b false,.b false,.b false,.b false,.b false,.b false,.b false,dp l,.b false,.b false,.b false,.b false,.b false,.b false,dm l,.lp [(0,0),(1,1),(2,2),(3,4)] (mk2 W (aU l) l (mK W l 4) ([mm1]:List Mm) n 0) (.ext 3) (mk2 W (aU l) l (mK W l 4) ([mm1]:List Mm) n (n+1)),.lp [(0,0),(1,1),(2,2),(3,3),(4,4)] (mk3 W (aU l) l (mK W l 4) ([mm1]:List Mm) n 0) (.ext 5) (mk3 W (aU l) l (mK W l 4) ([mm1]:List Mm) n n)] [(0,3),(1,4),(2,5)] (.agg [aI W, aI (aU l), aI 6, aI (mK W l 4).r0, aI (mK W l 4).r1, aI (mK W l 4).r2, aI (mK W l 4).r3,.own 0 0 3 0 ([mm1]:List Mm).length,.own 1 0 2 0 (lbL (n+1)).length,.own 2 0 9 0 (inL l n n).length]) [mmB ([mm1]:List Mm),lbB (lbL (n+1)),inB (inL l n n)]):=ai (cd l (cj (kC l 0 (by omega)) (cj (kU W l n hW1 hW hn1 hn) (cd l (cj (kC l 0 (by omega)) (cj (pv ((0:Int)<=1)) (cj (pv ((3:Int)≠0)) (cj (kT W l n hW1 hW hn1 hn) (cj (rf l.length) (cj (rr l.length 1 fun i j=>aI (l.getD i 0)) (cj hW1 (gl l (cj (dL W (aU l) l hW) (dD l (cj (kC l 1 (by omega)) (cj (pv ((0:Int)<=8)) (cj (jf W l hW1 c1t) (cj (pv ((32:Nat)<=140737488355328∧(1:Nat)<=140737488355328)) (cj (eh W l hW1 c2f) (cj (eh W l hW1 c2f) (cj (eh W l hW1 c2f) (cj (eh W l hW1 c2f) (cj (eh W l hW1 c2f) (cj (eh W l hW1 c2f) (uz l (cj (kC l 1 (by omega)) (cj (pv ((0:Int)<=12)) (cj (eJ W l hW1 c4f) (cj (eJ W l hW1 c4f) (cj (eJ W l hW1 c4f) (cj (eJ W l hW1 c4f) (cj (eJ W l hW1 c4f) (cj (eJ W l hW1 c4f) (cd l (cj (kC l 0 (by omega)) (cj (pv ((0:Int)<=12)) (cj (kR W l n hW1 hW hn1 hn) (eI W l (kq (cj (rQ) (cj (rf (0:Nat)) (cj hn1 (cj (rf (0:Int)) (cj (dK W (aU l) l (mK W l 4) ([mm1]:List Mm) n hn) (eI W l (rD n (kP n (cj (dJ W (aU l) l (mK W l 4) ([mm1]:List Mm) n hn) (rE W l n (kr W l n (cj (rf ((inL l n n).length)) trivial)))))))))))))))))))))))))))))))))))))))))))))))))))
theorem vK(W:Int)(l:List Int)(n:Nat)(hW1:bits .and .i64 (kN l 0) 1+1=W)(hW:1<=W∧W<=2)(hn1:bits .and .i64 (Int.fdiv (kN l 0) (2^12)) 3+2=(n:Int))(hn:n<6)(c1t:(decide (bits .and .i64 (Int.fdiv (kN l 1) (2^8)) 3>0))=true)(c2f:(W==1)=false)(c4t:(decide (bits .and .i64 (Int.fdiv (kN l 1) (2^12)) 3>0))=true)(c5f:(decide ((mK W l 4).s+W<=3))=false):Vc (vF_ 11 [.row 1 l.length (dd l)] [dm l,dm l,.lp [(0,0),(1,1),(2,2)] (mk1 W (aU l) l ⟨0,0,0,0,0,0⟩ 0) (.ext 0) (mk1 W (aU l) l (mK W l 4) 4),dp l,.b true,.b false,.b false,.b false,.b false,.b false,.b false,.b false,dp l,.b true,.b true,.b true,.b true,.b true,.b true,.b false,.b false,.b false,.b false,.b false,.b false,.b false,dm l,.lp [(0,0),(1,1),(2,2),(3,4)] (mk2 W (aU l) l (mK W l 4) ([mm1]:List Mm) n 0) (.ext 3) (mk2 W (aU l) l (mK W l 4) ([mm1]:List Mm) n (n+1)),.lp [(0,0),(1,1),(2,2),(3,3),(4,4)] (mk3 W (aU l) l (mK W l 4) ([mm1]:List Mm) n 0) (.ext 5) (mk3 W (aU l) l (mK W l 4) ([mm1]:List Mm) n n)] [(0,3),(1,4),(2,5)] (.agg [aI W, aI (aU l), aI 6, aI (mK W l 4).r0, aI (mK W l 4).r1, aI (mK W l 4).r2, aI (mK W l 4).r3,.own 0 0 3 0 ([mm1]:List Mm).length,.own 1 0 2 0 (lbL (n+1)).length,.own 2 0 9 0 (inL l n n).length]) [mmB ([mm1]:List Mm),lbB (lbL (n+1)),inB (inL l n n)]):=ai (cd l (cj (kC l 0 (by omega)) (cj (kU W l n hW1 hW hn1 hn) (cd l (cj (kC l 0 (by omega)) (cj (pv ((0:Int)<=1)) (cj (pv ((3:Int)≠0)) (cj (kT W l n hW1 hW hn1 hn) (cj (rf l.length) (cj (rr l.length 1 fun i j=>aI (l.getD i 0)) (cj hW1 (gl l (cj (dL W (aU l) l hW) (dD l (cj (kC l 1 (by omega)) (cj (pv ((0:Int)<=8)) (cj (jf W l hW1 c1t) (cj (pv ((32:Nat)<=140737488355328∧(1:Nat)<=140737488355328)) (cj (eh W l hW1 c2f) (cj (eh W l hW1 c2f) (cj (eh W l hW1 c2f) (cj (eh W l hW1 c2f) (cj (eh W l hW1 c2f) (cj (eh W l hW1 c2f) (uz l (cj (kC l 1 (by omega)) (cj (pv ((0:Int)<=12)) (cj (cw W l hW1 c4t) (cj (cw W l hW1 c4t) (cj (cw W l hW1 c4t) (cj (cw W l hW1 c4t) (cj (po W l n hW1 hW hn1 hn) (cj (cw W l hW1 c4t) (cj (cw W l hW1 c4t) (cj (cP W l hW1 c5f) (cj (cP W l hW1 c5f) (cj (cP W l hW1 c5f) (cj (cP W l hW1 c5f) (cj (cP W l hW1 c5f) (cj (cP W l hW1 c5f) (cj (cP W l hW1 c5f) (cd l (cj (kC l 0 (by omega)) (cj (pv ((0:Int)<=12)) (cj (kR W l n hW1 hW hn1 hn) (eI W l (kq (cj (rQ) (cj (rf (0:Nat)) (cj hn1 (cj (rf (0:Int)) (cj (dK W (aU l) l (mK W l 4) ([mm1]:List Mm) n hn) (eI W l (rD n (kP n (cj (dJ W (aU l) l (mK W l 4) ([mm1]:List Mm) n hn) (rE W l n (kr W l n (cj (rf ((inL l n n).length)) trivial)))))))))))))))))))))))))))))))))))))))))))))))))))))))))))
theorem Ad: ∀(i:Nat),i<2-> ∀(j:Nat),j<3->(bif Nat.blt i (1:Nat) then List.getD [AV.str (ByteArray.mk (Array.mk [(109:UInt8)])),AV.bool false,aI 1] ((i+0)*3+j) AV.junk else List.getD [AV.str (ByteArray.mk (Array.mk [(115:UInt8)])),AV.bool true,aI 1] ((i-1+0)*3+j) AV.junk)=al mmC [mm1,ms1] i j:=(fun i hi j hj=>match i,hi,j,hj with |0,_,0,_=>rfl |0,_,1,_=>rfl |0,_,2,_=>rfl |1,_,0,_=>rfl |1,_,1,_=>rfl |1,_,2,_=>rfl)
theorem z7(W:Int)(l:List Int)(n:Nat){Z:Prop}(z:Z):(RF ((mK W l (4:Nat)).r0) (RF ((mK W l (4:Nat)).r1) (RF ((mK W l (4:Nat)).r2) (RF ((mK W l (4:Nat)).r3) (RF (0:Nat) (RF (2:Nat) (RF (0:Nat) (RF ((lbL (n+1)).length) (RF (0:Nat) Z))))))))):=⟨rfl,rfl,rfl,rfl,rfl,rfl,rfl,rfl,rfl,z⟩
theorem z6(W:Int)(l:List Int)(n:Nat){Z:Prop}(z:Z):(RF (2:Nat) (RR 2 3 (fun i j=>al mmC [mm1,ms1] i j) (RF ((lbL (n+1)).length) (RR ((lbL (n+1)).length) 2 (fun i j=>al lbC (lbL (n+1)) i j) (RF ((inL l n n).length) (RR ((inL l n n).length) 9 (fun i j=>al inC (inL l n n) i j) (RF W (RF (aU l) (RF (6:Int) Z))))))))):=⟨rfl,fun _ _ _ _=>rfl,rfl,fun _ _ _ _=>rfl,rfl,fun _ _ _ _=>rfl,rfl,rfl,rfl,z⟩
theorem zZ(n:Nat){Z:Prop}(z:Z):(RF (0:Nat) (RF (2:Nat) (RF (0:Nat) (RF ((lbL (n+1)).length) (RF (0:Nat) (RF (0:Nat) (RF (2:Nat) (RR 2 3 (fun i j=>al mmC [mm1,ms1] i j) (RF ((lbL (n+1)).length) Z))))))))):=⟨rfl,rfl,rfl,rfl,rfl,rfl,rfl,fun _ _ _ _=>rfl,rfl,z⟩
theorem zY{Z:Prop}(z:Z):(RF (0:Nat) (RF (2:Nat) (RF (0:Nat) (RF (0:Nat) (RF (2:Nat) Z))))):=⟨rfl,rfl,rfl,rfl,rfl,z⟩
theorem vJ(W:Int)(l:List Int)(n:Nat)(hW1:bits .and .i64 (kN l 0) 1+1=W)(hW:1<=W∧W<=2)(hn1:bits .and .i64 (Int.fdiv (kN l 0) (2^12)) 3+2=(n:Int))(hn:n<6)(c1t:(decide (bits .and .i64 (Int.fdiv (kN l 1) (2^8)) 3>0))=true)(c2f:(W==1)=false)(c4t:(decide (bits .and .i64 (Int.fdiv (kN l 1) (2^12)) 3>0))=true)(c5t:(decide ((mK W l 4).s+W<=3))=true):Vc (vF_ 11 [.row 1 l.length (dd l)] [dm l,dm l,.lp [(0,0),(1,1),(2,2)] (mk1 W (aU l) l ⟨0,0,0,0,0,0⟩ 0) (.ext 0) (mk1 W (aU l) l (mK W l 4) 4),dp l,.b true,.b false,.b false,.b false,.b false,.b false,.b false,.b false,dp l,.b true,.b true,.b true,.b true,.b true,.b true,.b true,.b true,.b true,.b true,.b true,.b false,.b false,.b false,.b false,.b false,.b false,.b true,.b false,.b true,dm l,.lp [(0,0),(1,1),(2,2),(3,4)] (mk2 W (aU l) l (mK W l 4) ([mm1,ms1]:List Mm) n 0) (.ext 3) (mk2 W (aU l) l (mK W l 4) ([mm1,ms1]:List Mm) n (n+1)),.lp [(0,0),(1,1),(2,2),(3,3),(4,4)] (mk3 W (aU l) l (mK W l 4) ([mm1,ms1]:List Mm) n 0) (.ext 5) (mk3 W (aU l) l (mK W l 4) ([mm1,ms1]:List Mm) n n)] [(0,3),(1,4),(2,5)] (.agg [aI W, aI (aU l), aI 6, aI (mK W l 4).r0, aI (mK W l 4).r1, aI (mK W l 4).r2, aI (mK W l 4).r3,.own 0 0 3 0 ([mm1,ms1]:List Mm).length,.own 1 0 2 0 (lbL (n+1)).length,.own 2 0 9 0 (inL l n n).length]) [mmB ([mm1,ms1]:List Mm),lbB (lbL (n+1)),inB (inL l n n)]):=ai (cd l (cj (kC l 0 (by omega)) (cj (kU W l n hW1 hW hn1 hn) (cd l (cj (kC l 0 (by omega)) (cj (pv ((0:Int)<=1)) (cj (pv ((3:Int)≠0)) (cj (kT W l n hW1 hW hn1 hn) (cj (rf l.length) (cj (rr l.length 1 fun i j=>aI (l.getD i 0)) (cj hW1 (gl l (cj (dL W (aU l) l hW) (dD l (cj (kC l 1 (by omega)) (cj (pv ((0:Int)<=8)) (cj (jf W l hW1 c1t) (cj (pv ((32:Nat)<=140737488355328∧(1:Nat)<=140737488355328)) (cj (eh W l hW1 c2f) (cj (eh W l hW1 c2f) (cj (eh W l hW1 c2f) (cj (eh W l hW1 c2f) (cj (eh W l hW1 c2f) (cj (eh W l hW1 c2f) (uz l (cj (kC l 1 (by omega)) (cj (pv ((0:Int)<=12)) (cj (cw W l hW1 c4t) (cj (cw W l hW1 c4t) (cj (cw W l hW1 c4t) (cj (cw W l hW1 c4t) (cj (po W l n hW1 hW hn1 hn) (cj (cw W l hW1 c4t) (cj (cw W l hW1 c4t) (cj (cO W l hW1 c5t) (cj (cO W l hW1 c5t) (cj (cO W l hW1 c5t) (cj (cO W l hW1 c5t) (cj (cO W l hW1 c5t) (cj (e0 (1:Nat) 0) (cj (e0 (1:Nat) 0) (cj (e0 (1:Nat) 0) (cj (pv ((0:Int)<=0∧(0:Int)<(1:Nat))) (cj (e0 (1:Nat) 0) (cj (e0 (1:Nat) 0) (cj (pv ((0:Nat)<1)) (cj (e0 (1:Nat) 0) (cj (cO W l hW1 c5t) (cj (e0 (1:Nat) 0) (cj (cO W l hW1 c5t) (cj (pv ((0:Nat)=0∧(1:Nat)=1∧(64:Nat)<=140737488355328∧(2:Nat)<=140737488355328)) (cd l (cj (kC l 0 (by omega)) (cj (pv ((0:Int)<=12)) (cj (kR W l n hW1 hW hn1 hn) (eI W l (zY (cj (Ad) (cj (rf (0:Nat)) (cj hn1 (cj (rf (0:Int)) (cj (dK W (aU l) l (mK W l 4) ([mm1,ms1]:List Mm) n hn) (eI W l (zZ n (kP n (cj (dJ W (aU l) l (mK W l 4) ([mm1,ms1]:List Mm) n hn) (z6 W l n (z7 W l n (cj (rf ((inL l n n).length)) trivial)))))))))))))))))))))))))))))))))))))))))))))))))))))))))))))))))))))
theorem ce(W:Int)(l:List Int)(hW1:bits .and .i64 (kN l 0) 1+1=W)(c2t:(W==1)=true):(W==(1:Int))=true:=by first |exact c2t | (rw[hW1];exact c2t)| (simpa [hW1] using c2t)
theorem uW(W:Int)(l:List Int)(hW1:bits .and .i64 (kN l 0) 1+1=W)(c3f:(bits .and .i64 (Int.fdiv (kN l 1) (2^10)) 3==0)=false):(Go.bits Go.BinOp.and IntKind.i64 (Int.fdiv (kN l (1:Nat)) ((2:Int)^(10:Nat))) (3:Int)==(0:Int))=false:=by first |exact c3f | (rw[hW1];exact c3f)| (simpa [hW1] using c3f)
theorem vI(W:Int)(l:List Int)(n:Nat)(hW1:bits .and .i64 (kN l 0) 1+1=W)(hW:1<=W∧W<=2)(hn1:bits .and .i64 (Int.fdiv (kN l 0) (2^12)) 3+2=(n:Int))(hn:n<6)(c1t:(decide (bits .and .i64 (Int.fdiv (kN l 1) (2^8)) 3>0))=true)(c2t:(W==1)=true)(c3f:(bits .and .i64 (Int.fdiv (kN l 1) (2^10)) 3==0)=false)(c4f:(decide (bits .and .i64 (Int.fdiv (kN l 1) (2^12)) 3>0))=false):Vc (vF_ 11 [.row 1 l.length (dd l)] [dm l,dm l,.lp [(0,0),(1,1),(2,2)] (mk1 W (aU l) l ⟨0,0,0,0,0,0⟩ 0) (.ext 0) (mk1 W (aU l) l (mK W l 4) 4),dp l,.b true,.b true,.b true,dp l,.b true,.b true,.b true,.b true,.b false,dp l,.b false,.b false,.b false,.b false,.b false,.b false,dm l,.lp [(0,0),(1,1),(2,2),(3,4)] (mk2 W (aU l) l (mK W l 4) ([mm1]:List Mm) n 0) (.ext 3) (mk2 W (aU l) l (mK W l 4) ([mm1]:List Mm) n (n+1)),.lp [(0,0),(1,1),(2,2),(3,3),(4,4)] (mk3 W (aU l) l (mK W l 4) ([mm1]:List Mm) n 0) (.ext 5) (mk3 W (aU l) l (mK W l 4) ([mm1]:List Mm) n n)] [(0,3),(1,4),(2,5)] (.agg [aI W, aI (aU l), aI 6, aI (mK W l 4).r0, aI (mK W l 4).r1, aI (mK W l 4).r2, aI (mK W l 4).r3,.own 0 0 3 0 ([mm1]:List Mm).length,.own 1 0 2 0 (lbL (n+1)).length,.own 2 0 9 0 (inL l n n).length]) [mmB ([mm1]:List Mm),lbB (lbL (n+1)),inB (inL l n n)]):=ai (cd l (cj (kC l 0 (by omega)) (cj (kU W l n hW1 hW hn1 hn) (cd l (cj (kC l 0 (by omega)) (cj (pv ((0:Int)<=1)) (cj (pv ((3:Int)≠0)) (cj (kT W l n hW1 hW hn1 hn) (cj (rf l.length) (cj (rr l.length 1 fun i j=>aI (l.getD i 0)) (cj hW1 (gl l (cj (dL W (aU l) l hW) (dD l (cj (kC l 1 (by omega)) (cj (pv ((0:Int)<=8)) (cj (jf W l hW1 c1t) (cj (pv ((32:Nat)<=140737488355328∧(1:Nat)<=140737488355328)) (cj (ce W l hW1 c2t) (cj (ce W l hW1 c2t) (dD l (cj (kC l 1 (by omega)) (cj (ce W l hW1 c2t) (cj (pv ((0:Int)<=10)) (cj (ce W l hW1 c2t) (cj (ce W l hW1 c2t) (cj (ce W l hW1 c2t) (cj (uW W l hW1 c3f) (dD l (cj (kC l 1 (by omega)) (cj (pv ((0:Int)<=12)) (cj (eJ W l hW1 c4f) (cj (eJ W l hW1 c4f) (cj (eJ W l hW1 c4f) (cj (eJ W l hW1 c4f) (cj (eJ W l hW1 c4f) (cj (eJ W l hW1 c4f) (cd l (cj (kC l 0 (by omega)) (cj (pv ((0:Int)<=12)) (cj (kR W l n hW1 hW hn1 hn) (eI W l (kq (cj (rQ) (cj (rf (0:Nat)) (cj hn1 (cj (rf (0:Int)) (cj (dK W (aU l) l (mK W l 4) ([mm1]:List Mm) n hn) (eI W l (rD n (kP n (cj (dJ W (aU l) l (mK W l 4) ([mm1]:List Mm) n hn) (rE W l n (kr W l n (cj (rf ((inL l n n).length)) trivial)))))))))))))))))))))))))))))))))))))))))))))))))))))))
theorem tz(W:Int)(l:List Int)(n:Nat)(hW1:bits .and .i64 (kN l 0) 1+1=W)(hW:1<=W∧W<=2)(hn1:bits .and .i64 (Int.fdiv (kN l 0) (2^12)) 3+2=(n:Int))(hn:n<6)(c1t:(decide (bits .and .i64 (Int.fdiv (kN l 1) (2^8)) 3>0))=true)(c2t:(W==1)=true)(c3f:(bits .and .i64 (Int.fdiv (kN l 1) (2^10)) 3==0)=false)(c4t:(decide (bits .and .i64 (Int.fdiv (kN l 1) (2^12)) 3>0))=true)(c5f:(decide ((mK W l 4).s+W<=3))=false):Vc (vF_ 11 [.row 1 l.length (dd l)] [dm l,dm l,.lp [(0,0),(1,1),(2,2)] (mk1 W (aU l) l ⟨0,0,0,0,0,0⟩ 0) (.ext 0) (mk1 W (aU l) l (mK W l 4) 4),dp l,.b true,.b true,.b true,dp l,.b true,.b true,.b true,.b true,.b false,dp l,.b true,.b true,.b true,.b true,.b true,.b true,.b false,.b false,.b false,.b false,.b false,.b false,.b false,dm l,.lp [(0,0),(1,1),(2,2),(3,4)] (mk2 W (aU l) l (mK W l 4) ([mm1]:List Mm) n 0) (.ext 3) (mk2 W (aU l) l (mK W l 4) ([mm1]:List Mm) n (n+1)),.lp [(0,0),(1,1),(2,2),(3,3),(4,4)] (mk3 W (aU l) l (mK W l 4) ([mm1]:List Mm) n 0) (.ext 5) (mk3 W (aU l) l (mK W l 4) ([mm1]:List Mm) n n)] [(0,3),(1,4),(2,5)] (.agg [aI W, aI (aU l), aI 6, aI (mK W l 4).r0, aI (mK W l 4).r1, aI (mK W l 4).r2, aI (mK W l 4).r3,.own 0 0 3 0 ([mm1]:List Mm).length,.own 1 0 2 0 (lbL (n+1)).length,.own 2 0 9 0 (inL l n n).length]) [mmB ([mm1]:List Mm),lbB (lbL (n+1)),inB (inL l n n)]):=ai (cd l (cj (kC l 0 (by omega)) (cj (kU W l n hW1 hW hn1 hn) (cd l (cj (kC l 0 (by omega)) (cj (pv ((0:Int)<=1)) (cj (pv ((3:Int)≠0)) (cj (kT W l n hW1 hW hn1 hn) (cj (rf l.length) (cj (rr l.length 1 fun i j=>aI (l.getD i 0)) (cj hW1 (gl l (cj (dL W (aU l) l hW) (dD l (cj (kC l 1 (by omega)) (cj (pv ((0:Int)<=8)) (cj (jf W l hW1 c1t) (cj (pv ((32:Nat)<=140737488355328∧(1:Nat)<=140737488355328)) (cj (ce W l hW1 c2t) (cj (ce W l hW1 c2t) (dD l (cj (kC l 1 (by omega)) (cj (ce W l hW1 c2t) (cj (pv ((0:Int)<=10)) (cj (ce W l hW1 c2t) (cj (ce W l hW1 c2t) (cj (ce W l hW1 c2t) (cj (uW W l hW1 c3f) (dD l (cj (kC l 1 (by omega)) (cj (pv ((0:Int)<=12)) (cj (cw W l hW1 c4t) (cj (cw W l hW1 c4t) (cj (cw W l hW1 c4t) (cj (cw W l hW1 c4t) (cj (po W l n hW1 hW hn1 hn) (cj (cw W l hW1 c4t) (cj (cw W l hW1 c4t) (cj (cP W l hW1 c5f) (cj (cP W l hW1 c5f) (cj (cP W l hW1 c5f) (cj (cP W l hW1 c5f) (cj (cP W l hW1 c5f) (cj (cP W l hW1 c5f) (cj (cP W l hW1 c5f) (cd l (cj (kC l 0 (by omega)) (cj (pv ((0:Int)<=12)) (cj (kR W l n hW1 hW hn1 hn) (eI W l (kq (cj (rQ) (cj (rf (0:Nat)) (cj hn1 (cj (rf (0:Int)) (cj (dK W (aU l) l (mK W l 4) ([mm1]:List Mm) n hn) (eI W l (rD n (kP n (cj (dJ W (aU l) l (mK W l 4) ([mm1]:List Mm) n hn) (rE W l n (kr W l n (cj (rf ((inL l n n).length)) trivial)))))))))))))))))))))))))))))))))))))))))))))))))))))))))))))))
theorem tx(W:Int)(l:List Int)(n:Nat)(hW1:bits .and .i64 (kN l 0) 1+1=W)(hW:1<=W∧W<=2)(hn1:bits .and .i64 (Int.fdiv (kN l 0) (2^12)) 3+2=(n:Int))(hn:n<6)(c1t:(decide (bits .and .i64 (Int.fdiv (kN l 1) (2^8)) 3>0))=true)(c2t:(W==1)=true)(c3f:(bits .and .i64 (Int.fdiv (kN l 1) (2^10)) 3==0)=false)(c4t:(decide (bits .and .i64 (Int.fdiv (kN l 1) (2^12)) 3>0))=true)(c5t:(decide ((mK W l 4).s+W<=3))=true):Vc (vF_ 11 [.row 1 l.length (dd l)] [dm l,dm l,.lp [(0,0),(1,1),(2,2)] (mk1 W (aU l) l ⟨0,0,0,0,0,0⟩ 0) (.ext 0) (mk1 W (aU l) l (mK W l 4) 4),dp l,.b true,.b true,.b true,dp l,.b true,.b true,.b true,.b true,.b false,dp l,.b true,.b true,.b true,.b true,.b true,.b true,.b true,.b true,.b true,.b true,.b true,.b false,.b false,.b false,.b false,.b false,.b false,.b true,.b false,.b true,dm l,.lp [(0,0),(1,1),(2,2),(3,4)] (mk2 W (aU l) l (mK W l 4) ([mm1,ms1]:List Mm) n 0) (.ext 3) (mk2 W (aU l) l (mK W l 4) ([mm1,ms1]:List Mm) n (n+1)),.lp [(0,0),(1,1),(2,2),(3,3),(4,4)] (mk3 W (aU l) l (mK W l 4) ([mm1,ms1]:List Mm) n 0) (.ext 5) (mk3 W (aU l) l (mK W l 4) ([mm1,ms1]:List Mm) n n)] [(0,3),(1,4),(2,5)] (.agg [aI W, aI (aU l), aI 6, aI (mK W l 4).r0, aI (mK W l 4).r1, aI (mK W l 4).r2, aI (mK W l 4).r3,.own 0 0 3 0 ([mm1,ms1]:List Mm).length,.own 1 0 2 0 (lbL (n+1)).length,.own 2 0 9 0 (inL l n n).length]) [mmB ([mm1,ms1]:List Mm),lbB (lbL (n+1)),inB (inL l n n)]):=ai (cd l (cj (kC l 0 (by omega)) (cj (kU W l n hW1 hW hn1 hn) (cd l (cj (kC l 0 (by omega)) (cj (pv ((0:Int)<=1)) (cj (pv ((3:Int)≠0)) (cj (kT W l n hW1 hW hn1 hn) (cj (rf l.length) (cj (rr l.length 1 fun i j=>aI (l.getD i 0)) (cj hW1 (gl l (cj (dL W (aU l) l hW) (dD l (cj (kC l 1 (by omega)) (cj (pv ((0:Int)<=8)) (cj (jf W l hW1 c1t) (cj (pv ((32:Nat)<=140737488355328∧(1:Nat)<=140737488355328)) (cj (ce W l hW1 c2t) (cj (ce W l hW1 c2t) (dD l (cj (kC l 1 (by omega)) (cj (ce W l hW1 c2t) (cj (pv ((0:Int)<=10)) (cj (ce W l hW1 c2t) (cj (ce W l hW1 c2t) (cj (ce W l hW1 c2t) (cj (uW W l hW1 c3f) (dD l (cj (kC l 1 (by omega)) (cj (pv ((0:Int)<=12)) (cj (cw W l hW1 c4t) (cj (cw W l hW1 c4t) (cj (cw W l hW1 c4t) (cj (cw W l hW1 c4t) (cj (po W l n hW1 hW hn1 hn) (cj (cw W l hW1 c4t) (cj (cw W l hW1 c4t) (cj (cO W l hW1 c5t) (cj (cO W l hW1 c5t) (cj (cO W l hW1 c5t) (cj (cO W l hW1 c5t) (cj (cO W l hW1 c5t) (cj (e0 (1:Nat) 0) (cj (e0 (1:Nat) 0) (cj (e0 (1:Nat) 0) (cj (pv ((0:Int)<=0∧(0:Int)<(1:Nat))) (cj (e0 (1:Nat) 0) (cj (e0 (1:Nat) 0) (cj (pv ((0:Nat)<1)) (cj (e0 (1:Nat) 0) (cj (cO W l hW1 c5t) (cj (e0 (1:Nat) 0) (cj (cO W l hW1 c5t) (cj (pv ((0:Nat)=0∧(1:Nat)=1∧(64:Nat)<=140737488355328∧(2:Nat)<=140737488355328)) (cd l (cj (kC l 0 (by omega)) (cj (pv ((0:Int)<=12)) (cj (kR W l n hW1 hW hn1 hn) (eI W l (zY (cj (Ad) (cj (rf (0:Nat)) (cj hn1 (cj (rf (0:Int)) (cj (dK W (aU l) l (mK W l 4) ([mm1,ms1]:List Mm) n hn) (eI W l (zZ n (kP n (cj (dJ W (aU l) l (mK W l 4) ([mm1,ms1]:List Mm) n hn) (z6 W l n (z7 W l n (cj (rf ((inL l n n).length)) trivial)))))))))))))))))))))))))))))))))))))))))))))))))))))))))))))))))))))))))
theorem uV(W:Int)(l:List Int)(hW1:bits .and .i64 (kN l 0) 1+1=W)(c3t:(bits .and .i64 (Int.fdiv (kN l 1) (2^10)) 3==0)=true):(Go.bits Go.BinOp.and IntKind.i64 (Int.fdiv (kN l (1:Nat)) ((2:Int)^(10:Nat))) (3:Int)==(0:Int))=true:=by first |exact c3t | (rw[hW1];exact c3t)| (simpa [hW1] using c3t)
theorem uU: ∀(i:Nat),i<1-> ∀(j:Nat),j<3->(bif Nat.ble (2:Nat) j&&Nat.blt j (3:Nat)&&Nat.beq i (0:Nat) then List.getD [aI 2] (j-2) AV.junk else List.getD [AV.str (ByteArray.mk (Array.mk [(109:UInt8)])),AV.bool false,aI 1] ((i+0)*3+j) AV.junk)=al mmC [mm2] i j:=(fun i hi j hj=>match i,hi,j,hj with |0,_,0,_=>rfl |0,_,1,_=>rfl |0,_,2,_=>rfl)
theorem uy(W:Int)(l:List Int)(n:Nat){Z:Prop}(z:Z):(RF (1:Nat) (RR 1 3 (fun i j=>al mmC [mm2] i j) (RF ((lbL (n+1)).length) (RR ((lbL (n+1)).length) 2 (fun i j=>al lbC (lbL (n+1)) i j) (RF ((inL l n n).length) (RR ((inL l n n).length) 9 (fun i j=>al inC (inL l n n) i j) (RF W (RF (aU l) (RF (6:Int) Z))))))))):=⟨rfl,fun _ _ _ _=>rfl,rfl,fun _ _ _ _=>rfl,rfl,fun _ _ _ _=>rfl,rfl,rfl,rfl,z⟩
theorem ux(n:Nat){Z:Prop}(z:Z):(RF (0:Nat) (RF (1:Nat) (RF (0:Nat) (RF ((lbL (n+1)).length) (RF (0:Nat) (RF (0:Nat) (RF (1:Nat) (RR 1 3 (fun i j=>al mmC [mm2] i j) (RF ((lbL (n+1)).length) Z))))))))):=⟨rfl,rfl,rfl,rfl,rfl,rfl,rfl,fun _ _ _ _=>rfl,rfl,z⟩
theorem vH(W:Int)(l:List Int)(n:Nat)(hW1:bits .and .i64 (kN l 0) 1+1=W)(hW:1<=W∧W<=2)(hn1:bits .and .i64 (Int.fdiv (kN l 0) (2^12)) 3+2=(n:Int))(hn:n<6)(c1t:(decide (bits .and .i64 (Int.fdiv (kN l 1) (2^8)) 3>0))=true)(c2t:(W==1)=true)(c3t:(bits .and .i64 (Int.fdiv (kN l 1) (2^10)) 3==0)=true)(c4f:(decide (bits .and .i64 (Int.fdiv (kN l 1) (2^12)) 3>0))=false):Vc (vF_ 11 [.row 1 l.length (dd l)] [dm l,dm l,.lp [(0,0),(1,1),(2,2)] (mk1 W (aU l) l ⟨0,0,0,0,0,0⟩ 0) (.ext 0) (mk1 W (aU l) l (mK W l 4) 4),dp l,.b true,.b true,.b true,dp l,.b true,.b true,.b true,.b true,.b true,dp l,.b false,.b false,.b false,.b false,.b false,.b false,dm l,.lp [(0,0),(1,1),(2,2),(3,4)] (mk2 W (aU l) l (mK W l 4) ([mm2]:List Mm) n 0) (.ext 3) (mk2 W (aU l) l (mK W l 4) ([mm2]:List Mm) n (n+1)),.lp [(0,0),(1,1),(2,2),(3,3),(4,4)] (mk3 W (aU l) l (mK W l 4) ([mm2]:List Mm) n 0) (.ext 5) (mk3 W (aU l) l (mK W l 4) ([mm2]:List Mm) n n)] [(0,3),(1,4),(2,5)] (.agg [aI W, aI (aU l), aI 6, aI (mK W l 4).r0, aI (mK W l 4).r1, aI (mK W l 4).r2, aI (mK W l 4).r3,.own 0 0 3 0 ([mm2]:List Mm).length,.own 1 0 2 0 (lbL (n+1)).length,.own 2 0 9 0 (inL l n n).length]) [mmB ([mm2]:List Mm),lbB (lbL (n+1)),inB (inL l n n)]):=ai (cd l (cj (kC l 0 (by omega)) (cj (kU W l n hW1 hW hn1 hn) (cd l (cj (kC l 0 (by omega)) (cj (pv ((0:Int)<=1)) (cj (pv ((3:Int)≠0)) (cj (kT W l n hW1 hW hn1 hn) (cj (rf l.length) (cj (rr l.length 1 fun i j=>aI (l.getD i 0)) (cj hW1 (gl l (cj (dL W (aU l) l hW) (dD l (cj (kC l 1 (by omega)) (cj (pv ((0:Int)<=8)) (cj (jf W l hW1 c1t) (cj (pv ((32:Nat)<=140737488355328∧(1:Nat)<=140737488355328)) (cj (ce W l hW1 c2t) (cj (ce W l hW1 c2t) (dD l (cj (kC l 1 (by omega)) (cj (ce W l hW1 c2t) (cj (pv ((0:Int)<=10)) (cj (ce W l hW1 c2t) (cj (ce W l hW1 c2t) (cj (ce W l hW1 c2t) (cj (uV W l hW1 c3t) (cj (pv ((0:Int)<=0∧(0:Int)<(1:Nat))) (cj (pv ((0:Nat)<1)) (dD l (cj (kC l 1 (by omega)) (cj (pv ((0:Int)<=12)) (cj (eJ W l hW1 c4f) (cj (eJ W l hW1 c4f) (cj (eJ W l hW1 c4f) (cj (eJ W l hW1 c4f) (cj (eJ W l hW1 c4f) (cj (eJ W l hW1 c4f) (cd l (cj (kC l 0 (by omega)) (cj (pv ((0:Int)<=12)) (cj (kR W l n hW1 hW hn1 hn) (eI W l (kq (cj (uU) (cj (rf (0:Nat)) (cj hn1 (cj (rf (0:Int)) (cj (dK W (aU l) l (mK W l 4) ([mm2]:List Mm) n hn) (eI W l (ux n (kP n (cj (dJ W (aU l) l (mK W l 4) ([mm2]:List Mm) n hn) (uy W l n (kr W l n (cj (rf ((inL l n n).length)) trivial)))))))))))))))))))))))))))))))))))))))))))))))))))))))))
theorem tw(W:Int)(l:List Int)(n:Nat)(hW1:bits .and .i64 (kN l 0) 1+1=W)(hW:1<=W∧W<=2)(hn1:bits .and .i64 (Int.fdiv (kN l 0) (2^12)) 3+2=(n:Int))(hn:n<6)(c1t:(decide (bits .and .i64 (Int.fdiv (kN l 1) (2^8)) 3>0))=true)(c2t:(W==1)=true)(c3t:(bits .and .i64 (Int.fdiv (kN l 1) (2^10)) 3==0)=true)(c4t:(decide (bits .and .i64 (Int.fdiv (kN l 1) (2^12)) 3>0))=true)(c5f:(decide ((mK W l 4).s+W<=3))=false):Vc (vF_ 11 [.row 1 l.length (dd l)] [dm l,dm l,.lp [(0,0),(1,1),(2,2)] (mk1 W (aU l) l ⟨0,0,0,0,0,0⟩ 0) (.ext 0) (mk1 W (aU l) l (mK W l 4) 4),dp l,.b true,.b true,.b true,dp l,.b true,.b true,.b true,.b true,.b true,dp l,.b true,.b true,.b true,.b true,.b true,.b true,.b false,.b false,.b false,.b false,.b false,.b false,.b false,dm l,.lp [(0,0),(1,1),(2,2),(3,4)] (mk2 W (aU l) l (mK W l 4) ([mm2]:List Mm) n 0) (.ext 3) (mk2 W (aU l) l (mK W l 4) ([mm2]:List Mm) n (n+1)),.lp [(0,0),(1,1),(2,2),(3,3),(4,4)] (mk3 W (aU l) l (mK W l 4) ([mm2]:List Mm) n 0) (.ext 5) (mk3 W (aU l) l (mK W l 4) ([mm2]:List Mm) n n)] [(0,3),(1,4),(2,5)] (.agg [aI W, aI (aU l), aI 6, aI (mK W l 4).r0, aI (mK W l 4).r1, aI (mK W l 4).r2, aI (mK W l 4).r3,.own 0 0 3 0 ([mm2]:List Mm).length,.own 1 0 2 0 (lbL (n+1)).length,.own 2 0 9 0 (inL l n n).length]) [mmB ([mm2]:List Mm),lbB (lbL (n+1)),inB (inL l n n)]):=ai (cd l (cj (kC l 0 (by omega)) (cj (kU W l n hW1 hW hn1 hn) (cd l (cj (kC l 0 (by omega)) (cj (pv ((0:Int)<=1)) (cj (pv ((3:Int)≠0)) (cj (kT W l n hW1 hW hn1 hn) (cj (rf l.length) (cj (rr l.length 1 fun i j=>aI (l.getD i 0)) (cj hW1 (gl l (cj (dL W (aU l) l hW) (dD l (cj (kC l 1 (by omega)) (cj (pv ((0:Int)<=8)) (cj (jf W l hW1 c1t) (cj (pv ((32:Nat)<=140737488355328∧(1:Nat)<=140737488355328)) (cj (ce W l hW1 c2t) (cj (ce W l hW1 c2t) (dD l (cj (kC l 1 (by omega)) (cj (ce W l hW1 c2t) (cj (pv ((0:Int)<=10)) (cj (ce W l hW1 c2t) (cj (ce W l hW1 c2t) (cj (ce W l hW1 c2t) (cj (uV W l hW1 c3t) (cj (pv ((0:Int)<=0∧(0:Int)<(1:Nat))) (cj (pv ((0:Nat)<1)) (dD l (cj (kC l 1 (by omega)) (cj (pv ((0:Int)<=12)) (cj (cw W l hW1 c4t) (cj (cw W l hW1 c4t) (cj (cw W l hW1 c4t) (cj (cw W l hW1 c4t) (cj (po W l n hW1 hW hn1 hn) (cj (cw W l hW1 c4t) (cj (cw W l hW1 c4t) (cj (cP W l hW1 c5f) (cj (cP W l hW1 c5f) (cj (cP W l hW1 c5f) (cj (cP W l hW1 c5f) (cj (cP W l hW1 c5f) (cj (cP W l hW1 c5f) (cj (cP W l hW1 c5f) (cd l (cj (kC l 0 (by omega)) (cj (pv ((0:Int)<=12)) (cj (kR W l n hW1 hW hn1 hn) (eI W l (kq (cj (uU) (cj (rf (0:Nat)) (cj hn1 (cj (rf (0:Int)) (cj (dK W (aU l) l (mK W l 4) ([mm2]:List Mm) n hn) (eI W l (ux n (kP n (cj (dJ W (aU l) l (mK W l 4) ([mm2]:List Mm) n hn) (uy W l n (kr W l n (cj (rf ((inL l n n).length)) trivial)))))))))))))))))))))))))))))))))))))))))))))))))))))))))))))))))
theorem tv(W:Int)(l:List Int)(n:Nat)(hW1:bits .and .i64 (kN l 0) 1+1=W)(hW:1<=W∧W<=2)(hn1:bits .and .i64 (Int.fdiv (kN l 0) (2^12)) 3+2=(n:Int))(hn:n<6)(c1t:(decide (bits .and .i64 (Int.fdiv (kN l 1) (2^8)) 3>0))=true)(c2t:(W==1)=true)(c3t:(bits .and .i64 (Int.fdiv (kN l 1) (2^10)) 3==0)=true)(c4t:(decide (bits .and .i64 (Int.fdiv (kN l 1) (2^12)) 3>0))=true)(c5t:(decide ((mK W l 4).s+W<=3))=true):Vc (vF_ 11 [.row 1 l.length (dd l)] [dm l,dm l,.lp [(0,0),(1,1),(2,2)] (mk1 W (aU l) l ⟨0,0,0,0,0,0⟩ 0) (.ext 0) (mk1 W (aU l) l (mK W l 4) 4),dp l,.b true,.b true,.b true,dp l,.b true,.b true,.b true,.b true,.b true,dp l,.b true,.b true,.b true,.b true,.b true,.b true,.b true,.b true,.b true,.b true,.b true,.b false,.b false,.b false,.b false,.b false,.b false,.b true,.b false,.b true,dm l,.lp [(0,0),(1,1),(2,2),(3,4)] (mk2 W (aU l) l (mK W l 4) ([mm2]:List Mm) n 0) (.ext 3) (mk2 W (aU l) l (mK W l 4) ([mm2]:List Mm) n (n+1)),.lp [(0,0),(1,1),(2,2),(3,3),(4,4)] (mk3 W (aU l) l (mK W l 4) ([mm2]:List Mm) n 0) (.ext 5) (mk3 W (aU l) l (mK W l 4) ([mm2]:List Mm) n n)] [(0,3),(1,4),(2,5)] (.agg [aI W, aI (aU l), aI 6, aI (mK W l 4).r0, aI (mK W l 4).r1, aI (mK W l 4).r2, aI (mK W l 4).r3,.own 0 0 3 0 ([mm2]:List Mm).length,.own 1 0 2 0 (lbL (n+1)).length,.own 2 0 9 0 (inL l n n).length]) [mmB ([mm2]:List Mm),lbB (lbL (n+1)),inB (inL l n n)]):=ai (cd l (cj (kC l 0 (by omega)) (cj (kU W l n hW1 hW hn1 hn) (cd l (cj (kC l 0 (by omega)) (cj (pv ((0:Int)<=1)) (cj (pv ((3:Int)≠0)) (cj (kT W l n hW1 hW hn1 hn) (cj (rf l.length) (cj (rr l.length 1 fun i j=>aI (l.getD i 0)) (cj hW1 (gl l (cj (dL W (aU l) l hW) (dD l (cj (kC l 1 (by omega)) (cj (pv ((0:Int)<=8)) (cj (jf W l hW1 c1t) (cj (pv ((32:Nat)<=140737488355328∧(1:Nat)<=140737488355328)) (cj (ce W l hW1 c2t) (cj (ce W l hW1 c2t) (dD l (cj (kC l 1 (by omega)) (cj (ce W l hW1 c2t) (cj (pv ((0:Int)<=10)) (cj (ce W l hW1 c2t) (cj (ce W l hW1 c2t) (cj (ce W l hW1 c2t) (cj (uV W l hW1 c3t) (cj (pv ((0:Int)<=0∧(0:Int)<(1:Nat))) (cj (pv ((0:Nat)<1)) (dD l (cj (kC l 1 (by omega)) (cj (pv ((0:Int)<=12)) (cj (cw W l hW1 c4t) (cj (cw W l hW1 c4t) (cj (cw W l hW1 c4t) (cj (cw W l hW1 c4t) (cj (po W l n hW1 hW hn1 hn) (cj (cw W l hW1 c4t) (cj (cw W l hW1 c4t) (cj (cO W l hW1 c5t) (cj (cO W l hW1 c5t) (cj (cO W l hW1 c5t) (cj (cO W l hW1 c5t) (cj (cO W l hW1 c5t) (cj (e0 (1:Nat) 0) (cj (e0 (1:Nat) 0) (cj (e0 (1:Nat) 0) (cj (pv ((0:Int)<=0∧(0:Int)<(1:Nat))) (cj (e0 (1:Nat) 0) (cj (e0 (1:Nat) 0) (cj (pv ((0:Nat)<1)) (cj (e0 (1:Nat) 0) (cj (cO W l hW1 c5t) (cj (e0 (1:Nat) 0) (cj (cO W l hW1 c5t) (cd l (cj (kC l 0 (by omega)) (cj (pv ((0:Int)<=12)) (cj (kR W l n hW1 hW hn1 hn) (eI W l (kq (cj (uU) (cj (rf (0:Nat)) (cj hn1 (cj (rf (0:Int)) (cj (dK W (aU l) l (mK W l 4) ([mm2]:List Mm) n hn) (eI W l (ux n (kP n (cj (dJ W (aU l) l (mK W l 4) ([mm2]:List Mm) n hn) (uy W l n (kr W l n (cj (rf ((inL l n n).length)) trivial))))))))))))))))))))))))))))))))))))))))))))))))))))))))))))))))))))))))))
def wN(l:List Int):Int:=bits .and .i64 (kN l 0) 1+1
def nN(l:List Int):Nat:=(bits .and .i64 (Int.fdiv (kN l 0) (2^12)) 3+2).toNat
def msA(c1 c2 c3 c4 c5:Bool):List Mm:=bif c1 then(bif c2 then(bif c3 then[mm2] else(bif c4 then(bif c5 then[mm1,ms1] else[mm1]) else[mm1])) else(bif c4 then(bif c5 then[mm1,ms1] else[mm1]) else[mm1])) else(bif c4 then(bif c5 then[ms1] else[]) else[])
def Ir(W:Int)(n:Nat)(l:List Int)(c1 c2 c3 c4 c5:Bool):Pg:=⟨W,aU l,6,(mK W l 4).r0,(mK W l 4).r1,(mK W l 4).r2,(mK W l 4).r3,msA c1 c2 c3 c4 c5,lbL (n+1),inL l n n⟩
def bB(l:List Int):Pg:=Ir (wN l) (nN l) l (decide (bits .and .i64 (Int.fdiv (kN l 1) (2^8)) 3>0)) ((wN l)==1) (bits .and .i64 (Int.fdiv (kN l 1) (2^10)) 3==0) (decide (bits .and .i64 (Int.fdiv (kN l 1) (2^12)) 3>0)) (decide ((mK (wN l) l 4).s+wN l<=3))
theorem EK(l:List Int):wN l=1∨wN l=2:=by
 have hb1:bits .and .i64 (kN l 0) 1=kN l 0%2:=Wd.bits_mask (kN l 0) 1 (by omega)
 unfold wN
 omega
theorem As(l:List Int):2<=nN l∧nN l<=5∧bits .and .i64 (Int.fdiv (kN l 0) (2^12)) 3+2=((nN l:Nat):Int):=by
 have hb2:bits .and .i64 (Int.fdiv (kN l 0) (2^12)) 3=Int.fdiv (kN l 0) (2^12)%4:=Wd.bits_mask _ 2 (by omega)
 unfold nN
 omega
theorem mkC(l:List Int):pC_ 11 [.row 1 l.length (dd l)] (.agg (pgA (bB l))) []:=by
 have hWW:=EK l
 have hnn:=As l
 unfold bB
 obtain⟨W,hW1⟩: ∃W,wN l=W:=⟨_,rfl⟩
 obtain⟨n,hn0⟩: ∃n,nN l=n:=⟨_,rfl⟩
 rw[hW1] at hWW
 rw[hn0] at hnn
 rw[hW1,hn0]
 have hW:1<=W∧W<=2:=by omega
 obtain⟨_,hn5,hn1⟩:=hnn
 have hn:n<6:=by omega
 unfold wN at hW1
 cases c1:decide (bits .and .i64 (Int.fdiv (kN l 1) (2^8)) 3>0) with
 |false=>
  have c1f:=c1
  cases c4:decide (bits .and .i64 (Int.fdiv (kN l 1) (2^12)) 3>0) with
  |false=>exact(PureC.vc (Cu W l n hW1 hW hn1 hn c1f c4)).frozen
  |true=>
   cases c5:decide ((mK W l 4).s+W<=3) with
   |false=>exact(PureC.vc (yo W l n hW1 hW hn1 hn c1f c4 c5)).frozen
   |true=>exact(PureC.vc (yn W l n hW1 hW hn1 hn c1f c4 c5)).frozen
 |true=>
  have c1t:=c1
  cases c2:(W==1) with
  |false=>
   have c2f:=c2
   cases c4:decide (bits .and .i64 (Int.fdiv (kN l 1) (2^12)) 3>0) with
   |false=>exact(PureC.vc (ym W l n hW1 hW hn1 hn c1t c2f c4)).frozen
   |true=>
    cases c5:decide ((mK W l 4).s+W<=3) with
    |false=>exact(PureC.vc (vK W l n hW1 hW hn1 hn c1t c2f c4 c5)).frozen
    |true=>exact(PureC.vc (vJ W l n hW1 hW hn1 hn c1t c2f c4 c5)).frozen
  |true=>
   have c2t:=c2
   cases c3:(bits .and .i64 (Int.fdiv (kN l 1) (2^10)) 3==0) with
   |false=>
    have c3f:=c3
    cases c4:decide (bits .and .i64 (Int.fdiv (kN l 1) (2^12)) 3>0) with
    |false=>exact(PureC.vc (vI W l n hW1 hW hn1 hn c1t c2t c3f c4)).frozen
    |true=>
     cases c5:decide ((mK W l 4).s+W<=3) with
     |false=>exact(PureC.vc (tz W l n hW1 hW hn1 hn c1t c2t c3f c4 c5)).frozen
     |true=>exact(PureC.vc (tx W l n hW1 hW hn1 hn c1t c2t c3f c4 c5)).frozen
   |true=>
    have c3t:=c3
    cases c4:decide (bits .and .i64 (Int.fdiv (kN l 1) (2^12)) 3>0) with
    |false=>exact(PureC.vc (vH W l n hW1 hW hn1 hn c1t c2t c3t c4)).frozen
    |true=>
     cases c5:decide ((mK W l 4).s+W<=3) with
     |false=>exact(PureC.vc (tw W l n hW1 hW hn1 hn c1t c2t c3t c4 c5)).frozen
     |true=>exact(PureC.vc (tv W l n hW1 hW hn1 hn c1t c2t c3t c4 c5)).frozen
theorem z8(y m:Int)(hm:0<m):0<=tmN y m∧tmN y m<m:=rM y m hm
theorem AE(y:Int):0<=bits .and .i64 y 3∧bits .and .i64 y 3<4:=by
 obtain⟨q,h1,h2⟩:=qp y
 omega
theorem uD(x:Int):okV (vlN x):=by
 unfold vlN
 split
 ·exact fun h=>by cases h
 ·exact fun _=>AE x
theorem ca(k:Nat)(x:Int)(n:Nat)(hk:1<=k∧k<=11):OkI (cL k x n) n:=by
 have h14:=AE (x2 x 14)
 have ha:=uD (x2 x 8)
 have hb:=uD (x2 x 11)
 have ht:=z8 (x2 x 18) (n+1) (by omega)
 match k,hk with
 |1,_=>exact⟨⟨show(1:Int)<=1 by decide,show(1:Int)<=12 by decide⟩,ha,hb,h14,show(0:Int)<=0 by decide,by show(0:Int)<=_;omega⟩
 |2,_=>exact⟨⟨show(1:Int)<=2 by decide,show(2:Int)<=12 by decide⟩,ha,hb,h14,show(0:Int)<=0 by decide,by show(0:Int)<=_;omega⟩
 |3,_=>exact⟨⟨show(1:Int)<=3 by decide,show(3:Int)<=12 by decide⟩,ha,hb,h14,show(0:Int)<=0 by decide,by show(0:Int)<=_;omega⟩
 |4,_=>exact⟨⟨show(1:Int)<=4 by decide,show(4:Int)<=12 by decide⟩,ha,hb,h14,show(0:Int)<=0 by decide,by show(0:Int)<=_;omega⟩
 |5,_=>exact⟨⟨show(1:Int)<=5 by decide,show(5:Int)<=12 by decide⟩,ha,hb,⟨show(0:Int)<=0 by decide,show(0:Int)<4 by decide⟩,ht.1,by show tmN _ _<=_;omega⟩
 |6,_=>exact⟨⟨show(1:Int)<=6 by decide,show(6:Int)<=12 by decide⟩,jQ,jQ,⟨show(0:Int)<=0 by decide,show(0:Int)<4 by decide⟩,ht.1,by show tmN _ _<=_;omega⟩
 |7,_=>exact⟨⟨show(1:Int)<=7 by decide,show(7:Int)<=12 by decide⟩,ha,jQ,⟨show(0:Int)<=0 by decide,show(0:Int)<4 by decide⟩,show(0:Int)<=0 by decide,by show(0:Int)<=_;omega⟩
 |8,_=>exact⟨⟨show(1:Int)<=8 by decide,show(8:Int)<=12 by decide⟩,jQ,jQ,⟨show(0:Int)<=0 by decide,show(0:Int)<4 by decide⟩,ht.1,by show tmN _ _<=_;omega⟩
 |9,_=>exact⟨⟨show(1:Int)<=9 by decide,show(9:Int)<=12 by decide⟩,jQ,jQ,⟨show(0:Int)<=0 by decide,show(0:Int)<4 by decide⟩,show(0:Int)<=0 by decide,by show(0:Int)<=_;omega⟩
 |10,_=>exact⟨⟨show(1:Int)<=10 by decide,show(10:Int)<=12 by decide⟩,jQ,jQ,⟨show(0:Int)<=0 by decide,show(0:Int)<4 by decide⟩,show(0:Int)<=0 by decide,by show(0:Int)<=_;omega⟩
 |11,_=>exact⟨⟨show(1:Int)<=11 by decide,show(11:Int)<=12 by decide⟩,jQ,jQ,⟨show(0:Int)<=0 by decide,show(0:Int)<4 by decide⟩,show(0:Int)<=0 by decide,by show(0:Int)<=_;omega⟩
 |0,h=>exact absurd h.1 (by omega)
 |k+12,h=>exact absurd h.2 (by omega)
theorem yH(x:Int)(n:Nat):OkI (gT x n) n∧(gT x n).kind<=11:=by
 have h:=z8 x 18 (by omega)
 unfold gT
 obtain⟨q,e⟩: ∃q:Nat,tmN x 18=(q:Int):=⟨(tmN x 18).toNat,by omega⟩
 have hq:q<18:=by omega
 rw[e,aL]
 match q,hq with
 |0,_=>exact⟨ca 1 x n (by decide),by show(1:Int)<=11;decide⟩
 |1,_=>exact⟨ca 1 x n (by decide),by show(1:Int)<=11;decide⟩
 |2,_=>exact⟨ca 2 x n (by decide),by show(2:Int)<=11;decide⟩
 |3,_=>exact⟨ca 2 x n (by decide),by show(2:Int)<=11;decide⟩
 |4,_=>exact⟨ca 2 x n (by decide),by show(2:Int)<=11;decide⟩
 |5,_=>exact⟨ca 3 x n (by decide),by show(3:Int)<=11;decide⟩
 |6,_=>exact⟨ca 3 x n (by decide),by show(3:Int)<=11;decide⟩
 |7,_=>exact⟨ca 4 x n (by decide),by show(4:Int)<=11;decide⟩
 |8,_=>exact⟨ca 5 x n (by decide),by show(5:Int)<=11;decide⟩
 |9,_=>exact⟨ca 5 x n (by decide),by show(5:Int)<=11;decide⟩
 |10,_=>exact⟨ca 5 x n (by decide),by show(5:Int)<=11;decide⟩
 |11,_=>exact⟨ca 6 x n (by decide),by show(6:Int)<=11;decide⟩
 |12,_=>exact⟨ca 7 x n (by decide),by show(7:Int)<=11;decide⟩
 |13,_=>exact⟨ca 8 x n (by decide),by show(8:Int)<=11;decide⟩
 |14,_=>exact⟨ca 9 x n (by decide),by show(9:Int)<=11;decide⟩
 |15,_=>exact⟨ca 10 x n (by decide),by show(10:Int)<=11;decide⟩
 |16,_=>exact⟨ca 11 x n (by decide),by show(11:Int)<=11;decide⟩
 |17,_=>exact⟨ca 1 x n (by decide),by show(1:Int)<=11;decide⟩
 |_+18,h=>exact absurd h (by omega)
theorem v4(l:List Int)(n:Nat): ∀k, ∀i∈inL l n k,OkI i n∧i.kind<=11
 |0,i,hi=>by cases hi
 |k+1,i,hi=>by
  rcases aT.1 hi with h |h
  ·exact v4 l n k i h
  ·rw[aG.1 h];exact yH _ _
theorem Ct(c1 c2 c3 c4 c5:Bool):bC (msA c1 c2 c3 c4 c5)<=3∧(msA c1 c2 c3 c4 c5).length<=2:=by
 cases c1<;>cases c2<;>cases c3<;>cases c4<;>cases c5<;>decide
theorem dl(l:List Int):OkP (bB l):=by
 have hnn:=As l
 have hm:=Ct (decide (bits .and .i64 (Int.fdiv (kN l 1) (2^8)) 3>0)) ((wN l)==1) (bits .and .i64 (Int.fdiv (kN l 1) (2^10)) 3==0) (decide (bits .and .i64 (Int.fdiv (kN l 1) (2^12)) 3>0)) (decide ((mK (wN l) l 4).s+wN l<=3))
 have e:(bB l).is.length=nN l:=f9 _ _ _
 refine⟨fun i hi=> ?_,by rw[e];omega,Nat.lt_of_le_of_lt hm.2 (by omega),cu hm.1 (by omega)⟩
 rw[e]
 exact(v4 _ _ _ i hi).1
def plF(p:Pg):List Pl:=places (rg p.r0 p.r1 p.r2 p.r3) p.ms
def plR(l:List Pl):AV:= .row 3 l.length (al plC l)
def rsS(p:Pg)(pl:List Pl)(l:List Int)(s:S7)(k:Nat):Sm:=⟨[(1,lR l),(2,pgP p),(4,.bptr 0 0),(5,.bool false),(6,plR pl),(7,.bptr 1 0),(8,.int .i64 k)],
 [(0,bx 36 (stZ .nils)),(1,bx 36 (stC s (.own 2 0 1 0 s.m.length))),(2,gf s.m)],3⟩
theorem xl(p:Pg)(pl:List Pl)(k:Nat){Z:Prop}(z:Z):(RF p.is.length (RR p.is.length 9 (fun i j=>al inC p.is i j) (RF false (RF pl.length (RR pl.length 3 (fun i j=>al plC pl i j) (RF ((k:Int)+1) Z)))))):=⟨rfl,fun _ _ _ _=>rfl,rfl,rfl,fun _ _ _ _=>rfl,rfl,z⟩
theorem uv(p:Pg){Z:Prop}(z:Z):(RF p.fuel (RF p.r0 (RF p.r1 (RF p.r2 (RF p.r3 (RF p.ms.length (RR p.ms.length 3 (fun i j=>al mmC p.ms i j) (RF p.ls.length (RR p.ls.length 2 (fun i j=>al lbC p.ls i j) Z))))))))):=⟨rfl,rfl,rfl,rfl,rfl,rfl,fun _ _ _ _=>rfl,rfl,fun _ _ _ _=>rfl,z⟩
theorem ut(p:Pg)(l:List Int)(s:S7){Z:Prop}(z:Z):(RF (0:Nat) (RF s.m.length (RF (0:Int) (RF s.m.length (RR s.m.length 1 (fun i j=>aI (s.m.getD i 0)) (RF l.length (RR l.length 1 (fun i j=>aI (l.getD i 0)) (RF p.W (RF p.win Z))))))))):=⟨rfl,rfl,rfl,rfl,fun _ _ _ _=>rfl,rfl,fun _ _ _ _=>rfl,rfl,rfl,z⟩
abbrev vC(p:Pg)(l:List Int)(k:Nat):Orc:= .cl [aI p.W, aI (l.getD k 0)] (aI (Wd.maskV p.W (l.getD k 0))) []
theorem xO(p:Pg)(pl:List Pl)(l:List Int)(s:S7)(k:Nat)(hk:k<pl.length)(hl:l.length=pl.length)(hp:pl.length<1000000)(hr:(pl.getD k default).reg=true)(hn:(pl.getD k default).n=0):Vc (vC_ 28 0 (rsS p pl l s k) [.b true,vC p l k,.b true,.ix 0] .nrm [(0,0),(1,1),(2,2)] (rsS p pl l {s with r0:=Wd.maskV p.W (l.getD k 0)} (k+1))):=ai (cj (dt ((k:Int)<pl.length)) (cj (bi k l.length) (cj (rf p.W) (cj (rf (l.getD k 0)) (cj (br p.W (l.getD k 0)) (cj (bi k pl.length) (cj hr (cj (bi k pl.length) (cj (show(↑((pl.getD k default).n):Int)=((0:Nat):Int) from(congrArg Int.ofNat hn)) (cj (i6 (k+1)) (cj (rf (0:Int)) (cj (rf (0:Int)) (cj (rf (0:Int)) (cj (rf (0:Int)) (cj (rf (0:Int)) (cj (rf (Wd.maskV p.W (l.getD k 0))) (cj (rf s.r1) (cj (rf s.r2) (cj (rf s.r3) (ut p l s (uv p (xl p pl k trivial))))))))))))))))))))))
theorem xN(p:Pg)(pl:List Pl)(l:List Int)(s:S7)(k:Nat)(hk:k<pl.length)(hl:l.length=pl.length)(hp:pl.length<1000000)(hr:(pl.getD k default).reg=true)(hn:(pl.getD k default).n=1):Vc (vC_ 28 0 (rsS p pl l s k) [.b true,vC p l k,.b true,.ix 1] .nrm [(0,0),(1,1),(2,2)] (rsS p pl l {s with r1:=Wd.maskV p.W (l.getD k 0)} (k+1))):=ai (cj (dt ((k:Int)<pl.length)) (cj (bi k l.length) (cj (rf p.W) (cj (rf (l.getD k 0)) (cj (br p.W (l.getD k 0)) (cj (bi k pl.length) (cj hr (cj (bi k pl.length) (cj (show(↑((pl.getD k default).n):Int)=((1:Nat):Int) from(congrArg Int.ofNat hn)) (cj (i6 (k+1)) (cj (rf (0:Int)) (cj (rf (0:Int)) (cj (rf (0:Int)) (cj (rf (0:Int)) (cj (rf (0:Int)) (cj (rf s.r0) (cj (rf (Wd.maskV p.W (l.getD k 0))) (cj (rf s.r2) (cj (rf s.r3) (ut p l s (uv p (xl p pl k trivial))))))))))))))))))))))
theorem xM(p:Pg)(pl:List Pl)(l:List Int)(s:S7)(k:Nat)(hk:k<pl.length)(hl:l.length=pl.length)(hp:pl.length<1000000)(hr:(pl.getD k default).reg=true)(hn:(pl.getD k default).n=2):Vc (vC_ 28 0 (rsS p pl l s k) [.b true,vC p l k,.b true,.ix 2] .nrm [(0,0),(1,1),(2,2)] (rsS p pl l {s with r2:=Wd.maskV p.W (l.getD k 0)} (k+1))):=ai (cj (dt ((k:Int)<pl.length)) (cj (bi k l.length) (cj (rf p.W) (cj (rf (l.getD k 0)) (cj (br p.W (l.getD k 0)) (cj (bi k pl.length) (cj hr (cj (bi k pl.length) (cj (show(↑((pl.getD k default).n):Int)=((2:Nat):Int) from(congrArg Int.ofNat hn)) (cj (i6 (k+1)) (cj (rf (0:Int)) (cj (rf (0:Int)) (cj (rf (0:Int)) (cj (rf (0:Int)) (cj (rf (0:Int)) (cj (rf s.r0) (cj (rf s.r1) (cj (rf (Wd.maskV p.W (l.getD k 0))) (cj (rf s.r3) (ut p l s (uv p (xl p pl k trivial))))))))))))))))))))))
theorem xL(p:Pg)(pl:List Pl)(l:List Int)(s:S7)(k:Nat)(hk:k<pl.length)(hl:l.length=pl.length)(hp:pl.length<1000000)(hr:(pl.getD k default).reg=true)(hn:(pl.getD k default).n=3):Vc (vC_ 28 0 (rsS p pl l s k) [.b true,vC p l k,.b true,.ix 3] .nrm [(0,0),(1,1),(2,2)] (rsS p pl l {s with r3:=Wd.maskV p.W (l.getD k 0)} (k+1))):=ai (cj (dt ((k:Int)<pl.length)) (cj (bi k l.length) (cj (rf p.W) (cj (rf (l.getD k 0)) (cj (br p.W (l.getD k 0)) (cj (bi k pl.length) (cj hr (cj (bi k pl.length) (cj (show(↑((pl.getD k default).n):Int)=((3:Nat):Int) from(congrArg Int.ofNat hn)) (cj (i6 (k+1)) (cj (rf (0:Int)) (cj (rf (0:Int)) (cj (rf (0:Int)) (cj (rf (0:Int)) (cj (rf (0:Int)) (cj (rf s.r0) (cj (rf s.r1) (cj (rf s.r2) (cj (rf (Wd.maskV p.W (l.getD k 0))) (ut p l s (uv p (xl p pl k trivial))))))))))))))))))))))
theorem EA(p:Pg)(l:List Int){Z:Prop}(z:Z):(RF l.length (RR l.length 1 (fun i j=>aI (l.getD i 0)) (RF p.W (RF p.win (RF p.fuel (RF p.r0 (RF p.r1 (RF p.r2 (RF p.r3 Z))))))))):=⟨rfl,fun _ _ _ _=>rfl,rfl,rfl,rfl,rfl,rfl,rfl,rfl,z⟩
theorem Ez(s:S7){Z:Prop}(z:Z):(RF (0:Int) (RF (0:Int) (RF (0:Int) (RF (0:Int) (RF (0:Int) (RF s.r0 (RF s.r1 (RF s.r2 (RF s.r3 Z))))))))):=⟨rfl,rfl,rfl,rfl,rfl,rfl,rfl,rfl,rfl,z⟩
theorem BL(p:Pg)(pl:List Pl)(l:List Int)(s:S7)(k:Nat)(hk:k<pl.length)(hl:l.length=pl.length)(hp:pl.length<1000000)(hr:(pl.getD k default).reg=false)(hn:(pl.getD k default).n<s.m.length):Vc (vC_ 28 0 (rsS p pl l s k) [.b true,vC p l k,.b false] .nrm [(0,0),(1,1),(2,2)] (rsS p pl l {s with m:=s.m.set (pl.getD k default).n (Wd.maskV p.W (l.getD k 0))} (k+1))):=ai (cj (dt ((k:Int)<pl.length)) (cj (bi k l.length) (cj (rf p.W) (cj (rf (l.getD k 0)) (cj (br p.W (l.getD k 0)) (cj (bi k pl.length) (cj hr (cj (bi k pl.length) (cj (show(0:Int)<=(↑((pl.getD k default).n):Int)∧(↑((pl.getD k default).n):Int)<(↑s.m.length:Int) from⟨Int.natCast_nonneg _,Int.ofNat_lt.2 hn⟩) (cj hn (cj (i6 (k+1)) (Ez s (cj (rf (0:Nat)) (cj (show s.m.length=(List.set s.m (pl.getD k default).n (Wd.maskV p.W (l.getD k 0))).length from aH.symm) (cj (rf (0:Int)) (cj (show s.m.length=(List.set s.m (pl.getD k default).n (Wd.maskV p.W (l.getD k 0))).length from aH.symm) (cj (show ∀(i:Nat),i<s.m.length-> ∀(j:Nat),j<1->(bif Nat.ble (0:Nat) j&&Nat.blt j (1:Nat)&&Nat.beq i ((pl.getD k default).n+0) then List.getD [aI (Wd.maskV p.W (l.getD k 0))] (j-0) AV.junk else aI (s.m.getD i 0))=aI (List.getD (List.set s.m (pl.getD k default).n (Wd.maskV p.W (l.getD k 0))) i 0) from g7) (EA p l (cj (rf p.ms.length) (cj (rr p.ms.length 3 fun i j=>al mmC p.ms i j) (cj (rf p.ls.length) (cj (rr p.ls.length 2 fun i j=>al lbC p.ls i j) (cj (rf p.is.length) (cj (rr p.is.length 9 fun i j=>al inC p.is i j) (cj (rf false) (cj (rf pl.length) (cj (rr pl.length 3 fun i j=>al plC pl i j) (cj (rf ((k:Int)+1)) trivial))))))))))))))))))))))))))))
theorem BM(p:Pg)(pl:List Pl)(l:List Int)(s:S7):Vc (vC_ 28 0 (rsS p pl l s pl.length) [.b false] (.ext 0) [(0,0),(1,1),(2,2)] (rsS p pl l s pl.length)):=ai (cj (df ((pl.length:Int)<pl.length)) (Ez s (ut p l s (uv p (cj (rf p.is.length) (cj (rr p.is.length 9 fun i j=>al inC p.is i j) (cj (rf false) (cj (rf pl.length) (cj (rr pl.length 3 fun i j=>al plC pl i j) (cj (rf (pl.length:Int)) trivial))))))))))
theorem xP(p:Pg)(pl:List Pl)(l:List Int)(s:S7)(hl:l.length=pl.length)(hp:pl.length<1000000)(ho: ∀x∈pl,Ce s.m.length x):oL_ 28 0 (rsS p pl l s 0).st (.ext 0) (rsS p pl l (oc p.W pl l s pl.length) pl.length).st:=
 Ok.loop (P:=Try.prog) (nt:=cJ Try.prog 28) (c:=lpC Try.prog 28 0) (F:=fun k=>rsS p pl l (oc p.W pl l s k) k) (m:=pl.length) (x:= .ext 0) (J:=rsS p pl l (oc p.W pl l s pl.length) pl.length) (fun k hk=>by
  have hm:=pF p.W pl l s k
  obtain⟨h1,h2⟩:=ho _ (wc hk)
  show Ok _ _ _ _ _ (rsS p pl l (pG (oc p.W pl l s k) (pl.getD k default) (Wd.maskV p.W (l.getD k 0))) (k+1)).st
  cases hr:(pl.getD k default).reg with
  |true=>
   have hn:=h1 hr
   unfold pG
   rw[ao hr]
   match hq:(pl.getD k default).n,hn with
   |0,_=>exact Ok.vc (xO p pl l _ k hk hl hp hr hq)
   |1,_=>exact Ok.vc (xN p pl l _ k hk hl hp hr hq)
   |2,_=>exact Ok.vc (xM p pl l _ k hk hl hp hr hq)
   |3,_=>exact Ok.vc (xL p pl l _ k hk hl hp hr hq)
  |false=>
   have hn:=h2 hr
   unfold pG
   rw[an (by rw[hr];simp)]
   exact Ok.vc (BL p pl l _ k hk hl hp hr (by rw[hm];exact hn))) (Ok.vc (BM p pl l _)) (by simp)
def stK(p:Pg)(l:List Int):S7:=oc p.W (plF p) l (oM (bC p.ms)) (plF p).length
theorem nW(p:Pg)(l:List Int):(stK p l).m.length=bC p.ms:=by simp[stK,pF,oM]
theorem og{p:Pg}(h:OkP p):(plF p).length<=20:=by
 have:=mW (rg p.r0 p.r1 p.r2 p.r3) p.ms
 have:=h.sum
 unfold plF
 omega
theorem Cg(p:Pg): ∀x∈plF p,Ce (bC p.ms) x:=tk _ _
theorem Fg(p:Pg):bC p.ms=(List.replicate (bC p.ms) (0:Int)).length:=by simp[oM,nW]
theorem qz{Z:Prop}(z:Z):(RF (0:Int) (RF (0:Int) (RF (0:Int) (RF (0:Int) (RF (0:Int) (RF (0:Int) (RF (0:Int) (RF (0:Int) (RF (0:Int) Z))))))))):=⟨rfl,rfl,rfl,rfl,rfl,rfl,rfl,rfl,rfl,z⟩
theorem AU(p:Pg){Z:Prop}(z:Z):(RF p.W (RF p.r0 (RF p.r1 (RF p.r2 (RF p.r3 (RF p.ms.length (RR p.ms.length 3 (fun i j=>al mmC p.ms i j) Z))))))):=⟨rfl,rfl,rfl,rfl,rfl,rfl,fun _ _ _ _=>rfl,z⟩
theorem BK(p:Pg)(l:List Int)(hP:OkP p)(hl:l.length=(plF p).length):Vc (vF_ 28 [.agg (pgA p),lR l] [.fz,.cl [.agg (bc p.W p.r0 p.r1 p.r2 p.r3 (bL p.ms))] (plR (plF p)) [],.b false,.cl [.agg (bc p.W p.r0 p.r1 p.r2 p.r3 (bL p.ms))] (aI (bC p.ms)) [],.lp [(0,1),(1,3),(2,2)] (rsS p (plF p) l (oM (bC p.ms)) 0) (.ext 0) (rsS p (plF p) l (stK p l) (plF p).length)] [(0,2)] (.tup [.agg (stC (stK p l) (.own 0 0 1 0 (stK p l).m.length)),.bool true]) [gf (stK p l).m]):=ai (AU p (cj (np p.W p.r0 p.r1 p.r2 p.r3 p.ms (by have:=hP.ms;omega) (by have:=hP.sum;omega)).frozen (cj (show((l.length:Int) !=(↑((plF p).length):Int))=false from by rw[hl];simp) (AU p (cj (vd p.W p.r0 p.r1 p.r2 p.r3 p.ms (by have:=hP.ms;omega) (by have:=hP.sum;omega)) (cj (show(0:Int)<=(↑(bC p.ms):Int)∧(↑(bC p.ms):Int)<=(↑(bC p.ms):Int)∧(↑(bC p.ms):Int)*((8:Nat):Int)<=140737488355328∧(↑(bC p.ms):Int)<=140737488355328 from by have:=hP.sum;omega) (qz (cj (rf (0:Nat)) (cj (Fg p) (cj (rf (0:Int)) (cj (Fg p) (cj (show ∀(i:Nat),i<bC p.ms-> ∀(j:Nat),j<1->List.getD [aI 0] j AV.junk=aI (List.getD (List.replicate (bC p.ms) 0) i 0) from(fun i hi j hj=>(match j,hj with |0,_=>pC rfl i 0 (by simpa using hi)))) (EA p l (cj (rf p.ms.length) (cj (rr p.ms.length 3 fun i j=>al mmC p.ms i j) (cj (rf p.ls.length) (cj (rr p.ls.length 2 fun i j=>al lbC p.ls i j) (cj (rf p.is.length) (cj (rr p.is.length 9 fun i j=>al inC p.is i j) (cj (rf false) (cj (rf ((plF p).length)) (cj (rr ((plF p).length) 3 fun i j=>al plC (plF p) i j) (cj (rf (0:Int)) (cj (show oL_ 28 0 (rsS p (plF p) l (oM (bC p.ms)) 0).st (.ext 0) (rsS p (plF p) l (stK p l) (plF p).length).st from xP p (plF p) l _ hl (by have:=og hP;omega) (by simpa [oM] using Cg p)) (cj (rf ((stK p l).m.length)) (cj (rr ((stK p l).m.length) 1 fun i j=>aI (List.getD (stK p l).m i 0)) (cj (rf ((stK p l).r0)) (cj (rf ((stK p l).r1)) (cj (rf ((stK p l).r2)) (cj (rf ((stK p l).r3)) (cj (rf (0:Nat)) (cj (rf ((stK p l).m.length)) (cj (rf (0:Int)) (cj (rf true) trivial))))))))))))))))))))))))))))))))))
theorem rT(p:Pg)(l:List Int)(hP:OkP p)(hl:l.length=(plF p).length):pC_ 28 [.agg (pgA p),lR l] (.tup [.agg (stC (stK p l) (.own 0 0 1 0 (stK p l).m.length)),.bool true]) [gf (stK p l).m]:=PureC.vc (BK p l hP hl)
def xSt(pl:List Pl)(l:List Int)(how:Int):Nat->List Int
 |0=>List.replicate pl.length 0
 |k+1=>if k<l.length then(xSt pl l how k).set k (l.getD k 0) else xSt pl l how k
def ySt(pl:List Pl)(l:List Int)(how:Int):Nat->List Int
 |0=>List.replicate pl.length 0
 |k+1=>if k<l.length then(if(pl.getD k default).sec=true∨bits .and .i64 how 7=0 then((ySt pl l how k).set k (l.getD k 0)).set k (Int.fdiv (l.getD k 0) (2^4)) else(ySt pl l how k).set k (l.getD k 0)) else ySt pl l how k
def ssS(p:Pg)(pl:List Pl)(l X Y:List Int)(how:Int)(k:Nat):Sm:=⟨[(1,lR l),(2,.int .i64 how),(3,pgP p),(6,.bptr 0 0),(7,.bptr 1 0),(8,plR pl),(9,.own 2 0 1 0 X.length),(10,.own 3 0 1 0 Y.length),(25,.int .i64 pl.length),(26,.int .i64 k)],
 [(0,bx 36 (stZ .nils)),(1,bx 36 (stZ .nils)),(2,gf X),(3,gf Y)],4⟩
theorem uR{m:List Int}{n:Nat}{u v:Int}: ∀i,i<m.length-> ∀j,j<1->(bif Nat.ble 0 j&&Nat.blt j 1&&Nat.beq i (n+0) then[AV.int .i64 v].getD (j-0) .junk else(bif Nat.ble 0 j&&Nat.blt j 1&&Nat.beq i (n+0) then[AV.int .i64 u].getD (j-0) .junk else AV.int .i64 (m.getD i 0)))= .int .i64 (((m.set n u).set n v).getD i 0):=by
 intro i hi j hj
 obtain rfl:j=0:=by omega
 rw[List.set_set,g7 (m:=m) (n:=n) (v:=u) i hi 0 (by omega)]
 have:=g7 (m:=m) (n:=n) (v:=v) i hi 0 (by omega)
 rw[<-this]
 cases hb:Nat.beq i (n+0) with
 |true=>rfl
 |false=>
  have hne: ¬i=n:=fun e=>by subst e;simp at hb
  show AV.int .i64 ((m.set n u).getD i 0)=AV.int .i64 (m.getD i 0)
  simp[List.getD,dq,Ne.symm hne]
theorem Ey(p:Pg)(pl:List Pl)(X:List Int)(Y:List Int){Z:Prop}(z:Z):(RR p.ls.length 2 (fun i j=>al lbC p.ls i j) (RF p.is.length (RR p.is.length 9 (fun i j=>al inC p.is i j) (RF pl.length (RR pl.length 3 (fun i j=>al plC pl i j) (RF (0:Nat) (RF X.length (RF (0:Nat) (RF Y.length Z))))))))):=⟨fun _ _ _ _=>rfl,rfl,fun _ _ _ _=>rfl,rfl,fun _ _ _ _=>rfl,rfl,rfl,rfl,rfl,z⟩
theorem Ex(p:Pg){Z:Prop}(z:Z):(RF p.win (RF p.fuel (RF p.r0 (RF p.r1 (RF p.r2 (RF p.r3 (RF p.ms.length (RR p.ms.length 3 (fun i j=>al mmC p.ms i j) (RF p.ls.length Z))))))))):=⟨rfl,rfl,rfl,rfl,rfl,rfl,rfl,fun _ _ _ _=>rfl,rfl,z⟩
theorem Ew(p:Pg)(l:List Int)(X:List Int)(Y:List Int)(how:Int){Z:Prop}(z:Z):(RF (0:Int) (RF X.length (RR X.length 1 (fun i j=>aI (X.getD i 0)) (RF Y.length (RR Y.length 1 (fun i j=>aI (Y.getD i 0)) (RF l.length (RR l.length 1 (fun i j=>aI (l.getD i 0)) (RF how (RF p.W Z))))))))):=⟨rfl,rfl,fun _ _ _ _=>rfl,rfl,fun _ _ _ _=>rfl,rfl,fun _ _ _ _=>rfl,rfl,rfl,z⟩
theorem A7(p:Pg)(pl:List Pl)(l X Y:List Int)(how:Int)(k:Nat)(hk:k<pl.length)(hX:X.length=pl.length)(hY:Y.length=pl.length)(hp:pl.length<1000)(hl: ¬k<l.length):Vc (vC_ 12 0 (ssS p pl l X Y how k) [.b true,.b false] .nrm [(0,0),(1,1),(2,2),(3,3)] (ssS p pl l X Y how (k+1))):=ai (cj (dt ((k:Int)<pl.length)) (cj (df ((k:Int)<l.length)) (cj (i6 (k+1)) (qz (Ew p l X Y how (Ex p (Ey p pl X Y (cj (rf (pl.length:Int)) (cj (rf ((k:Int)+1)) trivial)))))))))
theorem Bn(l:List Int)(X:List Int)(k:Nat): ∀(i:Nat),i<X.length-> ∀(j:Nat),j<1->(bif Nat.ble (0:Nat) j&&Nat.blt j (1:Nat)&&Nat.beq i (k+0) then List.getD [aI (l.getD k 0)] (j-0) AV.junk else aI (X.getD i 0))=aI (List.getD (List.set X k (l.getD k 0)) i 0):=g7
theorem xG(l:List Int)(Y:List Int)(k:Nat):Y.length=(List.set (List.set Y k (l.getD k 0)) k (Int.fdiv (l.getD k 0) ((2:Int)^(4:Nat)))).length:=by simp
theorem Ff(l:List Int)(Y:List Int)(k:Nat): ∀(i:Nat),i<Y.length-> ∀(j:Nat),j<1->(bif Nat.ble (0:Nat) j&&Nat.blt j (1:Nat)&&Nat.beq i (k+0) then List.getD [aI (Int.fdiv (l.getD k 0) ((2:Int)^(4:Nat)))] (j-0) AV.junk else bif Nat.ble (0:Nat) j&&Nat.blt j (1:Nat)&&Nat.beq i (k+0) then List.getD [aI (l.getD k 0)] (j-0) AV.junk else aI (Y.getD i 0))=aI (List.getD (List.set (List.set Y k (l.getD k 0)) k (Int.fdiv (l.getD k 0) ((2:Int)^(4:Nat)))) i 0):=uR
theorem uu(p:Pg)(pl:List Pl){Z:Prop}(z:Z):(RF p.r3 (RF p.ms.length (RR p.ms.length 3 (fun i j=>al mmC p.ms i j) (RF p.ls.length (RR p.ls.length 2 (fun i j=>al lbC p.ls i j) (RF p.is.length (RR p.is.length 9 (fun i j=>al inC p.is i j) (RF pl.length (RR pl.length 3 (fun i j=>al plC pl i j) Z))))))))):=⟨rfl,rfl,fun _ _ _ _=>rfl,rfl,fun _ _ _ _=>rfl,rfl,fun _ _ _ _=>rfl,rfl,fun _ _ _ _=>rfl,z⟩
theorem rC(p:Pg)(l:List Int)(how:Int){Z:Prop}(z:Z):(RF l.length (RR l.length 1 (fun i j=>aI (l.getD i 0)) (RF how (RF p.W (RF p.win (RF p.fuel (RF p.r0 (RF p.r1 (RF p.r2 Z))))))))):=⟨rfl,fun _ _ _ _=>rfl,rfl,rfl,rfl,rfl,rfl,rfl,rfl,z⟩
theorem A5(p:Pg)(pl:List Pl)(l X Y:List Int)(how:Int)(k:Nat)(hk:k<pl.length)(hX:X.length=pl.length)(hY:Y.length=pl.length)(hp:pl.length<1000)(hl:k<l.length)(hs:(pl.getD k default).sec=true):Vc (vC_ 12 0 (ssS p pl l X Y how k) [.b true,.b true,.b true,.b true,.b true,.b true,.b true] .nrm [(0,0),(1,1),(2,2),(3,3)] (ssS p pl l (X.set k (l.getD k 0)) ((Y.set k (l.getD k 0)).set k (Int.fdiv (l.getD k 0) (2^4))) how (k+1))):=ai (cj (dt ((k:Int)<pl.length)) (cj (dt ((k:Int)<l.length)) (cj (bi k l.length) (cj (bi k l.length) (cj (bi k X.length) (cj (pv (k+0<X.length)) (cj (bi k Y.length) (cj (pv (k+0<Y.length)) (cj (bi k pl.length) (cj hs (cj hs (cj hs (cj hs (cj (rf true) (cj (bi k l.length) (cj (pv ((0:Int)<=4)) (cj (bi k Y.length) (cj (pv (k+0<Y.length)) (cj (i6 (k+1)) (qz (cj (rf (0:Int)) (cj (show X.length=(List.set X k (l.getD k 0)).length from by simp) (cj (Bn l X k) (cj (xG l Y k) (cj (Ff l Y k) (rC p l how (uu p pl (cj (rf (0:Nat)) (cj (show X.length=(List.set X k (l.getD k 0)).length from by simp) (cj (rf (0:Nat)) (cj (xG l Y k) (cj (rf (pl.length:Int)) (cj (rf ((k:Int)+1)) trivial)))))))))))))))))))))))))))))))))
theorem A8(p:Pg)(pl:List Pl)(l X Y:List Int)(how:Int)(k:Nat)(hk:k<pl.length)(hX:X.length=pl.length)(hY:Y.length=pl.length)(hp:pl.length<1000)(hl:k<l.length)(hs:(pl.getD k default).sec=false)(hh:bits .and .i64 how 7=0):Vc (vC_ 12 0 (ssS p pl l X Y how k) [.b true,.b true,.b false,.b false,.b false,.b false,.b true] .nrm [(0,0),(1,1),(2,2),(3,3)] (ssS p pl l (X.set k (l.getD k 0)) ((Y.set k (l.getD k 0)).set k (Int.fdiv (l.getD k 0) (2^4))) how (k+1))):=ai (cj (dt ((k:Int)<pl.length)) (cj (dt ((k:Int)<l.length)) (cj (bi k l.length) (cj (bi k l.length) (cj (bi k X.length) (cj (pv (k+0<X.length)) (cj (bi k Y.length) (cj (pv (k+0<Y.length)) (cj (bi k pl.length) (cj hs (cj hs (cj hs (cj hs (cj (show(Go.bits Go.BinOp.and IntKind.i64 how (7:Int)==(0:Int))=true from by rw[hh];rfl) (cj (bi k l.length) (cj (pv ((0:Int)<=4)) (cj (bi k Y.length) (cj (pv (k+0<Y.length)) (cj (i6 (k+1)) (qz (cj (rf (0:Int)) (cj (show X.length=(List.set X k (l.getD k 0)).length from by simp) (cj (Bn l X k) (cj (xG l Y k) (cj (Ff l Y k) (rC p l how (uu p pl (cj (rf (0:Nat)) (cj (show X.length=(List.set X k (l.getD k 0)).length from by simp) (cj (rf (0:Nat)) (cj (xG l Y k) (cj (rf (pl.length:Int)) (cj (rf ((k:Int)+1)) trivial)))))))))))))))))))))))))))))))))
theorem A6(p:Pg)(pl:List Pl)(l X Y:List Int)(how:Int)(k:Nat)(hk:k<pl.length)(hX:X.length=pl.length)(hY:Y.length=pl.length)(hp:pl.length<1000)(hl:k<l.length)(hs:(pl.getD k default).sec=false)(hh: ¬bits .and .i64 how 7=0):Vc (vC_ 12 0 (ssS p pl l X Y how k) [.b true,.b true,.b false,.b false,.b false,.b false,.b false] .nrm [(0,0),(1,1),(2,2),(3,3)] (ssS p pl l (X.set k (l.getD k 0)) (Y.set k (l.getD k 0)) how (k+1))):=ai (cj (dt ((k:Int)<pl.length)) (cj (dt ((k:Int)<l.length)) (cj (bi k l.length) (cj (bi k l.length) (cj (bi k X.length) (cj (pv (k+0<X.length)) (cj (bi k Y.length) (cj (pv (k+0<Y.length)) (cj (bi k pl.length) (cj hs (cj hs (cj hs (cj hs (cj (show(Go.bits Go.BinOp.and IntKind.i64 how (7:Int)==(0:Int))=false from by simpa using hh) (cj (i6 (k+1)) (qz (cj (rf (0:Int)) (cj (show X.length=(List.set X k (l.getD k 0)).length from by simp) (cj (Bn l X k) (cj (show Y.length=(List.set Y k (l.getD k 0)).length from by simp) (cj (show ∀(i:Nat),i<Y.length-> ∀(j:Nat),j<1->(bif Nat.ble (0:Nat) j&&Nat.blt j (1:Nat)&&Nat.beq i (k+0) then List.getD [aI (l.getD k 0)] (j-0) AV.junk else aI (Y.getD i 0))=aI (List.getD (List.set Y k (l.getD k 0)) i 0) from g7) (rC p l how (uu p pl (cj (rf (0:Nat)) (cj (show X.length=(List.set X k (l.getD k 0)).length from by simp) (cj (rf (0:Nat)) (cj (show Y.length=(List.set Y k (l.getD k 0)).length from by simp) (cj (rf (pl.length:Int)) (cj (rf ((k:Int)+1)) trivial)))))))))))))))))))))))))))))
theorem A9(p:Pg)(pl:List Pl)(l X Y:List Int)(how:Int):Vc (vC_ 12 0 (ssS p pl l X Y how pl.length) [.b false] (.ext 0) [(0,0),(1,1),(2,2),(3,3)] (ssS p pl l X Y how pl.length)):=ai (cj (df ((pl.length:Int)<pl.length)) (qz (Ew p l X Y how (Ex p (Ey p pl X Y (cj (rf (pl.length:Int)) (cj (rf (pl.length:Int)) trivial)))))))
theorem k0(pl:List Pl)(l:List Int)(how:Int): ∀k,(xSt pl l how k).length=pl.length
 |0=>List.length_replicate
 |k+1=>by
  unfold xSt
  split
  ·rw[aH,k0 pl l how k]
  ·exact k0 pl l how k
theorem i9(pl:List Pl)(l:List Int)(how:Int): ∀k,(ySt pl l how k).length=pl.length
 |0=>List.length_replicate
 |k+1=>by
  unfold ySt
  split
  ·split
   ·rw[aH,aH,i9 pl l how k]
   ·rw[aH,i9 pl l how k]
  ·exact i9 pl l how k
theorem xr(p:Pg)(pl:List Pl)(l:List Int)(how:Int)(hp:pl.length<1000):oL_ 12 0 (ssS p pl l (List.replicate pl.length 0) (List.replicate pl.length 0) how 0).st (.ext 0) (ssS p pl l (xSt pl l how pl.length) (ySt pl l how pl.length) how pl.length).st:=
 Ok.loop (P:=Try.prog) (nt:=cJ Try.prog 12) (c:=lpC Try.prog 12 0) (F:=fun k=>ssS p pl l (xSt pl l how k) (ySt pl l how k) how k) (m:=pl.length) (x:= .ext 0) (J:=ssS p pl l (xSt pl l how pl.length) (ySt pl l how pl.length) how pl.length) (fun k hk=>by
  have hX:=k0 pl l how k
  have hY:=i9 pl l how k
  show Ok _ _ _ _ _ (ssS p pl l (xSt pl l how (k+1)) (ySt pl l how (k+1)) how (k+1)).st
  have ex:xSt pl l how (k+1)=if k<l.length then(xSt pl l how k).set k (l.getD k 0) else xSt pl l how k:=rfl
  have ey:ySt pl l how (k+1)=if k<l.length then(if(pl.getD k default).sec=true∨bits .and .i64 how 7=0 then((ySt pl l how k).set k (l.getD k 0)).set k (Int.fdiv (l.getD k 0) (2^4)) else(ySt pl l how k).set k (l.getD k 0)) else ySt pl l how k:=rfl
  rw[ex,ey]
  by_cases hl:k<l.length
  ·rw[ao hl,ao hl]
   cases hs:(pl.getD k default).sec with
   |true=>rw[ao (.inl rfl)];exact Ok.vc (A5 p pl l _ _ how k hk hX hY hp hl hs)
   |false=>
    by_cases hh:bits .and .i64 how 7=0
    ·rw[ao (.inr hh)];exact Ok.vc (A8 p pl l _ _ how k hk hX hY hp hl hs hh)
    ·rw[an (by rintro(h |h);exact absurd h (by simp);exact hh h)];exact Ok.vc (A6 p pl l _ _ how k hk hX hY hp hl hs hh)
  ·rw[an hl,an hl]
   exact Ok.vc (A7 p pl l _ _ how k hk hX hY hp hl)) (Ok.vc (A9 p pl l _ _ how)) (by simp)
def s8S(s:S7):S8:=⟨s.r0,s.r1,s.r2,s.r3,s.m,[],0⟩
def xF(p:Pg)(l:List Int):List Int:=xSt (plF p) l 0 (plF p).length
def yF(p:Pg)(l:List Int)(how:Int):List Int:=ySt (plF p) l how (plF p).length
def sA(p:Pg)(l:List Int):S8:=s8S (stK p (xF p l))
def sB(p:Pg)(l:List Int)(how:Int):S8:=s8S (stK p (yF p l how))
theorem rF(pl:List Pl)(l:List Int)(h h':Int): ∀k,xSt pl l h k=xSt pl l h' k
 |0=>rfl
 |k+1=>by simp only[xSt,rF pl l h h' k]
theorem Fe(p:Pg)(hP:OkP p):(0:Int)<=(↑((plF p).length):Int)∧(↑((plF p).length):Int)<=(↑((plF p).length):Int)∧(↑((plF p).length):Int)*((8:Nat):Int)<=140737488355328∧(↑((plF p).length):Int)<=140737488355328:=by have:=og hP;omega
theorem xE(p:Pg):(plF p).length=(List.replicate (plF p).length (0:Int)).length:=by simp
theorem Fd(p:Pg): ∀(i:Nat),i<(plF p).length-> ∀(j:Nat),j<1->List.getD [aI 0] j AV.junk=aI (List.getD (List.replicate (plF p).length 0) i 0):=(fun i hi j hj=>(match j,hj with |0,_=>pC rfl i 0 (by simpa using hi)))
theorem zX(p:Pg){Z:Prop}(z:Z):(RF p.ls.length (RR p.ls.length 2 (fun i j=>al lbC p.ls i j) (RF p.is.length (RR p.is.length 9 (fun i j=>al inC p.is i j) Z)))):=⟨rfl,fun _ _ _ _=>rfl,rfl,fun _ _ _ _=>rfl,z⟩
theorem zW(p:Pg){Z:Prop}(z:Z):(RF p.W (RF p.win (RF p.fuel (RF p.r0 (RF p.r1 (RF p.r2 (RF p.r3 (RF p.ms.length (RR p.ms.length 3 (fun i j=>al mmC p.ms i j) Z))))))))):=⟨rfl,rfl,rfl,rfl,rfl,rfl,rfl,rfl,fun _ _ _ _=>rfl,z⟩
theorem E4(p:Pg)(l:List Int)(how:Int)(hP:OkP p):Vc (vF_ 12 [.agg (pgA p),lR l, aI how] [.fz,.cl [.agg (bc p.W p.r0 p.r1 p.r2 p.r3 (bL p.ms))] (plR (plF p)) [],.lp [(0,1),(1,2),(2,3),(3,4)] (ssS p (plF p) l (List.replicate (plF p).length 0) (List.replicate (plF p).length 0) how 0) (.ext 0) (ssS p (plF p) l (xSt (plF p) l how (plF p).length) (yF p l how) how (plF p).length),.cl [.agg (pgA p),lR (xSt (plF p) l how (plF p).length)] (.tup [.agg (stC (stK p (xSt (plF p) l how (plF p).length)) (lR (stK p (xSt (plF p) l how (plF p).length)).m)),.bool true]) [],.cl [.agg (pgA p),lR (yF p l how)] (.tup [.agg (stC (stK p (yF p l how)) (lR (stK p (yF p l how)).m)),.bool true]) [],.ll [4,5]] [] (.tup [.agg (stC (stK p (xSt (plF p) l how (plF p).length)) (lR (stK p (xSt (plF p) l how (plF p).length)).m)),.agg (stC (stK p (yF p l how)) (lR (stK p (yF p l how)).m))]) []):=ai (AU p (cj (np p.W p.r0 p.r1 p.r2 p.r3 p.ms (by have:=hP.ms;omega) (by have:=hP.sum;omega)).frozen (cj (Fe p hP) (cj (Fe p hP) (qz (cj (rf (0:Int)) (cj (xE p) (cj (Fd p) (cj (xE p) (cj (Fd p) (rC p l how (cj (rf p.r3) (cj (rf p.ms.length) (cj (rr p.ms.length 3 fun i j=>al mmC p.ms i j) (cj (rf p.ls.length) (cj (rr p.ls.length 2 fun i j=>al lbC p.ls i j) (cj (rf p.is.length) (cj (rr p.is.length 9 fun i j=>al inC p.is i j) (cj (rf ((plF p).length)) (cj (rr ((plF p).length) 3 fun i j=>al plC (plF p) i j) (cj (rf (0:Nat)) (cj (xE p) (cj (rf (0:Nat)) (cj (xE p) (cj (rf (↑((plF p).length):Int)) (cj (rf (0:Int)) (cj (xr p (plF p) l how (by have:=og hP;omega)) (zW p (zX p (cj (rf ((xSt (plF p) l how (plF p).length).length)) (cj (rr ((xSt (plF p) l how (plF p).length).length) 1 fun i j=>aI (List.getD (xSt (plF p) l how (plF p).length) i 0)) (cj (show pC_ 28 [.agg (pgA p),lR (xSt (plF p) l how (plF p).length)] (.tup [.agg (stC (stK p (xSt (plF p) l how (plF p).length)) (lR (stK p (xSt (plF p) l how (plF p).length)).m)),.bool true]) [] from(rT p (xSt (plF p) l how (plF p).length) hP (k0 _ _ _ _)).frozen2) (zW p (zX p (cj (rf ((yF p l how).length)) (cj (rr ((yF p l how).length) 1 fun i j=>aI (List.getD (yF p l how) i 0)) (cj (show pC_ 28 [.agg (pgA p),lR (yF p l how)] (.tup [.agg (stC (stK p (yF p l how)) (lR (stK p (yF p l how)).m)),.bool true]) [] from(rT p (yF p l how) hP (i9 _ _ _ _)).frozen2) (cj (rf ((stK p (xSt (plF p) l how (plF p).length)).r0)) (cj (rf ((stK p (xSt (plF p) l how (plF p).length)).r1)) (cj (rf ((stK p (xSt (plF p) l how (plF p).length)).r2)) (cj (rf ((stK p (xSt (plF p) l how (plF p).length)).r3)) (cj (rf (((stK p (xSt (plF p) l how (plF p).length)).m).length)) (cj (rr (((stK p (xSt (plF p) l how (plF p).length)).m).length) 1 fun i j=>aI (List.getD ((stK p (xSt (plF p) l how (plF p).length)).m) i 0)) (cj (rf (0:Int)) (cj (rf ((stK p (yF p l how)).r0)) (cj (rf ((stK p (yF p l how)).r1)) (cj (rf ((stK p (yF p l how)).r2)) (cj (rf ((stK p (yF p l how)).r3)) (cj (rf ((stK p (yF p l how)).m.length)) (cj (rr ((stK p (yF p l how)).m.length) 1 fun i j=>aI (List.getD (stK p (yF p l how)).m i 0)) (cj (rf (0:Int)) trivial)))))))))))))))))))))))))))))))))))))))))))))))))))
theorem jb(p:Pg)(l:List Int)(how:Int)(hP:OkP p):pC_ 12 [.agg (pgA p),lR l,.int .i64 how] (.tup [.agg (s8N (sA p l)),.agg (s8N (sB p l how))]) []:=by
 have h:=PureC.vc (E4 p l how hP)
 rw[rF (plF p) l how 0] at h
 exact h
def B7(s:S7):Prop:=((0<=s.r0∧s.r0<65536)∧(0<=s.r1∧s.r1<65536)∧(0<=s.r2∧s.r2<65536)∧(0<=s.r3∧s.r3<65536))∧ ∀x∈s.m,0<=x∧x<65536
theorem Ca{s:S7}(h:B7 s)(P:Pl){v:Int}(hv:0<=v∧v<65536):B7 (pG s P v):=by
 obtain⟨⟨h0,h1,h2,h3⟩,hm⟩:=h
 unfold pG
 split
 ·split
  ·exact⟨⟨hv,h1,h2,h3⟩,hm⟩
  ·split
   ·exact⟨⟨h0,hv,h2,h3⟩,hm⟩
   ·split
    ·exact⟨⟨h0,h1,hv,h3⟩,hm⟩
    ·exact⟨⟨h0,h1,h2,hv⟩,hm⟩
 ·refine⟨⟨h0,h1,h2,h3⟩,fun x hx=> ?_⟩
  rcases cv hx with h |rfl
  ·exact hm x h
  ·exact hv
theorem zz:(0:Int)<=0∧(0:Int)<65536:=by decide
theorem AF(n:Nat):B7 (oM n):=⟨⟨zz,zz,zz,zz⟩,fun x hx=>by
 have:=(List.mem_replicate.1 hx).2
 omega⟩
theorem vj(W:Int)(pl:List Pl)(l:List Int)(s:S7)(h:B7 s): ∀k,B7 (oc W pl l s k)
 |0=>h
 |k+1=>Ca (vj W pl l s h k) _ (Wd.maskV_bd _ _)
theorem Bu(p:Pg)(l:List Int):OkS ((bC p.ms:Nat):Int) p.is.length (s8S (stK p l)):=by
 obtain⟨h1,h2⟩:=vj p.W (plF p) l (oM (bC p.ms)) (AF _) (plF p).length
 refine⟨h1,h2, ?_,⟨by show(-1:Int)<=0;decide,by show(0:Int)<=_;omega⟩,by show(0:Nat)<=100;decide,fun x hx=>by cases hx⟩
 show((bC p.ms:Nat):Int)=(((stK p l).m.length:Nat):Int)
 rw[nW]
theorem Fi(p:Pg)(l:List Int):OkS ((bC p.ms:Nat):Int) p.is.length (sA p l):=Bu p _
theorem ea(l:List Int):1<=(bB l).win∧(bB l).win<=3:=by
 have h:=rM (Int.fdiv (kN l 0) (2^1)) 3 (by omega)
 show 1<=aU l∧aU l<=3
 unfold aU
 omega
theorem qS(m z:List Int):Inv (bB m) (beg (sA (bB m) z)):=by
 have h:=Fi (bB m) z
 have e:(sA (bB m) z).m.length=bC (bB m).ms:=nW _ _
 refine Inv.begin (e▸h) e (cF _) fun x hx=> ?_
 cases hx
def wkC(m z w:List Int):Cf:=(wkV (bB m) (sA (bB m) z) w).1
theorem fL(m z w:List Int):Inv (bB m) (wkC m z w):=rJ (dl m) (by have:=ea m;omega) _ _ _ _ (qS m z)
theorem lI(m z w:List Int):MOk (bB m) (wkC m z w):=(fL m z w).ok (dl m) (by have:=ea m;omega)
theorem xn(m z w:List Int):(wkC m z w).b.length<=3:=by
 have:=(fL m z w).bl
 have:=ea m
 omega
theorem oW(m z w:List Int):pC_ 13 [.agg (pgA (bB m)),.agg (s8R (sA (bB m) z)),lR w] (.tup [.agg (cfA (wkC m z w)),drR (wkV (bB m) (sA (bB m) z) w).2]) []:=
 Bv (bB m) (sA (bB m) z) w (dl m) (by have:=ea m;omega) (qS m z)
structure Liv (p:Pg) (c:Cf):Prop where
 e:c.e=0∨c.e=1∨c.e=2
 fin: ¬c.e=0->c.b=[]∧c.r=[]
 lst:c.s.pc= -1->c.e=0-> ∃k,c.b.length=k+1∧((enX p c k).kind=11∨(enX p c k).kind=12)
 und: ∀k,k<c.b.length->(c.b.getD k default).dn=false->(enX p c k).kind≠6∧(enX p c k).kind≠8∧(enX p c k).kind≠11∧(enX p c k).kind≠12
theorem Liv.up{p:Pg}{c:Cf}(h:Liv p c)(he:c.e=0){k:Nat}(hk:k<c.b.length){e:En}(hp:e.pc=(c.b.getD k default).pc)(hd:e.dn=false->(c.b.getD k default).dn=false):Liv p ⟨c.s,c.b.set k e,c.r,c.e⟩:=by
 have hpc: ∀i,((c.b.set k e).getD i default).pc=(c.b.getD i default).pc:=fun i=>by
  rw[lx hk]
  split
  ·rename_i hi;rw[hi];exact hp
  ·rfl
 have hx: ∀i,enX p ⟨c.s,c.b.set k e,c.r,c.e⟩ i=enX p c i:=fun i=>by
  show atI p ((c.b.set k e).getD i default).pc=_
  rw[hpc];rfl
 refine⟨h.e,fun hn=>absurd he hn,fun h1 h2=> ?_,fun i hi hdn=> ?_⟩
 ·obtain⟨q,h3,h4⟩:=h.lst h1 h2
  exact⟨q,(aH).trans h3,by rw[hx];exact h4⟩
 ·have hi:i<c.b.length:=by have:(c.b.set k e).length=c.b.length:=aH;exact this▸hi
  rw[hx]
  refine h.und i hi ?_
  have hdn:((c.b.set k e).getD i default).dn=false:=hdn
  rw[lx hk] at hdn
  split at hdn
  ·rename_i hq;rw[hq];exact hd hdn
  ·exact hdn
theorem Liv.cut{p:Pg}{c:Cf}(h:Liv p c)(he:c.e=0)(n:Nat){t:Int}(ht:0<=t):Liv p ⟨c.s.go t,c.b.take n,c.r,c.e⟩:=by
 refine⟨h.e,fun hn=>absurd he hn,fun h1 _=> ?_,fun i hi hdn=> ?_⟩
 ·have:t= -1:=h1
  omega
 ·have hi:i<min n c.b.length:=by have:(c.b.take n).length=min n c.b.length:=aO;exact this▸hi
  have e1:(c.b.take n).getD i default=c.b.getD i default:=mg (by omega)
  have hdn:((c.b.take n).getD i default).dn=false:=hdn
  rw[e1] at hdn
  have:=h.und i (by omega) hdn
  show(atI p ((c.b.take n).getD i default).pc).kind≠6∧_
  unfold enX
  show(atI p ((c.b.take n).getD i default).pc).kind≠6∧(atI p ((c.b.take n).getD i default).pc).kind≠8∧(atI p ((c.b.take n).getD i default).pc).kind≠11∧(atI p ((c.b.take n).getD i default).pc).kind≠12
  rw[e1];exact this
theorem Liv.goV{p:Pg}{c:Cf}(h:Liv p c)(he:c.e=0){k:Nat}(hk:k<c.b.length){t:Int}(ht:0<=t):Liv p (goV c k t):=by
 unfold Px.goV
 split
 ·exact h
 ·exact(h.up he hk (e:=(c.b.getD k default).to t) rfl (fun h=>h)).cut he (k+1) ht
theorem Ao{p:Pg}{c:Cf}{i:Int}(h:opV p c i=true):c.e=0:=by
 unfold opV at h
 split at h
 ·rename_i h1;exact h1.1
 ·cases h
theorem Az{p:Pg}{c:Cf}{i:Int}(h:cnV p c i=true):c.e=0:=by
 unfold cnV at h
 rw[au] at h
 exact Ao h.1
theorem AC{p:Pg}{c:Cf}{i:Int}(h:caV p c i=true):c.e=0:=by
 unfold caV at h
 rw[au] at h
 exact Ao h.1
theorem vV{p:Pg}(hP:OkP p){c:Cf}(h:Inv p c){k:Nat}{L:List Int}(hv:reG p c.b 0 k c.s.st=some L)(h0: ¬L.length=0):0<=bz L:=by
 have hm:bz L∈L:=by unfold bz;exact lw (by omega)
 have:=jk p c.b (fun x=>0<=x∧x<=p.is.length) k 0 c.s.st L h.stk (fun i _ hi h8=>by
  have:=(gY hP (c.b.getD i default).pc).2 (by unfold enI at h8;omega)
  omega) hv _ hm
 exact this.1
theorem GI(c:Cf)(k:Nat)(t:Int):(Px.goV c k t).e=c.e:=by unfold Px.goV;split<;>rfl
theorem Liv.doO{p:Pg}{c c2:Cf}{o:List Ob}(hP:OkP p)(hI:Inv p c)(h:Liv p c){i:Int}(e:doO p c i=some (c2,o)):Liv p c2∧c2.e=c.e:=by
 unfold Px.doO at e
 split at e
 ·rename_i hc
  have he:=Az hc
  obtain⟨k,rfl,hk,hd,hK⟩:=ri hc
  rw[aL,ah] at e
  obtain⟨hx,hx2⟩:=ra hP c k
  have mk: ∀g:En->En,(g (c.b.getD k default)).pc=(c.b.getD k default).pc->(g (c.b.getD k default)).dn=true->Liv p (upE c k g):=fun g h1 h2=>h.up he hk h1 (fun h3=>by rw[h2] at h3;cases h3)
  have hD:Liv p (upE c k En.done):=mk _ rfl rfl
  have hlD:(upE c k En.done).b.length=c.b.length:=aH
  have go: ∀t,0<=t->Liv p (Px.goV (upE c k En.done) k t)∧(Px.goV (upE c k En.done) k t).e=c.e:=fun t ht=>⟨hD.goV he (by rw[hlD];exact hk) ht,GI _ _ _⟩
  have hbD: ∀i,((upE c k En.done).b.getD i default).pc=(c.b.getD i default).pc:=fun i=>oh (l:=c.b) (k:=k) (g:=En.done) (fun _=>rfl) i
  unfold dmV at e
  by_cases k1:(enX p c k).kind=1
  ·rw[ao k1] at e
   cases e
   exact⟨mk _ rfl rfl,rfl⟩
  rw[an k1] at e
  by_cases k4:(enX p c k).kind=4
  ·rw[ao k4] at e
   cases e
   exact⟨mk _ rfl rfl,rfl⟩
  rw[an k4] at e
  by_cases k3:(enX p c k).kind=3
  ·rw[ao k3] at e
   cases e
   exact⟨mk _ rfl rfl,rfl⟩
  rw[an k3] at e
  by_cases k2:(enX p c k).kind=2
  ·rw[ao k2] at e
   split at e
   ·cases e
    exact⟨mk _ rfl rfl,rfl⟩
   ·cases e
    exact⟨mk _ rfl rfl,rfl⟩
  rw[an k2] at e
  by_cases k5:(enX p c k).kind=5
  ·rw[ao k5] at e
   cases e
   refine go _ ?_
   have hpc:=hx2 (by omega)
   have htg:=hx.2.2.2.2
   split
   ·omega
   ·omega
  rw[an k5] at e
  by_cases k7:(enX p c k).kind=7
  ·rw[ao k7] at e
   cases e
   refine go _ ?_
   have:=(la (p:=p) hI.reg (hI.done k) (k:Int) (enX p c k).a).1
   unfold dg tA
   show 0<=min (gr p c.s (upE c k En.done).b k (enX p c k).a).1 _
   omega
  rw[an k7,n9 p c.s.st _ (by rw[hlD];omega),oa p c.s.st (fun i _=>hbD i)] at e
  cases hv:reG p c.b 0 k c.s.st with
  |none=>rw[hv] at e;cases e;exact⟨mk _ rfl rfl,rfl⟩
  |some L=>
   rw[hv] at e
   by_cases h0:L.length=0
   ·have e':(if L.length=0 then((upE c k fun e=>e.done.flt,[]):Cf×List Ob) else(Px.goV (upE c k En.done) k (bz L),[⟨3,bz L⟩]))=(c2,o):=e
    rw[ao h0] at e';cases e';exact⟨mk _ rfl rfl,rfl⟩
   ·have e':(if L.length=0 then((upE c k fun e=>e.done.flt,[]):Cf×List Ob) else(Px.goV (upE c k En.done) k (bz L),[⟨3,bz L⟩]))=(c2,o):=e
    rw[an h0] at e';cases e'
    exact go _ (vV hP hI hv h0)
 ·cases e
theorem Liv.adrO{p:Pg}{c c2:Cf}{o:List Ob}(hI:Inv p c)(h:Liv p c){i:Int}(e:adrO p c i=some (c2,o)):Liv p c2∧c2.e=c.e:=by
 unfold Px.adrO at e
 split at e
 ·rename_i hc
  have he:=AC hc
  obtain⟨k,rfl,hk,hd,hK⟩:=rm hc
  rw[aL,ah] at e
  have mk: ∀g:En->En,(g (c.b.getD k default)).pc=(c.b.getD k default).pc->(g (c.b.getD k default)).dn=(c.b.getD k default).dn->Liv p (upE c k g):=fun g h1 h2=>h.up he hk h1 (fun h3=>by rw[h2] at h3;exact h3)
  unfold zb at e
  split at e
  ·cases e;exact⟨mk _ rfl rfl,rfl⟩
  ·split at e
   ·rename_i q hz
    cases e
    obtain⟨q',rfl,hq⟩:=qU hz
    refine⟨(mk (fun e=>e.ad (adV p c k (enX p c k))) rfl rfl).cut he _ ?_,rfl⟩
    rw[aL]
    have hl:q'<c.b.length:=by have:(upE c k fun e=>e.ad (adV p c k (enX p c k))).b.length=c.b.length:=aH;exact this▸hq
    have e1:((upE c k fun e=>e.ad (adV p c k (enX p c k))).b.getD q' default).pc=(c.b.getD q' default).pc:=oh (l:=c.b) (k:=k) (g:=fun e=>e.ad (adV p c k (enX p c k))) (fun _=>rfl) q'
    rw[e1]
    exact(hI.be _ (er hl)).pc.1
   ·cases e;exact⟨mk _ rfl rfl,rfl⟩
 ·cases e
theorem Liv.ftO{p:Pg}{c c2:Cf}{g:Int}(hP:OkP p)(hI:Inv p c)(h:Liv p c)(e:ftO p c g=some c2):Liv p c2∧c2.e=c.e:=by
 unfold Px.ftO at e
 split at e
 ·rename_i hg
  cases e
  obtain⟨⟨he,hp1,hw⟩,h7,h9⟩:=lu hg.1 hg.2
  have hpc:=hI.pc
  obtain⟨hx,hx2⟩:=gY hP c.s.pc
  have htg:=hx.2.2.2.2
  have key:(ftE p c g).pc=c.s.pc∧((ftE p c g).nxt= -1->(atI p c.s.pc).kind=11∨(atI p c.s.pc).kind=12)∧((ftE p c g).dn=false->(atI p c.s.pc).kind≠6∧(atI p c.s.pc).kind≠8∧(atI p c.s.pc).kind≠11∧(atI p c.s.pc).kind≠12):=by
   unfold ftE
   by_cases k5:(atI p c.s.pc).kind=5
   ·rw[ao k5]
    refine⟨rfl,fun hn=> ?_,fun _=>by omega⟩
    have hn:(if g=1 then(atI p c.s.pc).tg else c.s.pc+1)= -1:=hn
    split at hn<;>omega
   rw[an k5]
   by_cases k6:(atI p c.s.pc).kind=6
   ·rw[ao k6]
    exact⟨rfl,fun hn=>by have hn:(atI p c.s.pc).tg= -1:=hn;omega,fun hd=>by cases hd⟩
   rw[an k6]
   by_cases k7:(atI p c.s.pc).kind=7
   ·rw[ao k7]
    exact⟨rfl,fun hn=>by have hn:g= -1:=hn;omega,fun _=>by omega⟩
   rw[an k7]
   by_cases k9:(atI p c.s.pc).kind=9
   ·rw[ao k9]
    refine⟨rfl,fun hn=> ?_,fun _=>by omega⟩
    have hn:(if c.r.length=0 then g else bz c.r)= -1:=hn
    split at hn
    ·omega
    ·rename_i hr
     have:=hI.rb (bz c.r) (by unfold bz;exact lw (by omega))
     omega
   rw[an k9]
   by_cases k8:(atI p c.s.pc).kind=8
   ·rw[ao k8]
    exact⟨rfl,fun hn=>by have hn:(atI p c.s.pc).tg= -1:=hn;omega,fun hd=>by cases hd⟩
   rw[an k8]
   by_cases k1:(atI p c.s.pc).kind=11∨(atI p c.s.pc).kind=12
   ·rw[ao k1]
    exact⟨rfl,fun _=>k1,fun hd=>by cases hd⟩
   rw[an k1]
   exact⟨rfl,fun hn=>by have hn:c.s.pc+1= -1:=hn;omega,fun _=>by omega⟩
  obtain⟨kp,kn,kd⟩:=key
  have hlast:enX p (ftD p c g) c.b.length=atI p c.s.pc:=by
   show atI p ((c.b++[ftE p c g]).getD c.b.length default).pc=_
   rw[mh,kp]
  refine⟨⟨h.e,fun hn=>absurd he hn,fun h1 _=>⟨c.b.length,by show(c.b++[_]).length=_;rw[ay];rfl, ?_⟩,fun i hi hdn=> ?_⟩,rfl⟩
  ·rw[hlast];exact kn h1
  ·have hi:i<c.b.length+1:=by
    have:(c.b++[ftE p c g]).length=c.b.length+1:=by rw[ay];rfl
    exact this▸hi
   by_cases hq:i<c.b.length
   ·have e1:(c.b++[ftE p c g]).getD i default=c.b.getD i default:=lA hq
    have hdn:((c.b++[ftE p c g]).getD i default).dn=false:=hdn
    rw[e1] at hdn
    have:=h.und i hq hdn
    show(atI p ((c.b++[ftE p c g]).getD i default).pc).kind≠6∧(atI p ((c.b++[ftE p c g]).getD i default).pc).kind≠8∧(atI p ((c.b++[ftE p c g]).getD i default).pc).kind≠11∧(atI p ((c.b++[ftE p c g]).getD i default).pc).kind≠12
    rw[e1];exact this
   ·obtain rfl:i=c.b.length:=by omega
    rw[hlast]
    have hdn:((c.b++[ftE p c g]).getD c.b.length default).dn=false:=hdn
    rw[mh] at hdn
    exact kd hdn
 ·cases e
theorem Liv.rtO{p:Pg}{c c2:Cf}(h:Liv p c)(e:rtO p c=some c2):Liv p c2:=by
 unfold Px.rtO at e
 split at e
 ·rename_i hc
  cases e
  obtain⟨h0,hl,hdn,hkn⟩:=oC hc
  have hpop: ∀s:S8,s.pc=c.s.pc-> ¬((enX p c 0).kind=11∨(enX p c 0).kind=12)->Liv p ⟨s,bZ c.b,c.r,c.e⟩:=fun s hs hk=>by
   have hx: ∀i,i+1<c.b.length->enX p ⟨s,bZ c.b,c.r,c.e⟩ i=enX p c (i+1):=fun i hi=>by
    show atI p ((bZ c.b).getD i default).pc=atI p (c.b.getD (i+1) default).pc
    rw[gO c.b (by omega)];rfl
   refine⟨h.e,fun hn=>absurd h0 hn,fun h1 h2=> ?_,fun i hi hd=> ?_⟩
   ·have h1:s.pc= -1:=h1
    obtain⟨q,h3,h4⟩:=h.lst (hs▸h1) h0
    cases q with
    |zero=>exact absurd h4 hk
    |succ q=>exact⟨q,by show(bZ c.b).length=_;rw[gN];omega,by rw[hx q (by omega)];exact h4⟩
   ·have hi:i<c.b.length-1:=by have:=gN c.b;exact this▸hi
    rw[hx i (by omega)]
    refine h.und (i+1) (by omega) ?_
    have hd:((bZ c.b).getD i default).dn=false:=hd
    rw[gO c.b (by omega)] at hd
    exact hd
  have hfin: ∀t q,q=1∨q=2->Liv p ⟨c.s.go t,[],[],q⟩:=fun t q hq=>
   ⟨.inr hq,fun _=>⟨rfl,rfl⟩,fun _ he=>by have he:q=0:=he;omega,fun k hk=>absurd hk (g4 k)⟩
  unfold rtV
  by_cases n12:(c.b.getD 0 default).ft=true∨(enX p c 0).kind=12
  ·rw[ao n12];exact hfin _ 2 (.inr rfl)
  rw[an n12]
  by_cases k11:(enX p c 0).kind=11
  ·rw[ao k11];exact hfin _ 1 (.inl rfl)
  rw[an k11]
  have hk: ¬((enX p c 0).kind=11∨(enX p c 0).kind=12):=fun hk=>hk.elim k11 fun h=>n12 (.inr h)
  by_cases kd:eT (enX p c 0)=true
  ·rw[ao kd];exact hpop _ rfl hk
  rw[an kd]
  by_cases k3:(enX p c 0).kind=3
  ·rw[ao k3];exact hpop _ rfl hk
  rw[an k3]
  by_cases k8:(enX p c 0).kind=8
  ·rw[ao k8];exact hpop _ rfl hk
  rw[an k8]
  by_cases k9:(enX p c 0).kind=9
  ·rw[ao k9];exact hpop _ rfl hk
  rw[an k9]
  exact hpop _ rfl hk
 ·cases e
theorem Liv.sayO{p:Pg}{c c2:Cf}{o:List Ob}(hP:OkP p)(hI:Inv p c)(h:Liv p c){d:Dr}(e:sayO p c d=some (c2,o)):Liv p c2∧(d.k≠4->c2.e=c.e):=by
 unfold Px.sayO at e
 split at e
 ·cases hq:Px.ftO p c d.n with
  |none=>rw[hq] at e;cases e
  |some x=>rw[hq] at e;cases e;exact⟨(h.ftO hP hI hq).1,fun _=>(h.ftO hP hI hq).2⟩
 ·split at e
  ·exact⟨(h.doO hP hI e).1,fun _=>(h.doO hP hI e).2⟩
  ·split at e
   ·exact⟨(h.adrO hI e).1,fun _=>(h.adrO hI e).2⟩
   ·split at e
    ·rename_i h4
     split at e
     ·cases hq:Px.rtO p c with
      |none=>rw[hq] at e;cases e
      |some x=>rw[hq] at e;cases e;exact⟨h.rtO hq,fun hn=>absurd h4 hn⟩
     ·cases e
    ·cases e
theorem Liv.beg{p:Pg}{s:S8}(hs:s.pc≠ -1):Liv p (beg s):=
 ⟨.inl rfl,fun hn=>absurd rfl hn,fun h=>absurd h hs,fun k hk=>absurd hk (g4 k)⟩
theorem y8{p:Pg}{c:Cf}(he: ¬c.e=0):(cC p c).length=0:=by
 have h1:gsV p c=0:=by unfold gsV;rw[ao (.inl he)]
 have h2: ∀k:Nat,aX p c [] k=[]:=fun k=>by
  induction k with
  |zero=>rfl
  |succ k ih=>unfold aX;rw[an (fun hc=>he (Az hc)),ih]
 have h3: ∀k:Nat,aA p c [] k=[]:=fun k=>by
  induction k with
  |zero=>rfl
  |succ k ih=>unfold aA;rw[an (fun hc=>he (AC hc)),ih]
 unfold cC
 rw[h1,show aF (Int.toNat 0)=[] from rfl,h2,h3]
 unfold aR
 rw[an (fun hc=>he (oC hc).1)];rfl
def Lst(c:Cf)(o:List Dr):Prop:= ¬c.e=0-> ∃q d,o=q++[d]∧d.k=4
theorem rI{p:Pg}{l:List Int}(hP:OkP p)(hw:p.win<=1000)(hw1:1<=p.win): ∀j i c o,Inv p c->Liv p c->Lst c o->Liv p (wkR p l j i c o).1∧Lst (wkR p l j i c o).1 (wkR p l j i c o).2
 |0,i,c,o,hI,h,hL=>⟨h,hL⟩
 |j+1,i,c,o,hI,h,hL=>by
  unfold wkR
  split
  ·exact⟨h,hL⟩
  ·rename_i hn
   cases e:sayO p c (wkD p l c i) with
   |none=>exact⟨h,hL⟩
   |some x=>
    have hs:=h.sayO hP hI (o:=x.2) e
    have he:c.e=0:=Classical.byContradiction fun he=>hn (y8 he)
    refine rI hP hw hw1 j (i+1) x.1 _ (hI.sayO hP hw (o:=x.2) e) hs.1 fun hx=>⟨o,_,rfl, ?_⟩
    exact Classical.byContradiction fun hk=>hx ((hs.2 hk).trans he)
theorem Fh(p:Pg)(z:List Int):(sA p z).pc=0:=rfl
theorem rK(m z w:List Int):Liv (bB m) (wkC m z w)∧Lst (wkC m z w) (wkV (bB m) (sA (bB m) z) w).2:=by
 have hw:=ea m
 exact rI (dl m) (by omega) (by omega) _ _ _ _ (qS m z) (Liv.beg (by rw[Fh];decide)) fun hn=>absurd rfl hn
end
end Go.Proofs.Ytbhdoempeglgpaa.Px
namespace Go.Proofs.Ytbhdoempeglgpaa
section
open Go.RowKit
def Ret(v:Value)(w:World)(e:Ending)(w':World):Prop:=e= .returned v∧w=w'
theorem Ret.mk{v v':Value}{w:World}(h:v'=v):Ret v w (.returned v') w:=⟨by rw[h],rfl⟩
theorem Ret.b{X:Value}{a a':Bool}{w:World}(hx:X= .bool a')(h:a'=a):Ret (.bool a) w (.returned X) w:=⟨by rw[hx,h],rfl⟩
theorem Ret.i{X:Value}{k:IntKind}{a a':Int}{w:World}(hx:X= .int k a')(h:a'=a):Ret (.int k a) w (.returned X) w:=⟨by rw[hx,h],rfl⟩
theorem vY:(Try.prog.info? 3).map (fun i=>(i.zero,i.size,i.bytes))=some (some (.int .i64 0),1,8):=by kernel_rfl
theorem GA:(Try.prog.info? 5).map (fun i=>(i.zero,i.size,i.bytes))=some (some (.int .u8 0),1,1):=by kernel_rfl
end
section
namespace Cd
def nrB(n:Int):Bool:=decide (-1<=n)&&decide (n<=253)
theorem nrB_iff{n:Int}:nrB n=true↔ -1<=n∧n<=253:=by simp[nrB]
theorem nrB_not{n:Int}:nrB n=false↔n< -1∨253<n:=by
 cases h:nrB n
 ·simp[nrB] at h;simp;omega
 ·have:=nrB_iff.1 h;simp;omega
def byteAt(n:Int)(k:Nat):Int:=n%18446744073709551616/2^(8*(7-k))%256
def eight(n:Int):List Int:=(List.range 8).map (byteAt n)
def putN(n:Int):List Int:=if nrB n=true then[n+1] else 255::eight n
def putL:List Int->List Int
 | []=>[]
 |n::l=>putN n++putL l
def isI(xs:List Int):Prop:= ∀x∈xs, -9223372036854775808<=x∧x<9223372036854775808
theorem eight_len(n:Int):(eight n).length=8:=by simp[eight]
theorem vi(n:Int):(putN n).length=if nrB n=true then 1 else 9:=by
 unfold putN;split<;>simp[eight_len]
theorem pE(l m:List Int):putL (l++m)=putL l++putL m:=by
 induction l with
 |nil=>rfl
 |cons n l ih=>simp[putL,ih]
theorem putL_snoc(l:List Int)(n:Int):putL (l++[n])=putL l++putN n:=by rw[pE];simp[putL]
theorem putL_len_le(l:List Int):(putL l).length<=9*l.length:=by
 induction l with
 |nil=>simp[putL]
 |cons n l ih=>
  have:=vi n
  simp only[putL,ay,gi]
  split at this<;>omega
end Cd
end
section
open Go.RowKit
theorem rc(m:Int)(k:Nat)(h:k<8):(Cd.eight m).take (k+1)=(Cd.eight m).take k++[Cd.byteAt m k]:=by
 rw[List.take_succ_eq_append_getElem (by rw[Cd.eight_len];exact h)]
 simp[Cd.eight]
theorem qo(m:Int)(k:Nat):IntKind.u64.wrap m/2^(8*(7-k))%256=Cd.byteAt m k:=by unfold Cd.byteAt;rw[IntKind.wrap_u64]
theorem RetOwn.mk{B:Nat}{t:TypeId}{xs ys:List Value}{n:Nat}{w w':World}{v:Value}(h:w'.ownsRow B t 1 v n ys)(he:ys=xs)(hb:Below B w w'):RetOwn B t xs w (.returned v) w':=by
 subst he
 have:=r9 h
 subst this
 exact⟨v,rfl,h,hb⟩
theorem C8{l:List Int}(h:Cd.isI l){k:Nat}(hk:k<l.length): -9223372036854775808<=l.getD k 0∧l.getD k 0<9223372036854775808:=by
 have:=h l[k] (eB hk)
 simpa [List.getD,hk] using this
theorem sY(l:List Int)(k:Nat)(h:k<l.length):l.take (k+1)=l.take k++[l.getD k 0]:=by
 rw[List.take_succ_eq_append_getElem h]
 simp[List.getD,h]
theorem wL(m:Int)(k:Nat)(h0:0<=m)(h1:m<9223372036854775808):m/2^(8*(7-k))%256=Cd.byteAt m k:=by
 rw[<-qo,IntKind.wrap_u64,Int.emod_eq_of_lt h0 (by omega)]
set_option maxHeartbeats 2000000 in
theorem vg(A:Option Addr)(n c:Nat)(l:List Int)(w:World)(hn:n=l.length)(hx:Rd w w.heap.size A (l.map (Value.int .i64)))(hl:Cd.isI l)(hs:n<=1000000):
  Calls Try.prog 34 #[.slice A n c] w (RetOwn w.heap.size 5 ((Cd.putL l).map (Value.int .u8)) w):=by
 subst hn
 obtain⟨i0,hi0,hz0,hs0,hb0⟩:=info_parts GA
 go_enter Try.func34,Try.ntmps34
 go_wp2
 go_loopw [3,4] (fun v i wr=> ∃k:Nat,k<=l.length∧i= .int .i64 k∧wr.ownsRow w.heap.size 5 1 v ((Cd.putL (l.take k)).map (Value.int .u8)).length ((Cd.putL (l.take k)).map (Value.int .u8))∧Below w.heap.size w wr) (fun _ i _=>l.length-(intOf i).toNat)
 case atStart=>exact⟨0,by omega,rfl,by simpa [Cd.putL] using World.ownsRow_nil _ _ _ _,Below.refl _ _⟩
 case round=>
  obtain⟨k,hk,rfl,hown2,hb2⟩:=hrel
  have hs2:=hb2.size
  by_cases hlt:k<l.length
  ·have hx2:=hx.below hb2 (by omega)
   obtain⟨ad,rfl,hb,hc⟩:=hx2.at_ (k:=k) hlt
   obtain⟨z1,z2⟩:=C8 hl hlt
   have hlen:((Cd.putL (l.take k)).map (Value.int .u8)).length<=9000000:=by
    rw[bU]
    have:=Cd.putL_len_le (l.take k)
    rw[aO] at this
    omega
   have hst:=sY l k hlt
   generalize l.getD k 0=m at hc z1 z2 hst
   have hst2:(Cd.putL (l.take (k+1))).map (Value.int .u8)=(Cd.putL (l.take k)).map (Value.int .u8)++(Cd.putN m).map (Value.int .u8):=by rw[hst,Cd.putL_snoc,List.map_append]
   have HST:=Lib.hid hst2
   clear hst hst2
   generalize hX:(Cd.putL (l.take k)).map (Value.int .u8)=X at hown2 hlen HST
   clear hX
   cases hnr:Cd.nrB m
   ·have hp:(Cd.putN m).map (Value.int .u8)=[Value.int .u8 255]++(Cd.eight m).map (Value.int .u8):=by simp[Cd.putN,hnr]
    have HP:=Lib.hid hp
    have hm:=Cd.nrB_not.1 hnr
    clear hp hnr
    by_cases hm1: -1<=m
    all_goals
     first | (have hm2:253<m:=by omega)| (have hm2:m< -1:=by omega)
     clear hm
     obtain⟨wo,rfl⟩: ∃wo:World,wo=wr:=⟨_,rfl⟩
     go_wp2_with (at_builtin;refine nU _ rfl (.tmp 29) (.tmp 30) _ rfl w.heap.size 5 i0 _ 1 Try.underlying57 hi0 hz0 hs0 hb0 rfl _ _ _ rfl hown2 (.int .u8 255) rfl rfl (by omega) (by omega) hs2 ?_;intro v1 w1 hown1 hb1)
     go_loopw [3,6] (fun v i w4=> ∃j:Nat,j<=8∧i= .int .i64 (7-j)∧w4.ownsRow w.heap.size 5 1 v (X.length+1+j) ((X++[Value.int .u8 255])++((Cd.eight m).take j).map (Value.int .u8))∧Below w.heap.size wo w4) (fun _ i _=>(intOf i+1).toNat)
     case atStart=>exact⟨0,by omega,rfl,by simpa using hown1,hb1⟩
     case round=>
      obtain⟨j,hj,rfl,hown5,hb5⟩:=hrel
      have hs5:=hb5.size
      by_cases hjt:j<8
      ·go_wp2_with (at_builtin;refine nU _ rfl (.tmp 36) (.tmp 44) _ rfl w.heap.size 5 i0 _ 1 Try.underlying57 hi0 hz0 hs0 hb0 rfl _ _ _ rfl hown5 _ rfl rfl (by omega) (by omega) (by omega) ?_;intro v6 w6 hown6 hb6)
       go_round
       case rel=>
        refine⟨j+1,by omega,by go_num, ?_,hb5.trans hb6⟩
        rw[rc m j hjt,List.map_append,km,List.map_nil, <-b7]
        first |rw[qo] at hown6 |rw[wL m j (by omega) (by omega)] at hown6
        exact hown6
       case measure=>simp[intOf];omega
      ·have:j=8:=by omega
       subst this
       go_wp2
       go_round
       case rel=>
        refine⟨k+1,by omega,by go_num, ?_,hb2.trans hb5⟩
        rw[HST.out,HP.out]
        rw[List.take_of_length_le (by rw[Cd.eight_len];omega),b7] at hown5
        have:=r9 hown5
        rw[this];exact hown5
       case measure=>simp[intOf];omega
   ·have hm:=Cd.nrB_iff.1 hnr
    obtain⟨hm1,hm2⟩:=hm
    have hp:(Cd.putN m).map (Value.int .u8)=[Value.int .u8 (m+1)]:=by simp[Cd.putN,hnr]
    have HP:=Lib.hid hp
    clear hp hnr
    go_wp2_with (at_builtin;refine nU _ rfl (.tmp 23) (.tmp 27) _ rfl w.heap.size 5 i0 _ 1 Try.underlying57 hi0 hz0 hs0 hb0 rfl _ _ _ rfl hown2 (.int .u8 (m+1)) rfl rfl (by omega) (by omega) hs2 ?_;intro v1 w1 hown1 hb1)
    go_round
    case rel=>exact⟨k+1,by omega,by go_num,by rw[HST.out,HP.out];simpa using hown1,hb2.trans hb1⟩
    case measure=>simp[intOf];omega
  ·go_wp2
   go_ret
   have hk:k=l.length:=by omega
   subst hk
   rw[List.take_of_length_le (by omega)] at hown2
   exact⟨_,rfl,hown2,hb2⟩
theorem wa(w:World)(n cap:Nat)(h0:n<=cap)(hc:cap<=maxLen):(w.drew.alloc (.cells (Builtin.zeroCells #[.int .i64 0] n++Builtin.zeroCells #[.int .i64 0] (cap-n)) 3)).ownsRow w.heap.size 3 1 (.slice (some ⟨w.heap.size,0,none⟩) 0 cap) 0 []:=by
 refine⟨rfl,.inr ⟨w.heap.size,cap,Builtin.zeroCells #[.int .i64 0] n++Builtin.zeroCells #[.int .i64 0] (cap-n),rfl,aC _, ?_,by omega,hc, ?_,by simp⟩⟩
 ·exact heap_alloc_new w.drew _
 ·simp[Builtin.zeroCells];omega
set_option maxHeartbeats 2000000 in
theorem wb(n:Nat)(w:World)(h0:0<n)(hn:n<=1000000):
  Calls Try.prog 70 #[.slice none 0 0,.int .i64 n] w (fun e w'=> ∃v,e= .returned v∧w'.ownsRow w.heap.size 3 1 v 0 []∧Below w.heap.size w w'):=by
 obtain⟨i0,hi0,hz0,hs0,hb0⟩:=info_parts vY
 have hrun:=Lib.run_append_nil_zeros (P:=Try.prog) w 34 3 34 3 i0 (.int .i64 0) .i64 .i64 rfl rfl hi0 hz0 n h0 (by omega) (by omega) (by rw[hb0];omega)
 have hge:=grownCap_ge w n 0 3
 have hle:=grownCap_le_maxLen w n 0 3 (by simp only[maxLen];omega)
 go_enter Try.func70,Try.ntmps70
 go_wp2_with (at_builtin;refine Lib.wpList_append_run _ rfl _ _ _ _ rfl _ _ rfl rfl _ _ hrun ?_)
 go_ret
 refine⟨_,rfl, ?_, ?_⟩
 ·exact wa w n _ hge hle
 ·exact upA (upD (up0 w) 1) _
abbrev Part:=Option Addr×Nat×List Int
def Part.v(p:Part):Value:= .slice p.1 p.2.2.length p.2.1
def tot:List Part->Nat
 | []=>0
 |p::l=>p.2.2.length+tot l
def fu:List Part->List Int
 | []=>[]
 |p::l=>p.2.2++fu l
def pd:Part:=(none,0,[])
theorem oY{l:List Part}{k:Nat}(h:k<l.length):tot (l.take (k+1))=tot (l.take k)+(l.getD k pd).2.2.length:=by
 induction l generalizing k with
 |nil=>simp at h
 |cons p l ih=>
  cases k with
  |zero=>simp[tot]
  |succ k=>
   have:=ih (k:=k) (by simpa using h)
   simp only[dB,tot,this,io]
   omega
theorem tW{l:List Part}{k:Nat}(h:k<l.length):fu (l.take (k+1))=fu (l.take k)++(l.getD k pd).2.2:=by
 induction l generalizing k with
 |nil=>simp at h
 |cons p l ih=>
  cases k with
  |zero=>simp[fu]
  |succ k=>
   have:=ih (k:=k) (by simpa using h)
   simp only[dB,fu,this,io,b7]
theorem uJ(l:List Part)(k:Nat):tot (l.take k)<=tot l:=by
 induction l generalizing k with
 |nil=>simp
 |cons p l ih=>
  cases k with
  |zero=>simp[tot]
  |succ k=>simp only[dB,tot];have:=ih k;omega
theorem qq(l:List Part):(fu l).length=tot l:=by
 induction l with
 |nil=>rfl
 |cons p l ih=>simp[fu,tot,ih]
theorem rZ{w:World}{B:Nat}{A:Option Addr}{l:List Part}(h:Rd w B A (l.map Part.v)){k:Nat}(hk:k<l.length):
  ∃ad,A=some ad∧ad.block<B∧w.cell? (ad.add k)=some (.slice (l.getD k pd).1 (l.getD k pd).2.2.length (l.getD k pd).2.1):=by
 obtain⟨ad,e,hb,hc⟩:=h (by simp;omega)
 refine⟨ad,e,hb,hc k _ ?_⟩
 simp[List.getD,hk,Part.v]
set_option maxHeartbeats 2000000 in
theorem rh(A:Option Addr)(n c:Nat)(l:List Part)(w:World)(hn:n=l.length)(hr:Rd w w.heap.size A (l.map Part.v))(hp: ∀k,k<l.length->Rd w w.heap.size (l.getD k pd).1 ((l.getD k pd).2.2.map (Value.int .i64)))(h0:0<tot l)(ht:tot l<=1000000)(hl:l.length<=1000):
  Calls Try.prog 56 #[.slice A n c] w (RetOwn w.heap.size 3 ((fu l).map (Value.int .i64)) w):=by
 subst hn
 obtain⟨i0,hi0,hz0,hs0,hb0⟩:=info_parts vY
 go_enter Try.func56,Try.ntmps56
 go_wp2_with fail
 go_loopw [3,11] (fun s i wr=> ∃k:Nat,k<=l.length∧i= .int .i64 k∧s= .int .i64 (tot (l.take k):Nat)∧w=wr) (fun _ i _=>l.length-(intOf i).toNat)
 case atStart=>exact⟨0,by omega,rfl,rfl,rfl⟩
 case round=>
  obtain⟨k,hk,rfl,rfl,rfl⟩:=hrel
  by_cases hlt:k<l.length
  ·obtain⟨ad,rfl,hb,hc⟩:=rZ hr hlt
   have h1:=oY hlt
   have h2:=uJ l (k+1)
   obtain⟨⟨pa,pc,px⟩,hpd⟩: ∃p,l.getD k pd=p:=⟨_,rfl⟩
   rw[hpd] at hc h1
   simp only at hc h1
   clear hpd
   go_wp2_with fail
   go_round
   case rel=>
    refine⟨k+1,by omega,by go_num, ?_,by first |rfl |trivial⟩
    rw[h1];go_num
   case measure=>simp[intOf];omega
  ·obtain rfl:k=l.length:=by omega
   rw[ev]
   go_wp2_with (go_at_call 70;refine(wb _ _ h0 ht).mono ?_;rintro e w1 ⟨v1,rfl,hown1,hb1⟩)
   go_loopw [6,27] (fun v i wr=> ∃k:Nat,k<=l.length∧i= .int .i64 k∧wr.ownsRow w.heap.size 3 1 v (tot (l.take k)) ((fu (l.take k)).map (Value.int .i64))∧Below w.heap.size w wr) (fun _ i _=>l.length-(intOf i).toNat)
   case atStart=>exact⟨0,by omega,rfl,by simpa [tot,fu] using hown1,hb1⟩
   case round=>
    obtain⟨k,hk,rfl,hown2,hb2⟩:=hrel
    have hs2:=hb2.size
    by_cases hlt:k<l.length
    ·obtain⟨ad,rfl,hb,hc⟩:=rZ (hr.below hb2 (aC _)) hlt
     have hrk:=(hp k hlt).below hb2 (aC _)
     have h1:=oY hlt
     have h2:=uJ l (k+1)
     have h3:=tW hlt
     obtain⟨⟨pa,pc,px⟩,hpd⟩: ∃p,l.getD k pd=p:=⟨_,rfl⟩
     rw[hpd] at hc h1 hrk h3
     simp only at hc h1 hrk h3
     have HA:=Lib.hid h3
     clear hpd h3
     go_wp2_with (at_builtin;refine rG _ rfl (.tmp 31) (.tmp 32) _ rfl w.heap.size 3 i0 _ 8 Try.underlying34 hi0 hz0 hs0 hb0 rfl _ _ _ rfl hown2 w.heap.size _ _ _ _ rfl (by rw[bU]) hrk (pW _ _) (by omega) (by omega) hs2 ?_;intro v3 w3 hown3 hb3)
     go_round
     case rel=>
      refine⟨k+1,by omega,by go_num, ?_,hb2.trans hb3⟩
      rw[h1,HA.out,List.map_append]
      exact hown3
     case measure=>simp[intOf];omega
    ·obtain rfl:k=l.length:=by omega
     go_wp2
     go_ret
     rw[ev] at hown2
     refine⟨_,rfl, ?_,hb2⟩
     rw[bU,qq]
     exact hown2
set_option maxHeartbeats 2000000 in
theorem tQ(A:Option Addr)(n c:Nat)(xs:List Int)(w:World)(hn:n=xs.length)(hr:Rd w w.heap.size A (xs.map (Value.int .i64)))(hs:n<=1000000):
  Calls Try.prog 37 #[.slice A n c] w (RetOwn w.heap.size 3 (xs.map (Value.int .i64)) w):=by
 subst hn
 obtain⟨i0,hi0,hz0,hs0,hb0⟩:=info_parts vY
 cases A with
 |none=>
  have hx:xs=[]:=by have:=hr.none_nil;simpa using this
  subst hx
  have he: ∀w:World,(binOp .eql 34 (.slice none 0 c) (.slice none 0 0)).run Try.prog w= .ok (.bool true) w:=fun _=>rfl
  go_enter Try.func37,Try.ntmps37
  go_wp2_with fail
  go_ret
  exact⟨_,rfl,World.ownsRow_nil _ _ _ _,up0 _⟩
 |some ad=>
  have hlit:=vv w 3 _ rfl
  have he: ∀w:World,(binOp .eql 34 (.slice (some ad) xs.length c) (.slice none 0 0)).run Try.prog w= .ok (.bool false) w:=fun _=>rfl
  go_enter Try.func37,Try.ntmps37
  go_wp2_with (at_builtin;refine rG _ rfl (.tmp 5) (.tmp 6) _ rfl w.heap.size 3 i0 _ 8 Try.underlying34 hi0 hz0 hs0 hb0 rfl _ 0 [] rfl hlit (w.alloc (.cells #[] 3)).heap.size (some ad) xs.length c (xs.map (Value.int .i64)) rfl (by simp) (hr.allocT _) (pW _ _) (by omega) (by omega) (by simp) ?_;intro v1 w1 hown1 hb1)
  go_ret
  refine⟨_,rfl, ?_,(upA (up0 w) _).trans hb1⟩
  have:=vu hown1
  rwa [bU]
end
end Go.Proofs.Ytbhdoempeglgpaa
namespace Go.Proofs.Ytbhdoempeglgpaa.Px
section
open Go.RowKit Go.Proofs.Ytbhdoempeglgpaa.Rx
def PartOk(a:AV)(l:List Int):Prop:=(a= .nils∧l=[])∨ ∃g,a= .row 1 l.length g∧ ∀i,i<l.length->g i 0= .int .i64 (l.getD i 0)
theorem PartOk.nil:PartOk .nils []:= .inl ⟨rfl,rfl⟩
theorem PartOk.row(l:List Int):PartOk (.row 1 l.length (dd l)) l:= .inr ⟨_,rfl,fun _ _=>rfl⟩
theorem PartOk.rep{w:World}{R:Nat->Prop}{a:AV}{l:List Int}{v:Value}(h:PartOk a l)(hr:RepP w R a v)(hR: ∀g,R g->g<w.heap.size): ∃A c,v= .slice A l.length c∧Rd w w.heap.size A (l.map (Value.int .i64)):=by
 rcases h with⟨rfl,rfl⟩|⟨g,rfl,hg⟩
 ·cases hr with
  |nils=>exact⟨none,0,rfl,Rd.nil⟩
 ·obtain⟨A,c,e,_,_,h⟩:=hr.ints hR rfl hg
  exact⟨A,c,e,h⟩
theorem oj{args:List AV}{vs:Array Value}{a:AV}(h:args=[a])(hl:args.length=vs.size){w:World}{R:Nat->Prop}(ha: ∀(j:Nat) a v,args[j]? =some a->vs[j]? =some v->RepP w R a v): ∃v,vs= #[v]∧RepP w R a v:=by
 subst h
 obtain⟨vs⟩:=vs
 match vs,hl with
 | [v],_=>exact⟨v,rfl,ha 0 a v rfl rfl⟩
theorem mA{a:AV}{l:List Int}(h:PartOk a l)(hl:l.length<=1000000):pC_ 37 [a] (.own 0 0 1 0 l.length) [gf l]:=
 PureC.ofOwn (k:= .i64) (l:=l) rfl (fun _ _=>rfl) fun w R vs hR hn ha=>by
  obtain⟨v,rfl,hv⟩:=oj rfl hn ha
  obtain⟨A,c,rfl,hr⟩:=h.rep hv hR
  exact tQ A _ c l w rfl hr hl
def r8:Value->Option Addr×Nat
 | .slice A _ c=>(A,c)
 |_=>(none,0)
theorem tX(l:List Part):fu l=(l.map (·.2.2)).flatten:=by
 induction l with
 |nil=>rfl
 |cons p l ih=>simp[fu,ih]
theorem yX{f:Nat->Nat->AV}{L:List (List Int)}(h: ∀i,i<L.length->PartOk (f i 0) (L.getD i []))(h0:0<L.flatten.length)(ht:L.flatten.length<=1000000)(hL:L.length<=1000):
  pC_ 56 [.row 1 L.length f] (.own 0 0 1 0 L.flatten.length) [gf L.flatten]:=
 PureC.ofOwn (k:= .i64) (l:=L.flatten) rfl (fun _ _=>rfl) fun w R vs hR hn ha=>by
  obtain⟨v,rfl,hv⟩:=oj rfl hn ha
  cases hv with
  |row A cap u hnc hc hA h1 hu=>
   let l:List Part:=(List.range L.length).map fun i=>((r8 (u i 0)).1,(r8 (u i 0)).2,L.getD i [])
   have hll:l.length=L.length:=by simp[l]
   have hfl:l.map (·.2.2)=L:=by
    apply List.ext_getElem (by simp[l])
    intro i h1 h2
    simp[l,List.getD,h2]
   have hall:fu l=L.flatten:=by rw[tX,hfl]
   have hpt: ∀i,i<L.length->l.getD i pd=((r8 (u i 0)).1,(r8 (u i 0)).2,L.getD i []):=fun i hi=>by
    simp[l,List.getD,hi]
   have hui: ∀i,i<L.length->u i 0=Part.v (l.getD i pd)∧Rd w w.heap.size (l.getD i pd).1 ((l.getD i pd).2.2.map (Value.int .i64)):=fun i hi=>by
    obtain⟨A',c',e,hr⟩:=(h i hi).rep (hu i hi 0 (by omega)) hR
    rw[hpt i hi,e]
    exact⟨rfl,hr⟩
   have htot:tot l=L.flatten.length:=by rw[<-qq,hall]
   rw[<-hall]
   refine rh A _ cap l w hll.symm (fun hl=> ?_) (fun i hi=>(hui i (by omega)).2) (by omega) (by omega) (by omega)
   rw[bU,hll] at hl
   obtain⟨g,o,rfl,hg,hcell⟩:=hA (by omega)
   refine⟨⟨g,o,none⟩,rfl,hR g hg,fun j x hx=> ?_⟩
   have hj:j<L.length:=by
    have:=(ax.1 hx).1
    simpa [hll] using this
   rw[show Addr.add ⟨g,o,none⟩ j=⟨g,o+j,none⟩ from eG g o j]
   have h4:=hcell j hj 0 (by omega)
   rw[show o+(j*1+0)=o+j by omega] at h4
   rw[h4,(hui j hj).1]
   rw[aE,aB (by omega),aK,ah] at hx
   rw[<-hx]
   simp[List.getD,hj,hll]
theorem ki(l:List Int)(hl:l.length<=1000000):pC_ 37 [lR l] (lR l) []:=(mA (.row l) hl).frozen
def JB(l:List Int):Blk:=⟨0,false,5,.rows 1 l.length (Fo l)⟩
def bR(l:List Int):AV:= .row 1 l.length (Fo l)
theorem Fm{a:AV}{l:List Int}(h:PartOk a l)(hl:l.length<=1000000)(hi:Cd.isI l):pC_ 34 [a] (.own 0 0 1 0 (Cd.putL l).length) [JB (Cd.putL l)]:=
 PureC.ofOwn (k:= .u8) (l:=Cd.putL l) rfl (fun _ _=>rfl) fun w R vs hR hn ha=>by
  obtain⟨v,rfl,hv⟩:=oj rfl hn ha
  obtain⟨A,c,rfl,hr⟩:=h.rep hv hR
  exact vg A _ c l w rfl hr hi hl
def coK(c:Cf):Nat->List Int
 |0=>[(c.b.length:Int)]
 |k+1=>coK c k++enN (c.b.getD k default)
def coL(c:Cf):List Int:=((coK c c.b.length++[(c.r.length:Int)])++c.r)++[c.e]
theorem wF(c:Cf): ∀k,ciK c k=gR c.s++coK c k
 |0=>rfl
 |k+1=>by rw[ciK,coK,wF c k,b7]
theorem DA(c:Cf):ciL c=gR c.s++coL c:=by
 unfold ciL coL;rw[wF];simp only[b7]
def flE(b:List En):List Int:=b.flatMap enN
theorem wD(c:Cf): ∀k,k<=c.b.length->coK c k=(c.b.length:Int)::flE (c.b.take k)
 |0,_=>rfl
 |k+1,h=>by
  have e:c.b.take (k+1)=c.b.take k++[c.b.getD k default]:=by
   rw[List.take_add_one,ar,aB (by omega)];rfl
  rw[coK,wD c k (by omega),e]
  unfold flE
  simp
theorem Dy(c:Cf):coL c=(c.b.length:Int)::(flE c.b++((c.r.length:Int)::(c.r++[c.e]))):=by
 unfold coL
 rw[wD c _ (aC _),ev]
 simp
theorem Dz(c:Cf):ciL c=c.s.r0::c.s.r1::c.s.r2::c.s.r3::(c.s.m.length:Int)::(c.s.m++((c.s.st.length:Int)::(c.s.st++(c.s.pc::(c.b.length:Int)::(flE c.b++((c.r.length:Int)::(c.r++[c.e]))))))):=by
 rw[DA,Dy]
 simp[gR]
theorem fk{x:Int}(h1: -1000000<=x)(h2:x<=1000000): -9223372036854775808<=x∧x<9223372036854775808:=by omega
theorem yG{p:Pg}{c:Cf}(hP:OkP p)(hw:p.win<=1000)(h:Inv p c)(he:0<=c.e∧c.e<10):Cd.isI (ciL c):=by
 have hl:=hP.len
 have hs:=hP.sum
 obtain⟨h0,h1,h2,h3⟩:=h.reg
 have hml:=h.ml
 have hst:=h.st
 have hpc:=h.pc
 have hbl:=h.bl
 have hrl:=h.rl
 intro x hx
 rw[Dz] at hx
 simp only[aT,co,List.not_mem_nil,or_false] at hx
 rcases hx with rfl |rfl |rfl |rfl |rfl |hx |rfl |hx |rfl |rfl |hx |rfl |hx |rfl
 ·exact fk (by omega) (by omega)
 ·exact fk (by omega) (by omega)
 ·exact fk (by omega) (by omega)
 ·exact fk (by omega) (by omega)
 ·exact fk (by omega) (by omega)
 ·have:=h.mem x hx;exact fk (by omega) (by omega)
 ·exact fk (by omega) (by omega)
 ·have:=h.stk x hx;exact fk (by omega) (by omega)
 ·exact fk (by omega) (by omega)
 ·exact fk (by omega) (by omega)
 ·obtain⟨e,he,hx⟩:=bt.1 hx
  have hE:=h.be e he
  have e1:=hE.pc
  have e2:=hE.val
  have e3:=hE.frm
  have e4:=hE.nxt
  have e5:=hE.adr
  have ht: ∀b:Bool,0<=Wd.tI b∧Wd.tI b<=1:=fun b=>by cases b<;>decide
  have t1:=ht e.dn
  have t2:=ht e.kn
  have t3:=ht e.ft
  simp only[enN,co,List.not_mem_nil,or_false] at hx
  rcases hx with rfl |rfl |rfl |rfl |rfl |rfl |rfl |rfl<;>exact fk (by omega) (by omega)
 ·exact fk (by omega) (by omega)
 ·have:=h.rb x hx;exact fk (by omega) (by omega)
 ·exact fk (by omega) (by omega)
structure CfS (c:Cf):Prop where
 b:c.b.length<=3
 m:c.s.m.length<=16
 st:c.s.st.length<=4
 r:c.r.length<=2
 i:Cd.isI (ciL c)
theorem FH(c:Cf)(L B:List Int)(h1:pC_ 32 [.agg (cfA c)] (lR L) [])(h2:pC_ 34 [lR L] (bR B) []):Vc (vF_ 16 [.agg (cfA c)] [.cl [.agg (cfA c)] (lR L) [],.cl [lR L] (bR B) []] [] (bR B) []):=ai (cj (rf c.s.r0) (cj (rf c.s.r1) (cj (rf c.s.r2) (cj (rf c.s.r3) (cj (rf c.s.m.length) (cj (rr c.s.m.length 1 fun i j=>aI (List.getD c.s.m i 0)) (cj (rf c.s.st.length) (cj (rr c.s.st.length 1 fun i j=>aI (List.getD c.s.st i 0)) (cj (rf c.s.pc) (cj (rf c.b.length) (cj (rr c.b.length 8 fun i j=>al enC c.b i j) (cj (rf c.r.length) (cj (rr c.r.length 1 fun i j=>aI (c.r.getD i 0)) (cj (rf c.e) (cj h1 (cj (rf L.length) (cj (rr L.length 1 fun i j=>aI (L.getD i 0)) (cj h2 (cj (rf B.length) (cj (rr B.length 1 fun i j=>AV.int IntKind.u8 (B.getD i 0)) trivial))))))))))))))))))))
theorem CfS.of{p:Pg}{c:Cf}(hP:OkP p)(hw:p.win<=3)(hI:Inv p c)(he:0<=c.e∧c.e<10):CfS c:=
 ⟨by have:=hI.bl;omega,by rw[hI.ml];exact hP.sum,hI.st,hI.rl,yG hP (by omega) hI he⟩
theorem dI(m z w:List Int):CfS (wkC m z w):=CfS.of (dl m) (by have:=ea m;omega) (fL m z w) (by have:=(rK m z w).1.e;omega)
theorem CfS.len{c:Cf}(h:CfS c):(Cd.putL (ciL c)).length<1000:=by
 have h2:=Cd.putL_len_le (ciL c)
 rw[oE] at h2
 have:=h.b;have:=h.m;have:=h.st;have:=h.r
 omega
theorem CfS.rcode{c:Cf}(h:CfS c):pC_ 16 [.agg (cfA c)] (bR (Cd.putL (ciL c))) []:=
 PureC.vc (FH c _ _ (ciC c (by have:=h.b;omega) (by have:=h.m;omega) (by have:=h.st;omega) (by have:=h.r;omega)) (Fm (.row _) (by rw[oE];have:=h.b;have:=h.m;have:=h.st;have:=h.r;omega) h.i).frozen)
theorem CfS.same{a b:Cf}(h:CfS a)(k:CfS b):pC_ 14 [.agg (cfA a),.agg (cfA b)] (.bool (decide (ciL a=ciL b))) []:=u5 a b (by have:=h.b;omega) (by have:=h.m;omega) (by have:=h.st;omega) (by have:=h.r;omega) (by have:=k.b;omega) (by have:=k.m;omega) (by have:=k.st;omega) (by have:=k.r;omega)
theorem CfS.self{a:Cf}(h:CfS a):pC_ 14 [.agg (cfA a),.agg (cfA a)] (.bool true) []:=by
 have:=h.same h
 rw[cE rfl] at this
 exact this
theorem ta{l:List En}{k i j:Nat}(h:i<k):al enC l i j=al enC (l.take k) i j:=by
 unfold al
 rw[ar,ar,aZ,ao h]
theorem uM{l:List En}{c j:Nat}(h:j<c):(l.take c).getD j default=l.getD j default:=by
 rw[ar,ar,aZ,ao h]
theorem HC(p:Pg)(pc:Int)(h0:0<=pc)(h1:pc<p.is.length):Vc (vF_ 22 [.agg (pgA p), aI pc] [.fz,.bd false,.bd false] [] (.agg (inA (p.is.getD pc.toNat default))) []):=ai (cj (df (pc<0)) (cj (df (pc>=(↑p.is.length:Int))) (cj (bi pc p.is.length) (cj (rf ((p.is.getD (Int.toNat pc) default).kind)) (cj (rf ((p.is.getD (Int.toNat pc) default).op)) (cj (rf ((p.is.getD (Int.toNat pc) default).d)) (cj (rf ((p.is.getD (Int.toNat pc) default).a.reg)) (cj (rf ((p.is.getD (Int.toNat pc) default).a.n)) (cj (rf ((p.is.getD (Int.toNat pc) default).b.reg)) (cj (rf ((p.is.getD (Int.toNat pc) default).b.n)) (cj (rf ((p.is.getD (Int.toNat pc) default).nm)) (cj (rf ((p.is.getD (Int.toNat pc) default).tg)) trivial))))))))))))
theorem Ee{Z:Prop}(z:Z):(RF (12:Int) (RF (0:Int) (RF (0:Int) (RF false (RF (0:Int) (RF false (RF (0:Int) (RF (ByteArray.mk (Array.mk [])) (RF (0:Int) Z))))))))):=⟨rfl,rfl,rfl,rfl,rfl,rfl,rfl,rfl,rfl,z⟩
theorem DJ(p:Pg)(pc:Int)(h0: ¬0<=pc):Vc (vF_ 22 [.agg (pgA p), aI pc] [.fz,.bd true] [] (.agg (inA {In0 with kind:=12})) []):=ai (cj (dt (pc<0)) (Ee trivial))
theorem DI(p:Pg)(pc:Int)(h0:0<=pc)(h1: ¬pc<p.is.length):Vc (vF_ 22 [.agg (pgA p), aI pc] [.fz,.bd false,.bd true] [] (.agg (inA {In0 with kind:=12})) []):=ai (cj (df (pc<0)) (cj (dt (pc>=(↑p.is.length:Int))) (Ee trivial)))
theorem atC(p:Pg)(pc:Int):pC_ 22 [.agg (pgA p),.int .i64 pc] (.agg (inA (atI p pc))) []:=by
 by_cases h0:0<=pc
 ·by_cases h1:pc<p.is.length
  ·rw[ro h0 h1];exact PureC.vc (HC p pc h0 h1)
  ·rw[jB fun h=>h1 h.2];exact PureC.vc (DI p pc h0 h1)
 ·rw[jB fun h=>h0 h.1];exact PureC.vc (DJ p pc h0)
theorem Dv(l:List En)(n:Int)(k:Nat)(hE:(if(l.length:Int)<(if n<0 then 0 else n) then(l.length:Int) else(if n<0 then 0 else n))=(k:Int))(hkl:k<=l.length)(hb:l.length<1000000):Vc (vF_ 68 [enR l, aI n] [] [(0,0)] (.own 0 0 8 0 (l.take k).length) [enB (l.take k)]):=ai (cj (show((0:Int)<=if(l.length:Int)<if n<0 then(0:Int) else n then(l.length:Int) else if n<0 then(0:Int) else n)∧(if(l.length:Int)<if n<0 then(0:Int) else n then(l.length:Int) else if n<0 then(0:Int) else n)<=(l.length:Int) from by rw[hE];omega) (cj (show Int.toNat (if(l.length:Int)<if n<0 then(0:Int) else n then(l.length:Int) else if n<0 then(0:Int) else n)*48<=140737488355328∧Int.toNat (if(l.length:Int)<if n<0 then(0:Int) else n then(l.length:Int) else if n<0 then(0:Int) else n)<=140737488355328 from by rw[hE,aL];omega) (cj (show Int.toNat (if(l.length:Int)<if n<0 then(0:Int) else n then(l.length:Int) else if n<0 then(0:Int) else n)=(List.take k l).length from by rw[hE,aO,aL];omega) (cj (show ∀(i:Nat),i<Int.toNat (if(l.length:Int)<if n<0 then(0:Int) else n then(l.length:Int) else if n<0 then(0:Int) else n)-> ∀(j:Nat),j<8->al enC l i j=al enC (List.take k l) i j from(fun i hi j hj=>by rw[hE,aL] at hi;exact ta hi)) (cj (rf (0:Nat)) (cj (show Int.toNat (if(l.length:Int)<if n<0 then(0:Int) else n then(l.length:Int) else if n<0 then(0:Int) else n)=(List.take k l).length from by rw[hE,aO,aL];omega) trivial))))))
theorem Jl(l:List En)(n:Int)(k:Nat)(hk:(k:Int)=min (max n 0) (l.length:Int))(hb:l.length<1000000):pC_ 68 [enR l,.int .i64 n] (.own 0 0 8 0 (l.take k).length) [enB (l.take k)]:=by
 refine PureC.vc (Dv l n k ?_ (by omega) hb)
 rw[hk]
 repeat' split
 all_goals omega
theorem G9(l:List En)(n:Int)(k:Nat)(hk:(k:Int)=min (max n 0) (l.length:Int))(hb:l.length<1000000):pC_ 68 [enR l,.int .i64 n] (enR (l.take k)) []:=(Jl l n k hk hb).frozen
def ac(ms:List Mm)(s:Nat)(k:Nat):Sm:=⟨[(8,.int .i64 ms.length),(7,bL ms),(9,.int .i64 k),(3,.int .i64 s)],[],0⟩
theorem zd(ms:List Mm)(s k:Nat)(hk:k<ms.length)(h64:ms.length<4611686018427387904)(hs:s+(ms.getD k default).n<=16):Vc (vC_ 78 0 (ac ms s k) [.b true] .nrm [] (ac ms (s+(ms.getD k default).n) (k+1))):=ai (cj (dt ((k:Int)<ms.length)) (cj (bi k ms.length) (cj (i6 (16-s)) (cj (i6 ((s:Int)+if(16:Int)-(s:Int)<if(↑((ms.getD k default).n):Int)<0 then(0:Int) else(↑((ms.getD k default).n):Int) then(16:Int)-(s:Int) else if(↑((ms.getD k default).n):Int)<0 then(0:Int) else(↑((ms.getD k default).n):Int))) (cj (i6 (k+1)) (cj (rf (ms.length:Int)) (cj (rf ms.length) (cj (rr ms.length 3 fun i j=>al mmC ms i j) (cj (rf ((k:Int)+1)) (cj (pv (((s:Int)+if(16:Int)-(s:Int)<if(↑((ms.getD k default).n):Int)<0 then(0:Int) else(↑((ms.getD k default).n):Int) then(16:Int)-(s:Int) else if(↑((ms.getD k default).n):Int)<0 then(0:Int) else(↑((ms.getD k default).n):Int))=(↑(s+(ms.getD k default).n):Int))) trivial))))))))))
theorem DL(ms:List Mm)(s:Nat):Vc (vC_ 78 0 (ac ms s ms.length) [.b false] (.ext 0) [] (ac ms s ms.length)):=ai (cj (df ((ms.length:Int)<ms.length)) (cj (rf (ms.length:Int)) (cj (rf ms.length) (cj (rr ms.length 3 fun i j=>al mmC ms i j) (cj (rf (ms.length:Int)) (cj (rf (s:Int)) trivial))))))
theorem ze(ms:List Mm)(h64:ms.length<4611686018427387904)(hs:bC ms<=16):oL_ 78 0 (ac ms 0 0).st (.ext 0) (ac ms (bC ms) ms.length).st:=by
 have:=Ok.loop (P:=Try.prog) (nt:=cJ Try.prog 78) (c:=lpC Try.prog 78 0) (F:=fun k=>ac ms (bC (ms.take k)) k) (m:=ms.length) (x:= .ext 0) (J:=ac ms (bC ms) ms.length) (fun k hk=>by
  have h1:=jJ hk
  have h2:=fN ms (k+1)
  show Ok _ _ _ _ _ (ac ms (bC (ms.take (k+1))) (k+1)).st
  rw[h1]
  exact Ok.vc (zd ms _ k hk h64 (by omega))) (by
  show Ok _ _ _ (ac ms (bC (ms.take ms.length)) ms.length).st _ _
  rw[ev]
  exact Ok.vc (DL ms _)) (by simp)
 simpa [bC] using this
theorem DK(W r0 r1 r2 r3:Int)(ms:List Mm)(h64:ms.length<4611686018427387904)(hs:bC ms<=16):Vc (vF_ 78 [.agg (bc W r0 r1 r2 r3 (bL ms))] [.lp [] (ac ms 0 0) (.ext 0) (ac ms (bC ms) ms.length)] [] (aI (bC ms)) []):=ai (cj (rf (ms.length:Int)) (cj (rf ms.length) (cj (rr ms.length 3 fun i j=>al mmC ms i j) (cj (rf (0:Int)) (cj (rf (0:Int)) (cj (ze ms h64 hs) (cj (rf (↑(bC ms):Int)) trivial)))))))
theorem nQ(W r0 r1 r2 r3:Int)(ms:List Mm)(h64:ms.length<4611686018427387904)(hs:bC ms<=16):pC_ 78 [.agg (bc W r0 r1 r2 r3 (bL ms))] (.int .i64 (bC ms)) []:=PureC.vc (DK W r0 r1 r2 r3 ms h64 hs)
def jI(a b:AV)(i _:Nat):AV:=[a,b].getD i .junk
theorem Hj(a b:List Int)(n k:Nat)(fa fb:Nat->Nat->AV)(hn:n=a.length)(hk:k=b.length)(ha: ∀i,i<a.length->fa i 0= .int .i64 (a.getD i 0))(hc: ∀i,i<b.length->fb i 0= .int .i64 (b.getD i 0))(h0:0<(a++b).length)(hb:(a++b).length<=1000000):pC_ 56 [.row 1 2 (jI (.row 1 n fa) (.row 1 k fb))] (.own 0 0 1 0 (a++b).length) [gf (a++b)]:=by
 subst hn hk
 have e:[a,b].flatten=a++b:=by simp
 have h:=yX (f:=jI (.row 1 a.length fa) (.row 1 b.length fb)) (L:=[a,b]) (fun i hi=>match i,hi with
  |0,_=> .inr ⟨fa,rfl,ha⟩
  |1,_=> .inr ⟨fb,rfl,hc⟩) (by rw[e];exact h0) (by rw[e];exact hb) (by show(2:Nat)<=1000;decide)
 rw[e] at h
 exact h
theorem Aw{l:List Int}{n i:Nat}(h:i<n):AV.int .i64 (l.getD i 0)=AV.int .i64 ((l.take n).getD i 0):=by
 rw[ar,ar,aZ,ao h]
theorem vn(l:List Int)(pc:Int):l.drop (l.length-1)++[pc]=bK l pc:=by
 unfold bK
 rw[List.drop_append_of_le_length (by omega)]
theorem vP(l:List Int)(pc:Int)(hb:l.length<1000000)(h:pC_ 56 [.row 1 2 (jI (.row 1 (l.length-Int.toNat (if(l.length:Int)-1<0 then(0:Int) else(l.length:Int)-1)) (fun i j=>dd l (i+Int.toNat (if(l.length:Int)-1<0 then(0:Int) else(l.length:Int)-1)) j)) (.row 1 1 (fun i j=>[AV.int .i64 pc].getD (i*1+j) .junk)))] (.own 0 0 1 0 (bK l pc).length) [gf (bK l pc)]):Vc (vF_ 41 [lR l, aI pc] [.fz,.fz,.cl [.row 1 2 (jI (.row 1 (l.length-Int.toNat (if(l.length:Int)-1<0 then(0:Int) else(l.length:Int)-1)) (fun i j=>dd l (i+Int.toNat (if(l.length:Int)-1<0 then(0:Int) else(l.length:Int)-1)) j)) (.row 1 1 (fun i j=>[AV.int .i64 pc].getD (i*1+j) .junk)))] (.own 0 0 1 0 (bK l pc).length) [gf (bK l pc)]] [(0,2)] (.own 0 0 1 0 (bK l pc).length) [gf (bK l pc)]):=ai (cj (i6 (l.length-1)) (cj (pv (((0:Int)<=if(l.length:Int)-1<0 then(0:Int) else(l.length:Int)-1)∧(if(l.length:Int)-1<0 then(0:Int) else(l.length:Int)-1)<=(l.length:Int)∧(l.length:Int)<=(l.length:Int))) (cj (rf (2:Nat)) (cj (show ∀(i:Nat),i<2-> ∀(j:Nat),j<1->List.getD [AV.row (nat_lit 1) (l.length-Int.toNat (if(l.length:Int)-1<0 then(0:Int) else(l.length:Int)-1)) fun(i j:Nat)=>aI (l.getD (i+Int.toNat (if(l.length:Int)-1<0 then(0:Int) else(l.length:Int)-1)) (0:Int)),AV.row (nat_lit 1) (nat_lit 1) fun(i j:Nat)=>List.getD [aI pc] (i*1+j) AV.junk] (i*1+j) AV.junk=jI (AV.row (1:Nat) (l.length-Int.toNat (if(l.length:Int)-1<0 then(0:Int) else(l.length:Int)-1)) fun(i j:Nat)=>aI (l.getD (i+Int.toNat (if(l.length:Int)-1<0 then(0:Int) else(l.length:Int)-1)) (0:Int))) (AV.row (1:Nat) (1:Nat) fun(i j:Nat)=>List.getD [aI pc] (i*1+j) AV.junk) i j from(fun i hi j hj=>match i,hi,j,hj with |0,_,0,_=>rfl |1,_,0,_=>rfl)) (cj h (cj (rf ((bK l pc).length)) (cj (rr ((bK l pc).length) 1 fun i j=>aI (List.getD (bK l pc) i 0)) (cj (rf (0:Nat)) (cj (rf ((bK l pc).length)) trivial)))))))))
theorem CG(l:List Int)(pc:Int)(hb:l.length<1000000):pC_ 41 [lR l,.int .i64 pc] (.own 0 0 1 0 (bK l pc).length) [gf (bK l pc)]:=by
 have e:Int.toNat (if(l.length:Int)-1<0 then(0:Int) else(l.length:Int)-1)=l.length-1:=by split<;>omega
 have h:=Hj (l.drop (l.length-1)) [pc] (l.length-Int.toNat (if(l.length:Int)-1<0 then(0:Int) else(l.length:Int)-1)) 1 (fun i j=>dd l (i+Int.toNat (if(l.length:Int)-1<0 then(0:Int) else(l.length:Int)-1)) j) (fun i j=>[AV.int .i64 pc].getD (i*1+j) .junk) (by rw[e,kY]) rfl (fun i hi=>by rw[e,nF];rfl) (fun i hi=>by obtain rfl:i=0:=Nat.lt_one_iff.1 hi;rfl) (by simp) (by simp;omega)
 rw[vn] at h
 exact PureC.vc (vP l pc hb h)
theorem F8:Vc (vF_ 54 [lR []] [.bd true] [] (.tup [aI 0,.nils,.bool false]) []):=ai (cj (i6 ((0:Nat)-1)) (cj (dt (((0:Nat):Int)-1<0)) (cj (rf (0:Int)) (cj (rf false) trivial))))
theorem nR(p:Pg)(e:En){Z:Prop}(z:Z):(RF p.ls.length (RR p.ls.length 2 (fun i j=>al lbC p.ls i j) (RF p.is.length (RR p.is.length 9 (fun i j=>al inC p.is i j) (RF e.pc Z))))):=⟨rfl,fun _ _ _ _=>rfl,rfl,fun _ _ _ _=>rfl,rfl,z⟩
theorem iI(p:Pg){Z:Prop}(z:Z):(RF p.W (RF p.win (RF p.fuel (RF p.r0 (RF p.r1 (RF p.r2 (RF p.r3 (RF p.ms.length (RR p.ms.length 3 (fun i j=>al mmC p.ms i j) Z))))))))):=⟨rfl,rfl,rfl,rfl,rfl,rfl,rfl,rfl,fun _ _ _ _=>rfl,z⟩
theorem w7(p:Pg){Z:Prop}(z:Z):(RF p.W (RF p.r0 (RF p.r1 (RF p.r2 (RF p.r3 (RF p.ms.length (RR p.ms.length 3 (fun i j=>al mmC p.ms i j) Z))))))):=⟨rfl,rfl,rfl,rfl,rfl,rfl,fun _ _ _ _=>rfl,z⟩
abbrev xW(p:Pg):Prop:=PureC Try.prog 78 [.agg (bc p.W p.r0 p.r1 p.r2 p.r3 (bL p.ms))] (.int .i64 (bC p.ms)) []
abbrev xU(st:List Int):Prop:=PureC Try.prog 37 [lR st] (.own 0 0 1 0 st.length) [gf st]
abbrev xV:Prop:=PureC Try.prog 37 [.nils] (lR []) []
abbrev yg(p:Pg)(e:En)(op:Int)(d:Int)(tg:Int)(a:Vl)(b:Vl)(nm:ByteArray):Orc:= .cl [.agg (pgA p), aI e.pc] (.agg (inA (⟨8,op,d,a,b,nm,tg⟩:In))) []
abbrev ye(p:Pg):Orc:= .cl [.agg (bc p.W p.r0 p.r1 p.r2 p.r3 (bL p.ms))] (aI (bC p.ms)) []
abbrev yf(st:List Int):Orc:= .cl [lR st] (.own 0 0 1 0 st.length) [gf st]
theorem wR(p:Pg)(e:En)(st:List Int)(op d tg:Int)(a b:Vl)(nm:ByteArray)(hA:pC_ 22 [.agg (pgA p), aI e.pc] (.agg (inA (⟨8,op,d,a,b,nm,tg⟩:In))) [])(hc:xW p)(hn:xV)(hs:xU st)(hk:4<=st.length)(hk2:st.length<1000):Vc (vF_ 69 [.agg (pgA p),lR st,.agg (enA e)] [.fz,.fz,yg p e op d tg a b nm,.bd true,.fz,.inl,.fz,.cl [.nils] (lR []) [],yf st,ye p,.it 2,.inl,yg p e op d tg a b nm,.fz,.bd true] [] (.tup [lR st,.bool false]) []):=ai (iI p (nR p e (cj hA (cj (e1 8 8) (cj hn (cj (rf st.length) (cj (rr st.length 1 fun i j=>aI (st.getD i 0)) (cj hs (w7 p (cj hc (iI p (nR p e (cj hA (cj (dt ((st.length:Int)>=4)) (cj (i6 (0+1)) (cj (rf st.length) (cj (rr st.length 1 fun i j=>aI (st.getD i 0)) (cj (e0 2 0) trivial))))))))))))))))))
theorem wQ(p:Pg)(e:En)(st:List Int)(op d tg:Int)(a b:Vl)(nm:ByteArray)(hA:pC_ 22 [.agg (pgA p), aI e.pc] (.agg (inA (⟨8,op,d,a,b,nm,tg⟩:In))) [])(hc:xW p)(hn:xV)(hs:xU st)(hk: ¬4<=st.length)(hp: -1<=e.pc∧e.pc<=1000000):Vc (vF_ 69 [.agg (pgA p),lR st,.agg (enA e)] [.fz,.fz,yg p e op d tg a b nm,.bd true,.fz,.inl,.fz,.cl [.nils] (lR []) [],yf st,ye p,.it 2,.inl,yg p e op d tg a b nm,.fz,.bd false] [] (.tup [lR (st++[e.pc+1]),.bool true]) []):=ai (iI p (nR p e (cj hA (cj (e1 8 8) (cj hn (cj (rf st.length) (cj (rr st.length 1 fun i j=>aI (st.getD i 0)) (cj hs (w7 p (cj hc (iI p (nR p e (cj hA (cj (df ((st.length:Int)>=4)) (cj (i6 (e.pc+1)) (cj (ap st.length 1 8) (cj (i6 (0+1)) (cj (pv (st.length+1=(st++[e.pc+1]).length)) (cj (show ∀(i:Nat),i<st.length+1-> ∀(j:Nat),j<1->(bif Nat.blt (i+0) st.length then aI (st.getD (i+0) 0) else List.getD [aI (e.pc+1)] ((i+0-st.length+0)*1+j) AV.junk)=aI (List.getD (st++[e.pc+1]) i (0:Int)) from(fun i hi j hj=>by obtain rfl:j=0:=(by omega);exact jg (g:=fun a b=>[AV.int .i64 (e.pc+1)].getD (a*1+b) .junk) rfl i hi _ fun _=>rfl)) (cj (e1 0 0) trivial))))))))))))))))))))
abbrev yd(p:Pg)(e:En)(op:Int)(d:Int)(tg:Int)(a:Vl)(b:Vl)(nm:ByteArray):Orc:= .cl [.agg (pgA p), aI e.pc] (.agg (inA (⟨9,op,d,a,b,nm,tg⟩:In))) []
theorem y6(p:Pg)(e:En)(st:List Int)(op d tg:Int)(a b:Vl)(nm:ByteArray)(hA:pC_ 22 [.agg (pgA p), aI e.pc] (.agg (inA (⟨9,op,d,a,b,nm,tg⟩:In))) [])(hc:xW p)(hn:xV)(hs:xU st)(hk:st.length=0):Vc (vF_ 69 [.agg (pgA p),lR st,.agg (enA e)] [.fz,.fz,yd p e op d tg a b nm,.bd false,.bd true,.fz,.inl,.fz,.cl [.nils] (lR []) [],yf st,ye p,.it 2,.inl,yd p e op d tg a b nm,.inl,.bd true] [] (.tup [lR st,.bool false]) []):=ai (iI p (nR p e (cj hA (cj (e0 9 8) (cj (e1 9 9) (cj hn (cj (rf st.length) (cj (rr st.length 1 fun i j=>aI (st.getD i 0)) (cj hs (w7 p (cj hc (iI p (nR p e (cj hA (cj (i6 (st.length-1)) (cj (dt ((st.length:Int)-1<0)) (cj (i6 (0+1)) (cj (rf st.length) (cj (rr st.length 1 fun i j=>aI (st.getD i 0)) (cj (e0 2 0) trivial))))))))))))))))))))
theorem y5(p:Pg)(e:En)(st:List Int)(op d tg:Int)(a b:Vl)(nm:ByteArray)(hA:pC_ 22 [.agg (pgA p), aI e.pc] (.agg (inA (⟨9,op,d,a,b,nm,tg⟩:In))) [])(hc:xW p)(hn:xV)(hs:xU st)(hk: ¬st.length=0)(hk2:st.length<1000):Vc (vF_ 69 [.agg (pgA p),lR st,.agg (enA e)] [.fz,.fz,yd p e op d tg a b nm,.bd false,.bd true,.fz,.inl,.fz,.cl [.nils] (lR []) [],yf st,ye p,.it 2,.inl,yd p e op d tg a b nm,.inl,.bd false] [] (.tup [lR (st.take (st.length-1)),.bool true]) []):=ai (iI p (nR p e (cj hA (cj (e0 9 8) (cj (e1 9 9) (cj hn (cj (rf st.length) (cj (rr st.length 1 fun i j=>aI (st.getD i 0)) (cj hs (w7 p (cj hc (iI p (nR p e (cj hA (cj (i6 (st.length-1)) (cj (df ((st.length:Int)-1<0)) (cj (bi (st.length-1) st.length) (cj (pv (Int.toNat ((st.length:Int)-1)+0<st.length)) (cj (pv ((0:Int)<=st.length-1∧(st.length:Int)-1<=st.length)) (cj (pv ((16:Nat)<=140737488355328∧(1:Nat)<=140737488355328)) (cj (i6 (0+1)) (cj (pv (Int.toNat ((st.length:Int)-1)=(List.take (st.length-1) st).length)) (cj (show ∀(i:Nat),i<Int.toNat ((st.length:Int)-1)-> ∀(j:Nat),j<1->aI (st.getD (i+0) 0)=aI (List.getD (List.take (st.length-1) st) i 0) from(fun i hi j hj=>Aw (show i<st.length-1 by omega))) (cj (e1 0 0) trivial))))))))))))))))))))))))
theorem JD(p:Pg)(e:En)(st:List Int)(x:In)(h8: ¬x.kind=8)(h9: ¬x.kind=9)(hA:pC_ 22 [.agg (pgA p), aI e.pc] (.agg (inA x)) []):Vc (vF_ 69 [.agg (pgA p),lR st,.agg (enA e)] [.fz,.fz,.cl [.agg (pgA p), aI e.pc] (.agg (inA x)) [],.bd false,.bd false] [] (.tup [lR st,.bool true]) []):=ai (iI p (nR p e (cj hA (cj (aa.2 h8) (cj (aa.2 h9) (cj (rf st.length) (cj (rr st.length 1 fun i j=>aI (st.getD i 0)) (cj (rf true) trivial))))))))
def lrS(p:Pg)(l:List En)(L:List Int)(k:Nat):Sm:=⟨[(4,pgP p),(8,.nils),(9,.bool false),(10,lR L),(19,enR l),(20,.int .i64 l.length),(21,.int .i64 k)],[],0⟩
def bhV(p:Pg)(e:En)(st:List Int):Option (List Int):=
 if(atI p e.pc).kind=8 then(if 4<=st.length then none else some (st++[e.pc+1]))
 else if(atI p e.pc).kind=9 then(if st.length=0 then none else some (st.take (st.length-1))) else some st
theorem Av(p:Pg)(e:En)(st:List Int)(hP:OkP p)(hst:st.length<900)(hp: -1<=e.pc∧e.pc<=1000000)(L:List Int)(h:bhV p e st=some L):pC_ 69 [.agg (pgA p),lR st,.agg (enA e)] (.tup [lR L,.bool true]) []:=by
 unfold bhV at h
 have hA:=atC p e.pc
 have hC:=nQ p.W p.r0 p.r1 p.r2 p.r3 p.ms (by have:=hP.ms;omega) hP.sum
 have hN:pC_ 37 [.nils] (lR []) []:=(mA .nil (by show(0:Nat)<=1000000;decide)).frozen
 have hS:=mA (.row st) (by omega)
 generalize atI p e.pc=x at hA h
 obtain⟨k,op,d,a,b,nm,tg⟩:=x
 simp only at h
 by_cases h8:k=8
 ·subst h8
  rw[ao rfl] at h
  by_cases h4:4<=st.length
  ·rw[ao h4] at h;cases h
  ·rw[an h4] at h
   obtain rfl:=Option.some.inj h
   exact PureC.vc (wQ p e st op d tg a b nm hA hC hN hS h4 hp)
 ·rw[an h8] at h
  by_cases h9:k=9
  ·subst h9
   rw[ao rfl] at h
   by_cases h0:st.length=0
   ·rw[ao h0] at h;cases h
   ·rw[an h0] at h
    obtain rfl:=Option.some.inj h
    exact PureC.vc (y5 p e st op d tg a b nm hA hC hN hS h0 (by omega))
  ·rw[an h9] at h
   obtain rfl:=Option.some.inj h
   exact PureC.vc (JD p e st _ h8 h9 hA)
theorem yA(p:Pg)(e:En)(st:List Int)(hP:OkP p)(hst:st.length<900)(hp: -1<=e.pc∧e.pc<=1000000)(h:bhV p e st=none):pC_ 69 [.agg (pgA p),lR st,.agg (enA e)] (.tup [lR st,.bool false]) []:=by
 unfold bhV at h
 have hA:=atC p e.pc
 have hC:=nQ p.W p.r0 p.r1 p.r2 p.r3 p.ms (by have:=hP.ms;omega) hP.sum
 have hN:pC_ 37 [.nils] (lR []) []:=(mA .nil (by show(0:Nat)<=1000000;decide)).frozen
 have hS:=mA (.row st) (by omega)
 generalize atI p e.pc=x at hA h
 obtain⟨k,op,d,a,b,nm,tg⟩:=x
 simp only at h
 by_cases h8:k=8
 ·subst h8
  rw[ao rfl] at h
  by_cases h4:4<=st.length
  ·exact PureC.vc (wR p e st op d tg a b nm hA hC hN hS h4 (by omega))
  ·rw[an h4] at h;cases h
 ·rw[an h8] at h
  by_cases h9:k=9
  ·subst h9
   rw[ao rfl] at h
   by_cases h0:st.length=0
   ·exact PureC.vc (y6 p e st op d tg a b nm hA hC hN hS h0)
   ·rw[an h0] at h;cases h
  ·rw[an h9] at h;cases h
theorem DP(l:List En)(k:Nat){Z:Prop}(z:Z):(RF ((l.getD k default).frm) (RF ((l.getD k default).nxt) (RF ((l.getD k default).dn) (RF ((l.getD k default).kn) (RF ((l.getD k default).ft) Z))))):=⟨rfl,rfl,rfl,rfl,rfl,z⟩
theorem DO(p:Pg)(l:List En)(L:List Int)(k:Nat){Z:Prop}(z:Z):(RF p.ls.length (RR p.ls.length 2 (fun i j=>al lbC p.ls i j) (RF p.is.length (RR p.is.length 9 (fun i j=>al inC p.is i j) (RF L.length (RR L.length 1 (fun i j=>aI (L.getD i 0)) (RF ((l.getD k default).pc) (RF ((l.getD k default).val) (RF ((l.getD k default).adr) Z))))))))):=⟨rfl,fun _ _ _ _=>rfl,rfl,fun _ _ _ _=>rfl,rfl,fun _ _ _ _=>rfl,rfl,rfl,rfl,z⟩
theorem F5(p:Pg)(l:List En)(L:List Int)(k:Nat)(hk:k<l.length)(hb:l.length<1000000)(M:List Int)(h:pC_ 69 [.agg (pgA p),lR L,.agg (enA (l.getD k default))] (.tup [lR M,.bool true]) []):Vc (vC_ 55 0 (lrS p l L k) [.bd true,.cl [.agg (pgA p),lR L,.agg (enA (l.getD k default))] (.tup [lR M,.bool true]) []] .nrm [] (lrS p l M (k+1))):=ai (cj (dt ((k:Int)<l.length)) (cj (bi k l.length) (iI p (DO p l L k (DP l k (cj h (cj (i6 (k+1)) (iI p (cj (rf p.ls.length) (cj (rr p.ls.length 2 fun i j=>al lbC p.ls i j) (cj (rf p.is.length) (cj (rr p.is.length 9 fun i j=>al inC p.is i j) (cj (rf false) (cj (rf M.length) (cj (rr M.length 1 fun i j=>aI (M.getD i 0)) (cj (rf l.length) (cj (rr l.length 8 fun i j=>al enC l i j) (cj (rf (l.length:Int)) (cj (rf ((k:Int)+1)) trivial)))))))))))))))))))
theorem Iu(p:Pg)(l:List En)(L:List Int)(k:Nat)(hk:k<l.length)(hb:l.length<1000000)(h:pC_ 69 [.agg (pgA p),lR L,.agg (enA (l.getD k default))] (.tup [lR L,.bool false]) []):Vc (vC_ 55 0 (lrS p l L k) [.bd true,.cl [.agg (pgA p),lR L,.agg (enA (l.getD k default))] (.tup [lR L,.bool false]) []] .ret [] nS):=ai (cj (dt ((k:Int)<l.length)) (cj (bi k l.length) (iI p (DO p l L k (DP l k (cj h (cj (rf false) trivial)))))))
theorem Iv(p:Pg)(l:List En)(L:List Int)(k:Nat)(hk: ¬k<l.length):Vc (vC_ 55 0 (lrS p l L k) [.bd false] (.ext 0) [] (lrS p l L k)):=ai (cj (df ((k:Int)<l.length)) (iI p (cj (rf p.ls.length) (cj (rr p.ls.length 2 fun i j=>al lbC p.ls i j) (cj (rf p.is.length) (cj (rr p.is.length 9 fun i j=>al inC p.is i j) (cj (rf false) (cj (rf L.length) (cj (rr L.length 1 fun i j=>aI (L.getD i 0)) (cj (rf l.length) (cj (rr l.length 8 fun i j=>al enC l i j) (cj (rf (l.length:Int)) (cj (rf (k:Int)) trivial)))))))))))))
theorem iN(p:Pg)(l:List En)(k j:Nat)(st:List Int):reG p l k (j+1) st=match bhV p (l.getD k default) st with |none=>none |some M=>reG p l (k+1) j M:=by
 show(if(atI p (l.getD k default).pc).kind=8 then(if 4<=st.length then none else reG p l (k+1) j (st++[(l.getD k default).pc+1])) else if(atI p (l.getD k default).pc).kind=9 then(if st.length=0 then none else reG p l (k+1) j (st.take (st.length-1))) else reG p l (k+1) j st)=_
 unfold bhV
 by_cases h8:(atI p (l.getD k default).pc).kind=8
 ·rw[ao h8,ao h8]
  by_cases h4:4<=st.length
  ·rw[ao h4,ao h4]
  ·rw[an h4,an h4]
 ·rw[an h8,an h8]
  by_cases h9:(atI p (l.getD k default).pc).kind=9
  ·rw[ao h9,ao h9]
   by_cases h0:st.length=0
   ·rw[ao h0,ao h0]
   ·rw[an h0,an h0]
  ·rw[an h9,an h9]
theorem Am{l:List En}(h: ∀e∈l, -1<=e.pc∧e.pc<=1000000){k:Nat}(hk:k<l.length): -1<=(l.getD k default).pc∧(l.getD k default).pc<=1000000:=h _ (by simp[List.getD,hk])
theorem sI{p:Pg}{e:En}{st M:List Int}(h:bhV p e st=some M):M.length<=st.length+1∧(st.length<=4->M.length<=4):=by
 unfold bhV at h
 split at h
 ·split at h
  ·cases h
  ·obtain rfl:=Option.some.inj h
   rw[ay];show st.length+1<=_∧(_->st.length+1<=4);omega
 ·split at h
  ·split at h
   ·cases h
   ·obtain rfl:=Option.some.inj h
    rw[aO];omega
  ·obtain rfl:=Option.some.inj h
   omega
theorem sj(p:Pg)(l:List En)(M:List Int)(hP:OkP p)(hb:l.length<1000000)(hpc: ∀e∈l, -1<=e.pc∧e.pc<=1000000): ∀j k L,k+j=l.length->L.length+j<900->reG p l k j L=some M->OkL Try.prog (cJ Try.prog 55) (lpC Try.prog 55 0) (lrS p l L k).st (.ext 0) (lrS p l M l.length).st
 |0,k,L,hk,hL,h=>by
  obtain rfl:L=M:=Option.some.inj h
  obtain rfl:k=l.length:=by omega
  exact OkL.exit (Ok.vc (Iv p l _ _ (by omega))) (by simp)
 |j+1,k,L,hk,hL,h=>by
  rw[iN] at h
  have hp:=Am hpc (k:=k) (by omega)
  cases hB:bhV p (l.getD k default) L with
  |none=>rw[hB] at h;cases h
  |some N=>
   rw[hB] at h
   have:=(sI hB).1
   exact OkL.step (Ok.vc (F5 p l L k (by omega) hb N (Av p _ L hP (by omega) hp N hB))) (sj p l M hP hb hpc j (k+1) N (by omega) (by omega) h)
theorem sk(p:Pg)(l:List En)(hP:OkP p)(hb:l.length<1000000)(hpc: ∀e∈l, -1<=e.pc∧e.pc<=1000000): ∀j k L,k+j=l.length->L.length+j<900->reG p l k j L=none->OkL Try.prog (cJ Try.prog 55) (lpC Try.prog 55 0) (lrS p l L k).st .ret (nS).st
 |0,k,L,hk,hL,h=>by cases h
 |j+1,k,L,hk,hL,h=>by
  rw[iN] at h
  have hp:=Am hpc (k:=k) (by omega)
  cases hB:bhV p (l.getD k default) L with
  |none=>exact OkL.exit (Ok.vc (Iu p l L k (by omega) hb (yA p _ L hP (by omega) hp hB))) (by simp)
  |some N=>
   rw[hB] at h
   have:=(sI hB).1
   exact OkL.step (Ok.vc (F5 p l L k (by omega) hb N (Av p _ L hP (by omega) hp N hB))) (sk p l hP hb hpc j (k+1) N (by omega) (by omega) h)
theorem jj(p:Pg)(l:List En)(n:Nat): ∀j k st,k+j<=n->reG p (l.take n) k j st=reG p l k j st
 |0,_,_,_=>rfl
 |j+1,k,st,h=>by
  rw[iN,iN,uM (by omega)]
  cases bhV p (l.getD k default) st with
  |none=>rfl
  |some M=>exact jj p l n j (k+1) M (by omega)
theorem DN(p:Pg)(st:List Int)(l2:List En){Z:Prop}(z:Z):(RF p.ls.length (RR p.ls.length 2 (fun i j=>al lbC p.ls i j) (RF p.is.length (RR p.is.length 9 (fun i j=>al inC p.is i j) (RF false (RF st.length (RR st.length 1 (fun i j=>aI (st.getD i 0)) (RF l2.length (RR l2.length 8 (fun i j=>al enC l2 i j) Z))))))))):=⟨rfl,fun _ _ _ _=>rfl,rfl,fun _ _ _ _=>rfl,rfl,rfl,fun _ _ _ _=>rfl,rfl,fun _ _ _ _=>rfl,z⟩
theorem DM(l:List En)(i:Int){Z:Prop}(z:Z):(RF l.length (RR l.length 8 (fun i j=>al enC l i j) (RF i Z))):=⟨rfl,fun _ _ _ _=>rfl,rfl,z⟩
theorem yr(p:Pg)(st:List Int)(l l2:List En)(i:Int)(L:List Int)(hl2:l2.length<1000000)(h1:pC_ 37 [lR st] (lR st) [])(h2:pC_ 68 [enR l, aI i] (enR l2) [])(h:oL_ 55 0 (lrS p l2 st 0).st (.ext 0) (lrS p l2 L l2.length).st):Vc (vF_ 55 [.agg (pgA p),lR st,enR l, aI i] [.fz,.cl [lR st] (lR st) [],.cl [enR l, aI i] (enR l2) [],.lp [] (lrS p l2 st 0) (.ext 0) (lrS p l2 L l2.length)] [] (.tup [lR L,.bool true]) []):=ai (cj (rf st.length) (cj (rr st.length 1 fun i j=>aI (st.getD i 0)) (cj h1 (DM l i (cj h2 (iI p (DN p st l2 (cj (rf (l2.length:Int)) (cj (rf (0:Int)) (cj h (cj (rf L.length) (cj (rr L.length 1 fun i j=>aI (L.getD i 0)) (cj (rf true) trivial)))))))))))))
theorem yu(p:Pg)(st:List Int)(l l2:List En)(i:Int)(hl2:l2.length<1000000)(h1:pC_ 37 [lR st] (lR st) [])(h2:pC_ 68 [enR l, aI i] (enR l2) [])(h:oL_ 55 0 (lrS p l2 st 0).st .ret (nS).st):Vc (vF_ 55 [.agg (pgA p),lR st,enR l, aI i] [.fz,.cl [lR st] (lR st) [],.cl [enR l, aI i] (enR l2) [],.lp [] (lrS p l2 st 0) .ret nS] [] (.tup [.nils,.bool false]) []):=ai (cj (rf st.length) (cj (rr st.length 1 fun i j=>aI (st.getD i 0)) (cj h1 (DM l i (cj h2 (iI p (DN p st l2 (cj (rf (l2.length:Int)) (cj (rf (0:Int)) (cj h (cj (rf false) trivial)))))))))))
theorem CD(p:Pg)(st:List Int)(l:List En)(i:Int)(L:List Int)(hP:OkP p)(hb:l.length<500)(hst:st.length<=300)(hpc: ∀e∈l, -1<=e.pc∧e.pc<=1000000)(h:reV p st l i=some L):pC_ 55 [.agg (pgA p),lR st,enR l,.int .i64 i] (.tup [lR L,.bool true]) []:=by
 have hle:=gd i l.length
 have ht:(l.take (cl0 i l.length)).length=cl0 i l.length:=by rw[aO];omega
 have hz:=sj p (l.take (cl0 i l.length)) L hP (by omega) (fun e he=>hpc e (cH he)) (cl0 i l.length) 0 st (by omega) (by omega) (by rw[jj p l _ _ _ _ (by omega)];exact h)
 exact PureC.vc (yr p st l _ i L (by omega) (ki st (by omega)) (G9 l i (cl0 i l.length) (by unfold cl0;omega) (by omega)) hz.ok)
theorem pO(p:Pg)(st:List Int)(l:List En)(i:Int)(hP:OkP p)(hb:l.length<500)(hst:st.length<=300)(hpc: ∀e∈l, -1<=e.pc∧e.pc<=1000000)(h:reV p st l i=none):pC_ 55 [.agg (pgA p),lR st,enR l,.int .i64 i] (.tup [.nils,.bool false]) []:=by
 have hle:=gd i l.length
 have ht:(l.take (cl0 i l.length)).length=cl0 i l.length:=by rw[aO];omega
 have hz:=sk p (l.take (cl0 i l.length)) hP (by omega) (fun e he=>hpc e (cH he)) (cl0 i l.length) 0 st (by omega) (by omega) (by rw[jj p l _ _ _ _ (by omega)];exact h)
 exact PureC.vc (yu p st l _ i (by omega) (ki st (by omega)) (G9 l i (cl0 i l.length) (by unfold cl0;omega) (by omega)) hz.ok)
end
end Go.Proofs.Ytbhdoempeglgpaa.Px
