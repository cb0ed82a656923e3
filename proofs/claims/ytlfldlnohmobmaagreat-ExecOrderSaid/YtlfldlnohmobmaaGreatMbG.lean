import Derived.Test.YtlfldlnohmobmaaGreatMbD
import Derived.Test.YtlfldlnohmobmaaGreatMbF
import Derived.Test.YtlfldlnohmobmaaGreatMbA
import Derived.Outline
import Derived.Test.YtlfldlnohmobmaaGreatRows
import Derived.Lib.Bytes
import Derived.Lib.Bytealg
import Derived.Deep.QuietTactic
import Derived.BigQuiet
set_option linter.unusedVariables false
set_option linter.unusedSimpArgs false
set_option maxRecDepth 100000
namespace Go.Proofs.YtlfldlnohmobmaaGreat.Px
section
open Go.RowKit Go.Proofs.YtlfldlnohmobmaaGreat.Rx
def vv(l:List Int):AV:= .rptr 1 (fun q=>[AV.row 1 l.length (cQ l)].getD q .junk) 0
def kN(l:List Int)(i:Nat):Int:=if i<l.length then l.getD i 0 else(i:Int)
def dgS:Nat->ByteArray
 |0=>⟨#[48]⟩
 |1=>⟨#[49]⟩
 |2=>⟨#[50]⟩
 |3=>⟨#[51]⟩
 |4=>⟨#[52]⟩
 |_=>⟨#[53]⟩
theorem OE(l:List Int)(i:Nat)(h:i<l.length)(hi:i<1000):Vc (vF_ 21 [aI i,vv l] [.b true] [] (aI (l.getD i 0)) []):=aj (cj (dt ((i:Int)<l.length)) (cj (bi i l.length) (cj (rf (l.getD i 0)) trivial)))
theorem LY(l:List Int)(i:Nat)(h: ¬i<l.length)(hi:i<1000):Vc (vF_ 21 [aI i,vv l] [.b false] [] (aI i) []):=aj (cj (df ((i:Int)<l.length)) (cj (rf (i:Int)) trivial))
theorem kC(l:List Int)(i:Nat)(hi:i<1000):pC_ 21 [.int .i64 i,vv l] (.int .i64 (kN l i)) []:=by
 unfold kN
 by_cases h:i<l.length
 ·rw[aq h];exact PureC.vc (OE l i h hi)
 ·rw[an h];exact PureC.vc (LY l i h hi)
theorem dg0:Vc (py Tryz.prog true 22 [aI 0] [] [] (.str (dgS 0)) []):=aj (cj (rf (dgS (0:Nat))) trivial)
theorem dg1:Vc (py Tryz.prog true 22 [aI 1] [] [] (.str (dgS 1)) []):=aj (cj (rf (dgS (1:Nat))) trivial)
theorem dg2:Vc (py Tryz.prog true 22 [aI 2] [] [] (.str (dgS 2)) []):=aj (cj (rf (dgS (2:Nat))) trivial)
theorem dg3:Vc (py Tryz.prog true 22 [aI 3] [] [] (.str (dgS 3)) []):=aj (cj (rf (dgS (3:Nat))) trivial)
theorem dg4:Vc (py Tryz.prog true 22 [aI 4] [] [] (.str (dgS 4)) []):=aj (cj (rf (dgS (4:Nat))) trivial)
theorem dg5:Vc (py Tryz.prog true 22 [aI 5] [] [] (.str (dgS 5)) []):=aj (cj (rf (dgS (5:Nat))) trivial)
theorem PC(i:Nat)(hi:i<6):pC_ 22 [.int .i64 i] (.str (dgS i)) []:=match i,hi with
 |0,_=>PureC.vc dg0
 |1,_=>PureC.vc dg1
 |2,_=>PureC.vc dg2
 |3,_=>PureC.vc dg3
 |4,_=>PureC.vc dg4
 |5,_=>PureC.vc dg5
def x2(x:Int)(s:Nat):Int:=Int.fdiv x (2^s)
def vlN(x:Int):Vl:=if bits .and .i64 x 4=0 then⟨false,bits .and .i64 x 3⟩ else⟨true,bits .and .i64 x 3⟩
def v0:Vl:=⟨false,0⟩
def tmN(x:Int)(m:Int):Int:=Int.tmod (bits .and .i64 x 255) m
def dh(k:Nat)(x:Int)(n:Nat):In:=match k with
 |1=>⟨1,tmN (x2 x 16) 10+1,bits .and .i64 (x2 x 14) 3,vlN (x2 x 8),vlN (x2 x 11),⟨#[]⟩,0⟩
 |2=>⟨2,0,bits .and .i64 (x2 x 14) 3,vlN (x2 x 8),vlN (x2 x 11),⟨#[]⟩,0⟩
 |3=>⟨3,0,bits .and .i64 (x2 x 14) 3,vlN (x2 x 8),vlN (x2 x 11),⟨#[]⟩,0⟩
 |4=>⟨4,0,bits .and .i64 (x2 x 14) 3,vlN (x2 x 8),vlN (x2 x 11),⟨#[]⟩,0⟩
 |5=>⟨5,([9,10,3,2]:List Int).getD (bits .and .i64 (x2 x 16) 3).toNat 0,0,vlN (x2 x 8),vlN (x2 x 11),⟨#[]⟩,tmN (x2 x 18) (n+1)⟩
 |6=>⟨6,0,0,v0,v0,⟨#[]⟩,tmN (x2 x 18) (n+1)⟩
 |7=>⟨7,0,0,vlN (x2 x 8),v0,⟨#[]⟩,0⟩
 |8=>⟨8,0,0,v0,v0,⟨#[]⟩,tmN (x2 x 18) (n+1)⟩
 |k=>⟨k,0,0,v0,v0,⟨#[]⟩,0⟩
def LX:List Nat:=[1,1,2,2,2,3,3,4,5,5,5,6,7,8,9,10,11,1]
def iS(x:Int)(n:Nat):In:=dh (LX.getD (tmN x 18).toNat 0) x n
theorem wQ(x:Int)(h:(bits .and .i64 x 4==0)=true):Vc (vF_ 55 [aI x] [.b true] [] (.agg (vlA ⟨false,bits .and .i64 x 3⟩)) []):=aj (cj h (cj (rf false) (cj (rf (Go.bits Go.BinOp.and IntKind.i64 x (3:Int))) trivial)))
theorem uG(x:Int)(h:(bits .and .i64 x 4==0)=false):Vc (vF_ 55 [aI x] [.b false] [] (.agg (vlA ⟨true,bits .and .i64 x 3⟩)) []):=aj (cj h (cj (rf true) (cj (rf (Go.bits Go.BinOp.and IntKind.i64 x (3:Int))) trivial)))
theorem Dy(x:Int):pC_ 55 [.int .i64 x] (.agg (vlA (vlN x))) []:=by
 unfold vlN
 cases h:(bits .and .i64 x 4==0) with
 |true=>rw[aq (by simpa using h)];exact PureC.vc (wQ x h)
 |false=>rw[an (by simpa using h)];exact PureC.vc (uG x h)
theorem tG(y m:Int)(hm:0<m):0<=Int.tmod (bits .and .i64 y 255) m∧Int.tmod (bits .and .i64 y 255) m<m:=by
 have h:=Wd.bits_mask y 8 (by omega)
 have h2:bits .and .i64 y 255=y%256:=h
 rw[h2,Int.tmod_eq_emod_of_nonneg (by omega)]
 exact⟨oe _ (by omega),jU _ hm⟩
theorem ul(y m:Int)(hm:0<m)(h1:m<=1000):inK .i64 (Int.tmod (bits .and .i64 y 255) m+1):=by
 have:=tG y m hm
 exact fB (by omega) (by omega)
theorem r8(y:Int): ∃q:Nat,q<4∧bits .and .i64 y 3=(q:Int):=by
 have h:=Wd.bits_mask y 2 (by omega)
 have h2:bits .and .i64 y 3=y%4:=h
 exact⟨(y%4).toNat,by omega,by omega⟩
theorem e9(x:Int):pC_ 55 [aI (x2 x 8)] (.agg (vlA (vlN (x2 x 8)))) []:=Dy _
theorem eZ(x:Int):pC_ 55 [aI (x2 x 11)] (.agg (vlA (vlN (x2 x 11)))) []:=Dy _
theorem D4(x:Int)(n:Nat){Z:Prop}(z:Z):(RF (1:Int) (RF (tmN (x2 x (16:Nat)) (10:Int)+1) (RF (Go.bits Go.BinOp.and IntKind.i64 (x2 x (14:Nat)) (3:Int)) (RF ((vlN (x2 x (8:Nat))).reg) (RF ((vlN (x2 x (8:Nat))).n) (RF ((vlN (x2 x (11:Nat))).reg) (RF ((vlN (x2 x (11:Nat))).n) (RF (ByteArray.mk (Array.mk [])) (RF (0:Int) Z))))))))):=⟨rfl,rfl,rfl,rfl,rfl,rfl,rfl,rfl,rfl,z⟩
abbrev fa(x:Int):Orc:= .cl [aI (x2 x 11)] (.agg (vlA (vlN (x2 x 11)))) []
abbrev fb(x:Int):Orc:= .cl [aI (x2 x 8)] (.agg (vlA (vlN (x2 x 8)))) []
theorem OO(x:Int)(n:Nat)(hn:n<100)(hq:Int.tmod (bits .and .i64 x 255) 18=((0:Nat):Int)):Vc (vF_ 23 [aI x, aI n] [.iy 0,fb x,fa x,.ll [3,4]] [] (.agg (inA (dh 1 x n))) []):=aj (cj (show(18:Int)≠0 from by omega) (cj (pv (Int.tmod (Go.bits Go.BinOp.and IntKind.i64 x (255:Int)) 18=(0:Nat))) (cj (bi (0:Nat) (18:Nat)) (cj (pv ((0:Nat)<18)) (cj (pv ((0:Int)<=8)) (cj (rf (x2 x (8:Nat))) (cj (e9 x) (cj (pv ((0:Int)<=11)) (cj (rf (x2 x (11:Nat))) (cj (eZ x) (cj (pv ((0:Int)<=16)) (cj (show(10:Int)≠0 from by omega) (cj (show inK IntKind.i64 (Int.tmod (Go.bits Go.BinOp.and IntKind.i64 (Int.fdiv x ((2:Int)^(16:Nat))) (255:Int)) (10:Int)+1) from(ul _ _ (by omega) (by omega))) (cj (pv ((0:Int)<=14)) (D4 x n trivial)))))))))))))))
theorem ON(x:Int)(n:Nat)(hn:n<100)(hq:Int.tmod (bits .and .i64 x 255) 18=((1:Nat):Int)):Vc (vF_ 23 [aI x, aI n] [.iy 1,fb x,fa x,.ll [3,4]] [] (.agg (inA (dh 1 x n))) []):=aj (cj (show(18:Int)≠0 from by omega) (cj (pv (Int.tmod (Go.bits Go.BinOp.and IntKind.i64 x (255:Int)) 18=(1:Nat))) (cj (bi (1:Nat) (18:Nat)) (cj (pv ((1:Nat)<18)) (cj (pv ((0:Int)<=8)) (cj (rf (x2 x (8:Nat))) (cj (e9 x) (cj (pv ((0:Int)<=11)) (cj (rf (x2 x (11:Nat))) (cj (eZ x) (cj (pv ((0:Int)<=16)) (cj (show(10:Int)≠0 from by omega) (cj (show inK IntKind.i64 (Int.tmod (Go.bits Go.BinOp.and IntKind.i64 (Int.fdiv x ((2:Int)^(16:Nat))) (255:Int)) (10:Int)+1) from(ul _ _ (by omega) (by omega))) (cj (pv ((0:Int)<=14)) (D4 x n trivial)))))))))))))))
theorem D3(x:Int)(n:Nat){Z:Prop}(z:Z):(RF (2:Int) (RF (0:Int) (RF (Go.bits Go.BinOp.and IntKind.i64 (x2 x (14:Nat)) (3:Int)) (RF ((vlN (x2 x (8:Nat))).reg) (RF ((vlN (x2 x (8:Nat))).n) (RF ((vlN (x2 x (11:Nat))).reg) (RF ((vlN (x2 x (11:Nat))).n) (RF (ByteArray.mk (Array.mk [])) (RF (0:Int) Z))))))))):=⟨rfl,rfl,rfl,rfl,rfl,rfl,rfl,rfl,rfl,z⟩
theorem OM(x:Int)(n:Nat)(hn:n<100)(hq:Int.tmod (bits .and .i64 x 255) 18=((2:Nat):Int)):Vc (vF_ 23 [aI x, aI n] [.iy 2,fb x,fa x,.ll [3,4]] [] (.agg (inA (dh 2 x n))) []):=aj (cj (show(18:Int)≠0 from by omega) (cj (pv (Int.tmod (Go.bits Go.BinOp.and IntKind.i64 x (255:Int)) 18=(2:Nat))) (cj (bi (2:Nat) (18:Nat)) (cj (pv ((2:Nat)<18)) (cj (pv ((0:Int)<=8)) (cj (rf (x2 x (8:Nat))) (cj (e9 x) (cj (pv ((0:Int)<=11)) (cj (rf (x2 x (11:Nat))) (cj (eZ x) (cj (pv ((0:Int)<=14)) (D3 x n trivial))))))))))))
theorem OL(x:Int)(n:Nat)(hn:n<100)(hq:Int.tmod (bits .and .i64 x 255) 18=((3:Nat):Int)):Vc (vF_ 23 [aI x, aI n] [.iy 3,fb x,fa x,.ll [3,4]] [] (.agg (inA (dh 2 x n))) []):=aj (cj (show(18:Int)≠0 from by omega) (cj (pv (Int.tmod (Go.bits Go.BinOp.and IntKind.i64 x (255:Int)) 18=(3:Nat))) (cj (bi (3:Nat) (18:Nat)) (cj (pv ((3:Nat)<18)) (cj (pv ((0:Int)<=8)) (cj (rf (x2 x (8:Nat))) (cj (e9 x) (cj (pv ((0:Int)<=11)) (cj (rf (x2 x (11:Nat))) (cj (eZ x) (cj (pv ((0:Int)<=14)) (D3 x n trivial))))))))))))
theorem OK(x:Int)(n:Nat)(hn:n<100)(hq:Int.tmod (bits .and .i64 x 255) 18=((4:Nat):Int)):Vc (vF_ 23 [aI x, aI n] [.iy 4,fb x,fa x,.ll [3,4]] [] (.agg (inA (dh 2 x n))) []):=aj (cj (show(18:Int)≠0 from by omega) (cj (pv (Int.tmod (Go.bits Go.BinOp.and IntKind.i64 x (255:Int)) 18=(4:Nat))) (cj (bi (4:Nat) (18:Nat)) (cj (pv ((4:Nat)<18)) (cj (pv ((0:Int)<=8)) (cj (rf (x2 x (8:Nat))) (cj (e9 x) (cj (pv ((0:Int)<=11)) (cj (rf (x2 x (11:Nat))) (cj (eZ x) (cj (pv ((0:Int)<=14)) (D3 x n trivial))))))))))))
theorem I1(x:Int)(n:Nat){Z:Prop}(z:Z):(RF (3:Int) (RF (0:Int) (RF (Go.bits Go.BinOp.and IntKind.i64 (x2 x (14:Nat)) (3:Int)) (RF ((vlN (x2 x (8:Nat))).reg) (RF ((vlN (x2 x (8:Nat))).n) (RF ((vlN (x2 x (11:Nat))).reg) (RF ((vlN (x2 x (11:Nat))).n) (RF (ByteArray.mk (Array.mk [])) (RF (0:Int) Z))))))))):=⟨rfl,rfl,rfl,rfl,rfl,rfl,rfl,rfl,rfl,z⟩
theorem OJ(x:Int)(n:Nat)(hn:n<100)(hq:Int.tmod (bits .and .i64 x 255) 18=((5:Nat):Int)):Vc (vF_ 23 [aI x, aI n] [.iy 5,fb x,fa x,.ll [3,4]] [] (.agg (inA (dh 3 x n))) []):=aj (cj (show(18:Int)≠0 from by omega) (cj (pv (Int.tmod (Go.bits Go.BinOp.and IntKind.i64 x (255:Int)) 18=(5:Nat))) (cj (bi (5:Nat) (18:Nat)) (cj (pv ((5:Nat)<18)) (cj (pv ((0:Int)<=8)) (cj (rf (x2 x (8:Nat))) (cj (e9 x) (cj (pv ((0:Int)<=11)) (cj (rf (x2 x (11:Nat))) (cj (eZ x) (cj (pv ((0:Int)<=14)) (I1 x n trivial))))))))))))
theorem OI(x:Int)(n:Nat)(hn:n<100)(hq:Int.tmod (bits .and .i64 x 255) 18=((6:Nat):Int)):Vc (vF_ 23 [aI x, aI n] [.iy 6,fb x,fa x,.ll [3,4]] [] (.agg (inA (dh 3 x n))) []):=aj (cj (show(18:Int)≠0 from by omega) (cj (pv (Int.tmod (Go.bits Go.BinOp.and IntKind.i64 x (255:Int)) 18=(6:Nat))) (cj (bi (6:Nat) (18:Nat)) (cj (pv ((6:Nat)<18)) (cj (pv ((0:Int)<=8)) (cj (rf (x2 x (8:Nat))) (cj (e9 x) (cj (pv ((0:Int)<=11)) (cj (rf (x2 x (11:Nat))) (cj (eZ x) (cj (pv ((0:Int)<=14)) (I1 x n trivial))))))))))))
theorem OH(x:Int)(n:Nat)(hn:n<100)(hq:Int.tmod (bits .and .i64 x 255) 18=((7:Nat):Int)):Vc (vF_ 23 [aI x, aI n] [.iy 7,fb x,fa x,.ll [3,4]] [] (.agg (inA (dh 4 x n))) []):=aj (cj (show(18:Int)≠0 from by omega) (cj (pv (Int.tmod (Go.bits Go.BinOp.and IntKind.i64 x (255:Int)) 18=(7:Nat))) (cj (bi (7:Nat) (18:Nat)) (cj (pv ((7:Nat)<18)) (cj (pv ((0:Int)<=8)) (cj (rf (x2 x (8:Nat))) (cj (e9 x) (cj (pv ((0:Int)<=11)) (cj (rf (x2 x (11:Nat))) (cj (eZ x) (cj (pv ((0:Int)<=14)) (cj (rf (4:Int)) (cj (rf (0:Int)) (cj (rf (Go.bits Go.BinOp.and IntKind.i64 (x2 x (14:Nat)) (3:Int))) (cj (rf ((vlN (x2 x (8:Nat))).reg)) (cj (rf ((vlN (x2 x (8:Nat))).n)) (cj (rf ((vlN (x2 x (11:Nat))).reg)) (cj (rf ((vlN (x2 x (11:Nat))).n)) (cj (rf (ByteArray.mk (Array.mk []))) (cj (rf (0:Int)) trivial))))))))))))))))))))
theorem EZ(x:Int)(hr:bits .and .i64 (Int.fdiv x (2^16)) 3=((0:Nat):Int)):(9:Int)=List.getD [(9:Int),(10:Int),(3:Int),(2:Int)] (Int.toNat (Go.bits Go.BinOp.and IntKind.i64 (x2 x (16:Nat)) (3:Int))) (0:Int):=by rw[show bits .and .i64 (x2 x 16) 3=((0:Nat):Int) from hr];rfl
theorem me(x:Int)(n:Nat){Z:Prop}(z:Z):(RF (0:Int) (RF ((vlN (x2 x (8:Nat))).reg) (RF ((vlN (x2 x (8:Nat))).n) (RF ((vlN (x2 x (11:Nat))).reg) (RF ((vlN (x2 x (11:Nat))).n) (RF (ByteArray.mk (Array.mk [])) (RF (tmN (x2 x (18:Nat)) ((n:Int)+1)) Z))))))):=⟨rfl,rfl,rfl,rfl,rfl,rfl,rfl,z⟩
theorem GO(x:Int)(n:Nat)(hn:n<100)(hq:Int.tmod (bits .and .i64 x 255) 18=((8:Nat):Int))(hr:bits .and .i64 (Int.fdiv x (2^16)) 3=((0:Nat):Int)):Vc (vF_ 23 [aI x, aI n] [.iy 8,fb x,fa x,.ll [3,4],.iy 0] [] (.agg (inA (dh 5 x n))) []):=aj (cj (show(18:Int)≠0 from by omega) (cj (pv (Int.tmod (Go.bits Go.BinOp.and IntKind.i64 x (255:Int)) 18=(8:Nat))) (cj (bi (8:Nat) (18:Nat)) (cj (pv ((8:Nat)<18)) (cj (pv ((0:Int)<=8)) (cj (rf (x2 x (8:Nat))) (cj (e9 x) (cj (pv ((0:Int)<=11)) (cj (rf (x2 x (11:Nat))) (cj (eZ x) (cj (pv ((0:Int)<=16)) (cj (pv (Go.bits Go.BinOp.and IntKind.i64 (Int.fdiv x ((2:Int)^(16:Nat))) (3:Int)=(0:Nat))) (cj (bi (0:Nat) (4:Nat)) (cj (pv ((0:Nat)<4)) (cj (pv ((0:Int)<=18)) (cj (i6 (n+1)) (cj (show(n:Int)+1≠0 from by omega) (cj (rf (5:Int)) (cj (EZ x hr) (me x n trivial))))))))))))))))))))
theorem EY(x:Int)(hr:bits .and .i64 (Int.fdiv x (2^16)) 3=((1:Nat):Int)):(10:Int)=List.getD [(9:Int),(10:Int),(3:Int),(2:Int)] (Int.toNat (Go.bits Go.BinOp.and IntKind.i64 (x2 x (16:Nat)) (3:Int))) (0:Int):=by rw[show bits .and .i64 (x2 x 16) 3=((1:Nat):Int) from hr];rfl
theorem GN(x:Int)(n:Nat)(hn:n<100)(hq:Int.tmod (bits .and .i64 x 255) 18=((8:Nat):Int))(hr:bits .and .i64 (Int.fdiv x (2^16)) 3=((1:Nat):Int)):Vc (vF_ 23 [aI x, aI n] [.iy 8,fb x,fa x,.ll [3,4],.iy 1] [] (.agg (inA (dh 5 x n))) []):=aj (cj (show(18:Int)≠0 from by omega) (cj (pv (Int.tmod (Go.bits Go.BinOp.and IntKind.i64 x (255:Int)) 18=(8:Nat))) (cj (bi (8:Nat) (18:Nat)) (cj (pv ((8:Nat)<18)) (cj (pv ((0:Int)<=8)) (cj (rf (x2 x (8:Nat))) (cj (e9 x) (cj (pv ((0:Int)<=11)) (cj (rf (x2 x (11:Nat))) (cj (eZ x) (cj (pv ((0:Int)<=16)) (cj (pv (Go.bits Go.BinOp.and IntKind.i64 (Int.fdiv x ((2:Int)^(16:Nat))) (3:Int)=(1:Nat))) (cj (bi (1:Nat) (4:Nat)) (cj (pv ((1:Nat)<4)) (cj (pv ((0:Int)<=18)) (cj (i6 (n+1)) (cj (show(n:Int)+1≠0 from by omega) (cj (rf (5:Int)) (cj (EY x hr) (me x n trivial))))))))))))))))))))
theorem EX(x:Int)(hr:bits .and .i64 (Int.fdiv x (2^16)) 3=((2:Nat):Int)):(3:Int)=List.getD [(9:Int),(10:Int),(3:Int),(2:Int)] (Int.toNat (Go.bits Go.BinOp.and IntKind.i64 (x2 x (16:Nat)) (3:Int))) (0:Int):=by rw[show bits .and .i64 (x2 x 16) 3=((2:Nat):Int) from hr];rfl
theorem GM(x:Int)(n:Nat)(hn:n<100)(hq:Int.tmod (bits .and .i64 x 255) 18=((8:Nat):Int))(hr:bits .and .i64 (Int.fdiv x (2^16)) 3=((2:Nat):Int)):Vc (vF_ 23 [aI x, aI n] [.iy 8,fb x,fa x,.ll [3,4],.iy 2] [] (.agg (inA (dh 5 x n))) []):=aj (cj (show(18:Int)≠0 from by omega) (cj (pv (Int.tmod (Go.bits Go.BinOp.and IntKind.i64 x (255:Int)) 18=(8:Nat))) (cj (bi (8:Nat) (18:Nat)) (cj (pv ((8:Nat)<18)) (cj (pv ((0:Int)<=8)) (cj (rf (x2 x (8:Nat))) (cj (e9 x) (cj (pv ((0:Int)<=11)) (cj (rf (x2 x (11:Nat))) (cj (eZ x) (cj (pv ((0:Int)<=16)) (cj (pv (Go.bits Go.BinOp.and IntKind.i64 (Int.fdiv x ((2:Int)^(16:Nat))) (3:Int)=(2:Nat))) (cj (bi (2:Nat) (4:Nat)) (cj (pv ((2:Nat)<4)) (cj (pv ((0:Int)<=18)) (cj (i6 (n+1)) (cj (show(n:Int)+1≠0 from by omega) (cj (rf (5:Int)) (cj (EX x hr) (me x n trivial))))))))))))))))))))
theorem EW(x:Int)(hr:bits .and .i64 (Int.fdiv x (2^16)) 3=((3:Nat):Int)):(2:Int)=List.getD [(9:Int),(10:Int),(3:Int),(2:Int)] (Int.toNat (Go.bits Go.BinOp.and IntKind.i64 (x2 x (16:Nat)) (3:Int))) (0:Int):=by rw[show bits .and .i64 (x2 x 16) 3=((3:Nat):Int) from hr];rfl
theorem GL(x:Int)(n:Nat)(hn:n<100)(hq:Int.tmod (bits .and .i64 x 255) 18=((8:Nat):Int))(hr:bits .and .i64 (Int.fdiv x (2^16)) 3=((3:Nat):Int)):Vc (vF_ 23 [aI x, aI n] [.iy 8,fb x,fa x,.ll [3,4],.iy 3] [] (.agg (inA (dh 5 x n))) []):=aj (cj (show(18:Int)≠0 from by omega) (cj (pv (Int.tmod (Go.bits Go.BinOp.and IntKind.i64 x (255:Int)) 18=(8:Nat))) (cj (bi (8:Nat) (18:Nat)) (cj (pv ((8:Nat)<18)) (cj (pv ((0:Int)<=8)) (cj (rf (x2 x (8:Nat))) (cj (e9 x) (cj (pv ((0:Int)<=11)) (cj (rf (x2 x (11:Nat))) (cj (eZ x) (cj (pv ((0:Int)<=16)) (cj (pv (Go.bits Go.BinOp.and IntKind.i64 (Int.fdiv x ((2:Int)^(16:Nat))) (3:Int)=(3:Nat))) (cj (bi (3:Nat) (4:Nat)) (cj (pv ((3:Nat)<4)) (cj (pv ((0:Int)<=18)) (cj (i6 (n+1)) (cj (show(n:Int)+1≠0 from by omega) (cj (rf (5:Int)) (cj (EW x hr) (me x n trivial))))))))))))))))))))
theorem GK(x:Int)(n:Nat)(hn:n<100)(hq:Int.tmod (bits .and .i64 x 255) 18=((9:Nat):Int))(hr:bits .and .i64 (Int.fdiv x (2^16)) 3=((0:Nat):Int)):Vc (vF_ 23 [aI x, aI n] [.iy 9,fb x,fa x,.ll [3,4],.iy 0] [] (.agg (inA (dh 5 x n))) []):=aj (cj (show(18:Int)≠0 from by omega) (cj (pv (Int.tmod (Go.bits Go.BinOp.and IntKind.i64 x (255:Int)) 18=(9:Nat))) (cj (bi (9:Nat) (18:Nat)) (cj (pv ((9:Nat)<18)) (cj (pv ((0:Int)<=8)) (cj (rf (x2 x (8:Nat))) (cj (e9 x) (cj (pv ((0:Int)<=11)) (cj (rf (x2 x (11:Nat))) (cj (eZ x) (cj (pv ((0:Int)<=16)) (cj (pv (Go.bits Go.BinOp.and IntKind.i64 (Int.fdiv x ((2:Int)^(16:Nat))) (3:Int)=(0:Nat))) (cj (bi (0:Nat) (4:Nat)) (cj (pv ((0:Nat)<4)) (cj (pv ((0:Int)<=18)) (cj (i6 (n+1)) (cj (show(n:Int)+1≠0 from by omega) (cj (rf (5:Int)) (cj (EZ x hr) (me x n trivial))))))))))))))))))))
theorem GJ(x:Int)(n:Nat)(hn:n<100)(hq:Int.tmod (bits .and .i64 x 255) 18=((9:Nat):Int))(hr:bits .and .i64 (Int.fdiv x (2^16)) 3=((1:Nat):Int)):Vc (vF_ 23 [aI x, aI n] [.iy 9,fb x,fa x,.ll [3,4],.iy 1] [] (.agg (inA (dh 5 x n))) []):=aj (cj (show(18:Int)≠0 from by omega) (cj (pv (Int.tmod (Go.bits Go.BinOp.and IntKind.i64 x (255:Int)) 18=(9:Nat))) (cj (bi (9:Nat) (18:Nat)) (cj (pv ((9:Nat)<18)) (cj (pv ((0:Int)<=8)) (cj (rf (x2 x (8:Nat))) (cj (e9 x) (cj (pv ((0:Int)<=11)) (cj (rf (x2 x (11:Nat))) (cj (eZ x) (cj (pv ((0:Int)<=16)) (cj (pv (Go.bits Go.BinOp.and IntKind.i64 (Int.fdiv x ((2:Int)^(16:Nat))) (3:Int)=(1:Nat))) (cj (bi (1:Nat) (4:Nat)) (cj (pv ((1:Nat)<4)) (cj (pv ((0:Int)<=18)) (cj (i6 (n+1)) (cj (show(n:Int)+1≠0 from by omega) (cj (rf (5:Int)) (cj (EY x hr) (me x n trivial))))))))))))))))))))
theorem GI(x:Int)(n:Nat)(hn:n<100)(hq:Int.tmod (bits .and .i64 x 255) 18=((9:Nat):Int))(hr:bits .and .i64 (Int.fdiv x (2^16)) 3=((2:Nat):Int)):Vc (vF_ 23 [aI x, aI n] [.iy 9,fb x,fa x,.ll [3,4],.iy 2] [] (.agg (inA (dh 5 x n))) []):=aj (cj (show(18:Int)≠0 from by omega) (cj (pv (Int.tmod (Go.bits Go.BinOp.and IntKind.i64 x (255:Int)) 18=(9:Nat))) (cj (bi (9:Nat) (18:Nat)) (cj (pv ((9:Nat)<18)) (cj (pv ((0:Int)<=8)) (cj (rf (x2 x (8:Nat))) (cj (e9 x) (cj (pv ((0:Int)<=11)) (cj (rf (x2 x (11:Nat))) (cj (eZ x) (cj (pv ((0:Int)<=16)) (cj (pv (Go.bits Go.BinOp.and IntKind.i64 (Int.fdiv x ((2:Int)^(16:Nat))) (3:Int)=(2:Nat))) (cj (bi (2:Nat) (4:Nat)) (cj (pv ((2:Nat)<4)) (cj (pv ((0:Int)<=18)) (cj (i6 (n+1)) (cj (show(n:Int)+1≠0 from by omega) (cj (rf (5:Int)) (cj (EX x hr) (me x n trivial))))))))))))))))))))
theorem GH(x:Int)(n:Nat)(hn:n<100)(hq:Int.tmod (bits .and .i64 x 255) 18=((9:Nat):Int))(hr:bits .and .i64 (Int.fdiv x (2^16)) 3=((3:Nat):Int)):Vc (vF_ 23 [aI x, aI n] [.iy 9,fb x,fa x,.ll [3,4],.iy 3] [] (.agg (inA (dh 5 x n))) []):=aj (cj (show(18:Int)≠0 from by omega) (cj (pv (Int.tmod (Go.bits Go.BinOp.and IntKind.i64 x (255:Int)) 18=(9:Nat))) (cj (bi (9:Nat) (18:Nat)) (cj (pv ((9:Nat)<18)) (cj (pv ((0:Int)<=8)) (cj (rf (x2 x (8:Nat))) (cj (e9 x) (cj (pv ((0:Int)<=11)) (cj (rf (x2 x (11:Nat))) (cj (eZ x) (cj (pv ((0:Int)<=16)) (cj (pv (Go.bits Go.BinOp.and IntKind.i64 (Int.fdiv x ((2:Int)^(16:Nat))) (3:Int)=(3:Nat))) (cj (bi (3:Nat) (4:Nat)) (cj (pv ((3:Nat)<4)) (cj (pv ((0:Int)<=18)) (cj (i6 (n+1)) (cj (show(n:Int)+1≠0 from by omega) (cj (rf (5:Int)) (cj (EW x hr) (me x n trivial))))))))))))))))))))
theorem BO(x:Int)(n:Nat)(hn:n<100)(hq:Int.tmod (bits .and .i64 x 255) 18=((10:Nat):Int))(hr:bits .and .i64 (Int.fdiv x (2^16)) 3=((0:Nat):Int)):Vc (vF_ 23 [aI x, aI n] [.iy 10,fb x,fa x,.ll [3,4],.iy 0] [] (.agg (inA (dh 5 x n))) []):=aj (cj (show(18:Int)≠0 from by omega) (cj (pv (Int.tmod (Go.bits Go.BinOp.and IntKind.i64 x (255:Int)) 18=(10:Nat))) (cj (bi (10:Nat) (18:Nat)) (cj (pv ((10:Nat)<18)) (cj (pv ((0:Int)<=8)) (cj (rf (x2 x (8:Nat))) (cj (e9 x) (cj (pv ((0:Int)<=11)) (cj (rf (x2 x (11:Nat))) (cj (eZ x) (cj (pv ((0:Int)<=16)) (cj (pv (Go.bits Go.BinOp.and IntKind.i64 (Int.fdiv x ((2:Int)^(16:Nat))) (3:Int)=(0:Nat))) (cj (bi (0:Nat) (4:Nat)) (cj (pv ((0:Nat)<4)) (cj (pv ((0:Int)<=18)) (cj (i6 (n+1)) (cj (show(n:Int)+1≠0 from by omega) (cj (rf (5:Int)) (cj (EZ x hr) (me x n trivial))))))))))))))))))))
theorem BN(x:Int)(n:Nat)(hn:n<100)(hq:Int.tmod (bits .and .i64 x 255) 18=((10:Nat):Int))(hr:bits .and .i64 (Int.fdiv x (2^16)) 3=((1:Nat):Int)):Vc (vF_ 23 [aI x, aI n] [.iy 10,fb x,fa x,.ll [3,4],.iy 1] [] (.agg (inA (dh 5 x n))) []):=aj (cj (show(18:Int)≠0 from by omega) (cj (pv (Int.tmod (Go.bits Go.BinOp.and IntKind.i64 x (255:Int)) 18=(10:Nat))) (cj (bi (10:Nat) (18:Nat)) (cj (pv ((10:Nat)<18)) (cj (pv ((0:Int)<=8)) (cj (rf (x2 x (8:Nat))) (cj (e9 x) (cj (pv ((0:Int)<=11)) (cj (rf (x2 x (11:Nat))) (cj (eZ x) (cj (pv ((0:Int)<=16)) (cj (pv (Go.bits Go.BinOp.and IntKind.i64 (Int.fdiv x ((2:Int)^(16:Nat))) (3:Int)=(1:Nat))) (cj (bi (1:Nat) (4:Nat)) (cj (pv ((1:Nat)<4)) (cj (pv ((0:Int)<=18)) (cj (i6 (n+1)) (cj (show(n:Int)+1≠0 from by omega) (cj (rf (5:Int)) (cj (EY x hr) (me x n trivial))))))))))))))))))))
theorem BM(x:Int)(n:Nat)(hn:n<100)(hq:Int.tmod (bits .and .i64 x 255) 18=((10:Nat):Int))(hr:bits .and .i64 (Int.fdiv x (2^16)) 3=((2:Nat):Int)):Vc (vF_ 23 [aI x, aI n] [.iy 10,fb x,fa x,.ll [3,4],.iy 2] [] (.agg (inA (dh 5 x n))) []):=aj (cj (show(18:Int)≠0 from by omega) (cj (pv (Int.tmod (Go.bits Go.BinOp.and IntKind.i64 x (255:Int)) 18=(10:Nat))) (cj (bi (10:Nat) (18:Nat)) (cj (pv ((10:Nat)<18)) (cj (pv ((0:Int)<=8)) (cj (rf (x2 x (8:Nat))) (cj (e9 x) (cj (pv ((0:Int)<=11)) (cj (rf (x2 x (11:Nat))) (cj (eZ x) (cj (pv ((0:Int)<=16)) (cj (pv (Go.bits Go.BinOp.and IntKind.i64 (Int.fdiv x ((2:Int)^(16:Nat))) (3:Int)=(2:Nat))) (cj (bi (2:Nat) (4:Nat)) (cj (pv ((2:Nat)<4)) (cj (pv ((0:Int)<=18)) (cj (i6 (n+1)) (cj (show(n:Int)+1≠0 from by omega) (cj (rf (5:Int)) (cj (EX x hr) (me x n trivial))))))))))))))))))))
theorem BL(x:Int)(n:Nat)(hn:n<100)(hq:Int.tmod (bits .and .i64 x 255) 18=((10:Nat):Int))(hr:bits .and .i64 (Int.fdiv x (2^16)) 3=((3:Nat):Int)):Vc (vF_ 23 [aI x, aI n] [.iy 10,fb x,fa x,.ll [3,4],.iy 3] [] (.agg (inA (dh 5 x n))) []):=aj (cj (show(18:Int)≠0 from by omega) (cj (pv (Int.tmod (Go.bits Go.BinOp.and IntKind.i64 x (255:Int)) 18=(10:Nat))) (cj (bi (10:Nat) (18:Nat)) (cj (pv ((10:Nat)<18)) (cj (pv ((0:Int)<=8)) (cj (rf (x2 x (8:Nat))) (cj (e9 x) (cj (pv ((0:Int)<=11)) (cj (rf (x2 x (11:Nat))) (cj (eZ x) (cj (pv ((0:Int)<=16)) (cj (pv (Go.bits Go.BinOp.and IntKind.i64 (Int.fdiv x ((2:Int)^(16:Nat))) (3:Int)=(3:Nat))) (cj (bi (3:Nat) (4:Nat)) (cj (pv ((3:Nat)<4)) (cj (pv ((0:Int)<=18)) (cj (i6 (n+1)) (cj (show(n:Int)+1≠0 from by omega) (cj (rf (5:Int)) (cj (EW x hr) (me x n trivial))))))))))))))))))))
theorem I0(x:Int)(n:Nat){Z:Prop}(z:Z):(RF (0:Int) (RF (0:Int) (RF false (RF (0:Int) (RF false (RF (0:Int) (RF (ByteArray.mk (Array.mk [])) (RF (tmN (x2 x (18:Nat)) ((n:Int)+1)) Z)))))))):=⟨rfl,rfl,rfl,rfl,rfl,rfl,rfl,rfl,z⟩
theorem Mh(x:Int)(n:Nat)(hn:n<100)(hq:Int.tmod (bits .and .i64 x 255) 18=((11:Nat):Int)):Vc (vF_ 23 [aI x, aI n] [.iy 11,fb x,fa x] [] (.agg (inA (dh 6 x n))) []):=aj (cj (show(18:Int)≠0 from by omega) (cj (pv (Int.tmod (Go.bits Go.BinOp.and IntKind.i64 x (255:Int)) 18=(11:Nat))) (cj (bi (11:Nat) (18:Nat)) (cj (pv ((11:Nat)<18)) (cj (pv ((0:Int)<=8)) (cj (rf (x2 x (8:Nat))) (cj (e9 x) (cj (pv ((0:Int)<=11)) (cj (rf (x2 x (11:Nat))) (cj (eZ x) (cj (pv ((0:Int)<=18)) (cj (i6 (n+1)) (cj (show(n:Int)+1≠0 from by omega) (cj (rf (6:Int)) (I0 x n trivial)))))))))))))))
theorem Mg(x:Int)(n:Nat)(hn:n<100)(hq:Int.tmod (bits .and .i64 x 255) 18=((12:Nat):Int)):Vc (vF_ 23 [aI x, aI n] [.iy 12,fb x,fa x] [] (.agg (inA (dh 7 x n))) []):=aj (cj (show(18:Int)≠0 from by omega) (cj (pv (Int.tmod (Go.bits Go.BinOp.and IntKind.i64 x (255:Int)) 18=(12:Nat))) (cj (bi (12:Nat) (18:Nat)) (cj (pv ((12:Nat)<18)) (cj (pv ((0:Int)<=8)) (cj (rf (x2 x (8:Nat))) (cj (e9 x) (cj (pv ((0:Int)<=11)) (cj (rf (x2 x (11:Nat))) (cj (eZ x) (cj (rf (7:Int)) (cj (rf (0:Int)) (cj (rf (0:Int)) (cj (rf ((vlN (x2 x (8:Nat))).reg)) (cj (rf ((vlN (x2 x (8:Nat))).n)) (cj (rf false) (cj (rf (0:Int)) (cj (rf (ByteArray.mk (Array.mk []))) (cj (rf (0:Int)) trivial)))))))))))))))))))
theorem Mf(x:Int)(n:Nat)(hn:n<100)(hq:Int.tmod (bits .and .i64 x 255) 18=((13:Nat):Int)):Vc (vF_ 23 [aI x, aI n] [.iy 13,fb x,fa x] [] (.agg (inA (dh 8 x n))) []):=aj (cj (show(18:Int)≠0 from by omega) (cj (pv (Int.tmod (Go.bits Go.BinOp.and IntKind.i64 x (255:Int)) 18=(13:Nat))) (cj (bi (13:Nat) (18:Nat)) (cj (pv ((13:Nat)<18)) (cj (pv ((0:Int)<=8)) (cj (rf (x2 x (8:Nat))) (cj (e9 x) (cj (pv ((0:Int)<=11)) (cj (rf (x2 x (11:Nat))) (cj (eZ x) (cj (pv ((0:Int)<=18)) (cj (i6 (n+1)) (cj (show(n:Int)+1≠0 from by omega) (cj (rf (8:Int)) (I0 x n trivial)))))))))))))))
theorem D2{Z:Prop}(z:Z):(RF (0:Int) (RF (0:Int) (RF false (RF (0:Int) (RF false (RF (0:Int) (RF (ByteArray.mk (Array.mk [])) (RF (0:Int) Z)))))))):=⟨rfl,rfl,rfl,rfl,rfl,rfl,rfl,rfl,z⟩
theorem Me(x:Int)(n:Nat)(hn:n<100)(hq:Int.tmod (bits .and .i64 x 255) 18=((14:Nat):Int)):Vc (vF_ 23 [aI x, aI n] [.iy 14,fb x,fa x] [] (.agg (inA (dh 9 x n))) []):=aj (cj (show(18:Int)≠0 from by omega) (cj (pv (Int.tmod (Go.bits Go.BinOp.and IntKind.i64 x (255:Int)) 18=(14:Nat))) (cj (bi (14:Nat) (18:Nat)) (cj (pv ((14:Nat)<18)) (cj (pv ((0:Int)<=8)) (cj (rf (x2 x (8:Nat))) (cj (e9 x) (cj (pv ((0:Int)<=11)) (cj (rf (x2 x (11:Nat))) (cj (eZ x) (cj (rf (9:Int)) (D2 trivial))))))))))))
theorem Md(x:Int)(n:Nat)(hn:n<100)(hq:Int.tmod (bits .and .i64 x 255) 18=((15:Nat):Int)):Vc (vF_ 23 [aI x, aI n] [.iy 15,fb x,fa x] [] (.agg (inA (dh 10 x n))) []):=aj (cj (show(18:Int)≠0 from by omega) (cj (pv (Int.tmod (Go.bits Go.BinOp.and IntKind.i64 x (255:Int)) 18=(15:Nat))) (cj (bi (15:Nat) (18:Nat)) (cj (pv ((15:Nat)<18)) (cj (pv ((0:Int)<=8)) (cj (rf (x2 x (8:Nat))) (cj (e9 x) (cj (pv ((0:Int)<=11)) (cj (rf (x2 x (11:Nat))) (cj (eZ x) (cj (rf (10:Int)) (D2 trivial))))))))))))
theorem Mc(x:Int)(n:Nat)(hn:n<100)(hq:Int.tmod (bits .and .i64 x 255) 18=((16:Nat):Int)):Vc (vF_ 23 [aI x, aI n] [.iy 16,fb x,fa x] [] (.agg (inA (dh 11 x n))) []):=aj (cj (show(18:Int)≠0 from by omega) (cj (pv (Int.tmod (Go.bits Go.BinOp.and IntKind.i64 x (255:Int)) 18=(16:Nat))) (cj (bi (16:Nat) (18:Nat)) (cj (pv ((16:Nat)<18)) (cj (pv ((0:Int)<=8)) (cj (rf (x2 x (8:Nat))) (cj (e9 x) (cj (pv ((0:Int)<=11)) (cj (rf (x2 x (11:Nat))) (cj (eZ x) (cj (rf (11:Int)) (D2 trivial))))))))))))
theorem Mb(x:Int)(n:Nat)(hn:n<100)(hq:Int.tmod (bits .and .i64 x 255) 18=((17:Nat):Int)):Vc (vF_ 23 [aI x, aI n] [.iy 17,fb x,fa x,.ll [3,4]] [] (.agg (inA (dh 1 x n))) []):=aj (cj (show(18:Int)≠0 from by omega) (cj (pv (Int.tmod (Go.bits Go.BinOp.and IntKind.i64 x (255:Int)) 18=(17:Nat))) (cj (bi (17:Nat) (18:Nat)) (cj (pv ((17:Nat)<18)) (cj (pv ((0:Int)<=8)) (cj (rf (x2 x (8:Nat))) (cj (e9 x) (cj (pv ((0:Int)<=11)) (cj (rf (x2 x (11:Nat))) (cj (eZ x) (cj (pv ((0:Int)<=16)) (cj (show(10:Int)≠0 from by omega) (cj (show inK IntKind.i64 (Int.tmod (Go.bits Go.BinOp.and IntKind.i64 (Int.fdiv x ((2:Int)^(16:Nat))) (255:Int)) (10:Int)+1) from(ul _ _ (by omega) (by omega))) (cj (pv ((0:Int)<=14)) (D4 x n trivial)))))))))))))))
theorem Lv(x:Int)(n:Nat)(hn:n<100):pC_ 23 [.int .i64 x,.int .i64 n] (.agg (inA (iS x n))) []:=by
 have hb:=tG x 18 (by omega)
 obtain⟨q,e⟩: ∃q:Nat,Int.tmod (bits .and .i64 x 255) 18=(q:Int):=⟨(Int.tmod (bits .and .i64 x 255) 18).toNat,by omega⟩
 have hq:q<18:=by omega
 unfold iS tmN
 rw[e,aC]
 match q,hq,e with
 |0,_,e=>exact PureC.vc (OO x n hn e)
 |1,_,e=>exact PureC.vc (ON x n hn e)
 |2,_,e=>exact PureC.vc (OM x n hn e)
 |3,_,e=>exact PureC.vc (OL x n hn e)
 |4,_,e=>exact PureC.vc (OK x n hn e)
 |5,_,e=>exact PureC.vc (OJ x n hn e)
 |6,_,e=>exact PureC.vc (OI x n hn e)
 |7,_,e=>exact PureC.vc (OH x n hn e)
 |8,_,e=>obtain⟨r,hr,e2⟩:=r8 (Int.fdiv x (2^16));exact(match r,hr,e2 with |0,_,e2=>PureC.vc (GO x n hn e e2)|1,_,e2=>PureC.vc (GN x n hn e e2)|2,_,e2=>PureC.vc (GM x n hn e e2)|3,_,e2=>PureC.vc (GL x n hn e e2))
 |9,_,e=>obtain⟨r,hr,e2⟩:=r8 (Int.fdiv x (2^16));exact(match r,hr,e2 with |0,_,e2=>PureC.vc (GK x n hn e e2)|1,_,e2=>PureC.vc (GJ x n hn e e2)|2,_,e2=>PureC.vc (GI x n hn e e2)|3,_,e2=>PureC.vc (GH x n hn e e2))
 |10,_,e=>obtain⟨r,hr,e2⟩:=r8 (Int.fdiv x (2^16));exact(match r,hr,e2 with |0,_,e2=>PureC.vc (BO x n hn e e2)|1,_,e2=>PureC.vc (BN x n hn e e2)|2,_,e2=>PureC.vc (BM x n hn e e2)|3,_,e2=>PureC.vc (BL x n hn e e2))
 |11,_,e=>exact PureC.vc (Mh x n hn e)
 |12,_,e=>exact PureC.vc (Mg x n hn e)
 |13,_,e=>exact PureC.vc (Mf x n hn e)
 |14,_,e=>exact PureC.vc (Me x n hn e)
 |15,_,e=>exact PureC.vc (Md x n hn e)
 |16,_,e=>exact PureC.vc (Mc x n hn e)
 |17,_,e=>exact PureC.vc (Mb x n hn e)
 |_+18,h,_=>exact absurd h (by omega)
structure M1 where
 p:Int
 s:Int
 r0:Int
 r1:Int
 r2:Int
 r3:Int
def M1.set(m:M1)(k:Nat)(v:Int):M1:=match k with
 |0=>{m with r0:=v}
 |1=>{m with r1:=v}
 |2=>{m with r2:=v}
 |_=>{m with r3:=v}
def mq(l:List Int)(k:Nat):Nat:=(bits .and .i64 (Int.fdiv (kN l 1) (2^(2*k))) 3).toNat
def ky(W:Int)(q k:Nat)(m:M1):M1:=
 if q=2 then(if m.p+W<=2 then{m.set k 1 with p:=m.p+W} else m.set k 0)
 else if q=3 then(if m.s+W<=2 then{m.set k 2 with s:=m.s+W} else m.set k 0) else m.set k 0
def mK(W:Int)(l:List Int):Nat->M1
 |0=>⟨0,0,0,0,0,0⟩
 |k+1=>ky W (mq l k) k (mK W l k)
def GC:AV:= .clo 21 [.bptr 0 0]
def GB(l:List Int):Blk:=⟨0,true,22,.box [.row 1 l.length (cQ l)]⟩
def bJ(n:Nat):Blk:=⟨0,false,28,.box (List.replicate n .junk)⟩
def bP(W w:Int)(m:M1)(a b c:AV):Blk:=⟨0,false,28,.box [.int .i64 W,.int .i64 w,.int .i64 6,.int .i64 m.r0,.int .i64 m.r1,.int .i64 m.r2,.int .i64 m.r3,a,b,c]⟩
def mmB(ms:List Mm):Blk:=⟨0,false,58,.rows 3 ms.length (ao mmC ms)⟩
def lbN(i:Nat):Lb:=⟨⟨#[108]⟩++dgS i,i⟩
def lbL:Nat->List Lb
 |0=>[]
 |k+1=>lbL k++[lbN k]
def inL(l:List Int)(n:Nat):Nat->List In
 |0=>[]
 |k+1=>inL l n k++[iS (kN l (k+2)) n]
def lbB(l:List Lb):Blk:=⟨0,false,61,.rows 2 l.length (ao lbC l)⟩
def inB(l:List In):Blk:=⟨0,false,65,.rows 9 l.length (ao inC l)⟩
def a9(l:List Int):Int:=Int.tmod (bits .and .i64 (Int.fdiv (kN l 0) (2^1)) 255) 3+1
def mk1(W w:Int)(l:List Int)(m:M1)(k:Nat):Sm:=⟨[(3,GC),(4,.bptr 2 0),(2,.bptr 1 0),(5,.int .i64 m.p),(6,.int .i64 m.s),(7,.int .i64 k)],[(0,GB l),(1,bJ 10),(2,bP W w m .nils .nils .nils)],3⟩
def mk2(W w:Int)(l:List Int)(m:M1)(ms:List Mm)(n k:Nat):Sm:=⟨[(3,GC),(4,.bptr 2 0),(2,.bptr 1 0),(8,.int .i64 n),(9,.int .i64 k)],[(0,GB l),(1,bJ 10),(2,bP W w m (.own 3 0 3 0 ms.length) (.own 4 0 2 0 (lbL k).length) .nils),(3,mmB ms),(4,lbB (lbL k))],5⟩
def mk3(W w:Int)(l:List Int)(m:M1)(ms:List Mm)(n k:Nat):Sm:=⟨[(3,GC),(4,.bptr 2 0),(2,.bptr 1 0),(8,.int .i64 n),(10,.int .i64 k)],[(0,GB l),(1,bJ 10),(2,bP W w m (.own 3 0 3 0 ms.length) (.own 4 0 2 0 (lbL (n+1)).length) (.own 5 0 9 0 (inL l n k).length)),(3,mmB ms),(4,lbB (lbL (n+1))),(5,inB (inL l n k))],6⟩
def shK(k:Nat):Nat:=min (IntKind.u64.wrap (2*(k:Int))).toNat 64
def bpC(W w:Int)(m:M1):List AV:=[.int .i64 W,.int .i64 w,.int .i64 6,.int .i64 m.r0,.int .i64 m.r1,.int .i64 m.r2,.int .i64 m.r3,.nils,.nils,.nils]
def M1.up(m:M1)(p s:Int):M1:={m with p:=p,s:=s}
theorem bs1(W w:Int)(m:M1)(k:Nat)(v:Int)(hk:k<4):setR (bpC W w m) (3+k*1) [.int .i64 v]=bpC W w (m.set k v):=match k,hk with |0,_=>rfl |1,_=>rfl |2,_=>rfl |3,_=>rfl
theorem bs2(W w:Int)(m:M1)(k:Nat)(u:Int)(hk:k<4):setR (bpC W w (m.set k u)) (3+k*1) [.int .i64 0]=bpC W w (m.set k 0):=match k,hk with |0,_=>rfl |1,_=>rfl |2,_=>rfl |3,_=>rfl
theorem bs3(W w:Int)(m:M1)(k:Nat)(v:Int)(hk:k<4):eL Tryz.prog 3 (bpC W w (m.set k v)) (3+k*1)=some (.int .i64 v):=match k,hk with |0,_=>rfl |1,_=>rfl |2,_=>rfl |3,_=>rfl
theorem M1.sp{m:M1}{k:Nat}{v:Int}:m.p=(m.set k v).p:=by unfold M1.set;split<;>rfl
theorem M1.ss{m:M1}{k:Nat}{v:Int}:m.s=(m.set k v).s:=by unfold M1.set;split<;>rfl
theorem AE(W:Int)(w:Int)(m:M1)(k:Nat)(hk:k<4):eL Tryz.prog 3 (bpC W w (m.set k 0)) (3+k*1)=some (aI 0):=bs3 W w m k 0 hk
theorem z7(W:Int)(w:Int)(l:List Int)(m:M1)(k:Nat){Z:Prop}(z:Z):(RF l.length (RR l.length 1 (fun i j=>aI (l.getD i 0)) (RF W (RF w (RF (6:Int) (RF ((M1.set m k (0:Int)).r0) (RF ((M1.set m k (0:Int)).r1) (RF ((M1.set m k (0:Int)).r2) (RF ((M1.set m k (0:Int)).r3) Z))))))))):=⟨rfl,fun _ _ _ _=>rfl,rfl,rfl,rfl,rfl,rfl,rfl,rfl,z⟩
theorem dW(l:List Int){Z:Prop}(z:Z):(RF (1:Int) (RF l.length (RR l.length 1 (fun i j=>aI (l.getD i 0)) Z))):=⟨rfl,rfl,fun _ _ _ _=>rfl,z⟩
abbrev dJ(l:List Int):Orc:= .cl [aI (1:Nat),vv l] (aI (kN l 1)) []
theorem Oq(W w:Int)(l:List Int)(m:M1)(k:Nat)(hk:k<4)(hW:1<=W∧W<=2)(hp:0<=m.p∧m.p<=2)(hs:0<=m.s∧m.s<=2)(hq:bits .and .i64 (Int.fdiv (kN l 1) (2^shK k)) 3=((0:Nat):Int)):Vc (vC_ 6 0 (mk1 W w l m k) [.bd true,dJ l,.iy 0,.iz,.sv (bpC W w (m.set k 0)),.iz,.lv (aI 0),.bd false,.iz,.lv (aI 0),.bd false,.iz,.sv (bpC W w (m.set k 0))] .nrm [(0,0),(1,1),(2,2)] (mk1 W w l (m.set k 0) (k+1))):=aj (cj (dt ((k:Int)<4)) (dW l (cj (kC l 1 (by omega)) (cj (i6 (2*k)) (cj (show(0:Int)<=IntKind.wrap IntKind.u64 ((2:Int)*(k:Int)) from by rw[IntKind.wrap_u64];omega) (cj hq (cj (bi (0:Nat) (4:Nat)) (cj (pv ((0:Nat)<4)) (cj (bi k (4:Nat)) (cj (pv ((3:Nat)+k*1+1<=10)) (cj (show setR (bpC W w m) (3+k*1) [aI 0]=bpC W w (m.set k 0) from bs1 W w m k 0 hk) (cj (bi k (4:Nat)) (cj (AE W w m k hk) (cj (e0 0 1) (cj (bi k (4:Nat)) (cj (AE W w m k hk) (cj (e0 0 2) (cj (bi k (4:Nat)) (cj (pv ((3:Nat)+k*1+1<=10)) (cj (show setR (bpC W w (m.set k 0)) (3+k*1) [aI 0]=bpC W w (m.set k 0) from bs2 W w m k 0 hk) (cj (i6 (k+1)) (z7 W w l m k (cj (show m.p=(M1.set m k (0:Int)).p from M1.sp) (cj (show m.s=(M1.set m k (0:Int)).s from M1.ss) (cj (rf ((k:Int)+1)) trivial)))))))))))))))))))))))))
theorem Oo(W w:Int)(l:List Int)(m:M1)(k:Nat)(hk:k<4)(hW:1<=W∧W<=2)(hp:0<=m.p∧m.p<=2)(hs:0<=m.s∧m.s<=2)(hq:bits .and .i64 (Int.fdiv (kN l 1) (2^shK k)) 3=((1:Nat):Int)):Vc (vC_ 6 0 (mk1 W w l m k) [.bd true,dJ l,.iy 1,.iz,.sv (bpC W w (m.set k 0)),.iz,.lv (aI 0),.bd false,.iz,.lv (aI 0),.bd false,.iz,.sv (bpC W w (m.set k 0))] .nrm [(0,0),(1,1),(2,2)] (mk1 W w l (m.set k 0) (k+1))):=aj (cj (dt ((k:Int)<4)) (dW l (cj (kC l 1 (by omega)) (cj (i6 (2*k)) (cj (show(0:Int)<=IntKind.wrap IntKind.u64 ((2:Int)*(k:Int)) from by rw[IntKind.wrap_u64];omega) (cj hq (cj (bi (1:Nat) (4:Nat)) (cj (pv ((1:Nat)<4)) (cj (bi k (4:Nat)) (cj (pv ((3:Nat)+k*1+1<=10)) (cj (show setR (bpC W w m) (3+k*1) [aI 0]=bpC W w (m.set k 0) from bs1 W w m k 0 hk) (cj (bi k (4:Nat)) (cj (AE W w m k hk) (cj (e0 0 1) (cj (bi k (4:Nat)) (cj (AE W w m k hk) (cj (e0 0 2) (cj (bi k (4:Nat)) (cj (pv ((3:Nat)+k*1+1<=10)) (cj (show setR (bpC W w (m.set k 0)) (3+k*1) [aI 0]=bpC W w (m.set k 0) from bs2 W w m k 0 hk) (cj (i6 (k+1)) (z7 W w l m k (cj (show m.p=(M1.set m k (0:Int)).p from M1.sp) (cj (show m.s=(M1.set m k (0:Int)).s from M1.ss) (cj (rf ((k:Int)+1)) trivial)))))))))))))))))))))))))
theorem EV(W:Int)(w:Int)(m:M1)(k:Nat)(hk:k<4):eL Tryz.prog 3 (bpC W w (m.set k 1)) (3+k*1)=some (aI 1):=bs3 W w m k 1 hk
theorem IZ(W:Int)(w:Int)(l:List Int){Z:Prop}(z:Z):(RF l.length (RR l.length 1 (fun i j=>aI (l.getD i 0)) (RF W (RF w (RF (6:Int) Z))))):=⟨rfl,fun _ _ _ _=>rfl,rfl,rfl,rfl,z⟩
theorem Lk(W w:Int)(l:List Int)(m:M1)(k:Nat)(hk:k<4)(hW:1<=W∧W<=2)(hp:0<=m.p∧m.p<=2)(hs:0<=m.s∧m.s<=2)(hq:bits .and .i64 (Int.fdiv (kN l 1) (2^shK k)) 3=((2:Nat):Int))(hc:decide (m.p+W<=2)=true):Vc (vC_ 6 0 (mk1 W w l m k) [.bd true,dJ l,.iy 2,.iz,.sv (bpC W w (m.set k 1)),.iz,.lv (aI 1),.bd true,.bd true] .nrm [(0,0),(1,1),(2,2)] (mk1 W w l ((m.set k 1).up (m.p+W) (m.set k 1).s) (k+1))):=aj (cj (dt ((k:Int)<4)) (dW l (cj (kC l 1 (by omega)) (cj (i6 (2*k)) (cj (show(0:Int)<=IntKind.wrap IntKind.u64 ((2:Int)*(k:Int)) from by rw[IntKind.wrap_u64];omega) (cj hq (cj (bi (2:Nat) (4:Nat)) (cj (pv ((2:Nat)<4)) (cj (bi k (4:Nat)) (cj (pv ((3:Nat)+k*1+1<=10)) (cj (show setR (bpC W w m) (3+k*1) [aI 1]=bpC W w (m.set k 1) from bs1 W w m k 1 hk) (cj (bi k (4:Nat)) (cj (EV W w m k hk) (cj (e1 1 1) (cj (i6 (m.p+W)) (cj hc (cj (i6 (m.p+W)) (cj (i6 (k+1)) (IZ W w l (cj (rf ((M1.set m k (1:Int)).r0)) (cj (rf ((M1.set m k (1:Int)).r1)) (cj (rf ((M1.set m k (1:Int)).r2)) (cj (rf ((M1.set m k (1:Int)).r3)) (cj (rf (m.p+W)) (cj (show m.s=(M1.set m k (1:Int)).s from M1.ss) (cj (rf ((k:Int)+1)) trivial))))))))))))))))))))))))))
theorem Ll(W w:Int)(l:List Int)(m:M1)(k:Nat)(hk:k<4)(hW:1<=W∧W<=2)(hp:0<=m.p∧m.p<=2)(hs:0<=m.s∧m.s<=2)(hq:bits .and .i64 (Int.fdiv (kN l 1) (2^shK k)) 3=((2:Nat):Int))(hc:decide (m.p+W<=2)=false):Vc (vC_ 6 0 (mk1 W w l m k) [.bd true,dJ l,.iy 2,.iz,.sv (bpC W w (m.set k 1)),.iz,.lv (aI 1),.bd true,.bd false,.iz,.lv (aI 1),.bd false,.iz,.sv (bpC W w (m.set k 0))] .nrm [(0,0),(1,1),(2,2)] (mk1 W w l (m.set k 0) (k+1))):=aj (cj (dt ((k:Int)<4)) (dW l (cj (kC l 1 (by omega)) (cj (i6 (2*k)) (cj (show(0:Int)<=IntKind.wrap IntKind.u64 ((2:Int)*(k:Int)) from by rw[IntKind.wrap_u64];omega) (cj hq (cj (bi (2:Nat) (4:Nat)) (cj (pv ((2:Nat)<4)) (cj (bi k (4:Nat)) (cj (pv ((3:Nat)+k*1+1<=10)) (cj (show setR (bpC W w m) (3+k*1) [aI 1]=bpC W w (m.set k 1) from bs1 W w m k 1 hk) (cj (bi k (4:Nat)) (cj (EV W w m k hk) (cj (e1 1 1) (cj (i6 (m.p+W)) (cj hc (cj (bi k (4:Nat)) (cj (EV W w m k hk) (cj (e0 1 2) (cj (bi k (4:Nat)) (cj (pv ((3:Nat)+k*1+1<=10)) (cj (show setR (bpC W w (m.set k 1)) (3+k*1) [aI 0]=bpC W w (m.set k 0) from bs2 W w m k 1 hk) (cj (i6 (k+1)) (z7 W w l m k (cj (show m.p=(M1.set m k (0:Int)).p from M1.sp) (cj (show m.s=(M1.set m k (0:Int)).s from M1.ss) (cj (rf ((k:Int)+1)) trivial)))))))))))))))))))))))))))
theorem AD(W:Int)(w:Int)(m:M1)(k:Nat)(hk:k<4):eL Tryz.prog 3 (bpC W w (m.set k 2)) (3+k*1)=some (aI 2):=bs3 W w m k 2 hk
theorem Li(W w:Int)(l:List Int)(m:M1)(k:Nat)(hk:k<4)(hW:1<=W∧W<=2)(hp:0<=m.p∧m.p<=2)(hs:0<=m.s∧m.s<=2)(hq:bits .and .i64 (Int.fdiv (kN l 1) (2^shK k)) 3=((3:Nat):Int))(hc:decide (m.s+W<=2)=true):Vc (vC_ 6 0 (mk1 W w l m k) [.bd true,dJ l,.iy 3,.iz,.sv (bpC W w (m.set k 2)),.iz,.lv (aI 2),.bd false,.iz,.lv (aI 2),.bd true,.bd true] .nrm [(0,0),(1,1),(2,2)] (mk1 W w l ((m.set k 2).up (m.set k 2).p (m.s+W)) (k+1))):=aj (cj (dt ((k:Int)<4)) (dW l (cj (kC l 1 (by omega)) (cj (i6 (2*k)) (cj (show(0:Int)<=IntKind.wrap IntKind.u64 ((2:Int)*(k:Int)) from by rw[IntKind.wrap_u64];omega) (cj hq (cj (bi (3:Nat) (4:Nat)) (cj (pv ((3:Nat)<4)) (cj (bi k (4:Nat)) (cj (pv ((3:Nat)+k*1+1<=10)) (cj (show setR (bpC W w m) (3+k*1) [aI 2]=bpC W w (m.set k 2) from bs1 W w m k 2 hk) (cj (bi k (4:Nat)) (cj (AD W w m k hk) (cj (e0 2 1) (cj (bi k (4:Nat)) (cj (AD W w m k hk) (cj (e1 2 2) (cj (i6 (m.s+W)) (cj hc (cj (i6 (m.s+W)) (cj (i6 (k+1)) (IZ W w l (cj (rf ((M1.set m k (2:Int)).r0)) (cj (rf ((M1.set m k (2:Int)).r1)) (cj (rf ((M1.set m k (2:Int)).r2)) (cj (rf ((M1.set m k (2:Int)).r3)) (cj (show m.p=(M1.set m k (2:Int)).p from M1.sp) (cj (rf (m.s+W)) (cj (rf ((k:Int)+1)) trivial)))))))))))))))))))))))))))))
theorem Lj(W w:Int)(l:List Int)(m:M1)(k:Nat)(hk:k<4)(hW:1<=W∧W<=2)(hp:0<=m.p∧m.p<=2)(hs:0<=m.s∧m.s<=2)(hq:bits .and .i64 (Int.fdiv (kN l 1) (2^shK k)) 3=((3:Nat):Int))(hc:decide (m.s+W<=2)=false):Vc (vC_ 6 0 (mk1 W w l m k) [.bd true,dJ l,.iy 3,.iz,.sv (bpC W w (m.set k 2)),.iz,.lv (aI 2),.bd false,.iz,.lv (aI 2),.bd true,.bd false,.iz,.sv (bpC W w (m.set k 0))] .nrm [(0,0),(1,1),(2,2)] (mk1 W w l (m.set k 0) (k+1))):=aj (cj (dt ((k:Int)<4)) (dW l (cj (kC l 1 (by omega)) (cj (i6 (2*k)) (cj (show(0:Int)<=IntKind.wrap IntKind.u64 ((2:Int)*(k:Int)) from by rw[IntKind.wrap_u64];omega) (cj hq (cj (bi (3:Nat) (4:Nat)) (cj (pv ((3:Nat)<4)) (cj (bi k (4:Nat)) (cj (pv ((3:Nat)+k*1+1<=10)) (cj (show setR (bpC W w m) (3+k*1) [aI 2]=bpC W w (m.set k 2) from bs1 W w m k 2 hk) (cj (bi k (4:Nat)) (cj (AD W w m k hk) (cj (e0 2 1) (cj (bi k (4:Nat)) (cj (AD W w m k hk) (cj (e1 2 2) (cj (i6 (m.s+W)) (cj hc (cj (bi k (4:Nat)) (cj (pv ((3:Nat)+k*1+1<=10)) (cj (show setR (bpC W w (m.set k 2)) (3+k*1) [aI 0]=bpC W w (m.set k 0) from bs2 W w m k 2 hk) (cj (i6 (k+1)) (z7 W w l m k (cj (show m.p=(M1.set m k (0:Int)).p from M1.sp) (cj (show m.s=(M1.set m k (0:Int)).s from M1.ss) (cj (rf ((k:Int)+1)) trivial)))))))))))))))))))))))))))
theorem wu(W:Int)(w:Int)(l:List Int)(m:M1){Z:Prop}(z:Z):(RF l.length (RR l.length 1 (fun i j=>aI (l.getD i 0)) (RF W (RF w (RF (6:Int) (RF m.r0 (RF m.r1 (RF m.r2 (RF m.r3 Z))))))))):=⟨rfl,fun _ _ _ _=>rfl,rfl,rfl,rfl,rfl,rfl,rfl,rfl,z⟩
theorem Gf(W w:Int)(l:List Int)(m:M1):Vc (vC_ 6 0 (mk1 W w l m 4) [.b false] (.ext 0) [(0,0),(1,1),(2,2)] (mk1 W w l m 4)):=aj (cj (df (((4:Nat):Int)<4)) (wu W w l m (cj (rf m.p) (cj (rf m.s) (cj (rf ((4:Nat):Int)) trivial)))))
theorem yb{W:Int}{q k:Nat}{m:M1}(hW:1<=W∧W<=2)(hp:0<=m.p∧m.p<=2)(hs:0<=m.s∧m.s<=2):(0<=(ky W q k m).p∧(ky W q k m).p<=2)∧(0<=(ky W q k m).s∧(ky W q k m).s<=2):=by
 have h1: ∀v,(m.set k v).p=m.p∧(m.set k v).s=m.s:=fun v=>by unfold M1.set;split<;>exact⟨rfl,rfl⟩
 have e0:=h1 0
 have e1:=h1 1
 have e2:=h1 2
 unfold ky
 repeat' split
 all_goals simp only[e0.1,e0.2,e1.1,e1.2,e2.1,e2.2]
 all_goals omega
theorem ym{W:Int}(hW:1<=W∧W<=2)(l:List Int)(k:Nat):(0<=(mK W l k).p∧(mK W l k).p<=2)∧(0<=(mK W l k).s∧(mK W l k).s<=2):=by
 induction k with
 |zero=>exact⟨⟨by show(0:Int)<=0;omega,by show(0:Int)<=2;omega⟩,⟨by show(0:Int)<=0;omega,by show(0:Int)<=2;omega⟩⟩
 |succ k ih=>exact yb hW ih.1 ih.2
theorem EK: ∀{k:Nat},k<4->shK k=2*k
 |0,_=>rfl
 |1,_=>rfl
 |2,_=>rfl
 |3,_=>rfl
theorem Lh(l:List Int)(k:Nat):mq l k<4∧bits .and .i64 (Int.fdiv (kN l 1) (2^(2*k))) 3=((mq l k:Nat):Int):=by
 obtain⟨q,h1,h2⟩:=r8 (Int.fdiv (kN l 1) (2^(2*k)))
 unfold mq
 rw[h2]
 exact⟨by omega,by simp⟩
theorem ed(W w:Int)(l:List Int)(hW:1<=W∧W<=2):oL_ 6 0 (mk1 W w l ⟨0,0,0,0,0,0⟩ 0).st (.ext 0) (mk1 W w l (mK W l 4) 4).st:=
 Ok.loop (P:=Tryz.prog) (nt:=bY Tryz.prog 6) (c:=lpC Tryz.prog 6 0) (F:=fun k=>mk1 W w l (mK W l k) k) (m:=4) (x:= .ext 0) (J:=mk1 W w l (mK W l 4) 4) (fun k hk=>by
  obtain⟨hq4,hq⟩:=Lh l k
  obtain⟨hp,hs⟩:=ym hW l k
  rw[<-EK hk] at hq
  show Ok _ _ _ _ _ (mk1 W w l (ky W (mq l k) k (mK W l k)) (k+1)).st
  match mq l k,hq4,hq with
  |0,_,hq=>exact Ok.vc (Oq W w l _ k hk hW hp hs hq)
  |1,_,hq=>exact Ok.vc (Oo W w l _ k hk hW hp hs hq)
  |2,_,hq=>
   unfold ky
   rw[aq rfl]
   by_cases hc:(mK W l k).p+W<=2
   ·rw[aq hc];exact Ok.vc (Lk W w l _ k hk hW hp hs hq (bB hc))
   ·rw[an hc];exact Ok.vc (Ll W w l _ k hk hW hp hs hq (bK hc))
  |3,_,hq=>
   unfold ky
   rw[an (by omega),aq rfl]
   by_cases hc:(mK W l k).s+W<=2
   ·rw[aq hc];exact Ok.vc (Li W w l _ k hk hW hp hs hq (bB hc))
   ·rw[an hc];exact Ok.vc (Lj W w l _ k hk hW hp hs hq (bK hc))) (Ok.vc (Gf W w l _)) (by simp)
theorem gV(l:List Int)(n:Nat): ∀k,(inL l n k).length=k
 |0=>rfl
 |k+1=>by simp[inL,gV l n k]
theorem jb: ∀k,(lbL k).length=k
 |0=>rfl
 |k+1=>by simp[lbL,jb k]
theorem MS(k:Nat)(hk:k<6):(⟨#[108]⟩:ByteArray).size+(dgS k).size<=9223372036854775807:=match k,hk with
 |0,_=>by decide
 |1,_=>by decide
 |2,_=>by decide
 |3,_=>by decide
 |4,_=>by decide
 |5,_=>by decide
theorem Bl(W w:Int)(l:List Int)(m:M1)(ms:List Mm)(n:Nat)(k:Nat)(hn:n<6)(hk:k<=n):Vc (vC_ 6 1 (mk2 W w l m ms n k) [.b true,.cl [aI k] (.str (dgS k)) []] .nrm [(0,0),(1,1),(2,2),(3,3),(4,4)] (mk2 W w l m ms n (k+1))):=aj (cj (dt ((k:Int)<=n)) (cj (rf (k:Int)) (cj (PC k (by omega)) (cj (show(1:Nat)+ByteArray.size (dgS k)<=9223372036854775807 from(MS k (by omega))) (cj (show(0:Nat)=0∧(lbL k).length=(lbL k).length∧((lbL k).length+1)*24<=140737488355328∧(lbL k).length+1<=140737488355328 from by rw[jb];omega) (cj (i6 (k+1)) (wu W w l m (cj (rf (0:Nat)) (cj (rf ms.length) (cj (rf (0:Nat)) (cj (show(lbL k).length+1=(lbL (k+1)).length from by rw[jb,jb]) (cj (rf ms.length) (cj (rr ms.length 3 fun i j=>ao mmC ms i j) (cj (show(lbL k).length+1=(lbL (k+1)).length from by rw[jb,jb]) (cj (show ∀(i:Nat),i<(lbL k).length+1-> ∀(j:Nat),j<2->(bif Nat.blt i (lbL k).length then ao lbC (lbL k) i j else List.getD [AV.str (ByteArray.mk (Array.mk [(108:UInt8)])++dgS k),aI k] ((i-(lbL k).length+0)*2+j) AV.junk)=ao lbC (lbL (k+1)) i j from(fun i hi j hj=>(show _=ao lbC (lbL k++[lbN k]) i j from de (fun h=>(bW h).symm) (fun h=>by obtain rfl:i=_:=bm (bk.mp hi) (bt.mp h);rw[bX,bA];match j,hj with |0,_=>rfl |1,_=>rfl)))) (cj (rf (n:Int)) (cj (rf ((k:Int)+1)) trivial)))))))))))))))))
theorem Ge(W w:Int)(l:List Int)(m:M1)(ms:List Mm)(n:Nat)(hn:n<6):Vc (vC_ 6 1 (mk2 W w l m ms n (n+1)) [.b false] (.ext 3) [(0,0),(1,1),(2,2),(3,3),(4,4)] (mk2 W w l m ms n (n+1))):=aj (cj (df ((↑(n+1):Int)<=(n:Int))) (wu W w l m (cj (rf (0:Nat)) (cj (rf ms.length) (cj (rf (0:Nat)) (cj (rf ((lbL (n+1)).length)) (cj (rf ms.length) (cj (rr ms.length 3 fun i j=>ao mmC ms i j) (cj (rf ((lbL (n+1)).length)) (cj (rr ((lbL (n+1)).length) 2 fun i j=>ao lbC (lbL (n+1)) i j) (cj (rf (n:Int)) (cj (rf (↑(n+1):Int)) trivial))))))))))))
theorem Bk(W w:Int)(l:List Int)(m:M1)(ms:List Mm)(n:Nat)(k:Nat)(hn:n<6)(hk:k<n):Vc (vC_ 6 2 (mk3 W w l m ms n k) [.b true,.cl [aI (k+2:Nat),vv l] (aI (kN l (k+2))) [],.cl [aI (kN l (k+2)), aI n] (.agg (inA (iS (kN l (k+2)) n))) []] .nrm [(0,0),(1,1),(2,2),(3,3),(4,4),(5,5)] (mk3 W w l m ms n (k+1))):=aj (cj (dt ((k:Int)<n)) (cj (i6 (k+2)) (cj (rf ((k:Int)+2)) (cj (rf l.length) (cj (rr l.length 1 fun i j=>aI (l.getD i 0)) (cj (kC l (k+2) (by omega)) (cj (rf (kN l (k+2))) (cj (rf (n:Int)) (cj (Lv (kN l (k+2)) n (by omega)) (cj (show(0:Nat)=0∧(inL l n k).length=(inL l n k).length∧((inL l n k).length+1)*80<=140737488355328∧(inL l n k).length+1<=140737488355328 from by rw[gV];omega) (cj (i6 (k+1)) (wu W w l m (cj (rf (0:Nat)) (cj (rf ms.length) (cj (rf (0:Nat)) (cj (rf ((lbL (n+1)).length)) (cj (rf (0:Nat)) (cj (show(inL l n k).length+1=(inL l n (k+1)).length from by rw[gV,gV]) (cj (rf ms.length) (cj (rr ms.length 3 fun i j=>ao mmC ms i j) (cj (rf ((lbL (n+1)).length)) (cj (rr ((lbL (n+1)).length) 2 fun i j=>ao lbC (lbL (n+1)) i j) (cj (show(inL l n k).length+1=(inL l n (k+1)).length from by rw[gV,gV]) (cj (show ∀(i:Nat),i<(inL l n k).length+1-> ∀(j:Nat),j<9->(bif Nat.blt i (inL l n k).length then ao inC (inL l n k) i j else List.getD [aI ((iS (kN l (k+2)) n).kind),aI ((iS (kN l (k+2)) n).op),aI ((iS (kN l (k+2)) n).d),AV.bool (((iS (kN l (k+2)) n).a).reg),aI (((iS (kN l (k+2)) n).a).n),AV.bool (((iS (kN l (k+2)) n).b).reg),aI (((iS (kN l (k+2)) n).b).n),AV.str ((iS (kN l (k+2)) n).nm),aI ((iS (kN l (k+2)) n).tg)] ((i-(inL l n k).length+0)*9+j) AV.junk)=ao inC (inL l n (k+1)) i j from(fun i hi j hj=>(show _=ao inC (inL l n k++[iS (kN l (k+2)) n]) i j from de (fun h=>(bW h).symm) (fun h=>by obtain rfl:i=_:=bm (bk.mp hi) (bt.mp h);rw[bX,bA];match j,hj with |0,_=>rfl |1,_=>rfl |2,_=>rfl |3,_=>rfl |4,_=>rfl |5,_=>rfl |6,_=>rfl |7,_=>rfl |8,_=>rfl)))) (cj (rf (n:Int)) (cj (rf ((k:Int)+1)) trivial))))))))))))))))))))))))))
theorem Gd(W w:Int)(l:List Int)(m:M1)(ms:List Mm)(n:Nat)(hn:n<6):Vc (vC_ 6 2 (mk3 W w l m ms n n) [.b false] (.ext 5) [(0,0),(1,1),(2,2),(3,3),(4,4),(5,5)] (mk3 W w l m ms n n)):=aj (cj (df ((n:Int)<n)) (wu W w l m (cj (rf (0:Nat)) (cj (rf ms.length) (cj (rf (0:Nat)) (cj (rf ((lbL (n+1)).length)) (cj (rf (0:Nat)) (cj (rf ((inL l n n).length)) (cj (rf ms.length) (cj (rr ms.length 3 fun i j=>ao mmC ms i j) (cj (rf ((lbL (n+1)).length)) (cj (rr ((lbL (n+1)).length) 2 fun i j=>ao lbC (lbL (n+1)) i j) (cj (rf ((inL l n n).length)) (cj (rr ((inL l n n).length) 9 fun i j=>ao inC (inL l n n) i j) (cj (rf (n:Int)) (cj (rf (n:Int)) trivial))))))))))))))))
theorem ec(W w:Int)(l:List Int)(m:M1)(ms:List Mm)(n:Nat)(hn:n<6):oL_ 6 1 (mk2 W w l m ms n 0).st (.ext 3) (mk2 W w l m ms n (n+1)).st:=
 Ok.loop (P:=Tryz.prog) (nt:=bY Tryz.prog 6) (c:=lpC Tryz.prog 6 1) (F:=fun k=>mk2 W w l m ms n k) (m:=n+1) (x:= .ext 3) (J:=mk2 W w l m ms n (n+1)) (fun k hk=>Ok.vc (Bl W w l m ms n k hn (by omega))) (Ok.vc (Ge W w l m ms n hn)) (by simp)
theorem d9(W w:Int)(l:List Int)(m:M1)(ms:List Mm)(n:Nat)(hn:n<6):oL_ 6 2 (mk3 W w l m ms n 0).st (.ext 5) (mk3 W w l m ms n n).st:=
 Ok.loop (P:=Tryz.prog) (nt:=bY Tryz.prog 6) (c:=lpC Tryz.prog 6 2) (F:=fun k=>mk3 W w l m ms n k) (m:=n) (x:= .ext 5) (J:=mk3 W w l m ms n n) (fun k hk=>Ok.vc (Bk W w l m ms n k hn hk)) (Ok.vc (Gd W w l m ms n hn)) (by simp)
def mm1:Mm:=⟨⟨#[109]⟩,false,1⟩
def mm2:Mm:=⟨⟨#[109]⟩,false,2⟩
def ms1:Mm:=⟨⟨#[115]⟩,true,1⟩
theorem mh(W:Int)(l:List Int)(n:Nat)(hW1:bits .and .i64 (kN l 0) 1+1=W)(hW:1<=W∧W<=2)(hn1:bits .and .i64 (Int.fdiv (kN l 0) (2^12)) 3+2=(n:Int))(hn:n<6):inK IntKind.i64 (Go.bits Go.BinOp.and IntKind.i64 (kN l (0:Nat)) (1:Int)+1):=by rw[hW1];exact fB (by omega) (by omega)
theorem mg(W:Int)(l:List Int)(n:Nat)(hW1:bits .and .i64 (kN l 0) 1+1=W)(hW:1<=W∧W<=2)(hn1:bits .and .i64 (Int.fdiv (kN l 0) (2^12)) 3+2=(n:Int))(hn:n<6):inK IntKind.i64 (Int.tmod (Go.bits Go.BinOp.and IntKind.i64 (Int.fdiv (kN l (0:Nat)) ((2:Int)^(1:Nat))) (255:Int)) (3:Int)+1):=(ul _ _ (by omega) (by omega))
theorem EU(W:Int)(l:List Int)(hW1:bits .and .i64 (kN l 0) 1+1=W)(c1f:(decide (bits .and .i64 (Int.fdiv (kN l 1) (2^8)) 3>0))=false):decide (Go.bits Go.BinOp.and IntKind.i64 (Int.fdiv (kN l (1:Nat)) ((2:Int)^(8:Nat))) (3:Int)>0)=false:=by first |exact c1f | (rw[hW1];exact c1f)| (simpa [hW1] using c1f)
theorem fA(W:Int)(l:List Int)(hW1:bits .and .i64 (kN l 0) 1+1=W)(c4f:(decide (bits .and .i64 (Int.fdiv (kN l 1) (2^12)) 3>0))=false):decide (Go.bits Go.BinOp.and IntKind.i64 (Int.fdiv (kN l (1:Nat)) ((2:Int)^(12:Nat))) (3:Int)>0)=false:=by first |exact c4f | (rw[hW1];exact c4f)| (simpa [hW1] using c4f)
theorem mf(W:Int)(l:List Int)(n:Nat)(hW1:bits .and .i64 (kN l 0) 1+1=W)(hW:1<=W∧W<=2)(hn1:bits .and .i64 (Int.fdiv (kN l 0) (2^12)) 3+2=(n:Int))(hn:n<6):inK IntKind.i64 (Go.bits Go.BinOp.and IntKind.i64 (Int.fdiv (kN l (0:Nat)) ((2:Int)^(12:Nat))) (3:Int)+2):=by rw[hn1];exact fB (by omega) (by omega)
theorem IY(W:Int)(l:List Int)(n:Nat){Z:Prop}(z:Z):(RF ((mK W l (4:Nat)).r0) (RF ((mK W l (4:Nat)).r1) (RF ((mK W l (4:Nat)).r2) (RF ((mK W l (4:Nat)).r3) (RF (0:Nat) (RF (0:Nat) (RF (0:Nat) (RF ((lbL (n+1)).length) (RF (0:Nat) Z))))))))):=⟨rfl,rfl,rfl,rfl,rfl,rfl,rfl,rfl,rfl,z⟩
theorem IX(W:Int)(l:List Int)(n:Nat){Z:Prop}(z:Z):(RF (0:Nat) (RR 0 3 (fun i j=>ao mmC [] i j) (RF ((lbL (n+1)).length) (RR ((lbL (n+1)).length) 2 (fun i j=>ao lbC (lbL (n+1)) i j) (RF ((inL l n n).length) (RR ((inL l n n).length) 9 (fun i j=>ao inC (inL l n n) i j) (RF W (RF (a9 l) (RF (6:Int) Z))))))))):=⟨rfl,fun _ _ _ _=>rfl,rfl,fun _ _ _ _=>rfl,rfl,fun _ _ _ _=>rfl,rfl,rfl,rfl,z⟩
theorem mc(n:Nat){Z:Prop}(z:Z):(RR ((lbL (n+1)).length) 2 (fun i j=>ao lbC (lbL (n+1)) i j) (RF (0:Nat) (RF (n:Int) (RF (0:Int) Z)))):=⟨fun _ _ _ _=>rfl,rfl,rfl,rfl,z⟩
theorem IW(n:Nat){Z:Prop}(z:Z):(RF (0:Nat) (RF (0:Nat) (RF (0:Nat) (RF ((lbL (n+1)).length) (RF (0:Nat) (RF (0:Nat) (RF (0:Nat) (RR 0 3 (fun i j=>ao mmC [] i j) (RF ((lbL (n+1)).length) Z))))))))):=⟨rfl,rfl,rfl,rfl,rfl,rfl,rfl,fun _ _ _ _=>rfl,rfl,z⟩
theorem fy(W:Int)(l:List Int){Z:Prop}(z:Z):(RF l.length (RR l.length 1 (fun i j=>aI (l.getD i 0)) (RF W (RF (a9 l) (RF (6:Int) (RF ((mK W l (4:Nat)).r0) (RF ((mK W l (4:Nat)).r1) (RF ((mK W l (4:Nat)).r2) (RF ((mK W l (4:Nat)).r3) Z))))))))):=⟨rfl,fun _ _ _ _=>rfl,rfl,rfl,rfl,rfl,rfl,rfl,rfl,z⟩
theorem IV{Z:Prop}(z:Z):(RF (0:Nat) (RF (0:Nat) (RF (0:Nat) (RF (0:Nat) (RF (0:Nat) (RF (0:Nat) Z)))))):=⟨rfl,rfl,rfl,rfl,rfl,rfl,z⟩
theorem cD(l:List Int){Z:Prop}(z:Z):(RF (0:Int) (RF l.length (RR l.length 1 (fun i j=>aI (l.getD i 0)) Z))):=⟨rfl,rfl,fun _ _ _ _=>rfl,z⟩
theorem hZ(l:List Int){Z:Prop}(z:Z):(RF (a9 l) (RF (6:Int) (RF (0:Int) (RF (0:Int) (RF (0:Int) (RF (0:Int) (RF (0:Int) (RF (0:Int) (RF (0:Int) Z))))))))):=⟨rfl,rfl,rfl,rfl,rfl,rfl,rfl,rfl,rfl,z⟩
abbrev dI(l:List Int):Orc:= .cl [aI (0:Nat),vv l] (aI (kN l 0)) []
theorem F5(W:Int)(l:List Int)(n:Nat)(hW1:bits .and .i64 (kN l 0) 1+1=W)(hW:1<=W∧W<=2)(hn1:bits .and .i64 (Int.fdiv (kN l 0) (2^12)) 3+2=(n:Int))(hn:n<6)(c1f:(decide (bits .and .i64 (Int.fdiv (kN l 1) (2^8)) 3>0))=false)(c4f:(decide (bits .and .i64 (Int.fdiv (kN l 1) (2^12)) 3>0))=false):Vc (vF_ 6 [.row 1 l.length (cQ l)] [dI l,dI l,.lp [(0,0),(1,1),(2,2)] (mk1 W (a9 l) l ⟨0,0,0,0,0,0⟩ 0) (.ext 0) (mk1 W (a9 l) l (mK W l 4) 4),dJ l,.b false,dJ l,.b false,.b false,.b false,.b false,.b false,.b false,dI l,.lp [(0,0),(1,1),(2,2)] (mk2 W (a9 l) l (mK W l 4) ([]:List Mm) n 0) (.ext 3) (mk2 W (a9 l) l (mK W l 4) ([]:List Mm) n (n+1)),.lp [(0,0),(1,1),(2,2),(3,3),(4,4)] (mk3 W (a9 l) l (mK W l 4) ([]:List Mm) n 0) (.ext 5) (mk3 W (a9 l) l (mK W l 4) ([]:List Mm) n n)] [(0,3),(1,4),(2,5)] (.agg [aI W, aI (a9 l), aI 6, aI (mK W l 4).r0, aI (mK W l 4).r1, aI (mK W l 4).r2, aI (mK W l 4).r3,.own 0 0 3 0 ([]:List Mm).length,.own 1 0 2 0 (lbL (n+1)).length,.own 2 0 9 0 (inL l n n).length]) [mmB ([]:List Mm),lbB (lbL (n+1)),inB (inL l n n)]):=aj (cD l (cj (kC l 0 (by omega)) (cj (mh W l n hW1 hW hn1 hn) (cD l (cj (kC l 0 (by omega)) (cj (pv ((0:Int)<=1)) (cj (pv ((3:Int)≠0)) (cj (mg W l n hW1 hW hn1 hn) (cj (rf l.length) (cj (rr l.length 1 fun i j=>aI (l.getD i 0)) (cj hW1 (hZ l (cj (ed W (a9 l) l hW) (dW l (cj (kC l 1 (by omega)) (cj (pv ((0:Int)<=8)) (cj (EU W l hW1 c1f) (dW l (cj (kC l 1 (by omega)) (cj (pv ((0:Int)<=12)) (cj (fA W l hW1 c4f) (cj (fA W l hW1 c4f) (cj (fA W l hW1 c4f) (cj (fA W l hW1 c4f) (cj (fA W l hW1 c4f) (cj (fA W l hW1 c4f) (cD l (cj (kC l 0 (by omega)) (cj (pv ((0:Int)<=12)) (cj (mf W l n hW1 hW hn1 hn) (fy W l (IV (cj hn1 (cj (rf (0:Int)) (cj (ec W (a9 l) l (mK W l 4) ([]:List Mm) n hn) (fy W l (IW n (mc n (cj (d9 W (a9 l) l (mK W l 4) ([]:List Mm) n hn) (IX W l n (IY W l n (cj (rf ((inL l n n).length)) trivial))))))))))))))))))))))))))))))))))))))))))
theorem cS(W:Int)(l:List Int)(hW1:bits .and .i64 (kN l 0) 1+1=W)(c4t:(decide (bits .and .i64 (Int.fdiv (kN l 1) (2^12)) 3>0))=true):decide (Go.bits Go.BinOp.and IntKind.i64 (Int.fdiv (kN l (1:Nat)) ((2:Int)^(12:Nat))) (3:Int)>0)=true:=by first |exact c4t | (rw[hW1];exact c4t)| (simpa [hW1] using c4t)
theorem qF(W:Int)(l:List Int)(n:Nat)(hW1:bits .and .i64 (kN l 0) 1+1=W)(hW:1<=W∧W<=2)(hn1:bits .and .i64 (Int.fdiv (kN l 0) (2^12)) 3+2=(n:Int))(hn:n<6):inK IntKind.i64 ((mK W l (4:Nat)).s+W):=(fB (by have:=(ym hW l 4).2;omega) (by have:=(ym hW l 4).2;omega))
theorem dl(W:Int)(l:List Int)(hW1:bits .and .i64 (kN l 0) 1+1=W)(c5f:(decide ((mK W l 4).s+W<=3))=false):decide ((mK W l (4:Nat)).s+W<=3)=false:=by first |exact c5f | (rw[hW1];exact c5f)| (simpa [hW1] using c5f)
theorem Bj(W:Int)(l:List Int)(n:Nat)(hW1:bits .and .i64 (kN l 0) 1+1=W)(hW:1<=W∧W<=2)(hn1:bits .and .i64 (Int.fdiv (kN l 0) (2^12)) 3+2=(n:Int))(hn:n<6)(c1f:(decide (bits .and .i64 (Int.fdiv (kN l 1) (2^8)) 3>0))=false)(c4t:(decide (bits .and .i64 (Int.fdiv (kN l 1) (2^12)) 3>0))=true)(c5f:(decide ((mK W l 4).s+W<=3))=false):Vc (vF_ 6 [.row 1 l.length (cQ l)] [dI l,dI l,.lp [(0,0),(1,1),(2,2)] (mk1 W (a9 l) l ⟨0,0,0,0,0,0⟩ 0) (.ext 0) (mk1 W (a9 l) l (mK W l 4) 4),dJ l,.b false,dJ l,.b true,.b true,.b true,.b true,.b true,.b true,.b false,.b false,.b false,.b false,.b false,.b false,.b false,dI l,.lp [(0,0),(1,1),(2,2)] (mk2 W (a9 l) l (mK W l 4) ([]:List Mm) n 0) (.ext 3) (mk2 W (a9 l) l (mK W l 4) ([]:List Mm) n (n+1)),.lp [(0,0),(1,1),(2,2),(3,3),(4,4)] (mk3 W (a9 l) l (mK W l 4) ([]:List Mm) n 0) (.ext 5) (mk3 W (a9 l) l (mK W l 4) ([]:List Mm) n n)] [(0,3),(1,4),(2,5)] (.agg [aI W, aI (a9 l), aI 6, aI (mK W l 4).r0, aI (mK W l 4).r1, aI (mK W l 4).r2, aI (mK W l 4).r3,.own 0 0 3 0 ([]:List Mm).length,.own 1 0 2 0 (lbL (n+1)).length,.own 2 0 9 0 (inL l n n).length]) [mmB ([]:List Mm),lbB (lbL (n+1)),inB (inL l n n)]):=aj (cD l (cj (kC l 0 (by omega)) (cj (mh W l n hW1 hW hn1 hn) (cD l (cj (kC l 0 (by omega)) (cj (pv ((0:Int)<=1)) (cj (pv ((3:Int)≠0)) (cj (mg W l n hW1 hW hn1 hn) (cj (rf l.length) (cj (rr l.length 1 fun i j=>aI (l.getD i 0)) (cj hW1 (hZ l (cj (ed W (a9 l) l hW) (dW l (cj (kC l 1 (by omega)) (cj (pv ((0:Int)<=8)) (cj (EU W l hW1 c1f) (dW l (cj (kC l 1 (by omega)) (cj (pv ((0:Int)<=12)) (cj (cS W l hW1 c4t) (cj (cS W l hW1 c4t) (cj (cS W l hW1 c4t) (cj (cS W l hW1 c4t) (cj (qF W l n hW1 hW hn1 hn) (cj (cS W l hW1 c4t) (cj (cS W l hW1 c4t) (cj (dl W l hW1 c5f) (cj (dl W l hW1 c5f) (cj (dl W l hW1 c5f) (cj (dl W l hW1 c5f) (cj (dl W l hW1 c5f) (cj (dl W l hW1 c5f) (cj (dl W l hW1 c5f) (cD l (cj (kC l 0 (by omega)) (cj (pv ((0:Int)<=12)) (cj (mf W l n hW1 hW hn1 hn) (fy W l (IV (cj hn1 (cj (rf (0:Int)) (cj (ec W (a9 l) l (mK W l 4) ([]:List Mm) n hn) (fy W l (IW n (mc n (cj (d9 W (a9 l) l (mK W l 4) ([]:List Mm) n hn) (IX W l n (IY W l n (cj (rf ((inL l n n).length)) trivial))))))))))))))))))))))))))))))))))))))))))))))))))
theorem dk(W:Int)(l:List Int)(hW1:bits .and .i64 (kN l 0) 1+1=W)(c5t:(decide ((mK W l 4).s+W<=3))=true):decide ((mK W l (4:Nat)).s+W<=3)=true:=by first |exact c5t | (rw[hW1];exact c5t)| (simpa [hW1] using c5t)
theorem lI(W:Int)(l:List Int)(n:Nat){Z:Prop}(z:Z):(RF ((mK W l (4:Nat)).r0) (RF ((mK W l (4:Nat)).r1) (RF ((mK W l (4:Nat)).r2) (RF ((mK W l (4:Nat)).r3) (RF (0:Nat) (RF (1:Nat) (RF (0:Nat) (RF ((lbL (n+1)).length) (RF (0:Nat) Z))))))))):=⟨rfl,rfl,rfl,rfl,rfl,rfl,rfl,rfl,rfl,z⟩
theorem lH{Z:Prop}(z:Z):(RF (0:Nat) (RF (1:Nat) (RF (0:Nat) (RF (0:Nat) (RF (1:Nat) Z))))):=⟨rfl,rfl,rfl,rfl,rfl,z⟩
theorem Bi(W:Int)(l:List Int)(n:Nat)(hW1:bits .and .i64 (kN l 0) 1+1=W)(hW:1<=W∧W<=2)(hn1:bits .and .i64 (Int.fdiv (kN l 0) (2^12)) 3+2=(n:Int))(hn:n<6)(c1f:(decide (bits .and .i64 (Int.fdiv (kN l 1) (2^8)) 3>0))=false)(c4t:(decide (bits .and .i64 (Int.fdiv (kN l 1) (2^12)) 3>0))=true)(c5t:(decide ((mK W l 4).s+W<=3))=true):Vc (vF_ 6 [.row 1 l.length (cQ l)] [dI l,dI l,.lp [(0,0),(1,1),(2,2)] (mk1 W (a9 l) l ⟨0,0,0,0,0,0⟩ 0) (.ext 0) (mk1 W (a9 l) l (mK W l 4) 4),dJ l,.b false,dJ l,.b true,.b true,.b true,.b true,.b true,.b true,.b true,.b true,.b true,.b true,.b true,.b true,.b true,.b true,.b true,.b true,.b true,.b true,.b true,.b true,dI l,.lp [(0,0),(1,1),(2,2),(3,4)] (mk2 W (a9 l) l (mK W l 4) ([ms1]:List Mm) n 0) (.ext 3) (mk2 W (a9 l) l (mK W l 4) ([ms1]:List Mm) n (n+1)),.lp [(0,0),(1,1),(2,2),(3,3),(4,4)] (mk3 W (a9 l) l (mK W l 4) ([ms1]:List Mm) n 0) (.ext 5) (mk3 W (a9 l) l (mK W l 4) ([ms1]:List Mm) n n)] [(0,3),(1,4),(2,5)] (.agg [aI W, aI (a9 l), aI 6, aI (mK W l 4).r0, aI (mK W l 4).r1, aI (mK W l 4).r2, aI (mK W l 4).r3,.own 0 0 3 0 ([ms1]:List Mm).length,.own 1 0 2 0 (lbL (n+1)).length,.own 2 0 9 0 (inL l n n).length]) [mmB ([ms1]:List Mm),lbB (lbL (n+1)),inB (inL l n n)]):=aj (cD l (cj (kC l 0 (by omega)) (cj (mh W l n hW1 hW hn1 hn) (cD l (cj (kC l 0 (by omega)) (cj (pv ((0:Int)<=1)) (cj (pv ((3:Int)≠0)) (cj (mg W l n hW1 hW hn1 hn) (cj (rf l.length) (cj (rr l.length 1 fun i j=>aI (l.getD i 0)) (cj hW1 (hZ l (cj (ed W (a9 l) l hW) (dW l (cj (kC l 1 (by omega)) (cj (pv ((0:Int)<=8)) (cj (EU W l hW1 c1f) (dW l (cj (kC l 1 (by omega)) (cj (pv ((0:Int)<=12)) (cj (cS W l hW1 c4t) (cj (cS W l hW1 c4t) (cj (cS W l hW1 c4t) (cj (cS W l hW1 c4t) (cj (qF W l n hW1 hW hn1 hn) (cj (cS W l hW1 c4t) (cj (cS W l hW1 c4t) (cj (dk W l hW1 c5t) (cj (dk W l hW1 c5t) (cj (dk W l hW1 c5t) (cj (dk W l hW1 c5t) (cj (dk W l hW1 c5t) (cj (e1 0 0) (cj (e1 0 0) (cj (e1 0 0) (cj (e1 0 0) (cj (e1 0 0) (cj (e1 0 0) (cj (dk W l hW1 c5t) (cj (e1 0 0) (cj (dk W l hW1 c5t) (cj (pv ((32:Nat)<=140737488355328∧(1:Nat)<=140737488355328)) (cD l (cj (kC l 0 (by omega)) (cj (pv ((0:Int)<=12)) (cj (mf W l n hW1 hW hn1 hn) (fy W l (lH (cj (show ∀(i:Nat),i<1-> ∀(j:Nat),j<3->List.getD [AV.str (ByteArray.mk (Array.mk [(115:UInt8)])),AV.bool true,aI 1] ((i+0)*3+j) AV.junk=ao mmC [ms1] i j from(fun i hi j hj=>match i,hi,j,hj with |0,_,0,_=>rfl |0,_,1,_=>rfl |0,_,2,_=>rfl)) (cj (rf (0:Nat)) (cj hn1 (cj (rf (0:Int)) (cj (ec W (a9 l) l (mK W l 4) ([ms1]:List Mm) n hn) (fy W l (cj (rf (0:Nat)) (cj (rf (1:Nat)) (cj (rf (0:Nat)) (cj (rf ((lbL (n+1)).length)) (cj (rf (0:Nat)) (cj (rf (0:Nat)) (cj (rf (1:Nat)) (cj (rr 1 3 fun i j=>ao mmC [ms1] i j) (cj (rf ((lbL (n+1)).length)) (mc n (cj (d9 W (a9 l) l (mK W l 4) ([ms1]:List Mm) n hn) (cj (rf (1:Nat)) (cj (rr 1 3 fun i j=>ao mmC [ms1] i j) (cj (rf ((lbL (n+1)).length)) (cj (rr ((lbL (n+1)).length) 2 fun i j=>ao lbC (lbL (n+1)) i j) (cj (rf ((inL l n n).length)) (cj (rr ((inL l n n).length) 9 fun i j=>ao inC (inL l n n) i j) (cj (rf W) (cj (rf (a9 l)) (cj (rf (6:Int)) (lI W l n (cj (rf ((inL l n n).length)) trivial))))))))))))))))))))))))))))))))))))))))))))))))))))))))))))))))))))))))))))
theorem ki(W:Int)(l:List Int)(hW1:bits .and .i64 (kN l 0) 1+1=W)(c1t:(decide (bits .and .i64 (Int.fdiv (kN l 1) (2^8)) 3>0))=true):decide (Go.bits Go.BinOp.and IntKind.i64 (Int.fdiv (kN l (1:Nat)) ((2:Int)^(8:Nat))) (3:Int)>0)=true:=by first |exact c1t | (rw[hW1];exact c1t)| (simpa [hW1] using c1t)
theorem eX(W:Int)(l:List Int)(hW1:bits .and .i64 (kN l 0) 1+1=W)(c2f:(W==1)=false):(W==(1:Int))=false:=by first |exact c2f | (rw[hW1];exact c2f)| (simpa [hW1] using c2f)
theorem tL: ∀(i:Nat),i<1-> ∀(j:Nat),j<3->List.getD [AV.str (ByteArray.mk (Array.mk [(109:UInt8)])),AV.bool false,aI 1] ((i+0)*3+j) AV.junk=ao mmC [mm1] i j:=(fun i hi j hj=>match i,hi,j,hj with |0,_,0,_=>rfl |0,_,1,_=>rfl |0,_,2,_=>rfl)
theorem tp(W:Int)(l:List Int)(n:Nat){Z:Prop}(z:Z):(RF (1:Nat) (RR 1 3 (fun i j=>ao mmC [mm1] i j) (RF ((lbL (n+1)).length) (RR ((lbL (n+1)).length) 2 (fun i j=>ao lbC (lbL (n+1)) i j) (RF ((inL l n n).length) (RR ((inL l n n).length) 9 (fun i j=>ao inC (inL l n n) i j) (RF W (RF (a9 l) (RF (6:Int) Z))))))))):=⟨rfl,fun _ _ _ _=>rfl,rfl,fun _ _ _ _=>rfl,rfl,fun _ _ _ _=>rfl,rfl,rfl,rfl,z⟩
theorem tn(n:Nat){Z:Prop}(z:Z):(RF (0:Nat) (RF (1:Nat) (RF (0:Nat) (RF ((lbL (n+1)).length) (RF (0:Nat) (RF (0:Nat) (RF (1:Nat) (RR 1 3 (fun i j=>ao mmC [mm1] i j) (RF ((lbL (n+1)).length) Z))))))))):=⟨rfl,rfl,rfl,rfl,rfl,rfl,rfl,fun _ _ _ _=>rfl,rfl,z⟩
theorem wx(l:List Int){Z:Prop}(z:Z):(RF false (RF (1:Int) (RF l.length (RR l.length 1 (fun i j=>aI (l.getD i 0)) Z)))):=⟨rfl,rfl,rfl,fun _ _ _ _=>rfl,z⟩
theorem Bh(W:Int)(l:List Int)(n:Nat)(hW1:bits .and .i64 (kN l 0) 1+1=W)(hW:1<=W∧W<=2)(hn1:bits .and .i64 (Int.fdiv (kN l 0) (2^12)) 3+2=(n:Int))(hn:n<6)(c1t:(decide (bits .and .i64 (Int.fdiv (kN l 1) (2^8)) 3>0))=true)(c2f:(W==1)=false)(c4f:(decide (bits .and .i64 (Int.fdiv (kN l 1) (2^12)) 3>0))=false):Vc (vF_ 6 [.row 1 l.length (cQ l)] [dI l,dI l,.lp [(0,0),(1,1),(2,2)] (mk1 W (a9 l) l ⟨0,0,0,0,0,0⟩ 0) (.ext 0) (mk1 W (a9 l) l (mK W l 4) 4),dJ l,.b true,.b false,.b false,.b false,.b false,.b false,.b false,.b false,dJ l,.b false,.b false,.b false,.b false,.b false,.b false,dI l,.lp [(0,0),(1,1),(2,2),(3,4)] (mk2 W (a9 l) l (mK W l 4) ([mm1]:List Mm) n 0) (.ext 3) (mk2 W (a9 l) l (mK W l 4) ([mm1]:List Mm) n (n+1)),.lp [(0,0),(1,1),(2,2),(3,3),(4,4)] (mk3 W (a9 l) l (mK W l 4) ([mm1]:List Mm) n 0) (.ext 5) (mk3 W (a9 l) l (mK W l 4) ([mm1]:List Mm) n n)] [(0,3),(1,4),(2,5)] (.agg [aI W, aI (a9 l), aI 6, aI (mK W l 4).r0, aI (mK W l 4).r1, aI (mK W l 4).r2, aI (mK W l 4).r3,.own 0 0 3 0 ([mm1]:List Mm).length,.own 1 0 2 0 (lbL (n+1)).length,.own 2 0 9 0 (inL l n n).length]) [mmB ([mm1]:List Mm),lbB (lbL (n+1)),inB (inL l n n)]):=aj (cD l (cj (kC l 0 (by omega)) (cj (mh W l n hW1 hW hn1 hn) (cD l (cj (kC l 0 (by omega)) (cj (pv ((0:Int)<=1)) (cj (pv ((3:Int)≠0)) (cj (mg W l n hW1 hW hn1 hn) (cj (rf l.length) (cj (rr l.length 1 fun i j=>aI (l.getD i 0)) (cj hW1 (hZ l (cj (ed W (a9 l) l hW) (dW l (cj (kC l 1 (by omega)) (cj (pv ((0:Int)<=8)) (cj (ki W l hW1 c1t) (cj (pv ((32:Nat)<=140737488355328∧(1:Nat)<=140737488355328)) (cj (eX W l hW1 c2f) (cj (eX W l hW1 c2f) (cj (eX W l hW1 c2f) (cj (eX W l hW1 c2f) (cj (eX W l hW1 c2f) (cj (eX W l hW1 c2f) (wx l (cj (kC l 1 (by omega)) (cj (pv ((0:Int)<=12)) (cj (fA W l hW1 c4f) (cj (fA W l hW1 c4f) (cj (fA W l hW1 c4f) (cj (fA W l hW1 c4f) (cj (fA W l hW1 c4f) (cj (fA W l hW1 c4f) (cD l (cj (kC l 0 (by omega)) (cj (pv ((0:Int)<=12)) (cj (mf W l n hW1 hW hn1 hn) (fy W l (lH (cj (tL) (cj (rf (0:Nat)) (cj hn1 (cj (rf (0:Int)) (cj (ec W (a9 l) l (mK W l 4) ([mm1]:List Mm) n hn) (fy W l (tn n (mc n (cj (d9 W (a9 l) l (mK W l 4) ([mm1]:List Mm) n hn) (tp W l n (lI W l n (cj (rf ((inL l n n).length)) trivial)))))))))))))))))))))))))))))))))))))))))))))))))))
theorem yh(W:Int)(l:List Int)(n:Nat)(hW1:bits .and .i64 (kN l 0) 1+1=W)(hW:1<=W∧W<=2)(hn1:bits .and .i64 (Int.fdiv (kN l 0) (2^12)) 3+2=(n:Int))(hn:n<6)(c1t:(decide (bits .and .i64 (Int.fdiv (kN l 1) (2^8)) 3>0))=true)(c2f:(W==1)=false)(c4t:(decide (bits .and .i64 (Int.fdiv (kN l 1) (2^12)) 3>0))=true)(c5f:(decide ((mK W l 4).s+W<=3))=false):Vc (vF_ 6 [.row 1 l.length (cQ l)] [dI l,dI l,.lp [(0,0),(1,1),(2,2)] (mk1 W (a9 l) l ⟨0,0,0,0,0,0⟩ 0) (.ext 0) (mk1 W (a9 l) l (mK W l 4) 4),dJ l,.b true,.b false,.b false,.b false,.b false,.b false,.b false,.b false,dJ l,.b true,.b true,.b true,.b true,.b true,.b true,.b false,.b false,.b false,.b false,.b false,.b false,.b false,dI l,.lp [(0,0),(1,1),(2,2),(3,4)] (mk2 W (a9 l) l (mK W l 4) ([mm1]:List Mm) n 0) (.ext 3) (mk2 W (a9 l) l (mK W l 4) ([mm1]:List Mm) n (n+1)),.lp [(0,0),(1,1),(2,2),(3,3),(4,4)] (mk3 W (a9 l) l (mK W l 4) ([mm1]:List Mm) n 0) (.ext 5) (mk3 W (a9 l) l (mK W l 4) ([mm1]:List Mm) n n)] [(0,3),(1,4),(2,5)] (.agg [aI W, aI (a9 l), aI 6, aI (mK W l 4).r0, aI (mK W l 4).r1, aI (mK W l 4).r2, aI (mK W l 4).r3,.own 0 0 3 0 ([mm1]:List Mm).length,.own 1 0 2 0 (lbL (n+1)).length,.own 2 0 9 0 (inL l n n).length]) [mmB ([mm1]:List Mm),lbB (lbL (n+1)),inB (inL l n n)]):=aj (cD l (cj (kC l 0 (by omega)) (cj (mh W l n hW1 hW hn1 hn) (cD l (cj (kC l 0 (by omega)) (cj (pv ((0:Int)<=1)) (cj (pv ((3:Int)≠0)) (cj (mg W l n hW1 hW hn1 hn) (cj (rf l.length) (cj (rr l.length 1 fun i j=>aI (l.getD i 0)) (cj hW1 (hZ l (cj (ed W (a9 l) l hW) (dW l (cj (kC l 1 (by omega)) (cj (pv ((0:Int)<=8)) (cj (ki W l hW1 c1t) (cj (pv ((32:Nat)<=140737488355328∧(1:Nat)<=140737488355328)) (cj (eX W l hW1 c2f) (cj (eX W l hW1 c2f) (cj (eX W l hW1 c2f) (cj (eX W l hW1 c2f) (cj (eX W l hW1 c2f) (cj (eX W l hW1 c2f) (wx l (cj (kC l 1 (by omega)) (cj (pv ((0:Int)<=12)) (cj (cS W l hW1 c4t) (cj (cS W l hW1 c4t) (cj (cS W l hW1 c4t) (cj (cS W l hW1 c4t) (cj (qF W l n hW1 hW hn1 hn) (cj (cS W l hW1 c4t) (cj (cS W l hW1 c4t) (cj (dl W l hW1 c5f) (cj (dl W l hW1 c5f) (cj (dl W l hW1 c5f) (cj (dl W l hW1 c5f) (cj (dl W l hW1 c5f) (cj (dl W l hW1 c5f) (cj (dl W l hW1 c5f) (cD l (cj (kC l 0 (by omega)) (cj (pv ((0:Int)<=12)) (cj (mf W l n hW1 hW hn1 hn) (fy W l (lH (cj (tL) (cj (rf (0:Nat)) (cj hn1 (cj (rf (0:Int)) (cj (ec W (a9 l) l (mK W l 4) ([mm1]:List Mm) n hn) (fy W l (tn n (mc n (cj (d9 W (a9 l) l (mK W l 4) ([mm1]:List Mm) n hn) (tp W l n (lI W l n (cj (rf ((inL l n n).length)) trivial)))))))))))))))))))))))))))))))))))))))))))))))))))))))))))
theorem Da: ∀(i:Nat),i<2-> ∀(j:Nat),j<3->(bif Nat.blt i (1:Nat) then List.getD [AV.str (ByteArray.mk (Array.mk [(109:UInt8)])),AV.bool false,aI 1] ((i+0)*3+j) AV.junk else List.getD [AV.str (ByteArray.mk (Array.mk [(115:UInt8)])),AV.bool true,aI 1] ((i-1+0)*3+j) AV.junk)=ao mmC [mm1,ms1] i j:=(fun i hi j hj=>match i,hi,j,hj with |0,_,0,_=>rfl |0,_,1,_=>rfl |0,_,2,_=>rfl |1,_,0,_=>rfl |1,_,1,_=>rfl |1,_,2,_=>rfl)
theorem CX(W:Int)(l:List Int)(n:Nat){Z:Prop}(z:Z):(RF ((mK W l (4:Nat)).r0) (RF ((mK W l (4:Nat)).r1) (RF ((mK W l (4:Nat)).r2) (RF ((mK W l (4:Nat)).r3) (RF (0:Nat) (RF (2:Nat) (RF (0:Nat) (RF ((lbL (n+1)).length) (RF (0:Nat) Z))))))))):=⟨rfl,rfl,rfl,rfl,rfl,rfl,rfl,rfl,rfl,z⟩
theorem CW(W:Int)(l:List Int)(n:Nat){Z:Prop}(z:Z):(RF (2:Nat) (RR 2 3 (fun i j=>ao mmC [mm1,ms1] i j) (RF ((lbL (n+1)).length) (RR ((lbL (n+1)).length) 2 (fun i j=>ao lbC (lbL (n+1)) i j) (RF ((inL l n n).length) (RR ((inL l n n).length) 9 (fun i j=>ao inC (inL l n n) i j) (RF W (RF (a9 l) (RF (6:Int) Z))))))))):=⟨rfl,fun _ _ _ _=>rfl,rfl,fun _ _ _ _=>rfl,rfl,fun _ _ _ _=>rfl,rfl,rfl,rfl,z⟩
theorem CV(n:Nat){Z:Prop}(z:Z):(RF (0:Nat) (RF (2:Nat) (RF (0:Nat) (RF ((lbL (n+1)).length) (RF (0:Nat) (RF (0:Nat) (RF (2:Nat) (RR 2 3 (fun i j=>ao mmC [mm1,ms1] i j) (RF ((lbL (n+1)).length) Z))))))))):=⟨rfl,rfl,rfl,rfl,rfl,rfl,rfl,fun _ _ _ _=>rfl,rfl,z⟩
theorem CU{Z:Prop}(z:Z):(RF (0:Nat) (RF (2:Nat) (RF (0:Nat) (RF (0:Nat) (RF (2:Nat) Z))))):=⟨rfl,rfl,rfl,rfl,rfl,z⟩
theorem yg(W:Int)(l:List Int)(n:Nat)(hW1:bits .and .i64 (kN l 0) 1+1=W)(hW:1<=W∧W<=2)(hn1:bits .and .i64 (Int.fdiv (kN l 0) (2^12)) 3+2=(n:Int))(hn:n<6)(c1t:(decide (bits .and .i64 (Int.fdiv (kN l 1) (2^8)) 3>0))=true)(c2f:(W==1)=false)(c4t:(decide (bits .and .i64 (Int.fdiv (kN l 1) (2^12)) 3>0))=true)(c5t:(decide ((mK W l 4).s+W<=3))=true):Vc (vF_ 6 [.row 1 l.length (cQ l)] [dI l,dI l,.lp [(0,0),(1,1),(2,2)] (mk1 W (a9 l) l ⟨0,0,0,0,0,0⟩ 0) (.ext 0) (mk1 W (a9 l) l (mK W l 4) 4),dJ l,.b true,.b false,.b false,.b false,.b false,.b false,.b false,.b false,dJ l,.b true,.b true,.b true,.b true,.b true,.b true,.b true,.b true,.b true,.b true,.b true,.b false,.b false,.b false,.b false,.b false,.b false,.b true,.b false,.b true,dI l,.lp [(0,0),(1,1),(2,2),(3,4)] (mk2 W (a9 l) l (mK W l 4) ([mm1,ms1]:List Mm) n 0) (.ext 3) (mk2 W (a9 l) l (mK W l 4) ([mm1,ms1]:List Mm) n (n+1)),.lp [(0,0),(1,1),(2,2),(3,3),(4,4)] (mk3 W (a9 l) l (mK W l 4) ([mm1,ms1]:List Mm) n 0) (.ext 5) (mk3 W (a9 l) l (mK W l 4) ([mm1,ms1]:List Mm) n n)] [(0,3),(1,4),(2,5)] (.agg [aI W, aI (a9 l), aI 6, aI (mK W l 4).r0, aI (mK W l 4).r1, aI (mK W l 4).r2, aI (mK W l 4).r3,.own 0 0 3 0 ([mm1,ms1]:List Mm).length,.own 1 0 2 0 (lbL (n+1)).length,.own 2 0 9 0 (inL l n n).length]) [mmB ([mm1,ms1]:List Mm),lbB (lbL (n+1)),inB (inL l n n)]):=aj (cD l (cj (kC l 0 (by omega)) (cj (mh W l n hW1 hW hn1 hn) (cD l (cj (kC l 0 (by omega)) (cj (pv ((0:Int)<=1)) (cj (pv ((3:Int)≠0)) (cj (mg W l n hW1 hW hn1 hn) (cj (rf l.length) (cj (rr l.length 1 fun i j=>aI (l.getD i 0)) (cj hW1 (hZ l (cj (ed W (a9 l) l hW) (dW l (cj (kC l 1 (by omega)) (cj (pv ((0:Int)<=8)) (cj (ki W l hW1 c1t) (cj (pv ((32:Nat)<=140737488355328∧(1:Nat)<=140737488355328)) (cj (eX W l hW1 c2f) (cj (eX W l hW1 c2f) (cj (eX W l hW1 c2f) (cj (eX W l hW1 c2f) (cj (eX W l hW1 c2f) (cj (eX W l hW1 c2f) (wx l (cj (kC l 1 (by omega)) (cj (pv ((0:Int)<=12)) (cj (cS W l hW1 c4t) (cj (cS W l hW1 c4t) (cj (cS W l hW1 c4t) (cj (cS W l hW1 c4t) (cj (qF W l n hW1 hW hn1 hn) (cj (cS W l hW1 c4t) (cj (cS W l hW1 c4t) (cj (dk W l hW1 c5t) (cj (dk W l hW1 c5t) (cj (dk W l hW1 c5t) (cj (dk W l hW1 c5t) (cj (dk W l hW1 c5t) (cj (e0 (1:Nat) 0) (cj (e0 (1:Nat) 0) (cj (e0 (1:Nat) 0) (cj (pv ((0:Int)<=0∧(0:Int)<(1:Nat))) (cj (e0 (1:Nat) 0) (cj (e0 (1:Nat) 0) (cj (pv ((0:Nat)<1)) (cj (e0 (1:Nat) 0) (cj (dk W l hW1 c5t) (cj (e0 (1:Nat) 0) (cj (dk W l hW1 c5t) (cj (pv ((0:Nat)=0∧(1:Nat)=1∧(64:Nat)<=140737488355328∧(2:Nat)<=140737488355328)) (cD l (cj (kC l 0 (by omega)) (cj (pv ((0:Int)<=12)) (cj (mf W l n hW1 hW hn1 hn) (fy W l (CU (cj (Da) (cj (rf (0:Nat)) (cj hn1 (cj (rf (0:Int)) (cj (ec W (a9 l) l (mK W l 4) ([mm1,ms1]:List Mm) n hn) (fy W l (CV n (mc n (cj (d9 W (a9 l) l (mK W l 4) ([mm1,ms1]:List Mm) n hn) (CW W l n (CX W l n (cj (rf ((inL l n n).length)) trivial)))))))))))))))))))))))))))))))))))))))))))))))))))))))))))))))))))))
theorem cE(W:Int)(l:List Int)(hW1:bits .and .i64 (kN l 0) 1+1=W)(c2t:(W==1)=true):(W==(1:Int))=true:=by first |exact c2t | (rw[hW1];exact c2t)| (simpa [hW1] using c2t)
theorem xp(W:Int)(l:List Int)(hW1:bits .and .i64 (kN l 0) 1+1=W)(c3f:(bits .and .i64 (Int.fdiv (kN l 1) (2^10)) 3==0)=false):(Go.bits Go.BinOp.and IntKind.i64 (Int.fdiv (kN l (1:Nat)) ((2:Int)^(10:Nat))) (3:Int)==(0:Int))=false:=by first |exact c3f | (rw[hW1];exact c3f)| (simpa [hW1] using c3f)
theorem yf(W:Int)(l:List Int)(n:Nat)(hW1:bits .and .i64 (kN l 0) 1+1=W)(hW:1<=W∧W<=2)(hn1:bits .and .i64 (Int.fdiv (kN l 0) (2^12)) 3+2=(n:Int))(hn:n<6)(c1t:(decide (bits .and .i64 (Int.fdiv (kN l 1) (2^8)) 3>0))=true)(c2t:(W==1)=true)(c3f:(bits .and .i64 (Int.fdiv (kN l 1) (2^10)) 3==0)=false)(c4f:(decide (bits .and .i64 (Int.fdiv (kN l 1) (2^12)) 3>0))=false):Vc (vF_ 6 [.row 1 l.length (cQ l)] [dI l,dI l,.lp [(0,0),(1,1),(2,2)] (mk1 W (a9 l) l ⟨0,0,0,0,0,0⟩ 0) (.ext 0) (mk1 W (a9 l) l (mK W l 4) 4),dJ l,.b true,.b true,.b true,dJ l,.b true,.b true,.b true,.b true,.b false,dJ l,.b false,.b false,.b false,.b false,.b false,.b false,dI l,.lp [(0,0),(1,1),(2,2),(3,4)] (mk2 W (a9 l) l (mK W l 4) ([mm1]:List Mm) n 0) (.ext 3) (mk2 W (a9 l) l (mK W l 4) ([mm1]:List Mm) n (n+1)),.lp [(0,0),(1,1),(2,2),(3,3),(4,4)] (mk3 W (a9 l) l (mK W l 4) ([mm1]:List Mm) n 0) (.ext 5) (mk3 W (a9 l) l (mK W l 4) ([mm1]:List Mm) n n)] [(0,3),(1,4),(2,5)] (.agg [aI W, aI (a9 l), aI 6, aI (mK W l 4).r0, aI (mK W l 4).r1, aI (mK W l 4).r2, aI (mK W l 4).r3,.own 0 0 3 0 ([mm1]:List Mm).length,.own 1 0 2 0 (lbL (n+1)).length,.own 2 0 9 0 (inL l n n).length]) [mmB ([mm1]:List Mm),lbB (lbL (n+1)),inB (inL l n n)]):=aj (cD l (cj (kC l 0 (by omega)) (cj (mh W l n hW1 hW hn1 hn) (cD l (cj (kC l 0 (by omega)) (cj (pv ((0:Int)<=1)) (cj (pv ((3:Int)≠0)) (cj (mg W l n hW1 hW hn1 hn) (cj (rf l.length) (cj (rr l.length 1 fun i j=>aI (l.getD i 0)) (cj hW1 (hZ l (cj (ed W (a9 l) l hW) (dW l (cj (kC l 1 (by omega)) (cj (pv ((0:Int)<=8)) (cj (ki W l hW1 c1t) (cj (pv ((32:Nat)<=140737488355328∧(1:Nat)<=140737488355328)) (cj (cE W l hW1 c2t) (cj (cE W l hW1 c2t) (dW l (cj (kC l 1 (by omega)) (cj (cE W l hW1 c2t) (cj (pv ((0:Int)<=10)) (cj (cE W l hW1 c2t) (cj (cE W l hW1 c2t) (cj (cE W l hW1 c2t) (cj (xp W l hW1 c3f) (dW l (cj (kC l 1 (by omega)) (cj (pv ((0:Int)<=12)) (cj (fA W l hW1 c4f) (cj (fA W l hW1 c4f) (cj (fA W l hW1 c4f) (cj (fA W l hW1 c4f) (cj (fA W l hW1 c4f) (cj (fA W l hW1 c4f) (cD l (cj (kC l 0 (by omega)) (cj (pv ((0:Int)<=12)) (cj (mf W l n hW1 hW hn1 hn) (fy W l (lH (cj (tL) (cj (rf (0:Nat)) (cj hn1 (cj (rf (0:Int)) (cj (ec W (a9 l) l (mK W l 4) ([mm1]:List Mm) n hn) (fy W l (tn n (mc n (cj (d9 W (a9 l) l (mK W l 4) ([mm1]:List Mm) n hn) (tp W l n (lI W l n (cj (rf ((inL l n n).length)) trivial)))))))))))))))))))))))))))))))))))))))))))))))))))))))
theorem vp(W:Int)(l:List Int)(n:Nat)(hW1:bits .and .i64 (kN l 0) 1+1=W)(hW:1<=W∧W<=2)(hn1:bits .and .i64 (Int.fdiv (kN l 0) (2^12)) 3+2=(n:Int))(hn:n<6)(c1t:(decide (bits .and .i64 (Int.fdiv (kN l 1) (2^8)) 3>0))=true)(c2t:(W==1)=true)(c3f:(bits .and .i64 (Int.fdiv (kN l 1) (2^10)) 3==0)=false)(c4t:(decide (bits .and .i64 (Int.fdiv (kN l 1) (2^12)) 3>0))=true)(c5f:(decide ((mK W l 4).s+W<=3))=false):Vc (vF_ 6 [.row 1 l.length (cQ l)] [dI l,dI l,.lp [(0,0),(1,1),(2,2)] (mk1 W (a9 l) l ⟨0,0,0,0,0,0⟩ 0) (.ext 0) (mk1 W (a9 l) l (mK W l 4) 4),dJ l,.b true,.b true,.b true,dJ l,.b true,.b true,.b true,.b true,.b false,dJ l,.b true,.b true,.b true,.b true,.b true,.b true,.b false,.b false,.b false,.b false,.b false,.b false,.b false,dI l,.lp [(0,0),(1,1),(2,2),(3,4)] (mk2 W (a9 l) l (mK W l 4) ([mm1]:List Mm) n 0) (.ext 3) (mk2 W (a9 l) l (mK W l 4) ([mm1]:List Mm) n (n+1)),.lp [(0,0),(1,1),(2,2),(3,3),(4,4)] (mk3 W (a9 l) l (mK W l 4) ([mm1]:List Mm) n 0) (.ext 5) (mk3 W (a9 l) l (mK W l 4) ([mm1]:List Mm) n n)] [(0,3),(1,4),(2,5)] (.agg [aI W, aI (a9 l), aI 6, aI (mK W l 4).r0, aI (mK W l 4).r1, aI (mK W l 4).r2, aI (mK W l 4).r3,.own 0 0 3 0 ([mm1]:List Mm).length,.own 1 0 2 0 (lbL (n+1)).length,.own 2 0 9 0 (inL l n n).length]) [mmB ([mm1]:List Mm),lbB (lbL (n+1)),inB (inL l n n)]):=aj (cD l (cj (kC l 0 (by omega)) (cj (mh W l n hW1 hW hn1 hn) (cD l (cj (kC l 0 (by omega)) (cj (pv ((0:Int)<=1)) (cj (pv ((3:Int)≠0)) (cj (mg W l n hW1 hW hn1 hn) (cj (rf l.length) (cj (rr l.length 1 fun i j=>aI (l.getD i 0)) (cj hW1 (hZ l (cj (ed W (a9 l) l hW) (dW l (cj (kC l 1 (by omega)) (cj (pv ((0:Int)<=8)) (cj (ki W l hW1 c1t) (cj (pv ((32:Nat)<=140737488355328∧(1:Nat)<=140737488355328)) (cj (cE W l hW1 c2t) (cj (cE W l hW1 c2t) (dW l (cj (kC l 1 (by omega)) (cj (cE W l hW1 c2t) (cj (pv ((0:Int)<=10)) (cj (cE W l hW1 c2t) (cj (cE W l hW1 c2t) (cj (cE W l hW1 c2t) (cj (xp W l hW1 c3f) (dW l (cj (kC l 1 (by omega)) (cj (pv ((0:Int)<=12)) (cj (cS W l hW1 c4t) (cj (cS W l hW1 c4t) (cj (cS W l hW1 c4t) (cj (cS W l hW1 c4t) (cj (qF W l n hW1 hW hn1 hn) (cj (cS W l hW1 c4t) (cj (cS W l hW1 c4t) (cj (dl W l hW1 c5f) (cj (dl W l hW1 c5f) (cj (dl W l hW1 c5f) (cj (dl W l hW1 c5f) (cj (dl W l hW1 c5f) (cj (dl W l hW1 c5f) (cj (dl W l hW1 c5f) (cD l (cj (kC l 0 (by omega)) (cj (pv ((0:Int)<=12)) (cj (mf W l n hW1 hW hn1 hn) (fy W l (lH (cj (tL) (cj (rf (0:Nat)) (cj hn1 (cj (rf (0:Int)) (cj (ec W (a9 l) l (mK W l 4) ([mm1]:List Mm) n hn) (fy W l (tn n (mc n (cj (d9 W (a9 l) l (mK W l 4) ([mm1]:List Mm) n hn) (tp W l n (lI W l n (cj (rf ((inL l n n).length)) trivial)))))))))))))))))))))))))))))))))))))))))))))))))))))))))))))))
theorem vo(W:Int)(l:List Int)(n:Nat)(hW1:bits .and .i64 (kN l 0) 1+1=W)(hW:1<=W∧W<=2)(hn1:bits .and .i64 (Int.fdiv (kN l 0) (2^12)) 3+2=(n:Int))(hn:n<6)(c1t:(decide (bits .and .i64 (Int.fdiv (kN l 1) (2^8)) 3>0))=true)(c2t:(W==1)=true)(c3f:(bits .and .i64 (Int.fdiv (kN l 1) (2^10)) 3==0)=false)(c4t:(decide (bits .and .i64 (Int.fdiv (kN l 1) (2^12)) 3>0))=true)(c5t:(decide ((mK W l 4).s+W<=3))=true):Vc (vF_ 6 [.row 1 l.length (cQ l)] [dI l,dI l,.lp [(0,0),(1,1),(2,2)] (mk1 W (a9 l) l ⟨0,0,0,0,0,0⟩ 0) (.ext 0) (mk1 W (a9 l) l (mK W l 4) 4),dJ l,.b true,.b true,.b true,dJ l,.b true,.b true,.b true,.b true,.b false,dJ l,.b true,.b true,.b true,.b true,.b true,.b true,.b true,.b true,.b true,.b true,.b true,.b false,.b false,.b false,.b false,.b false,.b false,.b true,.b false,.b true,dI l,.lp [(0,0),(1,1),(2,2),(3,4)] (mk2 W (a9 l) l (mK W l 4) ([mm1,ms1]:List Mm) n 0) (.ext 3) (mk2 W (a9 l) l (mK W l 4) ([mm1,ms1]:List Mm) n (n+1)),.lp [(0,0),(1,1),(2,2),(3,3),(4,4)] (mk3 W (a9 l) l (mK W l 4) ([mm1,ms1]:List Mm) n 0) (.ext 5) (mk3 W (a9 l) l (mK W l 4) ([mm1,ms1]:List Mm) n n)] [(0,3),(1,4),(2,5)] (.agg [aI W, aI (a9 l), aI 6, aI (mK W l 4).r0, aI (mK W l 4).r1, aI (mK W l 4).r2, aI (mK W l 4).r3,.own 0 0 3 0 ([mm1,ms1]:List Mm).length,.own 1 0 2 0 (lbL (n+1)).length,.own 2 0 9 0 (inL l n n).length]) [mmB ([mm1,ms1]:List Mm),lbB (lbL (n+1)),inB (inL l n n)]):=aj (cD l (cj (kC l 0 (by omega)) (cj (mh W l n hW1 hW hn1 hn) (cD l (cj (kC l 0 (by omega)) (cj (pv ((0:Int)<=1)) (cj (pv ((3:Int)≠0)) (cj (mg W l n hW1 hW hn1 hn) (cj (rf l.length) (cj (rr l.length 1 fun i j=>aI (l.getD i 0)) (cj hW1 (hZ l (cj (ed W (a9 l) l hW) (dW l (cj (kC l 1 (by omega)) (cj (pv ((0:Int)<=8)) (cj (ki W l hW1 c1t) (cj (pv ((32:Nat)<=140737488355328∧(1:Nat)<=140737488355328)) (cj (cE W l hW1 c2t) (cj (cE W l hW1 c2t) (dW l (cj (kC l 1 (by omega)) (cj (cE W l hW1 c2t) (cj (pv ((0:Int)<=10)) (cj (cE W l hW1 c2t) (cj (cE W l hW1 c2t) (cj (cE W l hW1 c2t) (cj (xp W l hW1 c3f) (dW l (cj (kC l 1 (by omega)) (cj (pv ((0:Int)<=12)) (cj (cS W l hW1 c4t) (cj (cS W l hW1 c4t) (cj (cS W l hW1 c4t) (cj (cS W l hW1 c4t) (cj (qF W l n hW1 hW hn1 hn) (cj (cS W l hW1 c4t) (cj (cS W l hW1 c4t) (cj (dk W l hW1 c5t) (cj (dk W l hW1 c5t) (cj (dk W l hW1 c5t) (cj (dk W l hW1 c5t) (cj (dk W l hW1 c5t) (cj (e0 (1:Nat) 0) (cj (e0 (1:Nat) 0) (cj (e0 (1:Nat) 0) (cj (pv ((0:Int)<=0∧(0:Int)<(1:Nat))) (cj (e0 (1:Nat) 0) (cj (e0 (1:Nat) 0) (cj (pv ((0:Nat)<1)) (cj (e0 (1:Nat) 0) (cj (dk W l hW1 c5t) (cj (e0 (1:Nat) 0) (cj (dk W l hW1 c5t) (cj (pv ((0:Nat)=0∧(1:Nat)=1∧(64:Nat)<=140737488355328∧(2:Nat)<=140737488355328)) (cD l (cj (kC l 0 (by omega)) (cj (pv ((0:Int)<=12)) (cj (mf W l n hW1 hW hn1 hn) (fy W l (CU (cj (Da) (cj (rf (0:Nat)) (cj hn1 (cj (rf (0:Int)) (cj (ec W (a9 l) l (mK W l 4) ([mm1,ms1]:List Mm) n hn) (fy W l (CV n (mc n (cj (d9 W (a9 l) l (mK W l 4) ([mm1,ms1]:List Mm) n hn) (CW W l n (CX W l n (cj (rf ((inL l n n).length)) trivial)))))))))))))))))))))))))))))))))))))))))))))))))))))))))))))))))))))))))
theorem xo(W:Int)(l:List Int)(hW1:bits .and .i64 (kN l 0) 1+1=W)(c3t:(bits .and .i64 (Int.fdiv (kN l 1) (2^10)) 3==0)=true):(Go.bits Go.BinOp.and IntKind.i64 (Int.fdiv (kN l (1:Nat)) ((2:Int)^(10:Nat))) (3:Int)==(0:Int))=true:=by first |exact c3t | (rw[hW1];exact c3t)| (simpa [hW1] using c3t)
theorem xn: ∀(i:Nat),i<1-> ∀(j:Nat),j<3->(bif Nat.ble (2:Nat) j&&Nat.blt j (3:Nat)&&Nat.beq i (0:Nat) then List.getD [aI 2] (j-2) AV.junk else List.getD [AV.str (ByteArray.mk (Array.mk [(109:UInt8)])),AV.bool false,aI 1] ((i+0)*3+j) AV.junk)=ao mmC [mm2] i j:=(fun i hi j hj=>match i,hi,j,hj with |0,_,0,_=>rfl |0,_,1,_=>rfl |0,_,2,_=>rfl)
theorem ww(W:Int)(l:List Int)(n:Nat){Z:Prop}(z:Z):(RF (1:Nat) (RR 1 3 (fun i j=>ao mmC [mm2] i j) (RF ((lbL (n+1)).length) (RR ((lbL (n+1)).length) 2 (fun i j=>ao lbC (lbL (n+1)) i j) (RF ((inL l n n).length) (RR ((inL l n n).length) 9 (fun i j=>ao inC (inL l n n) i j) (RF W (RF (a9 l) (RF (6:Int) Z))))))))):=⟨rfl,fun _ _ _ _=>rfl,rfl,fun _ _ _ _=>rfl,rfl,fun _ _ _ _=>rfl,rfl,rfl,rfl,z⟩
theorem wv(n:Nat){Z:Prop}(z:Z):(RF (0:Nat) (RF (1:Nat) (RF (0:Nat) (RF ((lbL (n+1)).length) (RF (0:Nat) (RF (0:Nat) (RF (1:Nat) (RR 1 3 (fun i j=>ao mmC [mm2] i j) (RF ((lbL (n+1)).length) Z))))))))):=⟨rfl,rfl,rfl,rfl,rfl,rfl,rfl,fun _ _ _ _=>rfl,rfl,z⟩
theorem ye(W:Int)(l:List Int)(n:Nat)(hW1:bits .and .i64 (kN l 0) 1+1=W)(hW:1<=W∧W<=2)(hn1:bits .and .i64 (Int.fdiv (kN l 0) (2^12)) 3+2=(n:Int))(hn:n<6)(c1t:(decide (bits .and .i64 (Int.fdiv (kN l 1) (2^8)) 3>0))=true)(c2t:(W==1)=true)(c3t:(bits .and .i64 (Int.fdiv (kN l 1) (2^10)) 3==0)=true)(c4f:(decide (bits .and .i64 (Int.fdiv (kN l 1) (2^12)) 3>0))=false):Vc (vF_ 6 [.row 1 l.length (cQ l)] [dI l,dI l,.lp [(0,0),(1,1),(2,2)] (mk1 W (a9 l) l ⟨0,0,0,0,0,0⟩ 0) (.ext 0) (mk1 W (a9 l) l (mK W l 4) 4),dJ l,.b true,.b true,.b true,dJ l,.b true,.b true,.b true,.b true,.b true,dJ l,.b false,.b false,.b false,.b false,.b false,.b false,dI l,.lp [(0,0),(1,1),(2,2),(3,4)] (mk2 W (a9 l) l (mK W l 4) ([mm2]:List Mm) n 0) (.ext 3) (mk2 W (a9 l) l (mK W l 4) ([mm2]:List Mm) n (n+1)),.lp [(0,0),(1,1),(2,2),(3,3),(4,4)] (mk3 W (a9 l) l (mK W l 4) ([mm2]:List Mm) n 0) (.ext 5) (mk3 W (a9 l) l (mK W l 4) ([mm2]:List Mm) n n)] [(0,3),(1,4),(2,5)] (.agg [aI W, aI (a9 l), aI 6, aI (mK W l 4).r0, aI (mK W l 4).r1, aI (mK W l 4).r2, aI (mK W l 4).r3,.own 0 0 3 0 ([mm2]:List Mm).length,.own 1 0 2 0 (lbL (n+1)).length,.own 2 0 9 0 (inL l n n).length]) [mmB ([mm2]:List Mm),lbB (lbL (n+1)),inB (inL l n n)]):=aj (cD l (cj (kC l 0 (by omega)) (cj (mh W l n hW1 hW hn1 hn) (cD l (cj (kC l 0 (by omega)) (cj (pv ((0:Int)<=1)) (cj (pv ((3:Int)≠0)) (cj (mg W l n hW1 hW hn1 hn) (cj (rf l.length) (cj (rr l.length 1 fun i j=>aI (l.getD i 0)) (cj hW1 (hZ l (cj (ed W (a9 l) l hW) (dW l (cj (kC l 1 (by omega)) (cj (pv ((0:Int)<=8)) (cj (ki W l hW1 c1t) (cj (pv ((32:Nat)<=140737488355328∧(1:Nat)<=140737488355328)) (cj (cE W l hW1 c2t) (cj (cE W l hW1 c2t) (dW l (cj (kC l 1 (by omega)) (cj (cE W l hW1 c2t) (cj (pv ((0:Int)<=10)) (cj (cE W l hW1 c2t) (cj (cE W l hW1 c2t) (cj (cE W l hW1 c2t) (cj (xo W l hW1 c3t) (cj (pv ((0:Int)<=0∧(0:Int)<(1:Nat))) (cj (pv ((0:Nat)<1)) (dW l (cj (kC l 1 (by omega)) (cj (pv ((0:Int)<=12)) (cj (fA W l hW1 c4f) (cj (fA W l hW1 c4f) (cj (fA W l hW1 c4f) (cj (fA W l hW1 c4f) (cj (fA W l hW1 c4f) (cj (fA W l hW1 c4f) (cD l (cj (kC l 0 (by omega)) (cj (pv ((0:Int)<=12)) (cj (mf W l n hW1 hW hn1 hn) (fy W l (lH (cj (xn) (cj (rf (0:Nat)) (cj hn1 (cj (rf (0:Int)) (cj (ec W (a9 l) l (mK W l 4) ([mm2]:List Mm) n hn) (fy W l (wv n (mc n (cj (d9 W (a9 l) l (mK W l 4) ([mm2]:List Mm) n hn) (ww W l n (lI W l n (cj (rf ((inL l n n).length)) trivial)))))))))))))))))))))))))))))))))))))))))))))))))))))))))
theorem vn(W:Int)(l:List Int)(n:Nat)(hW1:bits .and .i64 (kN l 0) 1+1=W)(hW:1<=W∧W<=2)(hn1:bits .and .i64 (Int.fdiv (kN l 0) (2^12)) 3+2=(n:Int))(hn:n<6)(c1t:(decide (bits .and .i64 (Int.fdiv (kN l 1) (2^8)) 3>0))=true)(c2t:(W==1)=true)(c3t:(bits .and .i64 (Int.fdiv (kN l 1) (2^10)) 3==0)=true)(c4t:(decide (bits .and .i64 (Int.fdiv (kN l 1) (2^12)) 3>0))=true)(c5f:(decide ((mK W l 4).s+W<=3))=false):Vc (vF_ 6 [.row 1 l.length (cQ l)] [dI l,dI l,.lp [(0,0),(1,1),(2,2)] (mk1 W (a9 l) l ⟨0,0,0,0,0,0⟩ 0) (.ext 0) (mk1 W (a9 l) l (mK W l 4) 4),dJ l,.b true,.b true,.b true,dJ l,.b true,.b true,.b true,.b true,.b true,dJ l,.b true,.b true,.b true,.b true,.b true,.b true,.b false,.b false,.b false,.b false,.b false,.b false,.b false,dI l,.lp [(0,0),(1,1),(2,2),(3,4)] (mk2 W (a9 l) l (mK W l 4) ([mm2]:List Mm) n 0) (.ext 3) (mk2 W (a9 l) l (mK W l 4) ([mm2]:List Mm) n (n+1)),.lp [(0,0),(1,1),(2,2),(3,3),(4,4)] (mk3 W (a9 l) l (mK W l 4) ([mm2]:List Mm) n 0) (.ext 5) (mk3 W (a9 l) l (mK W l 4) ([mm2]:List Mm) n n)] [(0,3),(1,4),(2,5)] (.agg [aI W, aI (a9 l), aI 6, aI (mK W l 4).r0, aI (mK W l 4).r1, aI (mK W l 4).r2, aI (mK W l 4).r3,.own 0 0 3 0 ([mm2]:List Mm).length,.own 1 0 2 0 (lbL (n+1)).length,.own 2 0 9 0 (inL l n n).length]) [mmB ([mm2]:List Mm),lbB (lbL (n+1)),inB (inL l n n)]):=aj (cD l (cj (kC l 0 (by omega)) (cj (mh W l n hW1 hW hn1 hn) (cD l (cj (kC l 0 (by omega)) (cj (pv ((0:Int)<=1)) (cj (pv ((3:Int)≠0)) (cj (mg W l n hW1 hW hn1 hn) (cj (rf l.length) (cj (rr l.length 1 fun i j=>aI (l.getD i 0)) (cj hW1 (hZ l (cj (ed W (a9 l) l hW) (dW l (cj (kC l 1 (by omega)) (cj (pv ((0:Int)<=8)) (cj (ki W l hW1 c1t) (cj (pv ((32:Nat)<=140737488355328∧(1:Nat)<=140737488355328)) (cj (cE W l hW1 c2t) (cj (cE W l hW1 c2t) (dW l (cj (kC l 1 (by omega)) (cj (cE W l hW1 c2t) (cj (pv ((0:Int)<=10)) (cj (cE W l hW1 c2t) (cj (cE W l hW1 c2t) (cj (cE W l hW1 c2t) (cj (xo W l hW1 c3t) (cj (pv ((0:Int)<=0∧(0:Int)<(1:Nat))) (cj (pv ((0:Nat)<1)) (dW l (cj (kC l 1 (by omega)) (cj (pv ((0:Int)<=12)) (cj (cS W l hW1 c4t) (cj (cS W l hW1 c4t) (cj (cS W l hW1 c4t) (cj (cS W l hW1 c4t) (cj (qF W l n hW1 hW hn1 hn) (cj (cS W l hW1 c4t) (cj (cS W l hW1 c4t) (cj (dl W l hW1 c5f) (cj (dl W l hW1 c5f) (cj (dl W l hW1 c5f) (cj (dl W l hW1 c5f) (cj (dl W l hW1 c5f) (cj (dl W l hW1 c5f) (cj (dl W l hW1 c5f) (cD l (cj (kC l 0 (by omega)) (cj (pv ((0:Int)<=12)) (cj (mf W l n hW1 hW hn1 hn) (fy W l (lH (cj (xn) (cj (rf (0:Nat)) (cj hn1 (cj (rf (0:Int)) (cj (ec W (a9 l) l (mK W l 4) ([mm2]:List Mm) n hn) (fy W l (wv n (mc n (cj (d9 W (a9 l) l (mK W l 4) ([mm2]:List Mm) n hn) (ww W l n (lI W l n (cj (rf ((inL l n n).length)) trivial)))))))))))))))))))))))))))))))))))))))))))))))))))))))))))))))))
theorem vm(W:Int)(l:List Int)(n:Nat)(hW1:bits .and .i64 (kN l 0) 1+1=W)(hW:1<=W∧W<=2)(hn1:bits .and .i64 (Int.fdiv (kN l 0) (2^12)) 3+2=(n:Int))(hn:n<6)(c1t:(decide (bits .and .i64 (Int.fdiv (kN l 1) (2^8)) 3>0))=true)(c2t:(W==1)=true)(c3t:(bits .and .i64 (Int.fdiv (kN l 1) (2^10)) 3==0)=true)(c4t:(decide (bits .and .i64 (Int.fdiv (kN l 1) (2^12)) 3>0))=true)(c5t:(decide ((mK W l 4).s+W<=3))=true):Vc (vF_ 6 [.row 1 l.length (cQ l)] [dI l,dI l,.lp [(0,0),(1,1),(2,2)] (mk1 W (a9 l) l ⟨0,0,0,0,0,0⟩ 0) (.ext 0) (mk1 W (a9 l) l (mK W l 4) 4),dJ l,.b true,.b true,.b true,dJ l,.b true,.b true,.b true,.b true,.b true,dJ l,.b true,.b true,.b true,.b true,.b true,.b true,.b true,.b true,.b true,.b true,.b true,.b false,.b false,.b false,.b false,.b false,.b false,.b true,.b false,.b true,dI l,.lp [(0,0),(1,1),(2,2),(3,4)] (mk2 W (a9 l) l (mK W l 4) ([mm2]:List Mm) n 0) (.ext 3) (mk2 W (a9 l) l (mK W l 4) ([mm2]:List Mm) n (n+1)),.lp [(0,0),(1,1),(2,2),(3,3),(4,4)] (mk3 W (a9 l) l (mK W l 4) ([mm2]:List Mm) n 0) (.ext 5) (mk3 W (a9 l) l (mK W l 4) ([mm2]:List Mm) n n)] [(0,3),(1,4),(2,5)] (.agg [aI W, aI (a9 l), aI 6, aI (mK W l 4).r0, aI (mK W l 4).r1, aI (mK W l 4).r2, aI (mK W l 4).r3,.own 0 0 3 0 ([mm2]:List Mm).length,.own 1 0 2 0 (lbL (n+1)).length,.own 2 0 9 0 (inL l n n).length]) [mmB ([mm2]:List Mm),lbB (lbL (n+1)),inB (inL l n n)]):=aj (cD l (cj (kC l 0 (by omega)) (cj (mh W l n hW1 hW hn1 hn) (cD l (cj (kC l 0 (by omega)) (cj (pv ((0:Int)<=1)) (cj (pv ((3:Int)≠0)) (cj (mg W l n hW1 hW hn1 hn) (cj (rf l.length) (cj (rr l.length 1 fun i j=>aI (l.getD i 0)) (cj hW1 (hZ l (cj (ed W (a9 l) l hW) (dW l (cj (kC l 1 (by omega)) (cj (pv ((0:Int)<=8)) (cj (ki W l hW1 c1t) (cj (pv ((32:Nat)<=140737488355328∧(1:Nat)<=140737488355328)) (cj (cE W l hW1 c2t) (cj (cE W l hW1 c2t) (dW l (cj (kC l 1 (by omega)) (cj (cE W l hW1 c2t) (cj (pv ((0:Int)<=10)) (cj (cE W l hW1 c2t) (cj (cE W l hW1 c2t) (cj (cE W l hW1 c2t) (cj (xo W l hW1 c3t) (cj (pv ((0:Int)<=0∧(0:Int)<(1:Nat))) (cj (pv ((0:Nat)<1)) (dW l (cj (kC l 1 (by omega)) (cj (pv ((0:Int)<=12)) (cj (cS W l hW1 c4t) (cj (cS W l hW1 c4t) (cj (cS W l hW1 c4t) (cj (cS W l hW1 c4t) (cj (qF W l n hW1 hW hn1 hn) (cj (cS W l hW1 c4t) (cj (cS W l hW1 c4t) (cj (dk W l hW1 c5t) (cj (dk W l hW1 c5t) (cj (dk W l hW1 c5t) (cj (dk W l hW1 c5t) (cj (dk W l hW1 c5t) (cj (e0 (1:Nat) 0) (cj (e0 (1:Nat) 0) (cj (e0 (1:Nat) 0) (cj (pv ((0:Int)<=0∧(0:Int)<(1:Nat))) (cj (e0 (1:Nat) 0) (cj (e0 (1:Nat) 0) (cj (pv ((0:Nat)<1)) (cj (e0 (1:Nat) 0) (cj (dk W l hW1 c5t) (cj (e0 (1:Nat) 0) (cj (dk W l hW1 c5t) (cD l (cj (kC l 0 (by omega)) (cj (pv ((0:Int)<=12)) (cj (mf W l n hW1 hW hn1 hn) (fy W l (lH (cj (xn) (cj (rf (0:Nat)) (cj hn1 (cj (rf (0:Int)) (cj (ec W (a9 l) l (mK W l 4) ([mm2]:List Mm) n hn) (fy W l (wv n (mc n (cj (d9 W (a9 l) l (mK W l 4) ([mm2]:List Mm) n hn) (ww W l n (lI W l n (cj (rf ((inL l n n).length)) trivial))))))))))))))))))))))))))))))))))))))))))))))))))))))))))))))))))))))))))
def wN(l:List Int):Int:=bits .and .i64 (kN l 0) 1+1
def nN(l:List Int):Nat:=(bits .and .i64 (Int.fdiv (kN l 0) (2^12)) 3+2).toNat
def msA(c1 c2 c3 c4 c5:Bool):List Mm:=bif c1 then(bif c2 then(bif c3 then[mm2] else(bif c4 then(bif c5 then[mm1,ms1] else[mm1]) else[mm1])) else(bif c4 then(bif c5 then[mm1,ms1] else[mm1]) else[mm1])) else(bif c4 then(bif c5 then[ms1] else[]) else[])
def On(W:Int)(n:Nat)(l:List Int)(c1 c2 c3 c4 c5:Bool):Pg:=⟨W,a9 l,6,(mK W l 4).r0,(mK W l 4).r1,(mK W l 4).r2,(mK W l 4).r3,msA c1 c2 c3 c4 c5,lbL (n+1),inL l n n⟩
def bz(l:List Int):Pg:=On (wN l) (nN l) l (decide (bits .and .i64 (Int.fdiv (kN l 1) (2^8)) 3>0)) ((wN l)==1) (bits .and .i64 (Int.fdiv (kN l 1) (2^10)) 3==0) (decide (bits .and .i64 (Int.fdiv (kN l 1) (2^12)) 3>0)) (decide ((mK (wN l) l 4).s+wN l<=3))
theorem Jy(l:List Int):wN l=1∨wN l=2:=by
 have hb1:bits .and .i64 (kN l 0) 1=kN l 0%2:=Wd.bits_mask (kN l 0) 1 (by omega)
 unfold wN
 omega
theorem Dw(l:List Int):2<=nN l∧nN l<=5∧bits .and .i64 (Int.fdiv (kN l 0) (2^12)) 3+2=((nN l:Nat):Int):=by
 have hb2:bits .and .i64 (Int.fdiv (kN l 0) (2^12)) 3=Int.fdiv (kN l 0) (2^12)%4:=Wd.bits_mask _ 2 (by omega)
 unfold nN
 omega
theorem mkC(l:List Int):pC_ 6 [.row 1 l.length (cQ l)] (.agg (pgA (bz l))) []:=by
 have hWW:=Jy l
 have hnn:=Dw l
 unfold bz
 obtain⟨W,hW1⟩: ∃W,wN l=W:=⟨_,rfl⟩
 obtain⟨n,hn0⟩: ∃n,nN l=n:=⟨_,rfl⟩
 rw[hW1] at hWW
 rw[hn0] at hnn
 rw[hW1,hn0]
 have hW:1<=W∧W<=2:=by omega
 obtain⟨_,hn5,hn1⟩:=hnn
 have hn:n<6:=by omega
 unfold wN at hW1
 cases c1:decide (bits .and .i64 (Int.fdiv (kN l 1) (2^8)) 3>0) with
 |false=>
  have c1f:=c1
  cases c4:decide (bits .and .i64 (Int.fdiv (kN l 1) (2^12)) 3>0) with
  |false=>exact(PureC.vc (F5 W l n hW1 hW hn1 hn c1f c4)).frozen
  |true=>
   cases c5:decide ((mK W l 4).s+W<=3) with
   |false=>exact(PureC.vc (Bj W l n hW1 hW hn1 hn c1f c4 c5)).frozen
   |true=>exact(PureC.vc (Bi W l n hW1 hW hn1 hn c1f c4 c5)).frozen
 |true=>
  have c1t:=c1
  cases c2:(W==1) with
  |false=>
   have c2f:=c2
   cases c4:decide (bits .and .i64 (Int.fdiv (kN l 1) (2^12)) 3>0) with
   |false=>exact(PureC.vc (Bh W l n hW1 hW hn1 hn c1t c2f c4)).frozen
   |true=>
    cases c5:decide ((mK W l 4).s+W<=3) with
    |false=>exact(PureC.vc (yh W l n hW1 hW hn1 hn c1t c2f c4 c5)).frozen
    |true=>exact(PureC.vc (yg W l n hW1 hW hn1 hn c1t c2f c4 c5)).frozen
  |true=>
   have c2t:=c2
   cases c3:(bits .and .i64 (Int.fdiv (kN l 1) (2^10)) 3==0) with
   |false=>
    have c3f:=c3
    cases c4:decide (bits .and .i64 (Int.fdiv (kN l 1) (2^12)) 3>0) with
    |false=>exact(PureC.vc (yf W l n hW1 hW hn1 hn c1t c2t c3f c4)).frozen
    |true=>
     cases c5:decide ((mK W l 4).s+W<=3) with
     |false=>exact(PureC.vc (vp W l n hW1 hW hn1 hn c1t c2t c3f c4 c5)).frozen
     |true=>exact(PureC.vc (vo W l n hW1 hW hn1 hn c1t c2t c3f c4 c5)).frozen
   |true=>
    have c3t:=c3
    cases c4:decide (bits .and .i64 (Int.fdiv (kN l 1) (2^12)) 3>0) with
    |false=>exact(PureC.vc (ye W l n hW1 hW hn1 hn c1t c2t c3t c4)).frozen
    |true=>
     cases c5:decide ((mK W l 4).s+W<=3) with
     |false=>exact(PureC.vc (vn W l n hW1 hW hn1 hn c1t c2t c3t c4 c5)).frozen
     |true=>exact(PureC.vc (vm W l n hW1 hW hn1 hn c1t c2t c3t c4 c5)).frozen
theorem C3(y m:Int)(hm:0<m):0<=tmN y m∧tmN y m<m:=tG y m hm
theorem DI(y:Int):0<=bits .and .i64 y 3∧bits .and .i64 y 3<4:=by
 obtain⟨q,h1,h2⟩:=r8 y
 omega
theorem wP(x:Int):okV (vlN x):=by
 unfold vlN
 split
 ·exact fun h=>by cases h
 ·exact fun _=>DI x
theorem cz(k:Nat)(x:Int)(n:Nat)(hk:1<=k∧k<=11):OkI (dh k x n) n:=by
 have h14:=DI (x2 x 14)
 have ha:=wP (x2 x 8)
 have hb:=wP (x2 x 11)
 have ht:=C3 (x2 x 18) (n+1) (by omega)
 match k,hk with
 |1,_=>exact⟨⟨show(1:Int)<=1 by decide,show(1:Int)<=12 by decide⟩,ha,hb,h14,show(0:Int)<=0 by decide,by show(0:Int)<=_;omega⟩
 |2,_=>exact⟨⟨show(1:Int)<=2 by decide,show(2:Int)<=12 by decide⟩,ha,hb,h14,show(0:Int)<=0 by decide,by show(0:Int)<=_;omega⟩
 |3,_=>exact⟨⟨show(1:Int)<=3 by decide,show(3:Int)<=12 by decide⟩,ha,hb,h14,show(0:Int)<=0 by decide,by show(0:Int)<=_;omega⟩
 |4,_=>exact⟨⟨show(1:Int)<=4 by decide,show(4:Int)<=12 by decide⟩,ha,hb,h14,show(0:Int)<=0 by decide,by show(0:Int)<=_;omega⟩
 |5,_=>exact⟨⟨show(1:Int)<=5 by decide,show(5:Int)<=12 by decide⟩,ha,hb,⟨show(0:Int)<=0 by decide,show(0:Int)<4 by decide⟩,ht.1,by show tmN _ _<=_;omega⟩
 |6,_=>exact⟨⟨show(1:Int)<=6 by decide,show(6:Int)<=12 by decide⟩,k0,k0,⟨show(0:Int)<=0 by decide,show(0:Int)<4 by decide⟩,ht.1,by show tmN _ _<=_;omega⟩
 |7,_=>exact⟨⟨show(1:Int)<=7 by decide,show(7:Int)<=12 by decide⟩,ha,k0,⟨show(0:Int)<=0 by decide,show(0:Int)<4 by decide⟩,show(0:Int)<=0 by decide,by show(0:Int)<=_;omega⟩
 |8,_=>exact⟨⟨show(1:Int)<=8 by decide,show(8:Int)<=12 by decide⟩,k0,k0,⟨show(0:Int)<=0 by decide,show(0:Int)<4 by decide⟩,ht.1,by show tmN _ _<=_;omega⟩
 |9,_=>exact⟨⟨show(1:Int)<=9 by decide,show(9:Int)<=12 by decide⟩,k0,k0,⟨show(0:Int)<=0 by decide,show(0:Int)<4 by decide⟩,show(0:Int)<=0 by decide,by show(0:Int)<=_;omega⟩
 |10,_=>exact⟨⟨show(1:Int)<=10 by decide,show(10:Int)<=12 by decide⟩,k0,k0,⟨show(0:Int)<=0 by decide,show(0:Int)<4 by decide⟩,show(0:Int)<=0 by decide,by show(0:Int)<=_;omega⟩
 |11,_=>exact⟨⟨show(1:Int)<=11 by decide,show(11:Int)<=12 by decide⟩,k0,k0,⟨show(0:Int)<=0 by decide,show(0:Int)<4 by decide⟩,show(0:Int)<=0 by decide,by show(0:Int)<=_;omega⟩
 |0,h=>exact absurd h.1 (by omega)
 |k+12,h=>exact absurd h.2 (by omega)
theorem BK(x:Int)(n:Nat):OkI (iS x n) n∧(iS x n).kind<=11:=by
 have h:=C3 x 18 (by omega)
 unfold iS
 obtain⟨q,e⟩: ∃q:Nat,tmN x 18=(q:Int):=⟨(tmN x 18).toNat,by omega⟩
 have hq:q<18:=by omega
 rw[e,aC]
 match q,hq with
 |0,_=>exact⟨cz 1 x n (by decide),by show(1:Int)<=11;decide⟩
 |1,_=>exact⟨cz 1 x n (by decide),by show(1:Int)<=11;decide⟩
 |2,_=>exact⟨cz 2 x n (by decide),by show(2:Int)<=11;decide⟩
 |3,_=>exact⟨cz 2 x n (by decide),by show(2:Int)<=11;decide⟩
 |4,_=>exact⟨cz 2 x n (by decide),by show(2:Int)<=11;decide⟩
 |5,_=>exact⟨cz 3 x n (by decide),by show(3:Int)<=11;decide⟩
 |6,_=>exact⟨cz 3 x n (by decide),by show(3:Int)<=11;decide⟩
 |7,_=>exact⟨cz 4 x n (by decide),by show(4:Int)<=11;decide⟩
 |8,_=>exact⟨cz 5 x n (by decide),by show(5:Int)<=11;decide⟩
 |9,_=>exact⟨cz 5 x n (by decide),by show(5:Int)<=11;decide⟩
 |10,_=>exact⟨cz 5 x n (by decide),by show(5:Int)<=11;decide⟩
 |11,_=>exact⟨cz 6 x n (by decide),by show(6:Int)<=11;decide⟩
 |12,_=>exact⟨cz 7 x n (by decide),by show(7:Int)<=11;decide⟩
 |13,_=>exact⟨cz 8 x n (by decide),by show(8:Int)<=11;decide⟩
 |14,_=>exact⟨cz 9 x n (by decide),by show(9:Int)<=11;decide⟩
 |15,_=>exact⟨cz 10 x n (by decide),by show(10:Int)<=11;decide⟩
 |16,_=>exact⟨cz 11 x n (by decide),by show(11:Int)<=11;decide⟩
 |17,_=>exact⟨cz 1 x n (by decide),by show(1:Int)<=11;decide⟩
 |_+18,h=>exact absurd h (by omega)
theorem yD(l:List Int)(n:Nat): ∀k, ∀i∈inL l n k,OkI i n∧i.kind<=11
 |0,i,hi=>by cases hi
 |k+1,i,hi=>by
  rcases a8.1 hi with h |h
  ·exact yD l n k i h
  ·rw[aG.1 h];exact BK _ _
theorem F4(c1 c2 c3 c4 c5:Bool):aP (msA c1 c2 c3 c4 c5)<=3∧(msA c1 c2 c3 c4 c5).length<=2:=by
 cases c1<;>cases c2<;>cases c3<;>cases c4<;>cases c5<;>decide
theorem eO(l:List Int):OkP (bz l):=by
 have hnn:=Dw l
 have hm:=F4 (decide (bits .and .i64 (Int.fdiv (kN l 1) (2^8)) 3>0)) ((wN l)==1) (bits .and .i64 (Int.fdiv (kN l 1) (2^10)) 3==0) (decide (bits .and .i64 (Int.fdiv (kN l 1) (2^12)) 3>0)) (decide ((mK (wN l) l 4).s+wN l<=3))
 have e:(bz l).is.length=nN l:=gV _ _ _
 refine⟨fun i hi=> ?_,by rw[e];omega,Nat.lt_of_le_of_lt hm.2 (by omega),b8 hm.1 (by omega)⟩
 rw[e]
 exact(yD _ _ _ i hi).1
def plF(p:Pg):List Pl:=places (rg p.r0 p.r1 p.r2 p.r3) p.ms
def plR(l:List Pl):AV:= .row 3 l.length (ao plC l)
def rsS(p:Pg)(pl:List Pl)(l:List Int)(s:S7)(k:Nat):Sm:=⟨[(1,lR l),(2,pgP p),(4,.bptr 0 0),(5,.bool false),(6,plR pl),(7,.bptr 1 0),(8,.int .i64 k)],
 [(0,bx 31 (stZ .nils)),(1,bx 31 (stC s (.own 2 0 1 0 s.m.length))),(2,fw s.m)],3⟩
theorem z6(p:Pg)(pl:List Pl)(k:Nat){Z:Prop}(z:Z):(RF p.is.length (RR p.is.length 9 (fun i j=>ao inC p.is i j) (RF false (RF pl.length (RR pl.length 3 (fun i j=>ao plC pl i j) (RF ((k:Int)+1) Z)))))):=⟨rfl,fun _ _ _ _=>rfl,rfl,rfl,fun _ _ _ _=>rfl,rfl,z⟩
theorem wt(p:Pg){Z:Prop}(z:Z):(RF p.fuel (RF p.r0 (RF p.r1 (RF p.r2 (RF p.r3 (RF p.ms.length (RR p.ms.length 3 (fun i j=>ao mmC p.ms i j) (RF p.ls.length (RR p.ls.length 2 (fun i j=>ao lbC p.ls i j) Z))))))))):=⟨rfl,rfl,rfl,rfl,rfl,rfl,fun _ _ _ _=>rfl,rfl,fun _ _ _ _=>rfl,z⟩
theorem wq(p:Pg)(l:List Int)(s:S7){Z:Prop}(z:Z):(RF (0:Nat) (RF s.m.length (RF (0:Int) (RF s.m.length (RR s.m.length 1 (fun i j=>aI (s.m.getD i 0)) (RF l.length (RR l.length 1 (fun i j=>aI (l.getD i 0)) (RF p.W (RF p.win Z))))))))):=⟨rfl,rfl,rfl,rfl,fun _ _ _ _=>rfl,rfl,fun _ _ _ _=>rfl,rfl,rfl,z⟩
abbrev x9(p:Pg)(l:List Int)(k:Nat):Orc:= .cl [aI p.W, aI (l.getD k 0)] (aI (Wd.maskV p.W (l.getD k 0))) []
theorem AM(p:Pg)(pl:List Pl)(l:List Int)(s:S7)(k:Nat)(hk:k<pl.length)(hl:l.length=pl.length)(hp:pl.length<1000000)(hr:(pl.getD k default).reg=true)(hn:(pl.getD k default).n=0):Vc (vC_ 25 0 (rsS p pl l s k) [.b true,x9 p l k,.b true,.ix 0] .nrm [(0,0),(1,1),(2,2)] (rsS p pl l {s with r0:=Wd.maskV p.W (l.getD k 0)} (k+1))):=aj (cj (dt ((k:Int)<pl.length)) (cj (bi k l.length) (cj (rf p.W) (cj (rf (l.getD k 0)) (cj (bI p.W (l.getD k 0)) (cj (bi k pl.length) (cj hr (cj (bi k pl.length) (cj (show(↑((pl.getD k default).n):Int)=((0:Nat):Int) from(congrArg Int.ofNat hn)) (cj (i6 (k+1)) (cj (rf (0:Int)) (cj (rf (0:Int)) (cj (rf (0:Int)) (cj (rf (0:Int)) (cj (rf (0:Int)) (cj (rf (Wd.maskV p.W (l.getD k 0))) (cj (rf s.r1) (cj (rf s.r2) (cj (rf s.r3) (wq p l s (wt p (z6 p pl k trivial))))))))))))))))))))))
theorem AL(p:Pg)(pl:List Pl)(l:List Int)(s:S7)(k:Nat)(hk:k<pl.length)(hl:l.length=pl.length)(hp:pl.length<1000000)(hr:(pl.getD k default).reg=true)(hn:(pl.getD k default).n=1):Vc (vC_ 25 0 (rsS p pl l s k) [.b true,x9 p l k,.b true,.ix 1] .nrm [(0,0),(1,1),(2,2)] (rsS p pl l {s with r1:=Wd.maskV p.W (l.getD k 0)} (k+1))):=aj (cj (dt ((k:Int)<pl.length)) (cj (bi k l.length) (cj (rf p.W) (cj (rf (l.getD k 0)) (cj (bI p.W (l.getD k 0)) (cj (bi k pl.length) (cj hr (cj (bi k pl.length) (cj (show(↑((pl.getD k default).n):Int)=((1:Nat):Int) from(congrArg Int.ofNat hn)) (cj (i6 (k+1)) (cj (rf (0:Int)) (cj (rf (0:Int)) (cj (rf (0:Int)) (cj (rf (0:Int)) (cj (rf (0:Int)) (cj (rf s.r0) (cj (rf (Wd.maskV p.W (l.getD k 0))) (cj (rf s.r2) (cj (rf s.r3) (wq p l s (wt p (z6 p pl k trivial))))))))))))))))))))))
theorem AK(p:Pg)(pl:List Pl)(l:List Int)(s:S7)(k:Nat)(hk:k<pl.length)(hl:l.length=pl.length)(hp:pl.length<1000000)(hr:(pl.getD k default).reg=true)(hn:(pl.getD k default).n=2):Vc (vC_ 25 0 (rsS p pl l s k) [.b true,x9 p l k,.b true,.ix 2] .nrm [(0,0),(1,1),(2,2)] (rsS p pl l {s with r2:=Wd.maskV p.W (l.getD k 0)} (k+1))):=aj (cj (dt ((k:Int)<pl.length)) (cj (bi k l.length) (cj (rf p.W) (cj (rf (l.getD k 0)) (cj (bI p.W (l.getD k 0)) (cj (bi k pl.length) (cj hr (cj (bi k pl.length) (cj (show(↑((pl.getD k default).n):Int)=((2:Nat):Int) from(congrArg Int.ofNat hn)) (cj (i6 (k+1)) (cj (rf (0:Int)) (cj (rf (0:Int)) (cj (rf (0:Int)) (cj (rf (0:Int)) (cj (rf (0:Int)) (cj (rf s.r0) (cj (rf s.r1) (cj (rf (Wd.maskV p.W (l.getD k 0))) (cj (rf s.r3) (wq p l s (wt p (z6 p pl k trivial))))))))))))))))))))))
theorem AJ(p:Pg)(pl:List Pl)(l:List Int)(s:S7)(k:Nat)(hk:k<pl.length)(hl:l.length=pl.length)(hp:pl.length<1000000)(hr:(pl.getD k default).reg=true)(hn:(pl.getD k default).n=3):Vc (vC_ 25 0 (rsS p pl l s k) [.b true,x9 p l k,.b true,.ix 3] .nrm [(0,0),(1,1),(2,2)] (rsS p pl l {s with r3:=Wd.maskV p.W (l.getD k 0)} (k+1))):=aj (cj (dt ((k:Int)<pl.length)) (cj (bi k l.length) (cj (rf p.W) (cj (rf (l.getD k 0)) (cj (bI p.W (l.getD k 0)) (cj (bi k pl.length) (cj hr (cj (bi k pl.length) (cj (show(↑((pl.getD k default).n):Int)=((3:Nat):Int) from(congrArg Int.ofNat hn)) (cj (i6 (k+1)) (cj (rf (0:Int)) (cj (rf (0:Int)) (cj (rf (0:Int)) (cj (rf (0:Int)) (cj (rf (0:Int)) (cj (rf s.r0) (cj (rf s.r1) (cj (rf s.r2) (cj (rf (Wd.maskV p.W (l.getD k 0))) (wq p l s (wt p (z6 p pl k trivial))))))))))))))))))))))
theorem IU(p:Pg)(l:List Int){Z:Prop}(z:Z):(RF l.length (RR l.length 1 (fun i j=>aI (l.getD i 0)) (RF p.W (RF p.win (RF p.fuel (RF p.r0 (RF p.r1 (RF p.r2 (RF p.r3 Z))))))))):=⟨rfl,fun _ _ _ _=>rfl,rfl,rfl,rfl,rfl,rfl,rfl,rfl,z⟩
theorem IR(s:S7){Z:Prop}(z:Z):(RF (0:Int) (RF (0:Int) (RF (0:Int) (RF (0:Int) (RF (0:Int) (RF s.r0 (RF s.r1 (RF s.r2 (RF s.r3 Z))))))))):=⟨rfl,rfl,rfl,rfl,rfl,rfl,rfl,rfl,rfl,z⟩
theorem Ff(p:Pg)(pl:List Pl)(l:List Int)(s:S7)(k:Nat)(hk:k<pl.length)(hl:l.length=pl.length)(hp:pl.length<1000000)(hr:(pl.getD k default).reg=false)(hn:(pl.getD k default).n<s.m.length):Vc (vC_ 25 0 (rsS p pl l s k) [.b true,x9 p l k,.b false] .nrm [(0,0),(1,1),(2,2)] (rsS p pl l {s with m:=s.m.set (pl.getD k default).n (Wd.maskV p.W (l.getD k 0))} (k+1))):=aj (cj (dt ((k:Int)<pl.length)) (cj (bi k l.length) (cj (rf p.W) (cj (rf (l.getD k 0)) (cj (bI p.W (l.getD k 0)) (cj (bi k pl.length) (cj hr (cj (bi k pl.length) (cj (show(0:Int)<=(↑((pl.getD k default).n):Int)∧(↑((pl.getD k default).n):Int)<(↑s.m.length:Int) from⟨Int.natCast_nonneg _,Int.ofNat_lt.2 hn⟩) (cj hn (cj (i6 (k+1)) (IR s (cj (rf (0:Nat)) (cj (show s.m.length=(List.set s.m (pl.getD k default).n (Wd.maskV p.W (l.getD k 0))).length from az.symm) (cj (rf (0:Int)) (cj (show s.m.length=(List.set s.m (pl.getD k default).n (Wd.maskV p.W (l.getD k 0))).length from az.symm) (cj (show ∀(i:Nat),i<s.m.length-> ∀(j:Nat),j<1->(bif Nat.ble (0:Nat) j&&Nat.blt j (1:Nat)&&Nat.beq i ((pl.getD k default).n+0) then List.getD [aI (Wd.maskV p.W (l.getD k 0))] (j-0) AV.junk else aI (s.m.getD i 0))=aI (List.getD (List.set s.m (pl.getD k default).n (Wd.maskV p.W (l.getD k 0))) i 0) from gI) (IU p l (cj (rf p.ms.length) (cj (rr p.ms.length 3 fun i j=>ao mmC p.ms i j) (cj (rf p.ls.length) (cj (rr p.ls.length 2 fun i j=>ao lbC p.ls i j) (cj (rf p.is.length) (cj (rr p.is.length 9 fun i j=>ao inC p.is i j) (cj (rf false) (cj (rf pl.length) (cj (rr pl.length 3 fun i j=>ao plC pl i j) (cj (rf ((k:Int)+1)) trivial))))))))))))))))))))))))))))
theorem Fg(p:Pg)(pl:List Pl)(l:List Int)(s:S7):Vc (vC_ 25 0 (rsS p pl l s pl.length) [.b false] (.ext 0) [(0,0),(1,1),(2,2)] (rsS p pl l s pl.length)):=aj (cj (df ((pl.length:Int)<pl.length)) (IR s (wq p l s (wt p (cj (rf p.is.length) (cj (rr p.is.length 9 fun i j=>ao inC p.is i j) (cj (rf false) (cj (rf pl.length) (cj (rr pl.length 3 fun i j=>ao plC pl i j) (cj (rf (pl.length:Int)) trivial))))))))))
theorem AN(p:Pg)(pl:List Pl)(l:List Int)(s:S7)(hl:l.length=pl.length)(hp:pl.length<1000000)(ho: ∀x∈pl,FM s.m.length x):oL_ 25 0 (rsS p pl l s 0).st (.ext 0) (rsS p pl l (pL p.W pl l s pl.length) pl.length).st:=
 Ok.loop (P:=Tryz.prog) (nt:=bY Tryz.prog 25) (c:=lpC Tryz.prog 25 0) (F:=fun k=>rsS p pl l (pL p.W pl l s k) k) (m:=pl.length) (x:= .ext 0) (J:=rsS p pl l (pL p.W pl l s pl.length) pl.length) (fun k hk=>by
  have hm:=qW p.W pl l s k
  obtain⟨h1,h2⟩:=ho _ (yJ hk)
  show Ok _ _ _ _ _ (rsS p pl l (qY (pL p.W pl l s k) (pl.getD k default) (Wd.maskV p.W (l.getD k 0))) (k+1)).st
  cases hr:(pl.getD k default).reg with
  |true=>
   have hn:=h1 hr
   unfold qY
   rw[aq hr]
   match hq:(pl.getD k default).n,hn with
   |0,_=>exact Ok.vc (AM p pl l _ k hk hl hp hr hq)
   |1,_=>exact Ok.vc (AL p pl l _ k hk hl hp hr hq)
   |2,_=>exact Ok.vc (AK p pl l _ k hk hl hp hr hq)
   |3,_=>exact Ok.vc (AJ p pl l _ k hk hl hp hr hq)
  |false=>
   have hn:=h2 hr
   unfold qY
   rw[an (by rw[hr];simp)]
   exact Ok.vc (Ff p pl l _ k hk hl hp hr (by rw[hm];exact hn))) (Ok.vc (Fg p pl l _)) (by simp)
def stK(p:Pg)(l:List Int):S7:=pL p.W (plF p) l (qn (aP p.ms)) (plF p).length
theorem pA(p:Pg)(l:List Int):(stK p l).m.length=aP p.ms:=by simp[stK,qW,qn]
theorem pO{p:Pg}(h:OkP p):(plF p).length<=20:=by
 have:=oq (rg p.r0 p.r1 p.r2 p.r3) p.ms
 have:=h.sum
 unfold plF
 omega
theorem FN(p:Pg): ∀x∈plF p,FM (aP p.ms) x:=u9 _ _
theorem J7(p:Pg):aP p.ms=(List.replicate (aP p.ms) (0:Int)).length:=by simp[qn,pA]
theorem sk{Z:Prop}(z:Z):(RF (0:Int) (RF (0:Int) (RF (0:Int) (RF (0:Int) (RF (0:Int) (RF (0:Int) (RF (0:Int) (RF (0:Int) (RF (0:Int) Z))))))))):=⟨rfl,rfl,rfl,rfl,rfl,rfl,rfl,rfl,rfl,z⟩
theorem D1(p:Pg){Z:Prop}(z:Z):(RF p.W (RF p.r0 (RF p.r1 (RF p.r2 (RF p.r3 (RF p.ms.length (RR p.ms.length 3 (fun i j=>ao mmC p.ms i j) Z))))))):=⟨rfl,rfl,rfl,rfl,rfl,rfl,fun _ _ _ _=>rfl,z⟩
theorem Fe(p:Pg)(l:List Int)(hP:OkP p)(hl:l.length=(plF p).length):Vc (vF_ 25 [.agg (pgA p),lR l] [.fz,.cl [.agg (bn p.W p.r0 p.r1 p.r2 p.r3 (bU p.ms))] (plR (plF p)) [],.b false,.cl [.agg (bn p.W p.r0 p.r1 p.r2 p.r3 (bU p.ms))] (aI (aP p.ms)) [],.lp [(0,1),(1,3),(2,2)] (rsS p (plF p) l (qn (aP p.ms)) 0) (.ext 0) (rsS p (plF p) l (stK p l) (plF p).length)] [(0,2)] (.tup [.agg (stC (stK p l) (.own 0 0 1 0 (stK p l).m.length)),.bool true]) [fw (stK p l).m]):=aj (D1 p (cj (oT p.W p.r0 p.r1 p.r2 p.r3 p.ms (by have:=hP.ms;omega) (by have:=hP.sum;omega)).frozen (cj (show((l.length:Int) !=(↑((plF p).length):Int))=false from by rw[hl];simp) (D1 p (cj (xC p.W p.r0 p.r1 p.r2 p.r3 p.ms (by have:=hP.ms;omega) (by have:=hP.sum;omega)) (cj (show(0:Int)<=(↑(aP p.ms):Int)∧(↑(aP p.ms):Int)<=(↑(aP p.ms):Int)∧(↑(aP p.ms):Int)*((8:Nat):Int)<=140737488355328∧(↑(aP p.ms):Int)<=140737488355328 from by have:=hP.sum;omega) (sk (cj (rf (0:Nat)) (cj (J7 p) (cj (rf (0:Int)) (cj (J7 p) (cj (show ∀(i:Nat),i<aP p.ms-> ∀(j:Nat),j<1->List.getD [aI 0] j AV.junk=aI (List.getD (List.replicate (aP p.ms) 0) i 0) from(fun i hi j hj=>(match j,hj with |0,_=>qP rfl i 0 (by simpa using hi)))) (IU p l (cj (rf p.ms.length) (cj (rr p.ms.length 3 fun i j=>ao mmC p.ms i j) (cj (rf p.ls.length) (cj (rr p.ls.length 2 fun i j=>ao lbC p.ls i j) (cj (rf p.is.length) (cj (rr p.is.length 9 fun i j=>ao inC p.is i j) (cj (rf false) (cj (rf ((plF p).length)) (cj (rr ((plF p).length) 3 fun i j=>ao plC (plF p) i j) (cj (rf (0:Int)) (cj (show oL_ 25 0 (rsS p (plF p) l (qn (aP p.ms)) 0).st (.ext 0) (rsS p (plF p) l (stK p l) (plF p).length).st from AN p (plF p) l _ hl (by have:=pO hP;omega) (by simpa [qn] using FN p)) (cj (rf ((stK p l).m.length)) (cj (rr ((stK p l).m.length) 1 fun i j=>aI (List.getD (stK p l).m i 0)) (cj (rf ((stK p l).r0)) (cj (rf ((stK p l).r1)) (cj (rf ((stK p l).r2)) (cj (rf ((stK p l).r3)) (cj (rf (0:Nat)) (cj (rf ((stK p l).m.length)) (cj (rf (0:Int)) (cj (rf true) trivial))))))))))))))))))))))))))))))))))
theorem tO(p:Pg)(l:List Int)(hP:OkP p)(hl:l.length=(plF p).length):pC_ 25 [.agg (pgA p),lR l] (.tup [.agg (stC (stK p l) (.own 0 0 1 0 (stK p l).m.length)),.bool true]) [fw (stK p l).m]:=PureC.vc (Fe p l hP hl)
def xSt(pl:List Pl)(l:List Int)(how:Int):Nat->List Int
 |0=>List.replicate pl.length 0
 |k+1=>if k<l.length then(xSt pl l how k).set k (l.getD k 0) else xSt pl l how k
def ySt(pl:List Pl)(l:List Int)(how:Int):Nat->List Int
 |0=>List.replicate pl.length 0
 |k+1=>if k<l.length then(if(pl.getD k default).sec=true∨bits .and .i64 how 7=0 then((ySt pl l how k).set k (l.getD k 0)).set k (Int.fdiv (l.getD k 0) (2^4)) else(ySt pl l how k).set k (l.getD k 0)) else ySt pl l how k
def ssS(p:Pg)(pl:List Pl)(l X Y:List Int)(how:Int)(k:Nat):Sm:=⟨[(1,lR l),(2,.int .i64 how),(3,pgP p),(6,.bptr 0 0),(7,.bptr 1 0),(8,plR pl),(9,.own 2 0 1 0 X.length),(10,.own 3 0 1 0 Y.length),(25,.int .i64 pl.length),(26,.int .i64 k)],
 [(0,bx 31 (stZ .nils)),(1,bx 31 (stZ .nils)),(2,fw X),(3,fw Y)],4⟩
theorem xh{m:List Int}{n:Nat}{u v:Int}: ∀i,i<m.length-> ∀j,j<1->(bif Nat.ble 0 j&&Nat.blt j 1&&Nat.beq i (n+0) then[AV.int .i64 v].getD (j-0) .junk else(bif Nat.ble 0 j&&Nat.blt j 1&&Nat.beq i (n+0) then[AV.int .i64 u].getD (j-0) .junk else AV.int .i64 (m.getD i 0)))= .int .i64 (((m.set n u).set n v).getD i 0):=by
 intro i hi j hj
 obtain rfl:j=0:=by omega
 rw[n9,gI (m:=m) (n:=n) (v:=u) i hi 0 (by omega)]
 have:=gI (m:=m) (n:=n) (v:=v) i hi 0 (by omega)
 rw[<-this]
 cases hb:Nat.beq i (n+0) with
 |true=>rfl
 |false=>
  have hne: ¬i=n:=fun e=>by subst e;simp at hb
  show AV.int .i64 ((m.set n u).getD i 0)=AV.int .i64 (m.getD i 0)
  simp[List.getD,b9,Ne.symm hne]
theorem IQ(p:Pg)(pl:List Pl)(X:List Int)(Y:List Int){Z:Prop}(z:Z):(RR p.ls.length 2 (fun i j=>ao lbC p.ls i j) (RF p.is.length (RR p.is.length 9 (fun i j=>ao inC p.is i j) (RF pl.length (RR pl.length 3 (fun i j=>ao plC pl i j) (RF (0:Nat) (RF X.length (RF (0:Nat) (RF Y.length Z))))))))):=⟨fun _ _ _ _=>rfl,rfl,fun _ _ _ _=>rfl,rfl,fun _ _ _ _=>rfl,rfl,rfl,rfl,rfl,z⟩
theorem IP(p:Pg){Z:Prop}(z:Z):(RF p.win (RF p.fuel (RF p.r0 (RF p.r1 (RF p.r2 (RF p.r3 (RF p.ms.length (RR p.ms.length 3 (fun i j=>ao mmC p.ms i j) (RF p.ls.length Z))))))))):=⟨rfl,rfl,rfl,rfl,rfl,rfl,rfl,fun _ _ _ _=>rfl,rfl,z⟩
theorem IM(p:Pg)(l:List Int)(X:List Int)(Y:List Int)(how:Int){Z:Prop}(z:Z):(RF (0:Int) (RF X.length (RR X.length 1 (fun i j=>aI (X.getD i 0)) (RF Y.length (RR Y.length 1 (fun i j=>aI (Y.getD i 0)) (RF l.length (RR l.length 1 (fun i j=>aI (l.getD i 0)) (RF how (RF p.W Z))))))))):=⟨rfl,rfl,fun _ _ _ _=>rfl,rfl,fun _ _ _ _=>rfl,rfl,fun _ _ _ _=>rfl,rfl,rfl,z⟩
theorem ED(p:Pg)(pl:List Pl)(l X Y:List Int)(how:Int)(k:Nat)(hk:k<pl.length)(hX:X.length=pl.length)(hY:Y.length=pl.length)(hp:pl.length<1000)(hl: ¬k<l.length):Vc (vC_ 7 0 (ssS p pl l X Y how k) [.b true,.b false] .nrm [(0,0),(1,1),(2,2),(3,3)] (ssS p pl l X Y how (k+1))):=aj (cj (dt ((k:Int)<pl.length)) (cj (df ((k:Int)<l.length)) (cj (i6 (k+1)) (sk (IM p l X Y how (IP p (IQ p pl X Y (cj (rf (pl.length:Int)) (cj (rf ((k:Int)+1)) trivial)))))))))
theorem ET(l:List Int)(X:List Int)(k:Nat): ∀(i:Nat),i<X.length-> ∀(j:Nat),j<1->(bif Nat.ble (0:Nat) j&&Nat.blt j (1:Nat)&&Nat.beq i (k+0) then List.getD [aI (l.getD k 0)] (j-0) AV.junk else aI (X.getD i 0))=aI (List.getD (List.set X k (l.getD k 0)) i 0):=gI
theorem AC(l:List Int)(Y:List Int)(k:Nat):Y.length=(List.set (List.set Y k (l.getD k 0)) k (Int.fdiv (l.getD k 0) ((2:Int)^(4:Nat)))).length:=by simp
theorem J6(l:List Int)(Y:List Int)(k:Nat): ∀(i:Nat),i<Y.length-> ∀(j:Nat),j<1->(bif Nat.ble (0:Nat) j&&Nat.blt j (1:Nat)&&Nat.beq i (k+0) then List.getD [aI (Int.fdiv (l.getD k 0) ((2:Int)^(4:Nat)))] (j-0) AV.junk else bif Nat.ble (0:Nat) j&&Nat.blt j (1:Nat)&&Nat.beq i (k+0) then List.getD [aI (l.getD k 0)] (j-0) AV.junk else aI (Y.getD i 0))=aI (List.getD (List.set (List.set Y k (l.getD k 0)) k (Int.fdiv (l.getD k 0) ((2:Int)^(4:Nat)))) i 0):=xh
theorem ws(p:Pg)(pl:List Pl){Z:Prop}(z:Z):(RF p.r3 (RF p.ms.length (RR p.ms.length 3 (fun i j=>ao mmC p.ms i j) (RF p.ls.length (RR p.ls.length 2 (fun i j=>ao lbC p.ls i j) (RF p.is.length (RR p.is.length 9 (fun i j=>ao inC p.is i j) (RF pl.length (RR pl.length 3 (fun i j=>ao plC pl i j) Z))))))))):=⟨rfl,rfl,fun _ _ _ _=>rfl,rfl,fun _ _ _ _=>rfl,rfl,fun _ _ _ _=>rfl,rfl,fun _ _ _ _=>rfl,z⟩
theorem tm(p:Pg)(l:List Int)(how:Int){Z:Prop}(z:Z):(RF l.length (RR l.length 1 (fun i j=>aI (l.getD i 0)) (RF how (RF p.W (RF p.win (RF p.fuel (RF p.r0 (RF p.r1 (RF p.r2 Z))))))))):=⟨rfl,fun _ _ _ _=>rfl,rfl,rfl,rfl,rfl,rfl,rfl,rfl,z⟩
theorem EB(p:Pg)(pl:List Pl)(l X Y:List Int)(how:Int)(k:Nat)(hk:k<pl.length)(hX:X.length=pl.length)(hY:Y.length=pl.length)(hp:pl.length<1000)(hl:k<l.length)(hs:(pl.getD k default).sec=true):Vc (vC_ 7 0 (ssS p pl l X Y how k) [.b true,.b true,.b true,.b true,.b true,.b true,.b true] .nrm [(0,0),(1,1),(2,2),(3,3)] (ssS p pl l (X.set k (l.getD k 0)) ((Y.set k (l.getD k 0)).set k (Int.fdiv (l.getD k 0) (2^4))) how (k+1))):=aj (cj (dt ((k:Int)<pl.length)) (cj (dt ((k:Int)<l.length)) (cj (bi k l.length) (cj (bi k l.length) (cj (bi k X.length) (cj (pv (k+0<X.length)) (cj (bi k Y.length) (cj (pv (k+0<Y.length)) (cj (bi k pl.length) (cj hs (cj hs (cj hs (cj hs (cj (rf true) (cj (bi k l.length) (cj (pv ((0:Int)<=4)) (cj (bi k Y.length) (cj (pv (k+0<Y.length)) (cj (i6 (k+1)) (sk (cj (rf (0:Int)) (cj (show X.length=(List.set X k (l.getD k 0)).length from by simp) (cj (ET l X k) (cj (AC l Y k) (cj (J6 l Y k) (tm p l how (ws p pl (cj (rf (0:Nat)) (cj (show X.length=(List.set X k (l.getD k 0)).length from by simp) (cj (rf (0:Nat)) (cj (AC l Y k) (cj (rf (pl.length:Int)) (cj (rf ((k:Int)+1)) trivial)))))))))))))))))))))))))))))))))
theorem EE(p:Pg)(pl:List Pl)(l X Y:List Int)(how:Int)(k:Nat)(hk:k<pl.length)(hX:X.length=pl.length)(hY:Y.length=pl.length)(hp:pl.length<1000)(hl:k<l.length)(hs:(pl.getD k default).sec=false)(hh:bits .and .i64 how 7=0):Vc (vC_ 7 0 (ssS p pl l X Y how k) [.b true,.b true,.b false,.b false,.b false,.b false,.b true] .nrm [(0,0),(1,1),(2,2),(3,3)] (ssS p pl l (X.set k (l.getD k 0)) ((Y.set k (l.getD k 0)).set k (Int.fdiv (l.getD k 0) (2^4))) how (k+1))):=aj (cj (dt ((k:Int)<pl.length)) (cj (dt ((k:Int)<l.length)) (cj (bi k l.length) (cj (bi k l.length) (cj (bi k X.length) (cj (pv (k+0<X.length)) (cj (bi k Y.length) (cj (pv (k+0<Y.length)) (cj (bi k pl.length) (cj hs (cj hs (cj hs (cj hs (cj (show(Go.bits Go.BinOp.and IntKind.i64 how (7:Int)==(0:Int))=true from by rw[hh];rfl) (cj (bi k l.length) (cj (pv ((0:Int)<=4)) (cj (bi k Y.length) (cj (pv (k+0<Y.length)) (cj (i6 (k+1)) (sk (cj (rf (0:Int)) (cj (show X.length=(List.set X k (l.getD k 0)).length from by simp) (cj (ET l X k) (cj (AC l Y k) (cj (J6 l Y k) (tm p l how (ws p pl (cj (rf (0:Nat)) (cj (show X.length=(List.set X k (l.getD k 0)).length from by simp) (cj (rf (0:Nat)) (cj (AC l Y k) (cj (rf (pl.length:Int)) (cj (rf ((k:Int)+1)) trivial)))))))))))))))))))))))))))))))))
theorem EC(p:Pg)(pl:List Pl)(l X Y:List Int)(how:Int)(k:Nat)(hk:k<pl.length)(hX:X.length=pl.length)(hY:Y.length=pl.length)(hp:pl.length<1000)(hl:k<l.length)(hs:(pl.getD k default).sec=false)(hh: ¬bits .and .i64 how 7=0):Vc (vC_ 7 0 (ssS p pl l X Y how k) [.b true,.b true,.b false,.b false,.b false,.b false,.b false] .nrm [(0,0),(1,1),(2,2),(3,3)] (ssS p pl l (X.set k (l.getD k 0)) (Y.set k (l.getD k 0)) how (k+1))):=aj (cj (dt ((k:Int)<pl.length)) (cj (dt ((k:Int)<l.length)) (cj (bi k l.length) (cj (bi k l.length) (cj (bi k X.length) (cj (pv (k+0<X.length)) (cj (bi k Y.length) (cj (pv (k+0<Y.length)) (cj (bi k pl.length) (cj hs (cj hs (cj hs (cj hs (cj (show(Go.bits Go.BinOp.and IntKind.i64 how (7:Int)==(0:Int))=false from by simpa using hh) (cj (i6 (k+1)) (sk (cj (rf (0:Int)) (cj (show X.length=(List.set X k (l.getD k 0)).length from by simp) (cj (ET l X k) (cj (show Y.length=(List.set Y k (l.getD k 0)).length from by simp) (cj (show ∀(i:Nat),i<Y.length-> ∀(j:Nat),j<1->(bif Nat.ble (0:Nat) j&&Nat.blt j (1:Nat)&&Nat.beq i (k+0) then List.getD [aI (l.getD k 0)] (j-0) AV.junk else aI (Y.getD i 0))=aI (List.getD (List.set Y k (l.getD k 0)) i 0) from gI) (tm p l how (ws p pl (cj (rf (0:Nat)) (cj (show X.length=(List.set X k (l.getD k 0)).length from by simp) (cj (rf (0:Nat)) (cj (show Y.length=(List.set Y k (l.getD k 0)).length from by simp) (cj (rf (pl.length:Int)) (cj (rf ((k:Int)+1)) trivial)))))))))))))))))))))))))))))
theorem EF(p:Pg)(pl:List Pl)(l X Y:List Int)(how:Int):Vc (vC_ 7 0 (ssS p pl l X Y how pl.length) [.b false] (.ext 0) [(0,0),(1,1),(2,2),(3,3)] (ssS p pl l X Y how pl.length)):=aj (cj (df ((pl.length:Int)<pl.length)) (sk (IM p l X Y how (IP p (IQ p pl X Y (cj (rf (pl.length:Int)) (cj (rf (pl.length:Int)) trivial)))))))
theorem mu(pl:List Pl)(l:List Int)(how:Int): ∀k,(xSt pl l how k).length=pl.length
 |0=>List.length_replicate
 |k+1=>by
  unfold xSt
  split
  ·rw[az,mu pl l how k]
  ·exact mu pl l how k
theorem j9(pl:List Pl)(l:List Int)(how:Int): ∀k,(ySt pl l how k).length=pl.length
 |0=>List.length_replicate
 |k+1=>by
  unfold ySt
  split
  ·split
   ·rw[az,az,j9 pl l how k]
   ·rw[az,j9 pl l how k]
  ·exact j9 pl l how k
theorem An(p:Pg)(pl:List Pl)(l:List Int)(how:Int)(hp:pl.length<1000):oL_ 7 0 (ssS p pl l (List.replicate pl.length 0) (List.replicate pl.length 0) how 0).st (.ext 0) (ssS p pl l (xSt pl l how pl.length) (ySt pl l how pl.length) how pl.length).st:=
 Ok.loop (P:=Tryz.prog) (nt:=bY Tryz.prog 7) (c:=lpC Tryz.prog 7 0) (F:=fun k=>ssS p pl l (xSt pl l how k) (ySt pl l how k) how k) (m:=pl.length) (x:= .ext 0) (J:=ssS p pl l (xSt pl l how pl.length) (ySt pl l how pl.length) how pl.length) (fun k hk=>by
  have hX:=mu pl l how k
  have hY:=j9 pl l how k
  show Ok _ _ _ _ _ (ssS p pl l (xSt pl l how (k+1)) (ySt pl l how (k+1)) how (k+1)).st
  have ex:xSt pl l how (k+1)=if k<l.length then(xSt pl l how k).set k (l.getD k 0) else xSt pl l how k:=rfl
  have ey:ySt pl l how (k+1)=if k<l.length then(if(pl.getD k default).sec=true∨bits .and .i64 how 7=0 then((ySt pl l how k).set k (l.getD k 0)).set k (Int.fdiv (l.getD k 0) (2^4)) else(ySt pl l how k).set k (l.getD k 0)) else ySt pl l how k:=rfl
  rw[ex,ey]
  by_cases hl:k<l.length
  ·rw[aq hl,aq hl]
   cases hs:(pl.getD k default).sec with
   |true=>rw[aq (.inl rfl)];exact Ok.vc (EB p pl l _ _ how k hk hX hY hp hl hs)
   |false=>
    by_cases hh:bits .and .i64 how 7=0
    ·rw[aq (.inr hh)];exact Ok.vc (EE p pl l _ _ how k hk hX hY hp hl hs hh)
    ·rw[an (by rintro(h |h);exact absurd h (by simp);exact hh h)];exact Ok.vc (EC p pl l _ _ how k hk hX hY hp hl hs hh)
  ·rw[an hl,an hl]
   exact Ok.vc (ED p pl l _ _ how k hk hX hY hp hl)) (Ok.vc (EF p pl l _ _ how)) (by simp)
def s8S(s:S7):S8:=⟨s.r0,s.r1,s.r2,s.r3,s.m,[],0⟩
def xF(p:Pg)(l:List Int):List Int:=xSt (plF p) l 0 (plF p).length
def yF(p:Pg)(l:List Int)(how:Int):List Int:=ySt (plF p) l how (plF p).length
def sA(p:Pg)(l:List Int):S8:=s8S (stK p (xF p l))
def sB(p:Pg)(l:List Int)(how:Int):S8:=s8S (stK p (yF p l how))
theorem tu(pl:List Pl)(l:List Int)(h h':Int): ∀k,xSt pl l h k=xSt pl l h' k
 |0=>rfl
 |k+1=>by simp only[xSt,tu pl l h h' k]
theorem J5(p:Pg)(hP:OkP p):(0:Int)<=(↑((plF p).length):Int)∧(↑((plF p).length):Int)<=(↑((plF p).length):Int)∧(↑((plF p).length):Int)*((8:Nat):Int)<=140737488355328∧(↑((plF p).length):Int)<=140737488355328:=by have:=pO hP;omega
theorem AB(p:Pg):(plF p).length=(List.replicate (plF p).length (0:Int)).length:=by simp
theorem J4(p:Pg): ∀(i:Nat),i<(plF p).length-> ∀(j:Nat),j<1->List.getD [aI 0] j AV.junk=aI (List.getD (List.replicate (plF p).length 0) i 0):=(fun i hi j hj=>(match j,hj with |0,_=>qP rfl i 0 (by simpa using hi)))
theorem CT(p:Pg){Z:Prop}(z:Z):(RF p.ls.length (RR p.ls.length 2 (fun i j=>ao lbC p.ls i j) (RF p.is.length (RR p.is.length 9 (fun i j=>ao inC p.is i j) Z)))):=⟨rfl,fun _ _ _ _=>rfl,rfl,fun _ _ _ _=>rfl,z⟩
theorem CS(p:Pg){Z:Prop}(z:Z):(RF p.W (RF p.win (RF p.fuel (RF p.r0 (RF p.r1 (RF p.r2 (RF p.r3 (RF p.ms.length (RR p.ms.length 3 (fun i j=>ao mmC p.ms i j) Z))))))))):=⟨rfl,rfl,rfl,rfl,rfl,rfl,rfl,rfl,fun _ _ _ _=>rfl,z⟩
theorem JS(p:Pg)(l:List Int)(how:Int)(hP:OkP p):Vc (vF_ 7 [.agg (pgA p),lR l, aI how] [.fz,.cl [.agg (bn p.W p.r0 p.r1 p.r2 p.r3 (bU p.ms))] (plR (plF p)) [],.lp [(0,1),(1,2),(2,3),(3,4)] (ssS p (plF p) l (List.replicate (plF p).length 0) (List.replicate (plF p).length 0) how 0) (.ext 0) (ssS p (plF p) l (xSt (plF p) l how (plF p).length) (yF p l how) how (plF p).length),.cl [.agg (pgA p),lR (xSt (plF p) l how (plF p).length)] (.tup [.agg (stC (stK p (xSt (plF p) l how (plF p).length)) (lR (stK p (xSt (plF p) l how (plF p).length)).m)),.bool true]) [],.cl [.agg (pgA p),lR (yF p l how)] (.tup [.agg (stC (stK p (yF p l how)) (lR (stK p (yF p l how)).m)),.bool true]) [],.ll [4,5]] [] (.tup [.agg (stC (stK p (xSt (plF p) l how (plF p).length)) (lR (stK p (xSt (plF p) l how (plF p).length)).m)),.agg (stC (stK p (yF p l how)) (lR (stK p (yF p l how)).m))]) []):=aj (D1 p (cj (oT p.W p.r0 p.r1 p.r2 p.r3 p.ms (by have:=hP.ms;omega) (by have:=hP.sum;omega)).frozen (cj (J5 p hP) (cj (J5 p hP) (sk (cj (rf (0:Int)) (cj (AB p) (cj (J4 p) (cj (AB p) (cj (J4 p) (tm p l how (cj (rf p.r3) (cj (rf p.ms.length) (cj (rr p.ms.length 3 fun i j=>ao mmC p.ms i j) (cj (rf p.ls.length) (cj (rr p.ls.length 2 fun i j=>ao lbC p.ls i j) (cj (rf p.is.length) (cj (rr p.is.length 9 fun i j=>ao inC p.is i j) (cj (rf ((plF p).length)) (cj (rr ((plF p).length) 3 fun i j=>ao plC (plF p) i j) (cj (rf (0:Nat)) (cj (AB p) (cj (rf (0:Nat)) (cj (AB p) (cj (rf (↑((plF p).length):Int)) (cj (rf (0:Int)) (cj (An p (plF p) l how (by have:=pO hP;omega)) (CS p (CT p (cj (rf ((xSt (plF p) l how (plF p).length).length)) (cj (rr ((xSt (plF p) l how (plF p).length).length) 1 fun i j=>aI (List.getD (xSt (plF p) l how (plF p).length) i 0)) (cj (show pC_ 25 [.agg (pgA p),lR (xSt (plF p) l how (plF p).length)] (.tup [.agg (stC (stK p (xSt (plF p) l how (plF p).length)) (lR (stK p (xSt (plF p) l how (plF p).length)).m)),.bool true]) [] from(tO p (xSt (plF p) l how (plF p).length) hP (mu _ _ _ _)).frozen2) (CS p (CT p (cj (rf ((yF p l how).length)) (cj (rr ((yF p l how).length) 1 fun i j=>aI (List.getD (yF p l how) i 0)) (cj (show pC_ 25 [.agg (pgA p),lR (yF p l how)] (.tup [.agg (stC (stK p (yF p l how)) (lR (stK p (yF p l how)).m)),.bool true]) [] from(tO p (yF p l how) hP (j9 _ _ _ _)).frozen2) (cj (rf ((stK p (xSt (plF p) l how (plF p).length)).r0)) (cj (rf ((stK p (xSt (plF p) l how (plF p).length)).r1)) (cj (rf ((stK p (xSt (plF p) l how (plF p).length)).r2)) (cj (rf ((stK p (xSt (plF p) l how (plF p).length)).r3)) (cj (rf (((stK p (xSt (plF p) l how (plF p).length)).m).length)) (cj (rr (((stK p (xSt (plF p) l how (plF p).length)).m).length) 1 fun i j=>aI (List.getD ((stK p (xSt (plF p) l how (plF p).length)).m) i 0)) (cj (rf (0:Int)) (cj (rf ((stK p (yF p l how)).r0)) (cj (rf ((stK p (yF p l how)).r1)) (cj (rf ((stK p (yF p l how)).r2)) (cj (rf ((stK p (yF p l how)).r3)) (cj (rf ((stK p (yF p l how)).m.length)) (cj (rr ((stK p (yF p l how)).m.length) 1 fun i j=>aI (List.getD (stK p (yF p l how)).m i 0)) (cj (rf (0:Int)) trivial)))))))))))))))))))))))))))))))))))))))))))))))))))
theorem pz(p:Pg)(l:List Int)(how:Int)(hP:OkP p):pC_ 7 [.agg (pgA p),lR l,.int .i64 how] (.tup [.agg (s8N (sA p l)),.agg (s8N (sB p l how))]) []:=by
 have h:=PureC.vc (JS p l how hP)
 rw[tu (plF p) l how 0] at h
 exact h
def B7(s:S7):Prop:=((0<=s.r0∧s.r0<65536)∧(0<=s.r1∧s.r1<65536)∧(0<=s.r2∧s.r2<65536)∧(0<=s.r3∧s.r3<65536))∧ ∀x∈s.m,0<=x∧x<65536
theorem FJ{s:S7}(h:B7 s)(P:Pl){v:Int}(hv:0<=v∧v<65536):B7 (qY s P v):=by
 obtain⟨⟨h0,h1,h2,h3⟩,hm⟩:=h
 unfold qY
 split
 ·split
  ·exact⟨⟨hv,h1,h2,h3⟩,hm⟩
  ·split
   ·exact⟨⟨h0,hv,h2,h3⟩,hm⟩
   ·split
    ·exact⟨⟨h0,h1,hv,h3⟩,hm⟩
    ·exact⟨⟨h0,h1,h2,hv⟩,hm⟩
 ·refine⟨⟨h0,h1,h2,h3⟩,fun x hx=> ?_⟩
  rcases ct hx with h |rfl
  ·exact hm x h
  ·exact hv
theorem zz:(0:Int)<=0∧(0:Int)<65536:=by decide
theorem DJ(n:Nat):B7 (qn n):=⟨⟨zz,zz,zz,zz⟩,fun x hx=>by
 have:=(List.mem_replicate.1 hx).2
 omega⟩
theorem xM(W:Int)(pl:List Pl)(l:List Int)(s:S7)(h:B7 s): ∀k,B7 (pL W pl l s k)
 |0=>h
 |k+1=>FJ (xM W pl l s h k) _ (Wd.maskV_bd _ _)
theorem E0(p:Pg)(l:List Int):OkS ((aP p.ms:Nat):Int) p.is.length (s8S (stK p l)):=by
 obtain⟨h1,h2⟩:=xM p.W (plF p) l (qn (aP p.ms)) (DJ _) (plF p).length
 refine⟨h1,h2, ?_,⟨by show(-1:Int)<=0;decide,by show(0:Int)<=_;omega⟩,by show(0:Nat)<=100;decide,fun x hx=>by cases hx⟩
 show((aP p.ms:Nat):Int)=(((stK p l).m.length:Nat):Int)
 rw[pA]
theorem J9(p:Pg)(l:List Int):OkS ((aP p.ms:Nat):Int) p.is.length (sA p l):=E0 p _
theorem eN(l:List Int):1<=(bz l).win∧(bz l).win<=3:=by
 have h:=tG (Int.fdiv (kN l 0) (2^1)) 3 (by omega)
 show 1<=a9 l∧a9 l<=3
 unfold a9
 omega
theorem sR(m z:List Int):Inv (bz m) (beg (sA (bz m) z)):=by
 have h:=J9 (bz m) z
 have e:(sA (bz m) z).m.length=aP (bz m).ms:=pA _ _
 refine Inv.begin (e▸h) e (bb _) fun x hx=> ?_
 cases hx
def wkC(m z w:List Int):Cf:=(wkV (bz m) (sA (bz m) z) w).1
theorem gB(m z w:List Int):Inv (bz m) (wkC m z w):=tx (eO m) (by have:=eN m;omega) _ _ _ _ (sR m z)
theorem wM(m z w:List Int):pC_ 8 [.agg (pgA (bz m)),.agg (s8R (sA (bz m) z)),lR w] (.tup [.agg (cfA (wkC m z w)),drR (wkV (bz m) (sA (bz m) z) w).2]) []:=
 E1 (bz m) (sA (bz m) z) w (eO m) (by have:=eN m;omega) (sR m z)
structure Liv (p:Pg) (c:Cf):Prop where
 e:c.e=0∨c.e=1∨c.e=2
 fin: ¬c.e=0->c.b=[]∧c.r=[]
 lst:c.s.pc= -1->c.e=0-> ∃k,c.b.length=k+1∧((enX p c k).kind=11∨(enX p c k).kind=12)
 und: ∀k,k<c.b.length->(c.b.getD k default).dn=false->(enX p c k).kind≠6∧(enX p c k).kind≠8∧(enX p c k).kind≠11∧(enX p c k).kind≠12
theorem Liv.up{p:Pg}{c:Cf}(h:Liv p c)(he:c.e=0){k:Nat}(hk:k<c.b.length){e:En}(hp:e.pc=(c.b.getD k default).pc)(hd:e.dn=false->(c.b.getD k default).dn=false):Liv p ⟨c.s,c.b.set k e,c.r,c.e⟩:=by
 have hpc: ∀i,((c.b.set k e).getD i default).pc=(c.b.getD i default).pc:=fun i=>by
  rw[jc hk]
  split
  ·rename_i hi;rw[hi];exact hp
  ·rfl
 have hx: ∀i,enX p ⟨c.s,c.b.set k e,c.r,c.e⟩ i=enX p c i:=fun i=>by
  show atI p ((c.b.set k e).getD i default).pc=_
  rw[hpc];rfl
 refine⟨h.e,fun hn=>absurd he hn,fun h1 h2=> ?_,fun i hi hdn=> ?_⟩
 ·obtain⟨q,h3,h4⟩:=h.lst h1 h2
  exact⟨q,(az).trans h3,by rw[hx];exact h4⟩
 ·have hi:i<c.b.length:=by have:(c.b.set k e).length=c.b.length:=az;exact this▸hi
  rw[hx]
  refine h.und i hi ?_
  have hdn:((c.b.set k e).getD i default).dn=false:=hdn
  rw[jc hk] at hdn
  split at hdn
  ·rename_i hq;rw[hq];exact hd hdn
  ·exact hdn
theorem Liv.cut{p:Pg}{c:Cf}(h:Liv p c)(he:c.e=0)(n:Nat){t:Int}(ht:0<=t):Liv p ⟨c.s.go t,c.b.take n,c.r,c.e⟩:=by
 refine⟨h.e,fun hn=>absurd he hn,fun h1 _=> ?_,fun i hi hdn=> ?_⟩
 ·have:t= -1:=h1
  omega
 ·have hi:i<min n c.b.length:=by have:(c.b.take n).length=min n c.b.length:=aM;exact this▸hi
  have e1:(c.b.take n).getD i default=c.b.getD i default:=nF (by omega)
  have hdn:((c.b.take n).getD i default).dn=false:=hdn
  rw[e1] at hdn
  have:=h.und i (by omega) hdn
  show(atI p ((c.b.take n).getD i default).pc).kind≠6∧_
  unfold enX
  show(atI p ((c.b.take n).getD i default).pc).kind≠6∧(atI p ((c.b.take n).getD i default).pc).kind≠8∧(atI p ((c.b.take n).getD i default).pc).kind≠11∧(atI p ((c.b.take n).getD i default).pc).kind≠12
  rw[e1];exact this
theorem Liv.goV{p:Pg}{c:Cf}(h:Liv p c)(he:c.e=0){k:Nat}(hk:k<c.b.length){t:Int}(ht:0<=t):Liv p (goV c k t):=by
 unfold Px.goV
 split
 ·exact h
 ·exact(h.up he hk (e:=(c.b.getD k default).to t) rfl (fun h=>h)).cut he (k+1) ht
theorem Do{p:Pg}{c:Cf}{i:Int}(h:opV p c i=true):c.e=0:=by
 unfold opV at h
 split at h
 ·rename_i h1;exact h1.1
 ·cases h
theorem zh{p:Pg}{c:Cf}{i:Int}(h:cnV p c i=true):c.e=0:=by
 unfold cnV at h
 rw[av] at h
 exact Do h.1
theorem zo{p:Pg}{c:Cf}{i:Int}(h:caV p c i=true):c.e=0:=by
 unfold caV at h
 rw[av] at h
 exact Do h.1
theorem yx{p:Pg}(hP:OkP p){c:Cf}(h:Inv p c){k:Nat}{L:List Int}(hv:reG p c.b 0 k c.s.st=some L)(h0: ¬L.length=0):0<=bE L:=by
 have hm:bE L∈L:=by unfold bE;exact mH (by omega)
 have:=ks p c.b (fun x=>0<=x∧x<=p.is.length) k 0 c.s.st L h.stk (fun i _ hi h8=>by
  have:=(iW hP (c.b.getD i default).pc).2 (by unfold enI at h8;omega)
  omega) hv _ hm
 exact this.1
theorem Mt(c:Cf)(k:Nat)(t:Int):(Px.goV c k t).e=c.e:=by unfold Px.goV;split<;>rfl
theorem Liv.doO{p:Pg}{c c2:Cf}{o:List Ob}(hP:OkP p)(hI:Inv p c)(h:Liv p c){i:Int}(e:doO p c i=some (c2,o)):Liv p c2∧c2.e=c.e:=by
 unfold Px.doO at e
 split at e
 ·rename_i hc
  have he:=zh hc
  obtain⟨k,rfl,hk,hd,hK⟩:=jQ hc
  rw[aC,ai] at e
  obtain⟨hx,hx2⟩:=gY hP c k
  have mk: ∀g:En->En,(g (c.b.getD k default)).pc=(c.b.getD k default).pc->(g (c.b.getD k default)).dn=true->Liv p (upE c k g):=fun g h1 h2=>h.up he hk h1 (fun h3=>by rw[h2] at h3;cases h3)
  have hD:Liv p (upE c k En.done):=mk _ rfl rfl
  have hlD:(upE c k En.done).b.length=c.b.length:=az
  have go: ∀t,0<=t->Liv p (Px.goV (upE c k En.done) k t)∧(Px.goV (upE c k En.done) k t).e=c.e:=fun t ht=>⟨hD.goV he (by rw[hlD];exact hk) ht,Mt _ _ _⟩
  have hbD: ∀i,((upE c k En.done).b.getD i default).pc=(c.b.getD i default).pc:=fun i=>kY (l:=c.b) (k:=k) (g:=En.done) (fun _=>rfl) i
  unfold dmV at e
  by_cases k1:(enX p c k).kind=1
  ·rw[aq k1] at e
   cases e
   exact⟨mk _ rfl rfl,rfl⟩
  rw[an k1] at e
  by_cases k4:(enX p c k).kind=4
  ·rw[aq k4] at e
   cases e
   exact⟨mk _ rfl rfl,rfl⟩
  rw[an k4] at e
  by_cases k3:(enX p c k).kind=3
  ·rw[aq k3] at e
   cases e
   exact⟨mk _ rfl rfl,rfl⟩
  rw[an k3] at e
  by_cases k2:(enX p c k).kind=2
  ·rw[aq k2] at e
   split at e
   ·cases e
    exact⟨mk _ rfl rfl,rfl⟩
   ·cases e
    exact⟨mk _ rfl rfl,rfl⟩
  rw[an k2] at e
  by_cases k5:(enX p c k).kind=5
  ·rw[aq k5] at e
   cases e
   refine go _ ?_
   have hpc:=hx2 (by omega)
   have htg:=hx.2.2.2.2
   split
   ·omega
   ·omega
  rw[an k5] at e
  by_cases k7:(enX p c k).kind=7
  ·rw[aq k7] at e
   cases e
   refine go _ ?_
   have:=(mv (p:=p) hI.reg (hI.done k) (k:Int) (enX p c k).a).1
   unfold c9 tA
   show 0<=min (cH p c.s (upE c k En.done).b k (enX p c k).a).1 _
   omega
  rw[an k7,mA p c.s.st _ (by rw[hlD];omega),pJ p c.s.st (fun i _=>hbD i)] at e
  cases hv:reG p c.b 0 k c.s.st with
  |none=>rw[hv] at e;cases e;exact⟨mk _ rfl rfl,rfl⟩
  |some L=>
   rw[hv] at e
   by_cases h0:L.length=0
   ·have e':(if L.length=0 then((upE c k fun e=>e.done.flt,[]):Cf×List Ob) else(Px.goV (upE c k En.done) k (bE L),[⟨3,bE L⟩]))=(c2,o):=e
    rw[aq h0] at e';cases e';exact⟨mk _ rfl rfl,rfl⟩
   ·have e':(if L.length=0 then((upE c k fun e=>e.done.flt,[]):Cf×List Ob) else(Px.goV (upE c k En.done) k (bE L),[⟨3,bE L⟩]))=(c2,o):=e
    rw[an h0] at e';cases e'
    exact go _ (yx hP hI hv h0)
 ·cases e
theorem Liv.adrO{p:Pg}{c c2:Cf}{o:List Ob}(hI:Inv p c)(h:Liv p c){i:Int}(e:adrO p c i=some (c2,o)):Liv p c2∧c2.e=c.e:=by
 unfold Px.adrO at e
 split at e
 ·rename_i hc
  have he:=zo hc
  obtain⟨k,rfl,hk,hd,hK⟩:=nU hc
  rw[aC,ai] at e
  have mk: ∀g:En->En,(g (c.b.getD k default)).pc=(c.b.getD k default).pc->(g (c.b.getD k default)).dn=(c.b.getD k default).dn->Liv p (upE c k g):=fun g h1 h2=>h.up he hk h1 (fun h3=>by rw[h2] at h3;exact h3)
  unfold qi at e
  split at e
  ·cases e;exact⟨mk _ rfl rfl,rfl⟩
  ·split at e
   ·rename_i q hz
    cases e
    obtain⟨q',rfl,hq⟩:=nE hz
    refine⟨(mk (fun e=>e.ad (adV p c k (enX p c k))) rfl rfl).cut he _ ?_,rfl⟩
    rw[aC]
    have hl:q'<c.b.length:=by have:(upE c k fun e=>e.ad (adV p c k (enX p c k))).b.length=c.b.length:=az;exact this▸hq
    have e1:((upE c k fun e=>e.ad (adV p c k (enX p c k))).b.getD q' default).pc=(c.b.getD q' default).pc:=kY (l:=c.b) (k:=k) (g:=fun e=>e.ad (adV p c k (enX p c k))) (fun _=>rfl) q'
    rw[e1]
    exact(hI.be _ (cM hl)).pc.1
   ·cases e;exact⟨mk _ rfl rfl,rfl⟩
 ·cases e
theorem Liv.ftO{p:Pg}{c c2:Cf}{g:Int}(hP:OkP p)(hI:Inv p c)(h:Liv p c)(e:ftO p c g=some c2):Liv p c2∧c2.e=c.e:=by
 unfold Px.ftO at e
 split at e
 ·rename_i hg
  cases e
  obtain⟨⟨he,hp1,hw⟩,h7,h9⟩:=pU hg.1 hg.2
  have hpc:=hI.pc
  obtain⟨hx,hx2⟩:=iW hP c.s.pc
  have htg:=hx.2.2.2.2
  have key:(ftE p c g).pc=c.s.pc∧((ftE p c g).nxt= -1->(atI p c.s.pc).kind=11∨(atI p c.s.pc).kind=12)∧((ftE p c g).dn=false->(atI p c.s.pc).kind≠6∧(atI p c.s.pc).kind≠8∧(atI p c.s.pc).kind≠11∧(atI p c.s.pc).kind≠12):=by
   unfold ftE
   by_cases k5:(atI p c.s.pc).kind=5
   ·rw[aq k5]
    refine⟨rfl,fun hn=> ?_,fun _=>by omega⟩
    have hn:(if g=1 then(atI p c.s.pc).tg else c.s.pc+1)= -1:=hn
    split at hn<;>omega
   rw[an k5]
   by_cases k6:(atI p c.s.pc).kind=6
   ·rw[aq k6]
    exact⟨rfl,fun hn=>by have hn:(atI p c.s.pc).tg= -1:=hn;omega,fun hd=>by cases hd⟩
   rw[an k6]
   by_cases k7:(atI p c.s.pc).kind=7
   ·rw[aq k7]
    exact⟨rfl,fun hn=>by have hn:g= -1:=hn;omega,fun _=>by omega⟩
   rw[an k7]
   by_cases k9:(atI p c.s.pc).kind=9
   ·rw[aq k9]
    refine⟨rfl,fun hn=> ?_,fun _=>by omega⟩
    have hn:(if c.r.length=0 then g else bE c.r)= -1:=hn
    split at hn
    ·omega
    ·rename_i hr
     have:=hI.rb (bE c.r) (by unfold bE;exact mH (by omega))
     omega
   rw[an k9]
   by_cases k8:(atI p c.s.pc).kind=8
   ·rw[aq k8]
    exact⟨rfl,fun hn=>by have hn:(atI p c.s.pc).tg= -1:=hn;omega,fun hd=>by cases hd⟩
   rw[an k8]
   by_cases k1:(atI p c.s.pc).kind=11∨(atI p c.s.pc).kind=12
   ·rw[aq k1]
    exact⟨rfl,fun _=>k1,fun hd=>by cases hd⟩
   rw[an k1]
   exact⟨rfl,fun hn=>by have hn:c.s.pc+1= -1:=hn;omega,fun _=>by omega⟩
  obtain⟨kp,kn,kd⟩:=key
  have hlast:enX p (ftD p c g) c.b.length=atI p c.s.pc:=by
   show atI p ((c.b++[ftE p c g]).getD c.b.length default).pc=_
   rw[nG,kp]
  refine⟨⟨h.e,fun hn=>absurd he hn,fun h1 _=>⟨c.b.length,by show(c.b++[_]).length=_;rw[aL];rfl, ?_⟩,fun i hi hdn=> ?_⟩,rfl⟩
  ·rw[hlast];exact kn h1
  ·have hi:i<c.b.length+1:=by
    have:(c.b++[ftE p c g]).length=c.b.length+1:=by rw[aL];rfl
    exact this▸hi
   by_cases hq:i<c.b.length
   ·have e1:(c.b++[ftE p c g]).getD i default=c.b.getD i default:=mJ hq
    have hdn:((c.b++[ftE p c g]).getD i default).dn=false:=hdn
    rw[e1] at hdn
    have:=h.und i hq hdn
    show(atI p ((c.b++[ftE p c g]).getD i default).pc).kind≠6∧(atI p ((c.b++[ftE p c g]).getD i default).pc).kind≠8∧(atI p ((c.b++[ftE p c g]).getD i default).pc).kind≠11∧(atI p ((c.b++[ftE p c g]).getD i default).pc).kind≠12
    rw[e1];exact this
   ·obtain rfl:i=c.b.length:=by omega
    rw[hlast]
    have hdn:((c.b++[ftE p c g]).getD c.b.length default).dn=false:=hdn
    rw[nG] at hdn
    exact kd hdn
 ·cases e
theorem Liv.rtO{p:Pg}{c c2:Cf}(h:Liv p c)(e:rtO p c=some c2):Liv p c2:=by
 unfold Px.rtO at e
 split at e
 ·rename_i hc
  cases e
  obtain⟨h0,hl,hdn,hkn⟩:=qb hc
  have hpop: ∀s:S8,s.pc=c.s.pc-> ¬((enX p c 0).kind=11∨(enX p c 0).kind=12)->Liv p ⟨s,co c.b,c.r,c.e⟩:=fun s hs hk=>by
   have hx: ∀i,i+1<c.b.length->enX p ⟨s,co c.b,c.r,c.e⟩ i=enX p c (i+1):=fun i hi=>by
    show atI p ((co c.b).getD i default).pc=atI p (c.b.getD (i+1) default).pc
    rw[iO c.b (by omega)];rfl
   refine⟨h.e,fun hn=>absurd h0 hn,fun h1 h2=> ?_,fun i hi hd=> ?_⟩
   ·have h1:s.pc= -1:=h1
    obtain⟨q,h3,h4⟩:=h.lst (hs▸h1) h0
    cases q with
    |zero=>exact absurd h4 hk
    |succ q=>exact⟨q,by show(co c.b).length=_;rw[iN];omega,by rw[hx q (by omega)];exact h4⟩
   ·have hi:i<c.b.length-1:=by have:=iN c.b;exact this▸hi
    rw[hx i (by omega)]
    refine h.und (i+1) (by omega) ?_
    have hd:((co c.b).getD i default).dn=false:=hd
    rw[iO c.b (by omega)] at hd
    exact hd
  have hfin: ∀t q,q=1∨q=2->Liv p ⟨c.s.go t,[],[],q⟩:=fun t q hq=>
   ⟨.inr hq,fun _=>⟨rfl,rfl⟩,fun _ he=>by have he:q=0:=he;omega,fun k hk=>absurd hk (cA k)⟩
  unfold rtV
  by_cases n12:(c.b.getD 0 default).ft=true∨(enX p c 0).kind=12
  ·rw[aq n12];exact hfin _ 2 (.inr rfl)
  rw[an n12]
  by_cases k11:(enX p c 0).kind=11
  ·rw[aq k11];exact hfin _ 1 (.inl rfl)
  rw[an k11]
  have hk: ¬((enX p c 0).kind=11∨(enX p c 0).kind=12):=fun hk=>hk.elim k11 fun h=>n12 (.inr h)
  by_cases kd:dR (enX p c 0)=true
  ·rw[aq kd];exact hpop _ rfl hk
  rw[an kd]
  by_cases k3:(enX p c 0).kind=3
  ·rw[aq k3];exact hpop _ rfl hk
  rw[an k3]
  by_cases k8:(enX p c 0).kind=8
  ·rw[aq k8];exact hpop _ rfl hk
  rw[an k8]
  by_cases k9:(enX p c 0).kind=9
  ·rw[aq k9];exact hpop _ rfl hk
  rw[an k9]
  exact hpop _ rfl hk
 ·cases e
theorem Liv.sayO{p:Pg}{c c2:Cf}{o:List Ob}(hP:OkP p)(hI:Inv p c)(h:Liv p c){d:Dr}(e:sayO p c d=some (c2,o)):Liv p c2∧(d.k≠4->c2.e=c.e):=by
 unfold Px.sayO at e
 split at e
 ·cases hq:Px.ftO p c d.n with
  |none=>rw[hq] at e;cases e
  |some x=>rw[hq] at e;cases e;exact⟨(h.ftO hP hI hq).1,fun _=>(h.ftO hP hI hq).2⟩
 ·split at e
  ·exact⟨(h.doO hP hI e).1,fun _=>(h.doO hP hI e).2⟩
  ·split at e
   ·exact⟨(h.adrO hI e).1,fun _=>(h.adrO hI e).2⟩
   ·split at e
    ·rename_i h4
     split at e
     ·cases hq:Px.rtO p c with
      |none=>rw[hq] at e;cases e
      |some x=>rw[hq] at e;cases e;exact⟨h.rtO hq,fun hn=>absurd h4 hn⟩
     ·cases e
    ·cases e
theorem Liv.beg{p:Pg}{s:S8}(hs:s.pc≠ -1):Liv p (beg s):=
 ⟨.inl rfl,fun hn=>absurd rfl hn,fun h=>absurd h hs,fun k hk=>absurd hk (cA k)⟩
theorem Cg{p:Pg}{c:Cf}(he: ¬c.e=0):(da p c).length=0:=by
 have h1:gsV p c=0:=by unfold gsV;rw[aq (.inl he)]
 have h2: ∀k:Nat,aX p c [] k=[]:=fun k=>by
  induction k with
  |zero=>rfl
  |succ k ih=>unfold aX;rw[an (fun hc=>he (zh hc)),ih]
 have h3: ∀k:Nat,aA p c [] k=[]:=fun k=>by
  induction k with
  |zero=>rfl
  |succ k ih=>unfold aA;rw[an (fun hc=>he (zo hc)),ih]
 unfold da
 rw[h1,show aF (Int.toNat 0)=[] from rfl,h2,h3]
 unfold aR
 rw[an (fun hc=>he (qb hc).1)];rfl
def Lst(c:Cf)(o:List Dr):Prop:= ¬c.e=0-> ∃q d,o=q++[d]∧d.k=4
theorem tw{p:Pg}{l:List Int}(hP:OkP p)(hw:p.win<=1000)(hw1:1<=p.win): ∀j i c o,Inv p c->Liv p c->Lst c o->Liv p (wkR p l j i c o).1∧Lst (wkR p l j i c o).1 (wkR p l j i c o).2
 |0,i,c,o,hI,h,hL=>⟨h,hL⟩
 |j+1,i,c,o,hI,h,hL=>by
  unfold wkR
  split
  ·exact⟨h,hL⟩
  ·rename_i hn
   cases e:sayO p c (wkD p l c i) with
   |none=>exact⟨h,hL⟩
   |some x=>
    have hs:=h.sayO hP hI (o:=x.2) e
    have he:c.e=0:=Classical.byContradiction fun he=>hn (Cg he)
    refine tw hP hw hw1 j (i+1) x.1 _ (hI.sayO hP hw (o:=x.2) e) hs.1 fun hx=>⟨o,_,rfl, ?_⟩
    exact Classical.byContradiction fun hk=>hx ((hs.2 hk).trans he)
theorem J8(p:Pg)(z:List Int):(sA p z).pc=0:=rfl
theorem kb(m z w:List Int):Liv (bz m) (wkC m z w)∧Lst (wkC m z w) (wkV (bz m) (sA (bz m) z) w).2:=by
 have hw:=eN m
 exact tw (eO m) (by omega) (by omega) _ _ _ _ (sR m z) (Liv.beg (by rw[J8];decide)) fun hn=>absurd rfl hn
end
end Go.Proofs.YtlfldlnohmobmaaGreat.Px
namespace Go.Proofs.YtlfldlnohmobmaaGreat
section
open Go.RowKit
def Ret(v:Value)(w:World)(e:Ending)(w':World):Prop:=e= .returned v∧w=w'
theorem Ret.mk{v v':Value}{w:World}(h:v'=v):Ret v w (.returned v') w:=⟨by rw[h],rfl⟩
theorem Ret.b{X:Value}{a a':Bool}{w:World}(hx:X= .bool a')(h:a'=a):Ret (.bool a) w (.returned X) w:=⟨by rw[hx,h],rfl⟩
theorem Ret.i{X:Value}{k:IntKind}{a a':Int}{w:World}(hx:X= .int k a')(h:a'=a):Ret (.int k a) w (.returned X) w:=⟨by rw[hx,h],rfl⟩
theorem Mi:(Tryz.prog.info? 3).map (fun i=>(i.zero,i.size,i.bytes))=some (some (.int .i64 0),1,8):=by kernel_rfl
theorem Mj:(Tryz.prog.info? 5).map (fun i=>(i.zero,i.size,i.bytes))=some (some (.int .u8 0),1,1):=by kernel_rfl
end
section
namespace Cd
def nrB(n:Int):Bool:=decide (-1<=n)&&decide (n<=253)
theorem nrB_iff{n:Int}:nrB n=true↔ -1<=n∧n<=253:=by simp[nrB]
theorem nrB_not{n:Int}:nrB n=false↔n< -1∨253<n:=by
 cases h:nrB n
 ·simp[nrB] at h;simp;omega
 ·have:=nrB_iff.1 h;simp;omega
def byteAt(n:Int)(k:Nat):Int:=n%18446744073709551616/2^(8*(7-k))%256
def eight(n:Int):List Int:=(List.range 8).map (byteAt n)
def putN(n:Int):List Int:=if nrB n=true then[n+1] else 255::eight n
def putL:List Int->List Int
 | []=>[]
 |n::l=>putN n++putL l
def isI(xs:List Int):Prop:= ∀x∈xs, -9223372036854775808<=x∧x<9223372036854775808
theorem eight_len(n:Int):(eight n).length=8:=by simp[eight]
theorem xL(n:Int):(putN n).length=if nrB n=true then 1 else 9:=by
 unfold putN;split<;>simp[eight_len]
theorem qV(l m:List Int):putL (l++m)=putL l++putL m:=by
 induction l with
 |nil=>rfl
 |cons n l ih=>simp[putL,ih]
theorem putL_snoc(l:List Int)(n:Int):putL (l++[n])=putL l++putN n:=by rw[qV];simp[putL]
theorem putL_len_le(l:List Int):(putL l).length<=9*l.length:=by
 induction l with
 |nil=>simp[putL]
 |cons n l ih=>
  have:=xL n
  simp only[putL,aL,fk]
  split at this<;>omega
end Cd
end
section
open Go.RowKit
theorem s4(m:Int)(k:Nat)(h:k<8):(Cd.eight m).take (k+1)=(Cd.eight m).take k++[Cd.byteAt m k]:=by
 rw[List.take_succ_eq_append_getElem (by rw[Cd.eight_len];exact h)]
 simp[Cd.eight]
theorem rZ(m:Int)(k:Nat):IntKind.u64.wrap m/2^(8*(7-k))%256=Cd.byteAt m k:=by unfold Cd.byteAt;rw[IntKind.wrap_u64]
theorem RetOwn.mk{B:Nat}{t:TypeId}{xs ys:List Value}{n:Nat}{w w':World}{v:Value}(h:w'.ownsRow B t 1 v n ys)(he:ys=xs)(hb:Below B w w'):RetOwn B t xs w (.returned v) w':=by
 subst he
 have:=tT h
 subst this
 exact⟨v,rfl,h,hb⟩
theorem GG{l:List Int}(h:Cd.isI l){k:Nat}(hk:k<l.length): -9223372036854775808<=l.getD k 0∧l.getD k 0<9223372036854775808:=by
 have:=h l[k] (fl hk)
 simpa [List.getD,hk] using this
theorem uK(l:List Int)(k:Nat)(h:k<l.length):l.take (k+1)=l.take k++[l.getD k 0]:=by
 rw[List.take_succ_eq_append_getElem h]
 simp[List.getD,h]
theorem zq(m:Int)(k:Nat)(h0:0<=m)(h1:m<9223372036854775808):m/2^(8*(7-k))%256=Cd.byteAt m k:=by
 rw[<-rZ,IntKind.wrap_u64,Int.emod_eq_of_lt h0 (by omega)]
set_option maxHeartbeats 2000000 in
theorem xE(A:Option Addr)(n c:Nat)(l:List Int)(w:World)(hn:n=l.length)(hx:Rd w w.heap.size A (l.map (Value.int .i64)))(hl:Cd.isI l)(hs:n<=1000000):
  Calls Tryz.prog 35 #[.slice A n c] w (RetOwn w.heap.size 5 ((Cd.putL l).map (Value.int .u8)) w):=by
 subst hn
 obtain⟨i0,hi0,hz0,hs0,hb0⟩:=info_parts Mj
 go_enter Tryz.func35,Tryz.ntmps35
 go_wp2
 go_loopw [3,4] (fun v i wr=> ∃k:Nat,k<=l.length∧i= .int .i64 k∧wr.ownsRow w.heap.size 5 1 v ((Cd.putL (l.take k)).map (Value.int .u8)).length ((Cd.putL (l.take k)).map (Value.int .u8))∧Below w.heap.size w wr) (fun _ i _=>l.length-(intOf i).toNat)
 case atStart=>exact⟨0,by omega,rfl,by simpa [Cd.putL] using World.ownsRow_nil _ _ _ _,Below.refl _ _⟩
 case round=>
  obtain⟨k,hk,rfl,hown2,hb2⟩:=hrel
  have hs2:=hb2.size
  by_cases hlt:k<l.length
  ·have hx2:=hx.below hb2 (by omega)
   obtain⟨ad,rfl,hb,hc⟩:=hx2.at_ (k:=k) hlt
   obtain⟨z1,z2⟩:=GG hl hlt
   have hlen:((Cd.putL (l.take k)).map (Value.int .u8)).length<=9000000:=by
    rw[dj]
    have:=Cd.putL_len_le (l.take k)
    rw[aM] at this
    omega
   have hst:=uK l k hlt
   generalize l.getD k 0=m at hc z1 z2 hst
   have hst2:(Cd.putL (l.take (k+1))).map (Value.int .u8)=(Cd.putL (l.take k)).map (Value.int .u8)++(Cd.putN m).map (Value.int .u8):=by rw[hst,Cd.putL_snoc,List.map_append]
   have HST:=Lib.hid hst2
   clear hst hst2
   generalize hX:(Cd.putL (l.take k)).map (Value.int .u8)=X at hown2 hlen HST
   clear hX
   cases hnr:Cd.nrB m
   ·have hp:(Cd.putN m).map (Value.int .u8)=[Value.int .u8 255]++(Cd.eight m).map (Value.int .u8):=by simp[Cd.putN,hnr]
    have HP:=Lib.hid hp
    have hm:=Cd.nrB_not.1 hnr
    clear hp hnr
    by_cases hm1: -1<=m
    all_goals
     first | (have hm2:253<m:=by omega)| (have hm2:m< -1:=by omega)
     clear hm
     obtain⟨wo,rfl⟩: ∃wo:World,wo=wr:=⟨_,rfl⟩
     go_wp2_with (at_builtin;refine pw _ rfl (.tmp 29) (.tmp 30) _ rfl w.heap.size 5 i0 _ 1 Tryz.underlying46 hi0 hz0 hs0 hb0 rfl _ _ _ rfl hown2 (.int .u8 255) rfl rfl (by omega) (by omega) hs2 ?_;intro v1 w1 hown1 hb1)
     go_loopw [3,6] (fun v i w4=> ∃j:Nat,j<=8∧i= .int .i64 (7-j)∧w4.ownsRow w.heap.size 5 1 v (X.length+1+j) ((X++[Value.int .u8 255])++((Cd.eight m).take j).map (Value.int .u8))∧Below w.heap.size wo w4) (fun _ i _=>(intOf i+1).toNat)
     case atStart=>exact⟨0,by omega,rfl,by simpa using hown1,hb1⟩
     case round=>
      obtain⟨j,hj,rfl,hown5,hb5⟩:=hrel
      have hs5:=hb5.size
      by_cases hjt:j<8
      ·go_wp2_with (at_builtin;refine pw _ rfl (.tmp 36) (.tmp 44) _ rfl w.heap.size 5 i0 _ 1 Tryz.underlying46 hi0 hz0 hs0 hb0 rfl _ _ _ rfl hown5 _ rfl rfl (by omega) (by omega) (by omega) ?_;intro v6 w6 hown6 hb6)
       go_round
       case rel=>
        refine⟨j+1,by omega,by go_num, ?_,hb5.trans hb6⟩
        rw[s4 m j hjt,List.map_append,lE,List.map_nil, <-cO]
        first |rw[rZ] at hown6 |rw[zq m j (by omega) (by omega)] at hown6
        exact hown6
       case measure=>simp[intOf];omega
      ·have:j=8:=by omega
       subst this
       go_wp2
       go_round
       case rel=>
        refine⟨k+1,by omega,by go_num, ?_,hb2.trans hb5⟩
        rw[HST.out,HP.out]
        rw[List.take_of_length_le (by rw[Cd.eight_len];omega),cO] at hown5
        have:=tT hown5
        rw[this];exact hown5
       case measure=>simp[intOf];omega
   ·have hm:=Cd.nrB_iff.1 hnr
    obtain⟨hm1,hm2⟩:=hm
    have hp:(Cd.putN m).map (Value.int .u8)=[Value.int .u8 (m+1)]:=by simp[Cd.putN,hnr]
    have HP:=Lib.hid hp
    clear hp hnr
    go_wp2_with (at_builtin;refine pw _ rfl (.tmp 23) (.tmp 27) _ rfl w.heap.size 5 i0 _ 1 Tryz.underlying46 hi0 hz0 hs0 hb0 rfl _ _ _ rfl hown2 (.int .u8 (m+1)) rfl rfl (by omega) (by omega) hs2 ?_;intro v1 w1 hown1 hb1)
    go_round
    case rel=>exact⟨k+1,by omega,by go_num,by rw[HST.out,HP.out];simpa using hown1,hb2.trans hb1⟩
    case measure=>simp[intOf];omega
  ·go_wp2
   go_ret
   have hk:k=l.length:=by omega
   subst hk
   rw[List.take_of_length_le (by omega)] at hown2
   exact⟨_,rfl,hown2,hb2⟩
end
end Go.Proofs.YtlfldlnohmobmaaGreat
namespace Go.Proofs.YtlfldlnohmobmaaGreat.Px
section
open Go.RowKit Go.Proofs.YtlfldlnohmobmaaGreat.Rx
def PartOk(a:AV)(l:List Int):Prop:=(a= .nils∧l=[])∨ ∃g,a= .row 1 l.length g∧ ∀i,i<l.length->g i 0= .int .i64 (l.getD i 0)
theorem PartOk.nil:PartOk .nils []:= .inl ⟨rfl,rfl⟩
theorem PartOk.row(l:List Int):PartOk (.row 1 l.length (cQ l)) l:= .inr ⟨_,rfl,fun _ _=>rfl⟩
theorem PartOk.rep{w:World}{R:Nat->Prop}{a:AV}{l:List Int}{v:Value}(h:PartOk a l)(hr:RepP w R a v)(hR: ∀g,R g->g<w.heap.size): ∃A c,v= .slice A l.length c∧Rd w w.heap.size A (l.map (Value.int .i64)):=by
 rcases h with⟨rfl,rfl⟩|⟨g,rfl,hg⟩
 ·cases hr with
  |nils=>exact⟨none,0,rfl,Rd.nil⟩
 ·obtain⟨A,c,e,_,_,h⟩:=hr.ints hR rfl hg
  exact⟨A,c,e,h⟩
theorem tV{args:List AV}{vs:Array Value}{a:AV}(h:args=[a])(hl:args.length=vs.size){w:World}{R:Nat->Prop}(ha: ∀(j:Nat) a v,args[j]? =some a->vs[j]? =some v->RepP w R a v): ∃v,vs= #[v]∧RepP w R a v:=by
 subst h
 obtain⟨vs⟩:=vs
 match vs,hl with
 | [v],_=>exact⟨v,rfl,ha 0 a v rfl rfl⟩
def PT(l:List Int):Blk:=⟨0,false,5,.rows 1 l.length (Kj l)⟩
def bR(l:List Int):AV:= .row 1 l.length (Kj l)
theorem Kh{a:AV}{l:List Int}(h:PartOk a l)(hl:l.length<=1000000)(hi:Cd.isI l):pC_ 35 [a] (.own 0 0 1 0 (Cd.putL l).length) [PT (Cd.putL l)]:=
 PureC.ofOwn (k:= .u8) (l:=Cd.putL l) rfl (fun _ _=>rfl) fun w R vs hR hn ha=>by
  obtain⟨v,rfl,hv⟩:=tV rfl hn ha
  obtain⟨A,c,rfl,hr⟩:=h.rep hv hR
  exact xE A _ c l w rfl hr hi hl
def coK(c:Cf):Nat->List Int
 |0=>[(c.b.length:Int)]
 |k+1=>coK c k++enN (c.b.getD k default)
def coL(c:Cf):List Int:=((coK c c.b.length++[(c.r.length:Int)])++c.r)++[c.e]
theorem zj(c:Cf): ∀k,ciK c k=fQ c.s++coK c k
 |0=>rfl
 |k+1=>by rw[ciK,coK,zj c k,cO]
theorem G9(c:Cf):ciL c=fQ c.s++coL c:=by
 unfold ciL coL;rw[zj];simp only[cO]
def flE(b:List En):List Int:=b.flatMap enN
theorem zg(c:Cf): ∀k,k<=c.b.length->coK c k=(c.b.length:Int)::flE (c.b.take k)
 |0,_=>rfl
 |k+1,h=>by
  have e:c.b.take (k+1)=c.b.take k++[c.b.getD k default]:=by
   rw[List.take_add_one,au,aJ (by omega)];rfl
  rw[coK,zg c k (by omega),e]
  unfold flE
  simp
theorem G7(c:Cf):coL c=(c.b.length:Int)::(flE c.b++((c.r.length:Int)::(c.r++[c.e]))):=by
 unfold coL
 rw[zg c _ (aB _),mo]
 simp
theorem G8(c:Cf):ciL c=c.s.r0::c.s.r1::c.s.r2::c.s.r3::(c.s.m.length:Int)::(c.s.m++((c.s.st.length:Int)::(c.s.st++(c.s.pc::(c.b.length:Int)::(flE c.b++((c.r.length:Int)::(c.r++[c.e]))))))):=by
 rw[G9,G7]
 simp[fQ]
theorem ga{x:Int}(h1: -1000000<=x)(h2:x<=1000000): -9223372036854775808<=x∧x<9223372036854775808:=by omega
theorem BJ{p:Pg}{c:Cf}(hP:OkP p)(hw:p.win<=1000)(h:Inv p c)(he:0<=c.e∧c.e<10):Cd.isI (ciL c):=by
 have hl:=hP.len
 have hs:=hP.sum
 obtain⟨h0,h1,h2,h3⟩:=h.reg
 have hml:=h.ml
 have hst:=h.st
 have hpc:=h.pc
 have hbl:=h.bl
 have hrl:=h.rl
 intro x hx
 rw[G8] at hx
 simp only[a8,ch,g6,or_false] at hx
 rcases hx with rfl |rfl |rfl |rfl |rfl |hx |rfl |hx |rfl |rfl |hx |rfl |hx |rfl
 ·exact ga (by omega) (by omega)
 ·exact ga (by omega) (by omega)
 ·exact ga (by omega) (by omega)
 ·exact ga (by omega) (by omega)
 ·exact ga (by omega) (by omega)
 ·have:=h.mem x hx;exact ga (by omega) (by omega)
 ·exact ga (by omega) (by omega)
 ·have:=h.stk x hx;exact ga (by omega) (by omega)
 ·exact ga (by omega) (by omega)
 ·exact ga (by omega) (by omega)
 ·obtain⟨e,he,hx⟩:=bG.1 hx
  have hE:=h.be e he
  have e1:=hE.pc
  have e2:=hE.val
  have e3:=hE.frm
  have e4:=hE.nxt
  have e5:=hE.adr
  have ht: ∀b:Bool,0<=Wd.tI b∧Wd.tI b<=1:=fun b=>by cases b<;>decide
  have t1:=ht e.dn
  have t2:=ht e.kn
  have t3:=ht e.ft
  simp only[enN,ch,g6,or_false] at hx
  rcases hx with rfl |rfl |rfl |rfl |rfl |rfl |rfl |rfl<;>exact ga (by omega) (by omega)
 ·exact ga (by omega) (by omega)
 ·have:=h.rb x hx;exact ga (by omega) (by omega)
 ·exact ga (by omega) (by omega)
structure CfS (c:Cf):Prop where
 b:c.b.length<=3
 m:c.s.m.length<=16
 st:c.s.st.length<=4
 r:c.r.length<=2
 i:Cd.isI (ciL c)
theorem KD(c:Cf)(L B:List Int)(h1:pC_ 33 [.agg (cfA c)] (lR L) [])(h2:pC_ 35 [lR L] (bR B) []):Vc (vF_ 12 [.agg (cfA c)] [.cl [.agg (cfA c)] (lR L) [],.cl [lR L] (bR B) []] [] (bR B) []):=aj (cj (rf c.s.r0) (cj (rf c.s.r1) (cj (rf c.s.r2) (cj (rf c.s.r3) (cj (rf c.s.m.length) (cj (rr c.s.m.length 1 fun i j=>aI (List.getD c.s.m i 0)) (cj (rf c.s.st.length) (cj (rr c.s.st.length 1 fun i j=>aI (List.getD c.s.st i 0)) (cj (rf c.s.pc) (cj (rf c.b.length) (cj (rr c.b.length 8 fun i j=>ao enC c.b i j) (cj (rf c.r.length) (cj (rr c.r.length 1 fun i j=>aI (c.r.getD i 0)) (cj (rf c.e) (cj h1 (cj (rf L.length) (cj (rr L.length 1 fun i j=>aI (L.getD i 0)) (cj h2 (cj (rf B.length) (cj (rr B.length 1 fun i j=>AV.int IntKind.u8 (B.getD i 0)) trivial))))))))))))))))))))
theorem CfS.of{p:Pg}{c:Cf}(hP:OkP p)(hw:p.win<=3)(hI:Inv p c)(he:0<=c.e∧c.e<10):CfS c:=
 ⟨by have:=hI.bl;omega,by rw[hI.ml];exact hP.sum,hI.st,hI.rl,BJ hP (by omega) hI he⟩
theorem ia(m z w:List Int):CfS (wkC m z w):=CfS.of (eO m) (by have:=eN m;omega) (gB m z w) (by have:=(kb m z w).1.e;omega)
theorem CfS.len{c:Cf}(h:CfS c):(Cd.putL (ciL c)).length<1000:=by
 have h2:=Cd.putL_len_le (ciL c)
 rw[qd] at h2
 have:=h.b;have:=h.m;have:=h.st;have:=h.r
 omega
theorem CfS.rcode{c:Cf}(h:CfS c):pC_ 12 [.agg (cfA c)] (bR (Cd.putL (ciL c))) []:=
 PureC.vc (KD c _ _ (ciC c (by have:=h.b;omega) (by have:=h.m;omega) (by have:=h.st;omega) (by have:=h.r;omega)) (Kh (.row _) (by rw[qd];have:=h.b;have:=h.m;have:=h.st;have:=h.r;omega) h.i).frozen)
theorem CfS.same{a b:Cf}(h:CfS a)(k:CfS b):pC_ 10 [.agg (cfA a),.agg (cfA b)] (.bool (decide (ciL a=ciL b))) []:=xv a b (by have:=h.b;omega) (by have:=h.m;omega) (by have:=h.st;omega) (by have:=h.r;omega) (by have:=k.b;omega) (by have:=k.m;omega) (by have:=k.st;omega) (by have:=k.r;omega)
theorem CfS.self{a:Cf}(h:CfS a):pC_ 10 [.agg (cfA a),.agg (cfA a)] (.bool true) []:=by
 have:=h.same h
 rw[bB rfl] at this
 exact this
theorem PureC.obs{P:Program}{f:FuncId}{args:List AV}{a b:AV}{o:List Ob}(h:PureC P f args (.tup [a,obX o,b]) []):PureC P f args (.tup [a,obR o,b]) []:=by
 cases o with
 |cons x r=>exact h
 |nil=>
  intro w R vs hR hl ha
  refine(h w R vs hR hl ha).mono ?_
  rintro e w' ⟨z,cx,rfl,rfl,k1,k2,k3,k4,k5,k6,k7⟩
  refine⟨z,cx,rfl,rfl,k1,k2,k3,k4,k5,k6, ?_⟩
  have nr: ∀{u:Value},RepP cx.w cx.R .nils u->RepP cx.w cx.R (obR []) u:=fun hu=>by
   cases hu
   exact .row none 0 (fun _ _=> .bool false) (aB _) (bb _) (fun h=>absurd h (cA _)) (fun i h=>absurd h (cA _)) (fun i h=>absurd h (cA _))
  have nr2: ∀{u:Value},Rep cx .nils u->Rep cx (obR []) u:=fun hu=>by
   cases hu with
   |pure h=>exact .pure (nr h)
  cases k7 with
  |pure h=>cases h with
   |tup hl h=>exact .pure (.tup hl fun j x v hx hv=>match j,hx with
    |0,hx=>h 0 x v hx hv
    |1,hx=>by
     simp only[cc,bj,ai] at hx
     subst hx
     exact nr (h 1 _ v rfl hv)
    |2,hx=>h 2 x v hx hv
    |j+3,hx=>by simp at hx)
  |tup hl h=>exact .tup hl fun j x v hx hv=>match j,hx with
    |0,hx=>h 0 x v hx hv
    |1,hx=>by
     simp only[cc,bj,ai] at hx
     subst hx
     exact nr2 (h 1 _ v rfl hv)
    |2,hx=>h 2 x v hx hv
    |j+3,hx=>by simp at hx
def soS(l:List Ob)(k:Nat):Sm:=⟨[(0,obR l),(1,obR l),(5,.int .i64 k),(4,.bool false)],[],0⟩
theorem DN(l:List Ob){Z:Prop}(z:Z):(RF l.length (RR l.length 2 (fun i j=>ao obC l i j) (RF l.length (RR l.length 2 (fun i j=>ao obC l i j) Z)))):=⟨rfl,fun _ _ _ _=>rfl,rfl,fun _ _ _ _=>rfl,z⟩
theorem Ao(l:List Ob)(k:Nat)(hk:k<l.length)(hb:l.length<1000000000):Vc (vC_ 16 0 (soS l k) [.b true,.b false] .nrm [] (soS l (k+1))):=aj (cj (dt ((k:Int)<l.length)) (cj (bi k l.length) (cj (bi k l.length) (cj (show(!bif (l.getD k default).k==(l.getD k default).k then bif (l.getD k default).a==(l.getD k default).a then true else false else false)=false from by simp) (cj (i6 (k+1)) (DN l (cj (rf ((k:Int)+1)) (cj (rf false) trivial))))))))
theorem EG(l:List Ob):Vc (vC_ 16 0 (soS l l.length) [.b false] (.ext 0) [] (soS l l.length)):=aj (cj (df ((l.length:Int)<l.length)) (DN l (cj (rf (l.length:Int)) (cj (rf false) trivial))))
theorem Ap(l:List Ob)(hb:l.length<1000000000):oL_ 16 0 (soS l 0).st (.ext 0) (soS l l.length).st:=
 Ok.loop (P:=Tryz.prog) (nt:=bY Tryz.prog 16) (c:=lpC Tryz.prog 16 0) (F:=fun k=>soS l k) (m:=l.length) (x:= .ext 0) (J:=soS l l.length) (fun k hk=>Ok.vc (Ao l k hk hb)) (Ok.vc (EG l)) (by simp)
theorem JT(l:List Ob)(hb:l.length<1000000000):Vc (vF_ 16 [obR l,obR l] [.b false,.lp [] (soS l 0) (.ext 0) (soS l l.length)] [] (.bool true) []):=aj (cj (show((l.length:Int) !=(l.length:Int))=false from by simp) (DN l (cj (rf (0:Int)) (cj (rf false) (cj (Ap l hb) (cj (rf true) trivial))))))
theorem soC(l:List Ob)(hb:l.length<1000000000):pC_ 16 [obR l,obR l] (.bool true) []:=PureC.vc (JT l hb)
def dmT(o:Option (Cf×List Ob)):Cf×List Ob×Bool:=match o with
 |some q=>(q.1,q.2,true)
 |none=>(Cf0,[],false)
theorem PureC.dmT{f:FuncId}{args:List AV}{o:Option (Cf×List Ob)}(h:pC_ f args (dmA o) []):pC_ f args (.tup [.agg (cfA (dmT o).1),obR (dmT o).2.1,.bool (dmT o).2.2]) []:=by
 cases o with
 |some q=>exact PureC.obs h
 |none=>exact PureC.obs (o:=[]) h
end
end Go.Proofs.YtlfldlnohmobmaaGreat.Px
