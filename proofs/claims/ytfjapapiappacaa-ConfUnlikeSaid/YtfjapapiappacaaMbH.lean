import Derived.Test.YtfjapapiappacaaMbE
import Derived.Test.YtfjapapiappacaaMbD
import Derived.Test.YtfjapapiappacaaMbG
set_option linter.unusedVariables false
set_option linter.unusedSimpArgs false
set_option maxRecDepth 100000
namespace Go.Proofs.Ytfjapapiappacaa.Px
section
open Go.RowKit Go.Proofs.Ytfjapapiappacaa.Rx
def kptr (l:List Int):AV:= .rptr 1 (fun q=>[AV.row 1 l.length (rowI l)].getD q .junk) 0
def kN (l:List Int) (i:Nat):Int:=if i<l.length then l.getD i 0 else (i:Int)
def dgS:Nat→ByteArray
 |0=>⟨#[48]⟩
 |1=>⟨#[49]⟩
 |2=>⟨#[50]⟩
 |3=>⟨#[51]⟩
 |4=>⟨#[52]⟩
 |_=>⟨#[53]⟩
theorem k_in (l:List Int) (i:Nat) (h:i<l.length) (hi:i<1000):Vc (vcFn Try.prog false 28 [.int .i64 i,kptr l] [.b true] [] (.int .i64 (l.getD i 0)) []):=vc_by (cj (dt ((i:Int)<(l.length:Int))) (cj (bi (i:Int) (l.length:Int)) (cj (rf (l.getD i 0)) trivial))) (by kernel_rfl)
theorem k_out (l:List Int) (i:Nat) (h: ¬i<l.length) (hi:i<1000):Vc (vcFn Try.prog false 28 [.int .i64 i,kptr l] [.b false] [] (.int .i64 i) []):=vc_by (cj (df ((i:Int)<(l.length:Int))) (cj (rf (i:Int)) trivial)) (by kernel_rfl)
theorem kC (l:List Int) (i:Nat) (hi:i<1000):PureC Try.prog 28 [.int .i64 i,kptr l] (.int .i64 (kN l i)) []:=by
 unfold kN
 by_cases h:i<l.length
 ·rw [if_pos h];exact PureC.vc (k_in l i h hi)
 ·rw [if_neg h];exact PureC.vc (k_out l i h hi)
theorem dg0:Vc (vcFn Try.prog true 29 [.int .i64 0] [] [] (.str (dgS 0)) []):=vc_by (cj (rf (dgS (0:Nat))) trivial) (by kernel_rfl)
theorem dg1:Vc (vcFn Try.prog true 29 [.int .i64 1] [] [] (.str (dgS 1)) []):=vc_by (cj (rf (dgS (1:Nat))) trivial) (by kernel_rfl)
theorem dg2:Vc (vcFn Try.prog true 29 [.int .i64 2] [] [] (.str (dgS 2)) []):=vc_by (cj (rf (dgS (2:Nat))) trivial) (by kernel_rfl)
theorem dg3:Vc (vcFn Try.prog true 29 [.int .i64 3] [] [] (.str (dgS 3)) []):=vc_by (cj (rf (dgS (3:Nat))) trivial) (by kernel_rfl)
theorem dg4:Vc (vcFn Try.prog true 29 [.int .i64 4] [] [] (.str (dgS 4)) []):=vc_by (cj (rf (dgS (4:Nat))) trivial) (by kernel_rfl)
theorem dg5:Vc (vcFn Try.prog true 29 [.int .i64 5] [] [] (.str (dgS 5)) []):=vc_by (cj (rf (dgS (5:Nat))) trivial) (by kernel_rfl)
theorem digC (i:Nat) (hi:i<6):PureC Try.prog 29 [.int .i64 i] (.str (dgS i)) []:=match i,hi with
 |0,_=>PureC.vc dg0
 |1,_=>PureC.vc dg1
 |2,_=>PureC.vc dg2
 |3,_=>PureC.vc dg3
 |4,_=>PureC.vc dg4
 |5,_=>PureC.vc dg5
def x2 (x:Int) (s:Nat):Int:=Int.fdiv x (2^s)
def vlN (x:Int):Vl:=if bits .and .i64 x 4=0 then ⟨false,bits .and .i64 x 3⟩ else ⟨true,bits .and .i64 x 3⟩
def v0:Vl:=⟨false,0⟩
def tmN (x:Int) (m:Int):Int:=Int.tmod (bits .and .i64 x 255) m
def insOf (k:Nat) (x:Int) (n:Nat):In:=match k with
 |1=>⟨1,tmN (x2 x 16) 10+1,bits .and .i64 (x2 x 14) 3,vlN (x2 x 8),vlN (x2 x 11),⟨#[]⟩,0⟩
 |2=>⟨2,0,bits .and .i64 (x2 x 14) 3,vlN (x2 x 8),vlN (x2 x 11),⟨#[]⟩,0⟩
 |3=>⟨3,0,bits .and .i64 (x2 x 14) 3,vlN (x2 x 8),vlN (x2 x 11),⟨#[]⟩,0⟩
 |4=>⟨4,0,bits .and .i64 (x2 x 14) 3,vlN (x2 x 8),vlN (x2 x 11),⟨#[]⟩,0⟩
 |5=>⟨5,([9,10,3,2]:List Int).getD (bits .and .i64 (x2 x 16) 3).toNat 0,0,vlN (x2 x 8),vlN (x2 x 11),⟨#[]⟩,tmN (x2 x 18) (n+1)⟩
 |6=>⟨6,0,0,v0,v0,⟨#[]⟩,tmN (x2 x 18) (n+1)⟩
 |7=>⟨7,0,0,vlN (x2 x 8),v0,⟨#[]⟩,0⟩
 |8=>⟨8,0,0,v0,v0,⟨#[]⟩,tmN (x2 x 18) (n+1)⟩
 |k=>⟨k,0,0,v0,v0,⟨#[]⟩,0⟩
def kindL:List Nat:=[1,1,2,2,2,3,3,4,5,5,5,6,7,8,9,10,11,1]
def insN (x:Int) (n:Nat):In:=insOf (kindL.getD (tmN x 18).toNat 0) x n
theorem val_true (x:Int) (h:(bits .and .i64 x 4==0)=true):Vc (vcFn Try.prog false 48 [.int .i64 x] [.b true] [] (.agg (vlA ⟨false,bits .and .i64 x 3⟩)) []):=vc_by (cj h (cj (rf false) (cj (rf (Go.bits Go.BinOp.and IntKind.i64 x (3:Int))) trivial))) (by kernel_rfl)
theorem val_false (x:Int) (h:(bits .and .i64 x 4==0)=false):Vc (vcFn Try.prog false 48 [.int .i64 x] [.b false] [] (.agg (vlA ⟨true,bits .and .i64 x 3⟩)) []):=vc_by (cj h (cj (rf true) (cj (rf (Go.bits Go.BinOp.and IntKind.i64 x (3:Int))) trivial))) (by kernel_rfl)
theorem lvalC (x:Int):PureC Try.prog 48 [.int .i64 x] (.agg (vlA (vlN x))) []:=by
 unfold vlN
 cases h:(bits .and .i64 x 4==0) with
 |true=>rw [if_pos (by simpa using h)];exact PureC.vc (val_true x h)
 |false=>rw [if_neg (by simpa using h)];exact PureC.vc (val_false x h)
theorem tm_bd (y m:Int) (hm:0<m):0≤Int.tmod (bits .and .i64 y 255) m∧Int.tmod (bits .and .i64 y 255) m<m:=by
 have h:=Wd.bits_mask y 8 (by omega)
 have h2:bits .and .i64 y 255=y%256:=h
 rw [h2,Int.tmod_eq_emod_of_nonneg (by omega)]
 exact ⟨Int.emod_nonneg _ (by omega),Int.emod_lt_of_pos _ hm⟩
theorem in_tm (y m:Int) (hm:0<m) (h1:m≤1000):inK .i64 (Int.tmod (bits .and .i64 y 255) m+1):=by
 have:=tm_bd y m hm
 exact in64 (by omega) (by omega)
theorem bits3 (y:Int): ∃ q:Nat,q<4∧bits .and .i64 y 3=(q:Int):=by
 have h:=Wd.bits_mask y 2 (by omega)
 have h2:bits .and .i64 y 3=y%4:=h
 exact ⟨(y%4).toNat,by omega,by omega⟩
theorem sB30 (x:Int):PureC Try.prog 48 [.int .i64 (x2 x 8)] (.agg (vlA (vlN (x2 x 8)))) []:=lvalC _
theorem sB31 (x:Int):PureC Try.prog 48 [.int .i64 (x2 x 11)] (.agg (vlA (vlN (x2 x 11)))) []:=lvalC _
theorem zB30 (x:Int) (n:Nat) {Z:Prop} (z:Z):(RF (1:Int) (RF (tmN (x2 x (16:Nat)) (10:Int)+1) (RF (Go.bits Go.BinOp.and IntKind.i64 (x2 x (14:Nat)) (3:Int)) (RF ((vlN (x2 x (8:Nat))).reg) (RF ((vlN (x2 x (8:Nat))).n) (RF ((vlN (x2 x (11:Nat))).reg) (RF ((vlN (x2 x (11:Nat))).n) (RF (ByteArray.mk (Array.mk [])) (RF (0:Int) Z))))))))):=⟨rfl,rfl,rfl,rfl,rfl,rfl,rfl,rfl,rfl,z⟩
abbrev oB31 (x:Int):Orc:= .cl [.int .i64 (x2 x 11)] (.agg (vlA (vlN (x2 x 11)))) []
abbrev oB30 (x:Int):Orc:= .cl [.int .i64 (x2 x 8)] (.agg (vlA (vlN (x2 x 8)))) []
theorem ins0 (x:Int) (n:Nat) (hn:n<100) (hq:Int.tmod (bits .and .i64 x 255) 18=((0:Nat):Int)):Vc (vcFn Try.prog false 30 [.int .i64 x, .int .i64 n] [.iy 0,oB30 x,oB31 x, .ll [3,4]] [] (.agg (inA (insOf 1 x n))) []):=vc_by (cj (show (18:Int)≠0 from by omega) (cj (pv (Int.tmod (Go.bits Go.BinOp.and IntKind.i64 x (255:Int)) (18:Int)=((0:Nat):Int))) (cj (bi ((0:Nat):Int) ((18:Nat):Int)) (cj (pv ((0:Nat)<18)) (cj (pv ((0:Int)≤8)) (cj (rf (x2 x (8:Nat))) (cj (sB30 x) (cj (pv ((0:Int)≤11)) (cj (rf (x2 x (11:Nat))) (cj (sB31 x) (cj (pv ((0:Int)≤16)) (cj (show (10:Int)≠0 from by omega) (cj (show inK IntKind.i64 (Int.tmod (Go.bits Go.BinOp.and IntKind.i64 (Int.fdiv x ((2:Int)^(16:Nat))) (255:Int)) (10:Int)+1) from (in_tm _ _ (by omega) (by omega))) (cj (pv ((0:Int)≤14)) (zB30 x n trivial))))))))))))))) (by kernel_rfl)
theorem ins1 (x:Int) (n:Nat) (hn:n<100) (hq:Int.tmod (bits .and .i64 x 255) 18=((1:Nat):Int)):Vc (vcFn Try.prog false 30 [.int .i64 x, .int .i64 n] [.iy 1,oB30 x,oB31 x, .ll [3,4]] [] (.agg (inA (insOf 1 x n))) []):=vc_by (cj (show (18:Int)≠0 from by omega) (cj (pv (Int.tmod (Go.bits Go.BinOp.and IntKind.i64 x (255:Int)) (18:Int)=((1:Nat):Int))) (cj (bi ((1:Nat):Int) ((18:Nat):Int)) (cj (pv ((1:Nat)<18)) (cj (pv ((0:Int)≤8)) (cj (rf (x2 x (8:Nat))) (cj (sB30 x) (cj (pv ((0:Int)≤11)) (cj (rf (x2 x (11:Nat))) (cj (sB31 x) (cj (pv ((0:Int)≤16)) (cj (show (10:Int)≠0 from by omega) (cj (show inK IntKind.i64 (Int.tmod (Go.bits Go.BinOp.and IntKind.i64 (Int.fdiv x ((2:Int)^(16:Nat))) (255:Int)) (10:Int)+1) from (in_tm _ _ (by omega) (by omega))) (cj (pv ((0:Int)≤14)) (zB30 x n trivial))))))))))))))) (by kernel_rfl)
theorem zB31 (x:Int) (n:Nat) {Z:Prop} (z:Z):(RF (2:Int) (RF (0:Int) (RF (Go.bits Go.BinOp.and IntKind.i64 (x2 x (14:Nat)) (3:Int)) (RF ((vlN (x2 x (8:Nat))).reg) (RF ((vlN (x2 x (8:Nat))).n) (RF ((vlN (x2 x (11:Nat))).reg) (RF ((vlN (x2 x (11:Nat))).n) (RF (ByteArray.mk (Array.mk [])) (RF (0:Int) Z))))))))):=⟨rfl,rfl,rfl,rfl,rfl,rfl,rfl,rfl,rfl,z⟩
theorem ins2 (x:Int) (n:Nat) (hn:n<100) (hq:Int.tmod (bits .and .i64 x 255) 18=((2:Nat):Int)):Vc (vcFn Try.prog false 30 [.int .i64 x, .int .i64 n] [.iy 2,oB30 x,oB31 x, .ll [3,4]] [] (.agg (inA (insOf 2 x n))) []):=vc_by (cj (show (18:Int)≠0 from by omega) (cj (pv (Int.tmod (Go.bits Go.BinOp.and IntKind.i64 x (255:Int)) (18:Int)=((2:Nat):Int))) (cj (bi ((2:Nat):Int) ((18:Nat):Int)) (cj (pv ((2:Nat)<18)) (cj (pv ((0:Int)≤8)) (cj (rf (x2 x (8:Nat))) (cj (sB30 x) (cj (pv ((0:Int)≤11)) (cj (rf (x2 x (11:Nat))) (cj (sB31 x) (cj (pv ((0:Int)≤14)) (zB31 x n trivial)))))))))))) (by kernel_rfl)
theorem ins3 (x:Int) (n:Nat) (hn:n<100) (hq:Int.tmod (bits .and .i64 x 255) 18=((3:Nat):Int)):Vc (vcFn Try.prog false 30 [.int .i64 x, .int .i64 n] [.iy 3,oB30 x,oB31 x, .ll [3,4]] [] (.agg (inA (insOf 2 x n))) []):=vc_by (cj (show (18:Int)≠0 from by omega) (cj (pv (Int.tmod (Go.bits Go.BinOp.and IntKind.i64 x (255:Int)) (18:Int)=((3:Nat):Int))) (cj (bi ((3:Nat):Int) ((18:Nat):Int)) (cj (pv ((3:Nat)<18)) (cj (pv ((0:Int)≤8)) (cj (rf (x2 x (8:Nat))) (cj (sB30 x) (cj (pv ((0:Int)≤11)) (cj (rf (x2 x (11:Nat))) (cj (sB31 x) (cj (pv ((0:Int)≤14)) (zB31 x n trivial)))))))))))) (by kernel_rfl)
theorem ins4 (x:Int) (n:Nat) (hn:n<100) (hq:Int.tmod (bits .and .i64 x 255) 18=((4:Nat):Int)):Vc (vcFn Try.prog false 30 [.int .i64 x, .int .i64 n] [.iy 4,oB30 x,oB31 x, .ll [3,4]] [] (.agg (inA (insOf 2 x n))) []):=vc_by (cj (show (18:Int)≠0 from by omega) (cj (pv (Int.tmod (Go.bits Go.BinOp.and IntKind.i64 x (255:Int)) (18:Int)=((4:Nat):Int))) (cj (bi ((4:Nat):Int) ((18:Nat):Int)) (cj (pv ((4:Nat)<18)) (cj (pv ((0:Int)≤8)) (cj (rf (x2 x (8:Nat))) (cj (sB30 x) (cj (pv ((0:Int)≤11)) (cj (rf (x2 x (11:Nat))) (cj (sB31 x) (cj (pv ((0:Int)≤14)) (zB31 x n trivial)))))))))))) (by kernel_rfl)
theorem zB32 (x:Int) (n:Nat) {Z:Prop} (z:Z):(RF (3:Int) (RF (0:Int) (RF (Go.bits Go.BinOp.and IntKind.i64 (x2 x (14:Nat)) (3:Int)) (RF ((vlN (x2 x (8:Nat))).reg) (RF ((vlN (x2 x (8:Nat))).n) (RF ((vlN (x2 x (11:Nat))).reg) (RF ((vlN (x2 x (11:Nat))).n) (RF (ByteArray.mk (Array.mk [])) (RF (0:Int) Z))))))))):=⟨rfl,rfl,rfl,rfl,rfl,rfl,rfl,rfl,rfl,z⟩
theorem ins5 (x:Int) (n:Nat) (hn:n<100) (hq:Int.tmod (bits .and .i64 x 255) 18=((5:Nat):Int)):Vc (vcFn Try.prog false 30 [.int .i64 x, .int .i64 n] [.iy 5,oB30 x,oB31 x, .ll [3,4]] [] (.agg (inA (insOf 3 x n))) []):=vc_by (cj (show (18:Int)≠0 from by omega) (cj (pv (Int.tmod (Go.bits Go.BinOp.and IntKind.i64 x (255:Int)) (18:Int)=((5:Nat):Int))) (cj (bi ((5:Nat):Int) ((18:Nat):Int)) (cj (pv ((5:Nat)<18)) (cj (pv ((0:Int)≤8)) (cj (rf (x2 x (8:Nat))) (cj (sB30 x) (cj (pv ((0:Int)≤11)) (cj (rf (x2 x (11:Nat))) (cj (sB31 x) (cj (pv ((0:Int)≤14)) (zB32 x n trivial)))))))))))) (by kernel_rfl)
theorem ins6 (x:Int) (n:Nat) (hn:n<100) (hq:Int.tmod (bits .and .i64 x 255) 18=((6:Nat):Int)):Vc (vcFn Try.prog false 30 [.int .i64 x, .int .i64 n] [.iy 6,oB30 x,oB31 x, .ll [3,4]] [] (.agg (inA (insOf 3 x n))) []):=vc_by (cj (show (18:Int)≠0 from by omega) (cj (pv (Int.tmod (Go.bits Go.BinOp.and IntKind.i64 x (255:Int)) (18:Int)=((6:Nat):Int))) (cj (bi ((6:Nat):Int) ((18:Nat):Int)) (cj (pv ((6:Nat)<18)) (cj (pv ((0:Int)≤8)) (cj (rf (x2 x (8:Nat))) (cj (sB30 x) (cj (pv ((0:Int)≤11)) (cj (rf (x2 x (11:Nat))) (cj (sB31 x) (cj (pv ((0:Int)≤14)) (zB32 x n trivial)))))))))))) (by kernel_rfl)
theorem ins7 (x:Int) (n:Nat) (hn:n<100) (hq:Int.tmod (bits .and .i64 x 255) 18=((7:Nat):Int)):Vc (vcFn Try.prog false 30 [.int .i64 x, .int .i64 n] [.iy 7,oB30 x,oB31 x, .ll [3,4]] [] (.agg (inA (insOf 4 x n))) []):=vc_by (cj (show (18:Int)≠0 from by omega) (cj (pv (Int.tmod (Go.bits Go.BinOp.and IntKind.i64 x (255:Int)) (18:Int)=((7:Nat):Int))) (cj (bi ((7:Nat):Int) ((18:Nat):Int)) (cj (pv ((7:Nat)<18)) (cj (pv ((0:Int)≤8)) (cj (rf (x2 x (8:Nat))) (cj (sB30 x) (cj (pv ((0:Int)≤11)) (cj (rf (x2 x (11:Nat))) (cj (sB31 x) (cj (pv ((0:Int)≤14)) (cj (rf (4:Int)) (cj (rf (0:Int)) (cj (rf (Go.bits Go.BinOp.and IntKind.i64 (x2 x (14:Nat)) (3:Int))) (cj (rf ((vlN (x2 x (8:Nat))).reg)) (cj (rf ((vlN (x2 x (8:Nat))).n)) (cj (rf ((vlN (x2 x (11:Nat))).reg)) (cj (rf ((vlN (x2 x (11:Nat))).n)) (cj (rf (ByteArray.mk (Array.mk []))) (cj (rf (0:Int)) trivial)))))))))))))))))))) (by kernel_rfl)
theorem sB32 (x:Int) (hr:bits .and .i64 (Int.fdiv x (2^16)) 3=((0:Nat):Int)):(9:Int)=List.getD [(9:Int),(10:Int),(3:Int),(2:Int)] (Int.toNat (Go.bits Go.BinOp.and IntKind.i64 (x2 x (16:Nat)) (3:Int))) (0:Int):=by rw [show bits .and .i64 (x2 x 16) 3=((0:Nat):Int) from hr];rfl
theorem zB33 (x:Int) (n:Nat) {Z:Prop} (z:Z):(RF (0:Int) (RF ((vlN (x2 x (8:Nat))).reg) (RF ((vlN (x2 x (8:Nat))).n) (RF ((vlN (x2 x (11:Nat))).reg) (RF ((vlN (x2 x (11:Nat))).n) (RF (ByteArray.mk (Array.mk [])) (RF (tmN (x2 x (18:Nat)) ((n:Int)+1)) Z))))))):=⟨rfl,rfl,rfl,rfl,rfl,rfl,rfl,z⟩
theorem ins8_0 (x:Int) (n:Nat) (hn:n<100) (hq:Int.tmod (bits .and .i64 x 255) 18=((8:Nat):Int)) (hr:bits .and .i64 (Int.fdiv x (2^16)) 3=((0:Nat):Int)):Vc (vcFn Try.prog false 30 [.int .i64 x, .int .i64 n] [.iy 8,oB30 x,oB31 x, .ll [3,4], .iy 0] [] (.agg (inA (insOf 5 x n))) []):=vc_by (cj (show (18:Int)≠0 from by omega) (cj (pv (Int.tmod (Go.bits Go.BinOp.and IntKind.i64 x (255:Int)) (18:Int)=((8:Nat):Int))) (cj (bi ((8:Nat):Int) ((18:Nat):Int)) (cj (pv ((8:Nat)<18)) (cj (pv ((0:Int)≤8)) (cj (rf (x2 x (8:Nat))) (cj (sB30 x) (cj (pv ((0:Int)≤11)) (cj (rf (x2 x (11:Nat))) (cj (sB31 x) (cj (pv ((0:Int)≤16)) (cj (pv (Go.bits Go.BinOp.and IntKind.i64 (Int.fdiv x ((2:Int)^(16:Nat))) (3:Int)=((0:Nat):Int))) (cj (bi ((0:Nat):Int) ((4:Nat):Int)) (cj (pv ((0:Nat)<4)) (cj (pv ((0:Int)≤18)) (cj (i6 ((n:Int)+1)) (cj (show (n:Int)+1≠0 from by omega) (cj (rf (5:Int)) (cj (sB32 x hr) (zB33 x n trivial)))))))))))))))))))) (by kernel_rfl)
theorem sB33 (x:Int) (hr:bits .and .i64 (Int.fdiv x (2^16)) 3=((1:Nat):Int)):(10:Int)=List.getD [(9:Int),(10:Int),(3:Int),(2:Int)] (Int.toNat (Go.bits Go.BinOp.and IntKind.i64 (x2 x (16:Nat)) (3:Int))) (0:Int):=by rw [show bits .and .i64 (x2 x 16) 3=((1:Nat):Int) from hr];rfl
theorem ins8_1 (x:Int) (n:Nat) (hn:n<100) (hq:Int.tmod (bits .and .i64 x 255) 18=((8:Nat):Int)) (hr:bits .and .i64 (Int.fdiv x (2^16)) 3=((1:Nat):Int)):Vc (vcFn Try.prog false 30 [.int .i64 x, .int .i64 n] [.iy 8,oB30 x,oB31 x, .ll [3,4], .iy 1] [] (.agg (inA (insOf 5 x n))) []):=vc_by (cj (show (18:Int)≠0 from by omega) (cj (pv (Int.tmod (Go.bits Go.BinOp.and IntKind.i64 x (255:Int)) (18:Int)=((8:Nat):Int))) (cj (bi ((8:Nat):Int) ((18:Nat):Int)) (cj (pv ((8:Nat)<18)) (cj (pv ((0:Int)≤8)) (cj (rf (x2 x (8:Nat))) (cj (sB30 x) (cj (pv ((0:Int)≤11)) (cj (rf (x2 x (11:Nat))) (cj (sB31 x) (cj (pv ((0:Int)≤16)) (cj (pv (Go.bits Go.BinOp.and IntKind.i64 (Int.fdiv x ((2:Int)^(16:Nat))) (3:Int)=((1:Nat):Int))) (cj (bi ((1:Nat):Int) ((4:Nat):Int)) (cj (pv ((1:Nat)<4)) (cj (pv ((0:Int)≤18)) (cj (i6 ((n:Int)+1)) (cj (show (n:Int)+1≠0 from by omega) (cj (rf (5:Int)) (cj (sB33 x hr) (zB33 x n trivial)))))))))))))))))))) (by kernel_rfl)
theorem sB34 (x:Int) (hr:bits .and .i64 (Int.fdiv x (2^16)) 3=((2:Nat):Int)):(3:Int)=List.getD [(9:Int),(10:Int),(3:Int),(2:Int)] (Int.toNat (Go.bits Go.BinOp.and IntKind.i64 (x2 x (16:Nat)) (3:Int))) (0:Int):=by rw [show bits .and .i64 (x2 x 16) 3=((2:Nat):Int) from hr];rfl
theorem ins8_2 (x:Int) (n:Nat) (hn:n<100) (hq:Int.tmod (bits .and .i64 x 255) 18=((8:Nat):Int)) (hr:bits .and .i64 (Int.fdiv x (2^16)) 3=((2:Nat):Int)):Vc (vcFn Try.prog false 30 [.int .i64 x, .int .i64 n] [.iy 8,oB30 x,oB31 x, .ll [3,4], .iy 2] [] (.agg (inA (insOf 5 x n))) []):=vc_by (cj (show (18:Int)≠0 from by omega) (cj (pv (Int.tmod (Go.bits Go.BinOp.and IntKind.i64 x (255:Int)) (18:Int)=((8:Nat):Int))) (cj (bi ((8:Nat):Int) ((18:Nat):Int)) (cj (pv ((8:Nat)<18)) (cj (pv ((0:Int)≤8)) (cj (rf (x2 x (8:Nat))) (cj (sB30 x) (cj (pv ((0:Int)≤11)) (cj (rf (x2 x (11:Nat))) (cj (sB31 x) (cj (pv ((0:Int)≤16)) (cj (pv (Go.bits Go.BinOp.and IntKind.i64 (Int.fdiv x ((2:Int)^(16:Nat))) (3:Int)=((2:Nat):Int))) (cj (bi ((2:Nat):Int) ((4:Nat):Int)) (cj (pv ((2:Nat)<4)) (cj (pv ((0:Int)≤18)) (cj (i6 ((n:Int)+1)) (cj (show (n:Int)+1≠0 from by omega) (cj (rf (5:Int)) (cj (sB34 x hr) (zB33 x n trivial)))))))))))))))))))) (by kernel_rfl)
theorem sB35 (x:Int) (hr:bits .and .i64 (Int.fdiv x (2^16)) 3=((3:Nat):Int)):(2:Int)=List.getD [(9:Int),(10:Int),(3:Int),(2:Int)] (Int.toNat (Go.bits Go.BinOp.and IntKind.i64 (x2 x (16:Nat)) (3:Int))) (0:Int):=by rw [show bits .and .i64 (x2 x 16) 3=((3:Nat):Int) from hr];rfl
theorem ins8_3 (x:Int) (n:Nat) (hn:n<100) (hq:Int.tmod (bits .and .i64 x 255) 18=((8:Nat):Int)) (hr:bits .and .i64 (Int.fdiv x (2^16)) 3=((3:Nat):Int)):Vc (vcFn Try.prog false 30 [.int .i64 x, .int .i64 n] [.iy 8,oB30 x,oB31 x, .ll [3,4], .iy 3] [] (.agg (inA (insOf 5 x n))) []):=vc_by (cj (show (18:Int)≠0 from by omega) (cj (pv (Int.tmod (Go.bits Go.BinOp.and IntKind.i64 x (255:Int)) (18:Int)=((8:Nat):Int))) (cj (bi ((8:Nat):Int) ((18:Nat):Int)) (cj (pv ((8:Nat)<18)) (cj (pv ((0:Int)≤8)) (cj (rf (x2 x (8:Nat))) (cj (sB30 x) (cj (pv ((0:Int)≤11)) (cj (rf (x2 x (11:Nat))) (cj (sB31 x) (cj (pv ((0:Int)≤16)) (cj (pv (Go.bits Go.BinOp.and IntKind.i64 (Int.fdiv x ((2:Int)^(16:Nat))) (3:Int)=((3:Nat):Int))) (cj (bi ((3:Nat):Int) ((4:Nat):Int)) (cj (pv ((3:Nat)<4)) (cj (pv ((0:Int)≤18)) (cj (i6 ((n:Int)+1)) (cj (show (n:Int)+1≠0 from by omega) (cj (rf (5:Int)) (cj (sB35 x hr) (zB33 x n trivial)))))))))))))))))))) (by kernel_rfl)
theorem ins9_0 (x:Int) (n:Nat) (hn:n<100) (hq:Int.tmod (bits .and .i64 x 255) 18=((9:Nat):Int)) (hr:bits .and .i64 (Int.fdiv x (2^16)) 3=((0:Nat):Int)):Vc (vcFn Try.prog false 30 [.int .i64 x, .int .i64 n] [.iy 9,oB30 x,oB31 x, .ll [3,4], .iy 0] [] (.agg (inA (insOf 5 x n))) []):=vc_by (cj (show (18:Int)≠0 from by omega) (cj (pv (Int.tmod (Go.bits Go.BinOp.and IntKind.i64 x (255:Int)) (18:Int)=((9:Nat):Int))) (cj (bi ((9:Nat):Int) ((18:Nat):Int)) (cj (pv ((9:Nat)<18)) (cj (pv ((0:Int)≤8)) (cj (rf (x2 x (8:Nat))) (cj (sB30 x) (cj (pv ((0:Int)≤11)) (cj (rf (x2 x (11:Nat))) (cj (sB31 x) (cj (pv ((0:Int)≤16)) (cj (pv (Go.bits Go.BinOp.and IntKind.i64 (Int.fdiv x ((2:Int)^(16:Nat))) (3:Int)=((0:Nat):Int))) (cj (bi ((0:Nat):Int) ((4:Nat):Int)) (cj (pv ((0:Nat)<4)) (cj (pv ((0:Int)≤18)) (cj (i6 ((n:Int)+1)) (cj (show (n:Int)+1≠0 from by omega) (cj (rf (5:Int)) (cj (sB32 x hr) (zB33 x n trivial)))))))))))))))))))) (by kernel_rfl)
theorem ins9_1 (x:Int) (n:Nat) (hn:n<100) (hq:Int.tmod (bits .and .i64 x 255) 18=((9:Nat):Int)) (hr:bits .and .i64 (Int.fdiv x (2^16)) 3=((1:Nat):Int)):Vc (vcFn Try.prog false 30 [.int .i64 x, .int .i64 n] [.iy 9,oB30 x,oB31 x, .ll [3,4], .iy 1] [] (.agg (inA (insOf 5 x n))) []):=vc_by (cj (show (18:Int)≠0 from by omega) (cj (pv (Int.tmod (Go.bits Go.BinOp.and IntKind.i64 x (255:Int)) (18:Int)=((9:Nat):Int))) (cj (bi ((9:Nat):Int) ((18:Nat):Int)) (cj (pv ((9:Nat)<18)) (cj (pv ((0:Int)≤8)) (cj (rf (x2 x (8:Nat))) (cj (sB30 x) (cj (pv ((0:Int)≤11)) (cj (rf (x2 x (11:Nat))) (cj (sB31 x) (cj (pv ((0:Int)≤16)) (cj (pv (Go.bits Go.BinOp.and IntKind.i64 (Int.fdiv x ((2:Int)^(16:Nat))) (3:Int)=((1:Nat):Int))) (cj (bi ((1:Nat):Int) ((4:Nat):Int)) (cj (pv ((1:Nat)<4)) (cj (pv ((0:Int)≤18)) (cj (i6 ((n:Int)+1)) (cj (show (n:Int)+1≠0 from by omega) (cj (rf (5:Int)) (cj (sB33 x hr) (zB33 x n trivial)))))))))))))))))))) (by kernel_rfl)
theorem ins9_2 (x:Int) (n:Nat) (hn:n<100) (hq:Int.tmod (bits .and .i64 x 255) 18=((9:Nat):Int)) (hr:bits .and .i64 (Int.fdiv x (2^16)) 3=((2:Nat):Int)):Vc (vcFn Try.prog false 30 [.int .i64 x, .int .i64 n] [.iy 9,oB30 x,oB31 x, .ll [3,4], .iy 2] [] (.agg (inA (insOf 5 x n))) []):=vc_by (cj (show (18:Int)≠0 from by omega) (cj (pv (Int.tmod (Go.bits Go.BinOp.and IntKind.i64 x (255:Int)) (18:Int)=((9:Nat):Int))) (cj (bi ((9:Nat):Int) ((18:Nat):Int)) (cj (pv ((9:Nat)<18)) (cj (pv ((0:Int)≤8)) (cj (rf (x2 x (8:Nat))) (cj (sB30 x) (cj (pv ((0:Int)≤11)) (cj (rf (x2 x (11:Nat))) (cj (sB31 x) (cj (pv ((0:Int)≤16)) (cj (pv (Go.bits Go.BinOp.and IntKind.i64 (Int.fdiv x ((2:Int)^(16:Nat))) (3:Int)=((2:Nat):Int))) (cj (bi ((2:Nat):Int) ((4:Nat):Int)) (cj (pv ((2:Nat)<4)) (cj (pv ((0:Int)≤18)) (cj (i6 ((n:Int)+1)) (cj (show (n:Int)+1≠0 from by omega) (cj (rf (5:Int)) (cj (sB34 x hr) (zB33 x n trivial)))))))))))))))))))) (by kernel_rfl)
theorem ins9_3 (x:Int) (n:Nat) (hn:n<100) (hq:Int.tmod (bits .and .i64 x 255) 18=((9:Nat):Int)) (hr:bits .and .i64 (Int.fdiv x (2^16)) 3=((3:Nat):Int)):Vc (vcFn Try.prog false 30 [.int .i64 x, .int .i64 n] [.iy 9,oB30 x,oB31 x, .ll [3,4], .iy 3] [] (.agg (inA (insOf 5 x n))) []):=vc_by (cj (show (18:Int)≠0 from by omega) (cj (pv (Int.tmod (Go.bits Go.BinOp.and IntKind.i64 x (255:Int)) (18:Int)=((9:Nat):Int))) (cj (bi ((9:Nat):Int) ((18:Nat):Int)) (cj (pv ((9:Nat)<18)) (cj (pv ((0:Int)≤8)) (cj (rf (x2 x (8:Nat))) (cj (sB30 x) (cj (pv ((0:Int)≤11)) (cj (rf (x2 x (11:Nat))) (cj (sB31 x) (cj (pv ((0:Int)≤16)) (cj (pv (Go.bits Go.BinOp.and IntKind.i64 (Int.fdiv x ((2:Int)^(16:Nat))) (3:Int)=((3:Nat):Int))) (cj (bi ((3:Nat):Int) ((4:Nat):Int)) (cj (pv ((3:Nat)<4)) (cj (pv ((0:Int)≤18)) (cj (i6 ((n:Int)+1)) (cj (show (n:Int)+1≠0 from by omega) (cj (rf (5:Int)) (cj (sB35 x hr) (zB33 x n trivial)))))))))))))))))))) (by kernel_rfl)
theorem ins10_0 (x:Int) (n:Nat) (hn:n<100) (hq:Int.tmod (bits .and .i64 x 255) 18=((10:Nat):Int)) (hr:bits .and .i64 (Int.fdiv x (2^16)) 3=((0:Nat):Int)):Vc (vcFn Try.prog false 30 [.int .i64 x, .int .i64 n] [.iy 10,oB30 x,oB31 x, .ll [3,4], .iy 0] [] (.agg (inA (insOf 5 x n))) []):=vc_by (cj (show (18:Int)≠0 from by omega) (cj (pv (Int.tmod (Go.bits Go.BinOp.and IntKind.i64 x (255:Int)) (18:Int)=((10:Nat):Int))) (cj (bi ((10:Nat):Int) ((18:Nat):Int)) (cj (pv ((10:Nat)<18)) (cj (pv ((0:Int)≤8)) (cj (rf (x2 x (8:Nat))) (cj (sB30 x) (cj (pv ((0:Int)≤11)) (cj (rf (x2 x (11:Nat))) (cj (sB31 x) (cj (pv ((0:Int)≤16)) (cj (pv (Go.bits Go.BinOp.and IntKind.i64 (Int.fdiv x ((2:Int)^(16:Nat))) (3:Int)=((0:Nat):Int))) (cj (bi ((0:Nat):Int) ((4:Nat):Int)) (cj (pv ((0:Nat)<4)) (cj (pv ((0:Int)≤18)) (cj (i6 ((n:Int)+1)) (cj (show (n:Int)+1≠0 from by omega) (cj (rf (5:Int)) (cj (sB32 x hr) (zB33 x n trivial)))))))))))))))))))) (by kernel_rfl)
theorem ins10_1 (x:Int) (n:Nat) (hn:n<100) (hq:Int.tmod (bits .and .i64 x 255) 18=((10:Nat):Int)) (hr:bits .and .i64 (Int.fdiv x (2^16)) 3=((1:Nat):Int)):Vc (vcFn Try.prog false 30 [.int .i64 x, .int .i64 n] [.iy 10,oB30 x,oB31 x, .ll [3,4], .iy 1] [] (.agg (inA (insOf 5 x n))) []):=vc_by (cj (show (18:Int)≠0 from by omega) (cj (pv (Int.tmod (Go.bits Go.BinOp.and IntKind.i64 x (255:Int)) (18:Int)=((10:Nat):Int))) (cj (bi ((10:Nat):Int) ((18:Nat):Int)) (cj (pv ((10:Nat)<18)) (cj (pv ((0:Int)≤8)) (cj (rf (x2 x (8:Nat))) (cj (sB30 x) (cj (pv ((0:Int)≤11)) (cj (rf (x2 x (11:Nat))) (cj (sB31 x) (cj (pv ((0:Int)≤16)) (cj (pv (Go.bits Go.BinOp.and IntKind.i64 (Int.fdiv x ((2:Int)^(16:Nat))) (3:Int)=((1:Nat):Int))) (cj (bi ((1:Nat):Int) ((4:Nat):Int)) (cj (pv ((1:Nat)<4)) (cj (pv ((0:Int)≤18)) (cj (i6 ((n:Int)+1)) (cj (show (n:Int)+1≠0 from by omega) (cj (rf (5:Int)) (cj (sB33 x hr) (zB33 x n trivial)))))))))))))))))))) (by kernel_rfl)
theorem ins10_2 (x:Int) (n:Nat) (hn:n<100) (hq:Int.tmod (bits .and .i64 x 255) 18=((10:Nat):Int)) (hr:bits .and .i64 (Int.fdiv x (2^16)) 3=((2:Nat):Int)):Vc (vcFn Try.prog false 30 [.int .i64 x, .int .i64 n] [.iy 10,oB30 x,oB31 x, .ll [3,4], .iy 2] [] (.agg (inA (insOf 5 x n))) []):=vc_by (cj (show (18:Int)≠0 from by omega) (cj (pv (Int.tmod (Go.bits Go.BinOp.and IntKind.i64 x (255:Int)) (18:Int)=((10:Nat):Int))) (cj (bi ((10:Nat):Int) ((18:Nat):Int)) (cj (pv ((10:Nat)<18)) (cj (pv ((0:Int)≤8)) (cj (rf (x2 x (8:Nat))) (cj (sB30 x) (cj (pv ((0:Int)≤11)) (cj (rf (x2 x (11:Nat))) (cj (sB31 x) (cj (pv ((0:Int)≤16)) (cj (pv (Go.bits Go.BinOp.and IntKind.i64 (Int.fdiv x ((2:Int)^(16:Nat))) (3:Int)=((2:Nat):Int))) (cj (bi ((2:Nat):Int) ((4:Nat):Int)) (cj (pv ((2:Nat)<4)) (cj (pv ((0:Int)≤18)) (cj (i6 ((n:Int)+1)) (cj (show (n:Int)+1≠0 from by omega) (cj (rf (5:Int)) (cj (sB34 x hr) (zB33 x n trivial)))))))))))))))))))) (by kernel_rfl)
theorem ins10_3 (x:Int) (n:Nat) (hn:n<100) (hq:Int.tmod (bits .and .i64 x 255) 18=((10:Nat):Int)) (hr:bits .and .i64 (Int.fdiv x (2^16)) 3=((3:Nat):Int)):Vc (vcFn Try.prog false 30 [.int .i64 x, .int .i64 n] [.iy 10,oB30 x,oB31 x, .ll [3,4], .iy 3] [] (.agg (inA (insOf 5 x n))) []):=vc_by (cj (show (18:Int)≠0 from by omega) (cj (pv (Int.tmod (Go.bits Go.BinOp.and IntKind.i64 x (255:Int)) (18:Int)=((10:Nat):Int))) (cj (bi ((10:Nat):Int) ((18:Nat):Int)) (cj (pv ((10:Nat)<18)) (cj (pv ((0:Int)≤8)) (cj (rf (x2 x (8:Nat))) (cj (sB30 x) (cj (pv ((0:Int)≤11)) (cj (rf (x2 x (11:Nat))) (cj (sB31 x) (cj (pv ((0:Int)≤16)) (cj (pv (Go.bits Go.BinOp.and IntKind.i64 (Int.fdiv x ((2:Int)^(16:Nat))) (3:Int)=((3:Nat):Int))) (cj (bi ((3:Nat):Int) ((4:Nat):Int)) (cj (pv ((3:Nat)<4)) (cj (pv ((0:Int)≤18)) (cj (i6 ((n:Int)+1)) (cj (show (n:Int)+1≠0 from by omega) (cj (rf (5:Int)) (cj (sB35 x hr) (zB33 x n trivial)))))))))))))))))))) (by kernel_rfl)
theorem zB34 (x:Int) (n:Nat) {Z:Prop} (z:Z):(RF (0:Int) (RF (0:Int) (RF false (RF (0:Int) (RF false (RF (0:Int) (RF (ByteArray.mk (Array.mk [])) (RF (tmN (x2 x (18:Nat)) ((n:Int)+1)) Z)))))))):=⟨rfl,rfl,rfl,rfl,rfl,rfl,rfl,rfl,z⟩
theorem ins11 (x:Int) (n:Nat) (hn:n<100) (hq:Int.tmod (bits .and .i64 x 255) 18=((11:Nat):Int)):Vc (vcFn Try.prog false 30 [.int .i64 x, .int .i64 n] [.iy 11,oB30 x,oB31 x] [] (.agg (inA (insOf 6 x n))) []):=vc_by (cj (show (18:Int)≠0 from by omega) (cj (pv (Int.tmod (Go.bits Go.BinOp.and IntKind.i64 x (255:Int)) (18:Int)=((11:Nat):Int))) (cj (bi ((11:Nat):Int) ((18:Nat):Int)) (cj (pv ((11:Nat)<18)) (cj (pv ((0:Int)≤8)) (cj (rf (x2 x (8:Nat))) (cj (sB30 x) (cj (pv ((0:Int)≤11)) (cj (rf (x2 x (11:Nat))) (cj (sB31 x) (cj (pv ((0:Int)≤18)) (cj (i6 ((n:Int)+1)) (cj (show (n:Int)+1≠0 from by omega) (cj (rf (6:Int)) (zB34 x n trivial))))))))))))))) (by kernel_rfl)
theorem ins12 (x:Int) (n:Nat) (hn:n<100) (hq:Int.tmod (bits .and .i64 x 255) 18=((12:Nat):Int)):Vc (vcFn Try.prog false 30 [.int .i64 x, .int .i64 n] [.iy 12,oB30 x,oB31 x] [] (.agg (inA (insOf 7 x n))) []):=vc_by (cj (show (18:Int)≠0 from by omega) (cj (pv (Int.tmod (Go.bits Go.BinOp.and IntKind.i64 x (255:Int)) (18:Int)=((12:Nat):Int))) (cj (bi ((12:Nat):Int) ((18:Nat):Int)) (cj (pv ((12:Nat)<18)) (cj (pv ((0:Int)≤8)) (cj (rf (x2 x (8:Nat))) (cj (sB30 x) (cj (pv ((0:Int)≤11)) (cj (rf (x2 x (11:Nat))) (cj (sB31 x) (cj (rf (7:Int)) (cj (rf (0:Int)) (cj (rf (0:Int)) (cj (rf ((vlN (x2 x (8:Nat))).reg)) (cj (rf ((vlN (x2 x (8:Nat))).n)) (cj (rf false) (cj (rf (0:Int)) (cj (rf (ByteArray.mk (Array.mk []))) (cj (rf (0:Int)) trivial))))))))))))))))))) (by kernel_rfl)
theorem ins13 (x:Int) (n:Nat) (hn:n<100) (hq:Int.tmod (bits .and .i64 x 255) 18=((13:Nat):Int)):Vc (vcFn Try.prog false 30 [.int .i64 x, .int .i64 n] [.iy 13,oB30 x,oB31 x] [] (.agg (inA (insOf 8 x n))) []):=vc_by (cj (show (18:Int)≠0 from by omega) (cj (pv (Int.tmod (Go.bits Go.BinOp.and IntKind.i64 x (255:Int)) (18:Int)=((13:Nat):Int))) (cj (bi ((13:Nat):Int) ((18:Nat):Int)) (cj (pv ((13:Nat)<18)) (cj (pv ((0:Int)≤8)) (cj (rf (x2 x (8:Nat))) (cj (sB30 x) (cj (pv ((0:Int)≤11)) (cj (rf (x2 x (11:Nat))) (cj (sB31 x) (cj (pv ((0:Int)≤18)) (cj (i6 ((n:Int)+1)) (cj (show (n:Int)+1≠0 from by omega) (cj (rf (8:Int)) (zB34 x n trivial))))))))))))))) (by kernel_rfl)
theorem zB35 {Z:Prop} (z:Z):(RF (0:Int) (RF (0:Int) (RF false (RF (0:Int) (RF false (RF (0:Int) (RF (ByteArray.mk (Array.mk [])) (RF (0:Int) Z)))))))):=⟨rfl,rfl,rfl,rfl,rfl,rfl,rfl,rfl,z⟩
theorem ins14 (x:Int) (n:Nat) (hn:n<100) (hq:Int.tmod (bits .and .i64 x 255) 18=((14:Nat):Int)):Vc (vcFn Try.prog false 30 [.int .i64 x, .int .i64 n] [.iy 14,oB30 x,oB31 x] [] (.agg (inA (insOf 9 x n))) []):=vc_by (cj (show (18:Int)≠0 from by omega) (cj (pv (Int.tmod (Go.bits Go.BinOp.and IntKind.i64 x (255:Int)) (18:Int)=((14:Nat):Int))) (cj (bi ((14:Nat):Int) ((18:Nat):Int)) (cj (pv ((14:Nat)<18)) (cj (pv ((0:Int)≤8)) (cj (rf (x2 x (8:Nat))) (cj (sB30 x) (cj (pv ((0:Int)≤11)) (cj (rf (x2 x (11:Nat))) (cj (sB31 x) (cj (rf (9:Int)) (zB35 trivial)))))))))))) (by kernel_rfl)
theorem ins15 (x:Int) (n:Nat) (hn:n<100) (hq:Int.tmod (bits .and .i64 x 255) 18=((15:Nat):Int)):Vc (vcFn Try.prog false 30 [.int .i64 x, .int .i64 n] [.iy 15,oB30 x,oB31 x] [] (.agg (inA (insOf 10 x n))) []):=vc_by (cj (show (18:Int)≠0 from by omega) (cj (pv (Int.tmod (Go.bits Go.BinOp.and IntKind.i64 x (255:Int)) (18:Int)=((15:Nat):Int))) (cj (bi ((15:Nat):Int) ((18:Nat):Int)) (cj (pv ((15:Nat)<18)) (cj (pv ((0:Int)≤8)) (cj (rf (x2 x (8:Nat))) (cj (sB30 x) (cj (pv ((0:Int)≤11)) (cj (rf (x2 x (11:Nat))) (cj (sB31 x) (cj (rf (10:Int)) (zB35 trivial)))))))))))) (by kernel_rfl)
theorem ins16 (x:Int) (n:Nat) (hn:n<100) (hq:Int.tmod (bits .and .i64 x 255) 18=((16:Nat):Int)):Vc (vcFn Try.prog false 30 [.int .i64 x, .int .i64 n] [.iy 16,oB30 x,oB31 x] [] (.agg (inA (insOf 11 x n))) []):=vc_by (cj (show (18:Int)≠0 from by omega) (cj (pv (Int.tmod (Go.bits Go.BinOp.and IntKind.i64 x (255:Int)) (18:Int)=((16:Nat):Int))) (cj (bi ((16:Nat):Int) ((18:Nat):Int)) (cj (pv ((16:Nat)<18)) (cj (pv ((0:Int)≤8)) (cj (rf (x2 x (8:Nat))) (cj (sB30 x) (cj (pv ((0:Int)≤11)) (cj (rf (x2 x (11:Nat))) (cj (sB31 x) (cj (rf (11:Int)) (zB35 trivial)))))))))))) (by kernel_rfl)
theorem ins17 (x:Int) (n:Nat) (hn:n<100) (hq:Int.tmod (bits .and .i64 x 255) 18=((17:Nat):Int)):Vc (vcFn Try.prog false 30 [.int .i64 x, .int .i64 n] [.iy 17,oB30 x,oB31 x, .ll [3,4]] [] (.agg (inA (insOf 1 x n))) []):=vc_by (cj (show (18:Int)≠0 from by omega) (cj (pv (Int.tmod (Go.bits Go.BinOp.and IntKind.i64 x (255:Int)) (18:Int)=((17:Nat):Int))) (cj (bi ((17:Nat):Int) ((18:Nat):Int)) (cj (pv ((17:Nat)<18)) (cj (pv ((0:Int)≤8)) (cj (rf (x2 x (8:Nat))) (cj (sB30 x) (cj (pv ((0:Int)≤11)) (cj (rf (x2 x (11:Nat))) (cj (sB31 x) (cj (pv ((0:Int)≤16)) (cj (show (10:Int)≠0 from by omega) (cj (show inK IntKind.i64 (Int.tmod (Go.bits Go.BinOp.and IntKind.i64 (Int.fdiv x ((2:Int)^(16:Nat))) (255:Int)) (10:Int)+1) from (in_tm _ _ (by omega) (by omega))) (cj (pv ((0:Int)≤14)) (zB30 x n trivial))))))))))))))) (by kernel_rfl)
theorem linsC (x:Int) (n:Nat) (hn:n<100):PureC Try.prog 30 [.int .i64 x, .int .i64 n] (.agg (inA (insN x n))) []:=by
 have hb:=tm_bd x 18 (by omega)
 obtain ⟨q,e⟩: ∃ q:Nat,Int.tmod (bits .and .i64 x 255) 18=(q:Int):=⟨(Int.tmod (bits .and .i64 x 255) 18).toNat,by omega⟩
 have hq:q<18:=by omega
 unfold insN tmN
 rw [e,Int.toNat_natCast]
 match q,hq,e with
 |0,_,e=>exact PureC.vc (ins0 x n hn e)
 |1,_,e=>exact PureC.vc (ins1 x n hn e)
 |2,_,e=>exact PureC.vc (ins2 x n hn e)
 |3,_,e=>exact PureC.vc (ins3 x n hn e)
 |4,_,e=>exact PureC.vc (ins4 x n hn e)
 |5,_,e=>exact PureC.vc (ins5 x n hn e)
 |6,_,e=>exact PureC.vc (ins6 x n hn e)
 |7,_,e=>exact PureC.vc (ins7 x n hn e)
 |8,_,e=>obtain ⟨r,hr,e2⟩:=bits3 (Int.fdiv x (2^16));exact (match r,hr,e2 with |0,_,e2=>PureC.vc (ins8_0 x n hn e e2)|1,_,e2=>PureC.vc (ins8_1 x n hn e e2)|2,_,e2=>PureC.vc (ins8_2 x n hn e e2)|3,_,e2=>PureC.vc (ins8_3 x n hn e e2))
 |9,_,e=>obtain ⟨r,hr,e2⟩:=bits3 (Int.fdiv x (2^16));exact (match r,hr,e2 with |0,_,e2=>PureC.vc (ins9_0 x n hn e e2)|1,_,e2=>PureC.vc (ins9_1 x n hn e e2)|2,_,e2=>PureC.vc (ins9_2 x n hn e e2)|3,_,e2=>PureC.vc (ins9_3 x n hn e e2))
 |10,_,e=>obtain ⟨r,hr,e2⟩:=bits3 (Int.fdiv x (2^16));exact (match r,hr,e2 with |0,_,e2=>PureC.vc (ins10_0 x n hn e e2)|1,_,e2=>PureC.vc (ins10_1 x n hn e e2)|2,_,e2=>PureC.vc (ins10_2 x n hn e e2)|3,_,e2=>PureC.vc (ins10_3 x n hn e e2))
 |11,_,e=>exact PureC.vc (ins11 x n hn e)
 |12,_,e=>exact PureC.vc (ins12 x n hn e)
 |13,_,e=>exact PureC.vc (ins13 x n hn e)
 |14,_,e=>exact PureC.vc (ins14 x n hn e)
 |15,_,e=>exact PureC.vc (ins15 x n hn e)
 |16,_,e=>exact PureC.vc (ins16 x n hn e)
 |17,_,e=>exact PureC.vc (ins17 x n hn e)
 |_+18,h,_=>exact absurd h (by omega)
end
end Go.Proofs.Ytfjapapiappacaa.Px
namespace Go.Proofs.Ytfjapapiappacaa.Px
section
open Go.RowKit Go.Proofs.Ytfjapapiappacaa.Rx
structure M1 where
 p:Int
 s:Int
 r0:Int
 r1:Int
 r2:Int
 r3:Int
def M1.set (m:M1) (k:Nat) (v:Int):M1:=match k with
 |0=>{m with r0:=v}
 |1=>{m with r1:=v}
 |2=>{m with r2:=v}
 |_=>{m with r3:=v}
def mq (l:List Int) (k:Nat):Nat:=(bits .and .i64 (Int.fdiv (kN l 1) (2^(2*k))) 3).toNat
def mstep (W:Int) (q k:Nat) (m:M1):M1:=
 if q=2 then (if m.p+W≤2 then {m.set k 1 with p:=m.p+W} else m.set k 0)
 else if q=3 then (if m.s+W≤2 then {m.set k 2 with s:=m.s+W} else m.set k 0) else m.set k 0
def mK (W:Int) (l:List Int):Nat→M1
 |0=>⟨0,0,0,0,0,0⟩
 |k+1=>mstep W (mq l k) k (mK W l k)
def kclo:AV:= .clo 28 [.bptr 0 0]
def lBox (l:List Int):Blk:=⟨0,true,22, .box [.row 1 l.length (rowI l)]⟩
def bJ (n:Nat):Blk:=⟨0,false,44, .box (List.replicate n .junk)⟩
def bP (W w:Int) (m:M1) (a b c:AV):Blk:=⟨0,false,44, .box [.int .i64 W, .int .i64 w, .int .i64 6, .int .i64 m.r0, .int .i64 m.r1, .int .i64 m.r2, .int .i64 m.r3,a,b,c]⟩
def mmB (ms:List Mm):Blk:=⟨0,false,77, .rows 3 ms.length (rowL mmC ms)⟩
def lbN (i:Nat):Lb:=⟨⟨#[108]⟩++dgS i,i⟩
def lbL:Nat→List Lb
 |0=>[]
 |k+1=>lbL k++[lbN k]
def inL (l:List Int) (n:Nat):Nat→List In
 |0=>[]
 |k+1=>inL l n k++[insN (kN l (k+2)) n]
def lbB (l:List Lb):Blk:=⟨0,false,80, .rows 2 l.length (rowL lbC l)⟩
def inB (l:List In):Blk:=⟨0,false,84, .rows 9 l.length (rowL inC l)⟩
def winN (l:List Int):Int:=Int.tmod (bits .and .i64 (Int.fdiv (kN l 0) (2^1)) 255) 3+1
def mk1 (W w:Int) (l:List Int) (m:M1) (k:Nat):Sm:=⟨[(3,kclo),(4, .bptr 2 0),(2, .bptr 1 0),(5, .int .i64 m.p),(6, .int .i64 m.s),(7, .int .i64 k)],[(0,lBox l),(1,bJ 10),(2,bP W w m .nils .nils .nils)],3⟩
def mk2 (W w:Int) (l:List Int) (m:M1) (ms:List Mm) (n k:Nat):Sm:=⟨[(3,kclo),(4, .bptr 2 0),(2, .bptr 1 0),(8, .int .i64 n),(9, .int .i64 k)],[(0,lBox l),(1,bJ 10),(2,bP W w m (.own 3 0 3 0 ms.length) (.own 4 0 2 0 (lbL k).length) .nils),(3,mmB ms),(4,lbB (lbL k))],5⟩
def mk3 (W w:Int) (l:List Int) (m:M1) (ms:List Mm) (n k:Nat):Sm:=⟨[(3,kclo),(4, .bptr 2 0),(2, .bptr 1 0),(8, .int .i64 n),(10, .int .i64 k)],[(0,lBox l),(1,bJ 10),(2,bP W w m (.own 3 0 3 0 ms.length) (.own 4 0 2 0 (lbL (n+1)).length) (.own 5 0 9 0 (inL l n k).length)),(3,mmB ms),(4,lbB (lbL (n+1))),(5,inB (inL l n k))],6⟩
theorem sB40:(0:Int)≤IntKind.wrap IntKind.u64 ((2:Int)*((0:Nat):Int)):=by decide
theorem zB40 (m:M1) {Z:Prop} (z:Z):(RF m.p (RF m.s (RF ((1:Nat):Int) Z))):=⟨rfl,rfl,rfl,z⟩
theorem zB41 (W:Int) (w:Int) (l:List Int) (m:M1) {Z:Prop} (z:Z):(RF l.length (RR l.length 1 (fun i j=>aI (l.getD i 0)) (RF W (RF w (RF (6:Int) (RF (0:Int) (RF m.r1 (RF m.r2 (RF m.r3 Z))))))))):=⟨rfl,fun _ _ _ _=>rfl,rfl,rfl,rfl,rfl,rfl,rfl,rfl,z⟩
theorem zB42 (l:List Int) {Z:Prop} (z:Z):(RF (1:Int) (RF l.length (RR l.length 1 (fun i j=>aI (l.getD i 0)) Z))):=⟨rfl,rfl,fun _ _ _ _=>rfl,z⟩
abbrev oB40 (l:List Int):Orc:= .cl [.int .i64 (1:Nat),kptr l] (.int .i64 (kN l 1)) []
theorem m1_0_0 (W w:Int) (l:List Int) (m:M1) (hW:1≤W∧W≤2) (hp:0≤m.p∧m.p≤2) (hs:0≤m.s∧m.s≤2) (hq:bits .and .i64 (Int.fdiv (kN l 1) (2^(2*0))) 3=((0:Nat):Int)):Vc (vcC Try.prog false (ntOf Try.prog 14) (lpC Try.prog 14 0) (mk1 W w l m 0) [.b true,oB40 l, .iy 0] .nrm [(0,0),(1,1),(2,2)] (mk1 W w l (⟨m.p,m.s,0,m.r1,m.r2,m.r3⟩:M1) 1)):=vc_by (cj (dt (((0:Nat):Int)<4)) (zB42 l (cj (kC l 1 (by omega)) (cj (i6 ((2:Int)*((0:Nat):Int))) (cj (sB40) (cj hq (cj (bi ((0:Nat):Int) ((4:Nat):Int)) (cj (pv ((0:Nat)<4)) (cj (i6 (((0:Nat):Int)+1)) (zB41 W w l m (zB40 m trivial))))))))))) (by kernel_rfl)
theorem m1_0_1 (W w:Int) (l:List Int) (m:M1) (hW:1≤W∧W≤2) (hp:0≤m.p∧m.p≤2) (hs:0≤m.s∧m.s≤2) (hq:bits .and .i64 (Int.fdiv (kN l 1) (2^(2*0))) 3=((1:Nat):Int)):Vc (vcC Try.prog false (ntOf Try.prog 14) (lpC Try.prog 14 0) (mk1 W w l m 0) [.b true,oB40 l, .iy 1] .nrm [(0,0),(1,1),(2,2)] (mk1 W w l (⟨m.p,m.s,0,m.r1,m.r2,m.r3⟩:M1) 1)):=vc_by (cj (dt (((0:Nat):Int)<4)) (zB42 l (cj (kC l 1 (by omega)) (cj (i6 ((2:Int)*((0:Nat):Int))) (cj (sB40) (cj hq (cj (bi ((1:Nat):Int) ((4:Nat):Int)) (cj (pv ((1:Nat)<4)) (cj (i6 (((0:Nat):Int)+1)) (zB41 W w l m (zB40 m trivial))))))))))) (by kernel_rfl)
theorem m1_0_2t (W w:Int) (l:List Int) (m:M1) (hW:1≤W∧W≤2) (hp:0≤m.p∧m.p≤2) (hs:0≤m.s∧m.s≤2) (hq:bits .and .i64 (Int.fdiv (kN l 1) (2^(2*0))) 3=((2:Nat):Int)) (hc:decide (m.p+W≤2)=true):Vc (vcC Try.prog false (ntOf Try.prog 14) (lpC Try.prog 14 0) (mk1 W w l m 0) [.b true,oB40 l, .iy 2, .b true, .b true, .b true, .b true, .b true, .b true, .b true] .nrm [(0,0),(1,1),(2,2)] (mk1 W w l (⟨m.p+W,m.s,1,m.r1,m.r2,m.r3⟩:M1) 1)):=vc_by (cj (dt (((0:Nat):Int)<4)) (zB42 l (cj (kC l 1 (by omega)) (cj (i6 ((2:Int)*((0:Nat):Int))) (cj (sB40) (cj hq (cj (bi ((2:Nat):Int) ((4:Nat):Int)) (cj (pv ((2:Nat)<4)) (cj (e1 (1:Int) 1) (cj (e1 (1:Int) 1) (cj (e1 (1:Int) 1) (cj (e1 (1:Int) 1) (cj (i6 (m.p+W)) (cj (e1 (1:Int) 1) (cj (e1 (1:Int) 1) (cj hc (cj (i6 (m.p+W)) (cj (i6 (((0:Nat):Int)+1)) (cj (rf l.length) (cj (rr l.length 1 fun i j=>aI (l.getD i 0)) (cj (rf W) (cj (rf w) (cj (rf (6:Int)) (cj (rf (1:Int)) (cj (rf m.r1) (cj (rf m.r2) (cj (rf m.r3) (cj (rf (m.p+W)) (cj (rf m.s) (cj (rf ((1:Nat):Int)) trivial)))))))))))))))))))))))))))))) (by kernel_rfl)
theorem m1_0_2f (W w:Int) (l:List Int) (m:M1) (hW:1≤W∧W≤2) (hp:0≤m.p∧m.p≤2) (hs:0≤m.s∧m.s≤2) (hq:bits .and .i64 (Int.fdiv (kN l 1) (2^(2*0))) 3=((2:Nat):Int)) (hc:decide (m.p+W≤2)=false):Vc (vcC Try.prog false (ntOf Try.prog 14) (lpC Try.prog 14 0) (mk1 W w l m 0) [.b true,oB40 l, .iy 2, .b true, .b true, .b true, .b true, .b true, .b true, .b false] .nrm [(0,0),(1,1),(2,2)] (mk1 W w l (⟨m.p,m.s,0,m.r1,m.r2,m.r3⟩:M1) 1)):=vc_by (cj (dt (((0:Nat):Int)<4)) (zB42 l (cj (kC l 1 (by omega)) (cj (i6 ((2:Int)*((0:Nat):Int))) (cj (sB40) (cj hq (cj (bi ((2:Nat):Int) ((4:Nat):Int)) (cj (pv ((2:Nat)<4)) (cj (e1 (1:Int) 1) (cj (e1 (1:Int) 1) (cj (e1 (1:Int) 1) (cj (e1 (1:Int) 1) (cj (i6 (m.p+W)) (cj (e1 (1:Int) 1) (cj (e1 (1:Int) 1) (cj hc (cj (i6 (((0:Nat):Int)+1)) (zB41 W w l m (zB40 m trivial))))))))))))))))))) (by kernel_rfl)
theorem m1_0_3t (W w:Int) (l:List Int) (m:M1) (hW:1≤W∧W≤2) (hp:0≤m.p∧m.p≤2) (hs:0≤m.s∧m.s≤2) (hq:bits .and .i64 (Int.fdiv (kN l 1) (2^(2*0))) 3=((3:Nat):Int)) (hc:decide (m.s+W≤2)=true):Vc (vcC Try.prog false (ntOf Try.prog 14) (lpC Try.prog 14 0) (mk1 W w l m 0) [.b true,oB40 l, .iy 3, .b false, .b false, .b false, .b false, .b false, .b false, .b false, .b true, .b true, .b true, .b true, .b true, .b true, .b true] .nrm [(0,0),(1,1),(2,2)] (mk1 W w l (⟨m.p,m.s+W,2,m.r1,m.r2,m.r3⟩:M1) 1)):=vc_by (cj (dt (((0:Nat):Int)<4)) (zB42 l (cj (kC l 1 (by omega)) (cj (i6 ((2:Int)*((0:Nat):Int))) (cj (sB40) (cj hq (cj (bi ((3:Nat):Int) ((4:Nat):Int)) (cj (pv ((3:Nat)<4)) (cj (e0 (2:Int) 1) (cj (e0 (2:Int) 1) (cj (e0 (2:Int) 1) (cj (e0 (2:Int) 1) (cj (e0 (2:Int) 1) (cj (e0 (2:Int) 1) (cj (rf false) (cj (e1 (2:Int) 2) (cj (e1 (2:Int) 2) (cj (e1 (2:Int) 2) (cj (e1 (2:Int) 2) (cj (i6 (m.s+W)) (cj (e1 (2:Int) 2) (cj (e1 (2:Int) 2) (cj hc (cj (i6 (m.s+W)) (cj (i6 (((0:Nat):Int)+1)) (cj (rf l.length) (cj (rr l.length 1 fun i j=>aI (l.getD i 0)) (cj (rf W) (cj (rf w) (cj (rf (6:Int)) (cj (rf (2:Int)) (cj (rf m.r1) (cj (rf m.r2) (cj (rf m.r3) (cj (rf m.p) (cj (rf (m.s+W)) (cj (rf ((1:Nat):Int)) trivial))))))))))))))))))))))))))))))))))))) (by kernel_rfl)
theorem m1_0_3f (W w:Int) (l:List Int) (m:M1) (hW:1≤W∧W≤2) (hp:0≤m.p∧m.p≤2) (hs:0≤m.s∧m.s≤2) (hq:bits .and .i64 (Int.fdiv (kN l 1) (2^(2*0))) 3=((3:Nat):Int)) (hc:decide (m.s+W≤2)=false):Vc (vcC Try.prog false (ntOf Try.prog 14) (lpC Try.prog 14 0) (mk1 W w l m 0) [.b true,oB40 l, .iy 3, .b false, .b false, .b false, .b false, .b false, .b false, .b false, .b true, .b true, .b true, .b true, .b true, .b true, .b false] .nrm [(0,0),(1,1),(2,2)] (mk1 W w l (⟨m.p,m.s,0,m.r1,m.r2,m.r3⟩:M1) 1)):=vc_by (cj (dt (((0:Nat):Int)<4)) (zB42 l (cj (kC l 1 (by omega)) (cj (i6 ((2:Int)*((0:Nat):Int))) (cj (sB40) (cj hq (cj (bi ((3:Nat):Int) ((4:Nat):Int)) (cj (pv ((3:Nat)<4)) (cj (e0 (2:Int) 1) (cj (e0 (2:Int) 1) (cj (e0 (2:Int) 1) (cj (e0 (2:Int) 1) (cj (e0 (2:Int) 1) (cj (e0 (2:Int) 1) (cj (rf false) (cj (e1 (2:Int) 2) (cj (e1 (2:Int) 2) (cj (e1 (2:Int) 2) (cj (e1 (2:Int) 2) (cj (i6 (m.s+W)) (cj (e1 (2:Int) 2) (cj (e1 (2:Int) 2) (cj hc (cj (i6 (((0:Nat):Int)+1)) (zB41 W w l m (zB40 m trivial)))))))))))))))))))))))))) (by kernel_rfl)
theorem sB41:(0:Int)≤IntKind.wrap IntKind.u64 ((2:Int)*((1:Nat):Int)):=by decide
theorem zB43 (m:M1) {Z:Prop} (z:Z):(RF m.p (RF m.s (RF ((2:Nat):Int) Z))):=⟨rfl,rfl,rfl,z⟩
theorem zB44 (W:Int) (w:Int) (l:List Int) (m:M1) {Z:Prop} (z:Z):(RF l.length (RR l.length 1 (fun i j=>aI (l.getD i 0)) (RF W (RF w (RF (6:Int) (RF m.r0 (RF (0:Int) (RF m.r2 (RF m.r3 Z))))))))):=⟨rfl,fun _ _ _ _=>rfl,rfl,rfl,rfl,rfl,rfl,rfl,rfl,z⟩
theorem m1_1_0 (W w:Int) (l:List Int) (m:M1) (hW:1≤W∧W≤2) (hp:0≤m.p∧m.p≤2) (hs:0≤m.s∧m.s≤2) (hq:bits .and .i64 (Int.fdiv (kN l 1) (2^(2*1))) 3=((0:Nat):Int)):Vc (vcC Try.prog false (ntOf Try.prog 14) (lpC Try.prog 14 0) (mk1 W w l m 1) [.b true,oB40 l, .iy 0] .nrm [(0,0),(1,1),(2,2)] (mk1 W w l (⟨m.p,m.s,m.r0,0,m.r2,m.r3⟩:M1) 2)):=vc_by (cj (dt (((1:Nat):Int)<4)) (zB42 l (cj (kC l 1 (by omega)) (cj (i6 ((2:Int)*((1:Nat):Int))) (cj (sB41) (cj hq (cj (bi ((0:Nat):Int) ((4:Nat):Int)) (cj (pv ((0:Nat)<4)) (cj (i6 (((1:Nat):Int)+1)) (zB44 W w l m (zB43 m trivial))))))))))) (by kernel_rfl)
theorem m1_1_1 (W w:Int) (l:List Int) (m:M1) (hW:1≤W∧W≤2) (hp:0≤m.p∧m.p≤2) (hs:0≤m.s∧m.s≤2) (hq:bits .and .i64 (Int.fdiv (kN l 1) (2^(2*1))) 3=((1:Nat):Int)):Vc (vcC Try.prog false (ntOf Try.prog 14) (lpC Try.prog 14 0) (mk1 W w l m 1) [.b true,oB40 l, .iy 1] .nrm [(0,0),(1,1),(2,2)] (mk1 W w l (⟨m.p,m.s,m.r0,0,m.r2,m.r3⟩:M1) 2)):=vc_by (cj (dt (((1:Nat):Int)<4)) (zB42 l (cj (kC l 1 (by omega)) (cj (i6 ((2:Int)*((1:Nat):Int))) (cj (sB41) (cj hq (cj (bi ((1:Nat):Int) ((4:Nat):Int)) (cj (pv ((1:Nat)<4)) (cj (i6 (((1:Nat):Int)+1)) (zB44 W w l m (zB43 m trivial))))))))))) (by kernel_rfl)
theorem m1_1_2t (W w:Int) (l:List Int) (m:M1) (hW:1≤W∧W≤2) (hp:0≤m.p∧m.p≤2) (hs:0≤m.s∧m.s≤2) (hq:bits .and .i64 (Int.fdiv (kN l 1) (2^(2*1))) 3=((2:Nat):Int)) (hc:decide (m.p+W≤2)=true):Vc (vcC Try.prog false (ntOf Try.prog 14) (lpC Try.prog 14 0) (mk1 W w l m 1) [.b true,oB40 l, .iy 2, .b true, .b true, .b true, .b true, .b true, .b true, .b true] .nrm [(0,0),(1,1),(2,2)] (mk1 W w l (⟨m.p+W,m.s,m.r0,1,m.r2,m.r3⟩:M1) 2)):=vc_by (cj (dt (((1:Nat):Int)<4)) (zB42 l (cj (kC l 1 (by omega)) (cj (i6 ((2:Int)*((1:Nat):Int))) (cj (sB41) (cj hq (cj (bi ((2:Nat):Int) ((4:Nat):Int)) (cj (pv ((2:Nat)<4)) (cj (e1 (1:Int) 1) (cj (e1 (1:Int) 1) (cj (e1 (1:Int) 1) (cj (e1 (1:Int) 1) (cj (i6 (m.p+W)) (cj (e1 (1:Int) 1) (cj (e1 (1:Int) 1) (cj hc (cj (i6 (m.p+W)) (cj (i6 (((1:Nat):Int)+1)) (cj (rf l.length) (cj (rr l.length 1 fun i j=>aI (l.getD i 0)) (cj (rf W) (cj (rf w) (cj (rf (6:Int)) (cj (rf m.r0) (cj (rf (1:Int)) (cj (rf m.r2) (cj (rf m.r3) (cj (rf (m.p+W)) (cj (rf m.s) (cj (rf ((2:Nat):Int)) trivial)))))))))))))))))))))))))))))) (by kernel_rfl)
theorem m1_1_2f (W w:Int) (l:List Int) (m:M1) (hW:1≤W∧W≤2) (hp:0≤m.p∧m.p≤2) (hs:0≤m.s∧m.s≤2) (hq:bits .and .i64 (Int.fdiv (kN l 1) (2^(2*1))) 3=((2:Nat):Int)) (hc:decide (m.p+W≤2)=false):Vc (vcC Try.prog false (ntOf Try.prog 14) (lpC Try.prog 14 0) (mk1 W w l m 1) [.b true,oB40 l, .iy 2, .b true, .b true, .b true, .b true, .b true, .b true, .b false] .nrm [(0,0),(1,1),(2,2)] (mk1 W w l (⟨m.p,m.s,m.r0,0,m.r2,m.r3⟩:M1) 2)):=vc_by (cj (dt (((1:Nat):Int)<4)) (zB42 l (cj (kC l 1 (by omega)) (cj (i6 ((2:Int)*((1:Nat):Int))) (cj (sB41) (cj hq (cj (bi ((2:Nat):Int) ((4:Nat):Int)) (cj (pv ((2:Nat)<4)) (cj (e1 (1:Int) 1) (cj (e1 (1:Int) 1) (cj (e1 (1:Int) 1) (cj (e1 (1:Int) 1) (cj (i6 (m.p+W)) (cj (e1 (1:Int) 1) (cj (e1 (1:Int) 1) (cj hc (cj (i6 (((1:Nat):Int)+1)) (zB44 W w l m (zB43 m trivial))))))))))))))))))) (by kernel_rfl)
theorem m1_1_3t (W w:Int) (l:List Int) (m:M1) (hW:1≤W∧W≤2) (hp:0≤m.p∧m.p≤2) (hs:0≤m.s∧m.s≤2) (hq:bits .and .i64 (Int.fdiv (kN l 1) (2^(2*1))) 3=((3:Nat):Int)) (hc:decide (m.s+W≤2)=true):Vc (vcC Try.prog false (ntOf Try.prog 14) (lpC Try.prog 14 0) (mk1 W w l m 1) [.b true,oB40 l, .iy 3, .b false, .b false, .b false, .b false, .b false, .b false, .b false, .b true, .b true, .b true, .b true, .b true, .b true, .b true] .nrm [(0,0),(1,1),(2,2)] (mk1 W w l (⟨m.p,m.s+W,m.r0,2,m.r2,m.r3⟩:M1) 2)):=vc_by (cj (dt (((1:Nat):Int)<4)) (zB42 l (cj (kC l 1 (by omega)) (cj (i6 ((2:Int)*((1:Nat):Int))) (cj (sB41) (cj hq (cj (bi ((3:Nat):Int) ((4:Nat):Int)) (cj (pv ((3:Nat)<4)) (cj (e0 (2:Int) 1) (cj (e0 (2:Int) 1) (cj (e0 (2:Int) 1) (cj (e0 (2:Int) 1) (cj (e0 (2:Int) 1) (cj (e0 (2:Int) 1) (cj (rf false) (cj (e1 (2:Int) 2) (cj (e1 (2:Int) 2) (cj (e1 (2:Int) 2) (cj (e1 (2:Int) 2) (cj (i6 (m.s+W)) (cj (e1 (2:Int) 2) (cj (e1 (2:Int) 2) (cj hc (cj (i6 (m.s+W)) (cj (i6 (((1:Nat):Int)+1)) (cj (rf l.length) (cj (rr l.length 1 fun i j=>aI (l.getD i 0)) (cj (rf W) (cj (rf w) (cj (rf (6:Int)) (cj (rf m.r0) (cj (rf (2:Int)) (cj (rf m.r2) (cj (rf m.r3) (cj (rf m.p) (cj (rf (m.s+W)) (cj (rf ((2:Nat):Int)) trivial))))))))))))))))))))))))))))))))))))) (by kernel_rfl)
theorem m1_1_3f (W w:Int) (l:List Int) (m:M1) (hW:1≤W∧W≤2) (hp:0≤m.p∧m.p≤2) (hs:0≤m.s∧m.s≤2) (hq:bits .and .i64 (Int.fdiv (kN l 1) (2^(2*1))) 3=((3:Nat):Int)) (hc:decide (m.s+W≤2)=false):Vc (vcC Try.prog false (ntOf Try.prog 14) (lpC Try.prog 14 0) (mk1 W w l m 1) [.b true,oB40 l, .iy 3, .b false, .b false, .b false, .b false, .b false, .b false, .b false, .b true, .b true, .b true, .b true, .b true, .b true, .b false] .nrm [(0,0),(1,1),(2,2)] (mk1 W w l (⟨m.p,m.s,m.r0,0,m.r2,m.r3⟩:M1) 2)):=vc_by (cj (dt (((1:Nat):Int)<4)) (zB42 l (cj (kC l 1 (by omega)) (cj (i6 ((2:Int)*((1:Nat):Int))) (cj (sB41) (cj hq (cj (bi ((3:Nat):Int) ((4:Nat):Int)) (cj (pv ((3:Nat)<4)) (cj (e0 (2:Int) 1) (cj (e0 (2:Int) 1) (cj (e0 (2:Int) 1) (cj (e0 (2:Int) 1) (cj (e0 (2:Int) 1) (cj (e0 (2:Int) 1) (cj (rf false) (cj (e1 (2:Int) 2) (cj (e1 (2:Int) 2) (cj (e1 (2:Int) 2) (cj (e1 (2:Int) 2) (cj (i6 (m.s+W)) (cj (e1 (2:Int) 2) (cj (e1 (2:Int) 2) (cj hc (cj (i6 (((1:Nat):Int)+1)) (zB44 W w l m (zB43 m trivial)))))))))))))))))))))))))) (by kernel_rfl)
theorem sB42:(0:Int)≤IntKind.wrap IntKind.u64 ((2:Int)*((2:Nat):Int)):=by decide
theorem zB45 (m:M1) {Z:Prop} (z:Z):(RF m.p (RF m.s (RF ((3:Nat):Int) Z))):=⟨rfl,rfl,rfl,z⟩
theorem zB46 (W:Int) (w:Int) (l:List Int) (m:M1) {Z:Prop} (z:Z):(RF l.length (RR l.length 1 (fun i j=>aI (l.getD i 0)) (RF W (RF w (RF (6:Int) (RF m.r0 (RF m.r1 (RF (0:Int) (RF m.r3 Z))))))))):=⟨rfl,fun _ _ _ _=>rfl,rfl,rfl,rfl,rfl,rfl,rfl,rfl,z⟩
theorem m1_2_0 (W w:Int) (l:List Int) (m:M1) (hW:1≤W∧W≤2) (hp:0≤m.p∧m.p≤2) (hs:0≤m.s∧m.s≤2) (hq:bits .and .i64 (Int.fdiv (kN l 1) (2^(2*2))) 3=((0:Nat):Int)):Vc (vcC Try.prog false (ntOf Try.prog 14) (lpC Try.prog 14 0) (mk1 W w l m 2) [.b true,oB40 l, .iy 0] .nrm [(0,0),(1,1),(2,2)] (mk1 W w l (⟨m.p,m.s,m.r0,m.r1,0,m.r3⟩:M1) 3)):=vc_by (cj (dt (((2:Nat):Int)<4)) (zB42 l (cj (kC l 1 (by omega)) (cj (i6 ((2:Int)*((2:Nat):Int))) (cj (sB42) (cj hq (cj (bi ((0:Nat):Int) ((4:Nat):Int)) (cj (pv ((0:Nat)<4)) (cj (i6 (((2:Nat):Int)+1)) (zB46 W w l m (zB45 m trivial))))))))))) (by kernel_rfl)
theorem m1_2_1 (W w:Int) (l:List Int) (m:M1) (hW:1≤W∧W≤2) (hp:0≤m.p∧m.p≤2) (hs:0≤m.s∧m.s≤2) (hq:bits .and .i64 (Int.fdiv (kN l 1) (2^(2*2))) 3=((1:Nat):Int)):Vc (vcC Try.prog false (ntOf Try.prog 14) (lpC Try.prog 14 0) (mk1 W w l m 2) [.b true,oB40 l, .iy 1] .nrm [(0,0),(1,1),(2,2)] (mk1 W w l (⟨m.p,m.s,m.r0,m.r1,0,m.r3⟩:M1) 3)):=vc_by (cj (dt (((2:Nat):Int)<4)) (zB42 l (cj (kC l 1 (by omega)) (cj (i6 ((2:Int)*((2:Nat):Int))) (cj (sB42) (cj hq (cj (bi ((1:Nat):Int) ((4:Nat):Int)) (cj (pv ((1:Nat)<4)) (cj (i6 (((2:Nat):Int)+1)) (zB46 W w l m (zB45 m trivial))))))))))) (by kernel_rfl)
theorem m1_2_2t (W w:Int) (l:List Int) (m:M1) (hW:1≤W∧W≤2) (hp:0≤m.p∧m.p≤2) (hs:0≤m.s∧m.s≤2) (hq:bits .and .i64 (Int.fdiv (kN l 1) (2^(2*2))) 3=((2:Nat):Int)) (hc:decide (m.p+W≤2)=true):Vc (vcC Try.prog false (ntOf Try.prog 14) (lpC Try.prog 14 0) (mk1 W w l m 2) [.b true,oB40 l, .iy 2, .b true, .b true, .b true, .b true, .b true, .b true, .b true] .nrm [(0,0),(1,1),(2,2)] (mk1 W w l (⟨m.p+W,m.s,m.r0,m.r1,1,m.r3⟩:M1) 3)):=vc_by (cj (dt (((2:Nat):Int)<4)) (zB42 l (cj (kC l 1 (by omega)) (cj (i6 ((2:Int)*((2:Nat):Int))) (cj (sB42) (cj hq (cj (bi ((2:Nat):Int) ((4:Nat):Int)) (cj (pv ((2:Nat)<4)) (cj (e1 (1:Int) 1) (cj (e1 (1:Int) 1) (cj (e1 (1:Int) 1) (cj (e1 (1:Int) 1) (cj (i6 (m.p+W)) (cj (e1 (1:Int) 1) (cj (e1 (1:Int) 1) (cj hc (cj (i6 (m.p+W)) (cj (i6 (((2:Nat):Int)+1)) (cj (rf l.length) (cj (rr l.length 1 fun i j=>aI (l.getD i 0)) (cj (rf W) (cj (rf w) (cj (rf (6:Int)) (cj (rf m.r0) (cj (rf m.r1) (cj (rf (1:Int)) (cj (rf m.r3) (cj (rf (m.p+W)) (cj (rf m.s) (cj (rf ((3:Nat):Int)) trivial)))))))))))))))))))))))))))))) (by kernel_rfl)
theorem m1_2_2f (W w:Int) (l:List Int) (m:M1) (hW:1≤W∧W≤2) (hp:0≤m.p∧m.p≤2) (hs:0≤m.s∧m.s≤2) (hq:bits .and .i64 (Int.fdiv (kN l 1) (2^(2*2))) 3=((2:Nat):Int)) (hc:decide (m.p+W≤2)=false):Vc (vcC Try.prog false (ntOf Try.prog 14) (lpC Try.prog 14 0) (mk1 W w l m 2) [.b true,oB40 l, .iy 2, .b true, .b true, .b true, .b true, .b true, .b true, .b false] .nrm [(0,0),(1,1),(2,2)] (mk1 W w l (⟨m.p,m.s,m.r0,m.r1,0,m.r3⟩:M1) 3)):=vc_by (cj (dt (((2:Nat):Int)<4)) (zB42 l (cj (kC l 1 (by omega)) (cj (i6 ((2:Int)*((2:Nat):Int))) (cj (sB42) (cj hq (cj (bi ((2:Nat):Int) ((4:Nat):Int)) (cj (pv ((2:Nat)<4)) (cj (e1 (1:Int) 1) (cj (e1 (1:Int) 1) (cj (e1 (1:Int) 1) (cj (e1 (1:Int) 1) (cj (i6 (m.p+W)) (cj (e1 (1:Int) 1) (cj (e1 (1:Int) 1) (cj hc (cj (i6 (((2:Nat):Int)+1)) (zB46 W w l m (zB45 m trivial))))))))))))))))))) (by kernel_rfl)
theorem m1_2_3t (W w:Int) (l:List Int) (m:M1) (hW:1≤W∧W≤2) (hp:0≤m.p∧m.p≤2) (hs:0≤m.s∧m.s≤2) (hq:bits .and .i64 (Int.fdiv (kN l 1) (2^(2*2))) 3=((3:Nat):Int)) (hc:decide (m.s+W≤2)=true):Vc (vcC Try.prog false (ntOf Try.prog 14) (lpC Try.prog 14 0) (mk1 W w l m 2) [.b true,oB40 l, .iy 3, .b false, .b false, .b false, .b false, .b false, .b false, .b false, .b true, .b true, .b true, .b true, .b true, .b true, .b true] .nrm [(0,0),(1,1),(2,2)] (mk1 W w l (⟨m.p,m.s+W,m.r0,m.r1,2,m.r3⟩:M1) 3)):=vc_by (cj (dt (((2:Nat):Int)<4)) (zB42 l (cj (kC l 1 (by omega)) (cj (i6 ((2:Int)*((2:Nat):Int))) (cj (sB42) (cj hq (cj (bi ((3:Nat):Int) ((4:Nat):Int)) (cj (pv ((3:Nat)<4)) (cj (e0 (2:Int) 1) (cj (e0 (2:Int) 1) (cj (e0 (2:Int) 1) (cj (e0 (2:Int) 1) (cj (e0 (2:Int) 1) (cj (e0 (2:Int) 1) (cj (rf false) (cj (e1 (2:Int) 2) (cj (e1 (2:Int) 2) (cj (e1 (2:Int) 2) (cj (e1 (2:Int) 2) (cj (i6 (m.s+W)) (cj (e1 (2:Int) 2) (cj (e1 (2:Int) 2) (cj hc (cj (i6 (m.s+W)) (cj (i6 (((2:Nat):Int)+1)) (cj (rf l.length) (cj (rr l.length 1 fun i j=>aI (l.getD i 0)) (cj (rf W) (cj (rf w) (cj (rf (6:Int)) (cj (rf m.r0) (cj (rf m.r1) (cj (rf (2:Int)) (cj (rf m.r3) (cj (rf m.p) (cj (rf (m.s+W)) (cj (rf ((3:Nat):Int)) trivial))))))))))))))))))))))))))))))))))))) (by kernel_rfl)
theorem m1_2_3f (W w:Int) (l:List Int) (m:M1) (hW:1≤W∧W≤2) (hp:0≤m.p∧m.p≤2) (hs:0≤m.s∧m.s≤2) (hq:bits .and .i64 (Int.fdiv (kN l 1) (2^(2*2))) 3=((3:Nat):Int)) (hc:decide (m.s+W≤2)=false):Vc (vcC Try.prog false (ntOf Try.prog 14) (lpC Try.prog 14 0) (mk1 W w l m 2) [.b true,oB40 l, .iy 3, .b false, .b false, .b false, .b false, .b false, .b false, .b false, .b true, .b true, .b true, .b true, .b true, .b true, .b false] .nrm [(0,0),(1,1),(2,2)] (mk1 W w l (⟨m.p,m.s,m.r0,m.r1,0,m.r3⟩:M1) 3)):=vc_by (cj (dt (((2:Nat):Int)<4)) (zB42 l (cj (kC l 1 (by omega)) (cj (i6 ((2:Int)*((2:Nat):Int))) (cj (sB42) (cj hq (cj (bi ((3:Nat):Int) ((4:Nat):Int)) (cj (pv ((3:Nat)<4)) (cj (e0 (2:Int) 1) (cj (e0 (2:Int) 1) (cj (e0 (2:Int) 1) (cj (e0 (2:Int) 1) (cj (e0 (2:Int) 1) (cj (e0 (2:Int) 1) (cj (rf false) (cj (e1 (2:Int) 2) (cj (e1 (2:Int) 2) (cj (e1 (2:Int) 2) (cj (e1 (2:Int) 2) (cj (i6 (m.s+W)) (cj (e1 (2:Int) 2) (cj (e1 (2:Int) 2) (cj hc (cj (i6 (((2:Nat):Int)+1)) (zB46 W w l m (zB45 m trivial)))))))))))))))))))))))))) (by kernel_rfl)
theorem sB43:(0:Int)≤IntKind.wrap IntKind.u64 ((2:Int)*((3:Nat):Int)):=by decide
theorem zB47 (m:M1) {Z:Prop} (z:Z):(RF m.p (RF m.s (RF ((4:Nat):Int) Z))):=⟨rfl,rfl,rfl,z⟩
theorem zB48 (W:Int) (w:Int) (l:List Int) (m:M1) {Z:Prop} (z:Z):(RF l.length (RR l.length 1 (fun i j=>aI (l.getD i 0)) (RF W (RF w (RF (6:Int) (RF m.r0 (RF m.r1 (RF m.r2 (RF (0:Int) Z))))))))):=⟨rfl,fun _ _ _ _=>rfl,rfl,rfl,rfl,rfl,rfl,rfl,rfl,z⟩
theorem m1_3_0 (W w:Int) (l:List Int) (m:M1) (hW:1≤W∧W≤2) (hp:0≤m.p∧m.p≤2) (hs:0≤m.s∧m.s≤2) (hq:bits .and .i64 (Int.fdiv (kN l 1) (2^(2*3))) 3=((0:Nat):Int)):Vc (vcC Try.prog false (ntOf Try.prog 14) (lpC Try.prog 14 0) (mk1 W w l m 3) [.b true,oB40 l, .iy 0] .nrm [(0,0),(1,1),(2,2)] (mk1 W w l (⟨m.p,m.s,m.r0,m.r1,m.r2,0⟩:M1) 4)):=vc_by (cj (dt (((3:Nat):Int)<4)) (zB42 l (cj (kC l 1 (by omega)) (cj (i6 ((2:Int)*((3:Nat):Int))) (cj (sB43) (cj hq (cj (bi ((0:Nat):Int) ((4:Nat):Int)) (cj (pv ((0:Nat)<4)) (cj (i6 (((3:Nat):Int)+1)) (zB48 W w l m (zB47 m trivial))))))))))) (by kernel_rfl)
theorem m1_3_1 (W w:Int) (l:List Int) (m:M1) (hW:1≤W∧W≤2) (hp:0≤m.p∧m.p≤2) (hs:0≤m.s∧m.s≤2) (hq:bits .and .i64 (Int.fdiv (kN l 1) (2^(2*3))) 3=((1:Nat):Int)):Vc (vcC Try.prog false (ntOf Try.prog 14) (lpC Try.prog 14 0) (mk1 W w l m 3) [.b true,oB40 l, .iy 1] .nrm [(0,0),(1,1),(2,2)] (mk1 W w l (⟨m.p,m.s,m.r0,m.r1,m.r2,0⟩:M1) 4)):=vc_by (cj (dt (((3:Nat):Int)<4)) (zB42 l (cj (kC l 1 (by omega)) (cj (i6 ((2:Int)*((3:Nat):Int))) (cj (sB43) (cj hq (cj (bi ((1:Nat):Int) ((4:Nat):Int)) (cj (pv ((1:Nat)<4)) (cj (i6 (((3:Nat):Int)+1)) (zB48 W w l m (zB47 m trivial))))))))))) (by kernel_rfl)
theorem m1_3_2t (W w:Int) (l:List Int) (m:M1) (hW:1≤W∧W≤2) (hp:0≤m.p∧m.p≤2) (hs:0≤m.s∧m.s≤2) (hq:bits .and .i64 (Int.fdiv (kN l 1) (2^(2*3))) 3=((2:Nat):Int)) (hc:decide (m.p+W≤2)=true):Vc (vcC Try.prog false (ntOf Try.prog 14) (lpC Try.prog 14 0) (mk1 W w l m 3) [.b true,oB40 l, .iy 2, .b true, .b true, .b true, .b true, .b true, .b true, .b true] .nrm [(0,0),(1,1),(2,2)] (mk1 W w l (⟨m.p+W,m.s,m.r0,m.r1,m.r2,1⟩:M1) 4)):=vc_by (cj (dt (((3:Nat):Int)<4)) (zB42 l (cj (kC l 1 (by omega)) (cj (i6 ((2:Int)*((3:Nat):Int))) (cj (sB43) (cj hq (cj (bi ((2:Nat):Int) ((4:Nat):Int)) (cj (pv ((2:Nat)<4)) (cj (e1 (1:Int) 1) (cj (e1 (1:Int) 1) (cj (e1 (1:Int) 1) (cj (e1 (1:Int) 1) (cj (i6 (m.p+W)) (cj (e1 (1:Int) 1) (cj (e1 (1:Int) 1) (cj hc (cj (i6 (m.p+W)) (cj (i6 (((3:Nat):Int)+1)) (cj (rf l.length) (cj (rr l.length 1 fun i j=>aI (l.getD i 0)) (cj (rf W) (cj (rf w) (cj (rf (6:Int)) (cj (rf m.r0) (cj (rf m.r1) (cj (rf m.r2) (cj (rf (1:Int)) (cj (rf (m.p+W)) (cj (rf m.s) (cj (rf ((4:Nat):Int)) trivial)))))))))))))))))))))))))))))) (by kernel_rfl)
theorem m1_3_2f (W w:Int) (l:List Int) (m:M1) (hW:1≤W∧W≤2) (hp:0≤m.p∧m.p≤2) (hs:0≤m.s∧m.s≤2) (hq:bits .and .i64 (Int.fdiv (kN l 1) (2^(2*3))) 3=((2:Nat):Int)) (hc:decide (m.p+W≤2)=false):Vc (vcC Try.prog false (ntOf Try.prog 14) (lpC Try.prog 14 0) (mk1 W w l m 3) [.b true,oB40 l, .iy 2, .b true, .b true, .b true, .b true, .b true, .b true, .b false] .nrm [(0,0),(1,1),(2,2)] (mk1 W w l (⟨m.p,m.s,m.r0,m.r1,m.r2,0⟩:M1) 4)):=vc_by (cj (dt (((3:Nat):Int)<4)) (zB42 l (cj (kC l 1 (by omega)) (cj (i6 ((2:Int)*((3:Nat):Int))) (cj (sB43) (cj hq (cj (bi ((2:Nat):Int) ((4:Nat):Int)) (cj (pv ((2:Nat)<4)) (cj (e1 (1:Int) 1) (cj (e1 (1:Int) 1) (cj (e1 (1:Int) 1) (cj (e1 (1:Int) 1) (cj (i6 (m.p+W)) (cj (e1 (1:Int) 1) (cj (e1 (1:Int) 1) (cj hc (cj (i6 (((3:Nat):Int)+1)) (zB48 W w l m (zB47 m trivial))))))))))))))))))) (by kernel_rfl)
theorem m1_3_3t (W w:Int) (l:List Int) (m:M1) (hW:1≤W∧W≤2) (hp:0≤m.p∧m.p≤2) (hs:0≤m.s∧m.s≤2) (hq:bits .and .i64 (Int.fdiv (kN l 1) (2^(2*3))) 3=((3:Nat):Int)) (hc:decide (m.s+W≤2)=true):Vc (vcC Try.prog false (ntOf Try.prog 14) (lpC Try.prog 14 0) (mk1 W w l m 3) [.b true,oB40 l, .iy 3, .b false, .b false, .b false, .b false, .b false, .b false, .b false, .b true, .b true, .b true, .b true, .b true, .b true, .b true] .nrm [(0,0),(1,1),(2,2)] (mk1 W w l (⟨m.p,m.s+W,m.r0,m.r1,m.r2,2⟩:M1) 4)):=vc_by (cj (dt (((3:Nat):Int)<4)) (zB42 l (cj (kC l 1 (by omega)) (cj (i6 ((2:Int)*((3:Nat):Int))) (cj (sB43) (cj hq (cj (bi ((3:Nat):Int) ((4:Nat):Int)) (cj (pv ((3:Nat)<4)) (cj (e0 (2:Int) 1) (cj (e0 (2:Int) 1) (cj (e0 (2:Int) 1) (cj (e0 (2:Int) 1) (cj (e0 (2:Int) 1) (cj (e0 (2:Int) 1) (cj (rf false) (cj (e1 (2:Int) 2) (cj (e1 (2:Int) 2) (cj (e1 (2:Int) 2) (cj (e1 (2:Int) 2) (cj (i6 (m.s+W)) (cj (e1 (2:Int) 2) (cj (e1 (2:Int) 2) (cj hc (cj (i6 (m.s+W)) (cj (i6 (((3:Nat):Int)+1)) (cj (rf l.length) (cj (rr l.length 1 fun i j=>aI (l.getD i 0)) (cj (rf W) (cj (rf w) (cj (rf (6:Int)) (cj (rf m.r0) (cj (rf m.r1) (cj (rf m.r2) (cj (rf (2:Int)) (cj (rf m.p) (cj (rf (m.s+W)) (cj (rf ((4:Nat):Int)) trivial))))))))))))))))))))))))))))))))))))) (by kernel_rfl)
theorem m1_3_3f (W w:Int) (l:List Int) (m:M1) (hW:1≤W∧W≤2) (hp:0≤m.p∧m.p≤2) (hs:0≤m.s∧m.s≤2) (hq:bits .and .i64 (Int.fdiv (kN l 1) (2^(2*3))) 3=((3:Nat):Int)) (hc:decide (m.s+W≤2)=false):Vc (vcC Try.prog false (ntOf Try.prog 14) (lpC Try.prog 14 0) (mk1 W w l m 3) [.b true,oB40 l, .iy 3, .b false, .b false, .b false, .b false, .b false, .b false, .b false, .b true, .b true, .b true, .b true, .b true, .b true, .b false] .nrm [(0,0),(1,1),(2,2)] (mk1 W w l (⟨m.p,m.s,m.r0,m.r1,m.r2,0⟩:M1) 4)):=vc_by (cj (dt (((3:Nat):Int)<4)) (zB42 l (cj (kC l 1 (by omega)) (cj (i6 ((2:Int)*((3:Nat):Int))) (cj (sB43) (cj hq (cj (bi ((3:Nat):Int) ((4:Nat):Int)) (cj (pv ((3:Nat)<4)) (cj (e0 (2:Int) 1) (cj (e0 (2:Int) 1) (cj (e0 (2:Int) 1) (cj (e0 (2:Int) 1) (cj (e0 (2:Int) 1) (cj (e0 (2:Int) 1) (cj (rf false) (cj (e1 (2:Int) 2) (cj (e1 (2:Int) 2) (cj (e1 (2:Int) 2) (cj (e1 (2:Int) 2) (cj (i6 (m.s+W)) (cj (e1 (2:Int) 2) (cj (e1 (2:Int) 2) (cj hc (cj (i6 (((3:Nat):Int)+1)) (zB48 W w l m (zB47 m trivial)))))))))))))))))))))))))) (by kernel_rfl)
theorem zB49 (W:Int) (w:Int) (l:List Int) (m:M1) {Z:Prop} (z:Z):(RF l.length (RR l.length 1 (fun i j=>aI (l.getD i 0)) (RF W (RF w (RF (6:Int) (RF m.r0 (RF m.r1 (RF m.r2 (RF m.r3 Z))))))))):=⟨rfl,fun _ _ _ _=>rfl,rfl,rfl,rfl,rfl,rfl,rfl,rfl,z⟩
theorem m1_end (W w:Int) (l:List Int) (m:M1):Vc (vcC Try.prog false (ntOf Try.prog 14) (lpC Try.prog 14 0) (mk1 W w l m 4) [.b false] (.ext 0) [(0,0),(1,1),(2,2)] (mk1 W w l m 4)):=vc_by (cj (df (((4:Nat):Int)<4)) (zB49 W w l m (zB47 m trivial))) (by kernel_rfl)
theorem mstep_bd {W:Int} {q k:Nat} {m:M1} (hW:1≤W∧W≤2) (hp:0≤m.p∧m.p≤2) (hs:0≤m.s∧m.s≤2):(0≤(mstep W q k m).p∧(mstep W q k m).p≤2)∧(0≤(mstep W q k m).s∧(mstep W q k m).s≤2):=by
 have h1: ∀ v,(m.set k v).p=m.p∧(m.set k v).s=m.s:=fun v=>by unfold M1.set;split<;>exact ⟨rfl,rfl⟩
 have e0:=h1 0
 have e1:=h1 1
 have e2:=h1 2
 unfold mstep
 repeat' split
 all_goals simp only [e0.1,e0.2,e1.1,e1.2,e2.1,e2.2]
 all_goals omega
theorem mK_bd {W:Int} (hW:1≤W∧W≤2) (l:List Int) (k:Nat):(0≤(mK W l k).p∧(mK W l k).p≤2)∧(0≤(mK W l k).s∧(mK W l k).s≤2):=by
 induction k with
 |zero=>exact ⟨⟨by show (0:Int)≤0;omega,by show (0:Int)≤2;omega⟩,⟨by show (0:Int)≤0;omega,by show (0:Int)≤2;omega⟩⟩
 |succ k ih=>exact mstep_bd hW ih.1 ih.2
theorem mq_eq (l:List Int) (k:Nat):mq l k<4∧bits .and .i64 (Int.fdiv (kN l 1) (2^(2*k))) 3=((mq l k:Nat):Int):=by
 obtain ⟨q,h1,h2⟩:=bits3 (Int.fdiv (kN l 1) (2^(2*k)))
 unfold mq
 rw [h2]
 exact ⟨by omega,by simp⟩
theorem m1_loop (W w:Int) (l:List Int) (hW:1≤W∧W≤2):Ok Try.prog (ntOf Try.prog 14) (.loop (lpC Try.prog 14 0)) (mk1 W w l ⟨0,0,0,0,0,0⟩ 0).st (.ext 0) (mk1 W w l (mK W l 4) 4).st:=
 Ok.loop (P:=Try.prog) (nt:=ntOf Try.prog 14) (c:=lpC Try.prog 14 0) (F:=fun k=>mk1 W w l (mK W l k) k) (m:=4) (x:= .ext 0) (J:=mk1 W w l (mK W l 4) 4) (fun k hk=>by
  match k,hk with
  |0,_=>
   show Ok _ _ _ _ _ (mk1 W w l (mstep W (mq l 0) 0 (mK W l 0)) 1).st
   obtain ⟨hq4,hq⟩:=mq_eq l 0
   obtain ⟨hp,hs⟩:=mK_bd hW l 0
   match mq l 0,hq4,hq with
   |0,_,hq=>exact Ok.vc (m1_0_0 W w l _ hW hp hs hq)
   |1,_,hq=>exact Ok.vc (m1_0_1 W w l _ hW hp hs hq)
   |2,_,hq=>
    unfold mstep
    rw [if_pos rfl]
    by_cases hc:(mK W l 0).p+W≤2
    ·rw [if_pos hc];exact Ok.vc (m1_0_2t W w l _ hW hp hs hq (decide_eq_true hc))
    ·rw [if_neg hc];exact Ok.vc (m1_0_2f W w l _ hW hp hs hq (decide_eq_false hc))
   |3,_,hq=>
    unfold mstep
    rw [if_neg (by omega),if_pos rfl]
    by_cases hc:(mK W l 0).s+W≤2
    ·rw [if_pos hc];exact Ok.vc (m1_0_3t W w l _ hW hp hs hq (decide_eq_true hc))
    ·rw [if_neg hc];exact Ok.vc (m1_0_3f W w l _ hW hp hs hq (decide_eq_false hc))
  |1,_=>
   show Ok _ _ _ _ _ (mk1 W w l (mstep W (mq l 1) 1 (mK W l 1)) 2).st
   obtain ⟨hq4,hq⟩:=mq_eq l 1
   obtain ⟨hp,hs⟩:=mK_bd hW l 1
   match mq l 1,hq4,hq with
   |0,_,hq=>exact Ok.vc (m1_1_0 W w l _ hW hp hs hq)
   |1,_,hq=>exact Ok.vc (m1_1_1 W w l _ hW hp hs hq)
   |2,_,hq=>
    unfold mstep
    rw [if_pos rfl]
    by_cases hc:(mK W l 1).p+W≤2
    ·rw [if_pos hc];exact Ok.vc (m1_1_2t W w l _ hW hp hs hq (decide_eq_true hc))
    ·rw [if_neg hc];exact Ok.vc (m1_1_2f W w l _ hW hp hs hq (decide_eq_false hc))
   |3,_,hq=>
    unfold mstep
    rw [if_neg (by omega),if_pos rfl]
    by_cases hc:(mK W l 1).s+W≤2
    ·rw [if_pos hc];exact Ok.vc (m1_1_3t W w l _ hW hp hs hq (decide_eq_true hc))
    ·rw [if_neg hc];exact Ok.vc (m1_1_3f W w l _ hW hp hs hq (decide_eq_false hc))
  |2,_=>
   show Ok _ _ _ _ _ (mk1 W w l (mstep W (mq l 2) 2 (mK W l 2)) 3).st
   obtain ⟨hq4,hq⟩:=mq_eq l 2
   obtain ⟨hp,hs⟩:=mK_bd hW l 2
   match mq l 2,hq4,hq with
   |0,_,hq=>exact Ok.vc (m1_2_0 W w l _ hW hp hs hq)
   |1,_,hq=>exact Ok.vc (m1_2_1 W w l _ hW hp hs hq)
   |2,_,hq=>
    unfold mstep
    rw [if_pos rfl]
    by_cases hc:(mK W l 2).p+W≤2
    ·rw [if_pos hc];exact Ok.vc (m1_2_2t W w l _ hW hp hs hq (decide_eq_true hc))
    ·rw [if_neg hc];exact Ok.vc (m1_2_2f W w l _ hW hp hs hq (decide_eq_false hc))
   |3,_,hq=>
    unfold mstep
    rw [if_neg (by omega),if_pos rfl]
    by_cases hc:(mK W l 2).s+W≤2
    ·rw [if_pos hc];exact Ok.vc (m1_2_3t W w l _ hW hp hs hq (decide_eq_true hc))
    ·rw [if_neg hc];exact Ok.vc (m1_2_3f W w l _ hW hp hs hq (decide_eq_false hc))
  |3,_=>
   show Ok _ _ _ _ _ (mk1 W w l (mstep W (mq l 3) 3 (mK W l 3)) 4).st
   obtain ⟨hq4,hq⟩:=mq_eq l 3
   obtain ⟨hp,hs⟩:=mK_bd hW l 3
   match mq l 3,hq4,hq with
   |0,_,hq=>exact Ok.vc (m1_3_0 W w l _ hW hp hs hq)
   |1,_,hq=>exact Ok.vc (m1_3_1 W w l _ hW hp hs hq)
   |2,_,hq=>
    unfold mstep
    rw [if_pos rfl]
    by_cases hc:(mK W l 3).p+W≤2
    ·rw [if_pos hc];exact Ok.vc (m1_3_2t W w l _ hW hp hs hq (decide_eq_true hc))
    ·rw [if_neg hc];exact Ok.vc (m1_3_2f W w l _ hW hp hs hq (decide_eq_false hc))
   |3,_,hq=>
    unfold mstep
    rw [if_neg (by omega),if_pos rfl]
    by_cases hc:(mK W l 3).s+W≤2
    ·rw [if_pos hc];exact Ok.vc (m1_3_3t W w l _ hW hp hs hq (decide_eq_true hc))
    ·rw [if_neg hc];exact Ok.vc (m1_3_3f W w l _ hW hp hs hq (decide_eq_false hc))) (Ok.vc (m1_end W w l _)) (by simp)
theorem inL_len (l:List Int) (n:Nat): ∀ k,(inL l n k).length=k
 |0=>rfl
 |k+1=>by simp [inL,inL_len l n k]
theorem lbL_len: ∀ k,(lbL k).length=k
 |0=>rfl
 |k+1=>by simp [lbL,lbL_len k]
theorem dg_sz (k:Nat) (hk:k<6):(⟨#[108]⟩:ByteArray).size+(dgS k).size≤9223372036854775807:=match k,hk with
 |0,_=>by decide
 |1,_=>by decide
 |2,_=>by decide
 |3,_=>by decide
 |4,_=>by decide
 |5,_=>by decide
theorem m2_step (W w:Int) (l:List Int) (m:M1) (ms:List Mm) (n:Nat) (k:Nat) (hn:n<6) (hk:k≤n):Vc (vcC Try.prog false (ntOf Try.prog 14) (lpC Try.prog 14 1) (mk2 W w l m ms n k) [.b true, .cl [.int .i64 k] (.str (dgS k)) []] .nrm [(0,0),(1,1),(2,2),(3,3),(4,4)] (mk2 W w l m ms n (k+1))):=vc_by (cj (dt ((k:Int)≤(n:Int))) (cj (rf (k:Int)) (cj (digC k (by omega)) (cj (show (1:Nat)+ByteArray.size (dgS k)≤9223372036854775807 from (dg_sz k (by omega))) (cj (show (0:Nat)=0∧(lbL k).length=(lbL k).length∧((lbL k).length+1)*24≤140737488355328∧(lbL k).length+1≤140737488355328 from by rw [lbL_len];omega) (cj (i6 ((k:Int)+1)) (zB49 W w l m (cj (rf (0:Nat)) (cj (rf ms.length) (cj (rf (0:Nat)) (cj (show (lbL k).length+1=(lbL (k+1)).length from by rw [lbL_len,lbL_len]) (cj (rf ms.length) (cj (rr ms.length 3 fun i j=>rowL mmC ms i j) (cj (show (lbL k).length+1=(lbL (k+1)).length from by rw [lbL_len,lbL_len]) (cj (show ∀ (i:Nat),i<(lbL k).length+1→ ∀ (j:Nat),j<2→(bif Nat.blt i (lbL k).length then rowL lbC (lbL k) i j else List.getD [AV.str (ByteArray.mk (Array.mk [(108:UInt8)])++dgS k),aI (k:Int)] ((i-(lbL k).length+0)*2+j) AV.junk)=rowL lbC (lbL (k+1)) i j from (fun i hi j hj=>(show _=rowL lbC (lbL k++[lbN k]) i j from row_if (fun h=>(rowL_left h).symm) (fun h=>by obtain rfl:i=_:=Nat.le_antisymm (Nat.lt_succ_iff.mp hi) (Nat.not_lt.mp h);rw [rowL_last,Nat.sub_self];match j,hj with |0,_=>rfl |1,_=>rfl)))) (cj (rf (n:Int)) (cj (rf ((k:Int)+1)) trivial))))))))))))))))) (by kernel_rfl)
theorem m2_end (W w:Int) (l:List Int) (m:M1) (ms:List Mm) (n:Nat) (hn:n<6):Vc (vcC Try.prog false (ntOf Try.prog 14) (lpC Try.prog 14 1) (mk2 W w l m ms n (n+1)) [.b false] (.ext 3) [(0,0),(1,1),(2,2),(3,3),(4,4)] (mk2 W w l m ms n (n+1))):=vc_by (cj (df ((↑(n+1):Int)≤(n:Int))) (zB49 W w l m (cj (rf (0:Nat)) (cj (rf ms.length) (cj (rf (0:Nat)) (cj (rf ((lbL (n+1)).length)) (cj (rf ms.length) (cj (rr ms.length 3 fun i j=>rowL mmC ms i j) (cj (rf ((lbL (n+1)).length)) (cj (rr ((lbL (n+1)).length) 2 fun i j=>rowL lbC (lbL (n+1)) i j) (cj (rf (n:Int)) (cj (rf (↑(n+1):Int)) trivial)))))))))))) (by kernel_rfl)
theorem m3_step (W w:Int) (l:List Int) (m:M1) (ms:List Mm) (n:Nat) (k:Nat) (hn:n<6) (hk:k<n):Vc (vcC Try.prog false (ntOf Try.prog 14) (lpC Try.prog 14 2) (mk3 W w l m ms n k) [.b true, .cl [.int .i64 ((k+2:Nat):Int),kptr l] (.int .i64 (kN l (k+2))) [], .cl [.int .i64 (kN l (k+2)), .int .i64 n] (.agg (inA (insN (kN l (k+2)) n))) []] .nrm [(0,0),(1,1),(2,2),(3,3),(4,4),(5,5)] (mk3 W w l m ms n (k+1))):=vc_by (cj (dt ((k:Int)<(n:Int))) (cj (i6 ((k:Int)+2)) (cj (rf ((k:Int)+2)) (cj (rf l.length) (cj (rr l.length 1 fun i j=>aI (l.getD i 0)) (cj (kC l (k+2) (by omega)) (cj (rf (kN l (k+2))) (cj (rf (n:Int)) (cj (linsC (kN l (k+2)) n (by omega)) (cj (show (0:Nat)=0∧(inL l n k).length=(inL l n k).length∧((inL l n k).length+1)*80≤140737488355328∧(inL l n k).length+1≤140737488355328 from by rw [inL_len];omega) (cj (i6 ((k:Int)+1)) (zB49 W w l m (cj (rf (0:Nat)) (cj (rf ms.length) (cj (rf (0:Nat)) (cj (rf ((lbL (n+1)).length)) (cj (rf (0:Nat)) (cj (show (inL l n k).length+1=(inL l n (k+1)).length from by rw [inL_len,inL_len]) (cj (rf ms.length) (cj (rr ms.length 3 fun i j=>rowL mmC ms i j) (cj (rf ((lbL (n+1)).length)) (cj (rr ((lbL (n+1)).length) 2 fun i j=>rowL lbC (lbL (n+1)) i j) (cj (show (inL l n k).length+1=(inL l n (k+1)).length from by rw [inL_len,inL_len]) (cj (show ∀ (i:Nat),i<(inL l n k).length+1→ ∀ (j:Nat),j<9→(bif Nat.blt i (inL l n k).length then rowL inC (inL l n k) i j else List.getD [aI ((insN (kN l (k+2)) n).kind),aI ((insN (kN l (k+2)) n).op),aI ((insN (kN l (k+2)) n).d),AV.bool (((insN (kN l (k+2)) n).a).reg),aI (((insN (kN l (k+2)) n).a).n),AV.bool (((insN (kN l (k+2)) n).b).reg),aI (((insN (kN l (k+2)) n).b).n),AV.str ((insN (kN l (k+2)) n).nm),aI ((insN (kN l (k+2)) n).tg)] ((i-(inL l n k).length+0)*9+j) AV.junk)=rowL inC (inL l n (k+1)) i j from (fun i hi j hj=>(show _=rowL inC (inL l n k++[insN (kN l (k+2)) n]) i j from row_if (fun h=>(rowL_left h).symm) (fun h=>by obtain rfl:i=_:=Nat.le_antisymm (Nat.lt_succ_iff.mp hi) (Nat.not_lt.mp h);rw [rowL_last,Nat.sub_self];match j,hj with |0,_=>rfl |1,_=>rfl |2,_=>rfl |3,_=>rfl |4,_=>rfl |5,_=>rfl |6,_=>rfl |7,_=>rfl |8,_=>rfl)))) (cj (rf (n:Int)) (cj (rf ((k:Int)+1)) trivial)))))))))))))))))))))))))) (by kernel_rfl)
theorem m3_end (W w:Int) (l:List Int) (m:M1) (ms:List Mm) (n:Nat) (hn:n<6):Vc (vcC Try.prog false (ntOf Try.prog 14) (lpC Try.prog 14 2) (mk3 W w l m ms n n) [.b false] (.ext 5) [(0,0),(1,1),(2,2),(3,3),(4,4),(5,5)] (mk3 W w l m ms n n)):=vc_by (cj (df ((n:Int)<(n:Int))) (zB49 W w l m (cj (rf (0:Nat)) (cj (rf ms.length) (cj (rf (0:Nat)) (cj (rf ((lbL (n+1)).length)) (cj (rf (0:Nat)) (cj (rf ((inL l n n).length)) (cj (rf ms.length) (cj (rr ms.length 3 fun i j=>rowL mmC ms i j) (cj (rf ((lbL (n+1)).length)) (cj (rr ((lbL (n+1)).length) 2 fun i j=>rowL lbC (lbL (n+1)) i j) (cj (rf ((inL l n n).length)) (cj (rr ((inL l n n).length) 9 fun i j=>rowL inC (inL l n n) i j) (cj (rf (n:Int)) (cj (rf (n:Int)) trivial)))))))))))))))) (by kernel_rfl)
theorem m2_loop (W w:Int) (l:List Int) (m:M1) (ms:List Mm) (n:Nat) (hn:n<6):Ok Try.prog (ntOf Try.prog 14) (.loop (lpC Try.prog 14 1)) (mk2 W w l m ms n 0).st (.ext 3) (mk2 W w l m ms n (n+1)).st:=
 Ok.loop (P:=Try.prog) (nt:=ntOf Try.prog 14) (c:=lpC Try.prog 14 1) (F:=fun k=>mk2 W w l m ms n k) (m:=n+1) (x:= .ext 3) (J:=mk2 W w l m ms n (n+1)) (fun k hk=>Ok.vc (m2_step W w l m ms n k hn (by omega))) (Ok.vc (m2_end W w l m ms n hn)) (by simp)
theorem m3_loop (W w:Int) (l:List Int) (m:M1) (ms:List Mm) (n:Nat) (hn:n<6):Ok Try.prog (ntOf Try.prog 14) (.loop (lpC Try.prog 14 2)) (mk3 W w l m ms n 0).st (.ext 5) (mk3 W w l m ms n n).st:=
 Ok.loop (P:=Try.prog) (nt:=ntOf Try.prog 14) (c:=lpC Try.prog 14 2) (F:=fun k=>mk3 W w l m ms n k) (m:=n) (x:= .ext 5) (J:=mk3 W w l m ms n n) (fun k hk=>Ok.vc (m3_step W w l m ms n k hn hk)) (Ok.vc (m3_end W w l m ms n hn)) (by simp)
def mm1:Mm:=⟨⟨#[109]⟩,false,1⟩
def mm2:Mm:=⟨⟨#[109]⟩,false,2⟩
def ms1:Mm:=⟨⟨#[115]⟩,true,1⟩
theorem sB44 (W:Int) (l:List Int) (n:Nat) (hW1:bits .and .i64 (kN l 0) 1+1=W) (hW:1≤W∧W≤2) (hn1:bits .and .i64 (Int.fdiv (kN l 0) (2^12)) 3+2=(n:Int)) (hn:n<6):inK IntKind.i64 (Go.bits Go.BinOp.and IntKind.i64 (kN l (0:Nat)) (1:Int)+1):=by rw [hW1];exact in64 (by omega) (by omega)
theorem sB45 (W:Int) (l:List Int) (n:Nat) (hW1:bits .and .i64 (kN l 0) 1+1=W) (hW:1≤W∧W≤2) (hn1:bits .and .i64 (Int.fdiv (kN l 0) (2^12)) 3+2=(n:Int)) (hn:n<6):inK IntKind.i64 (Int.tmod (Go.bits Go.BinOp.and IntKind.i64 (Int.fdiv (kN l (0:Nat)) ((2:Int)^(1:Nat))) (255:Int)) (3:Int)+1):=(in_tm _ _ (by omega) (by omega))
theorem sB46 (W:Int) (l:List Int) (hW1:bits .and .i64 (kN l 0) 1+1=W) (c1f:(decide (bits .and .i64 (Int.fdiv (kN l 1) (2^8)) 3>0))=false):decide (Go.bits Go.BinOp.and IntKind.i64 (Int.fdiv (kN l (1:Nat)) ((2:Int)^(8:Nat))) (3:Int)>0)=false:=by first |exact c1f | (rw [hW1];exact c1f)| (simpa [hW1] using c1f)
theorem sB47 (W:Int) (l:List Int) (hW1:bits .and .i64 (kN l 0) 1+1=W) (c4f:(decide (bits .and .i64 (Int.fdiv (kN l 1) (2^12)) 3>0))=false):decide (Go.bits Go.BinOp.and IntKind.i64 (Int.fdiv (kN l (1:Nat)) ((2:Int)^(12:Nat))) (3:Int)>0)=false:=by first |exact c4f | (rw [hW1];exact c4f)| (simpa [hW1] using c4f)
theorem sB48 (W:Int) (l:List Int) (n:Nat) (hW1:bits .and .i64 (kN l 0) 1+1=W) (hW:1≤W∧W≤2) (hn1:bits .and .i64 (Int.fdiv (kN l 0) (2^12)) 3+2=(n:Int)) (hn:n<6):inK IntKind.i64 (Go.bits Go.BinOp.and IntKind.i64 (Int.fdiv (kN l (0:Nat)) ((2:Int)^(12:Nat))) (3:Int)+2):=by rw [hn1];exact in64 (by omega) (by omega)
theorem zB410 (W:Int) (l:List Int) (n:Nat) {Z:Prop} (z:Z):(RF ((mK W l (4:Nat)).r0) (RF ((mK W l (4:Nat)).r1) (RF ((mK W l (4:Nat)).r2) (RF ((mK W l (4:Nat)).r3) (RF (0:Nat) (RF (0:Nat) (RF (0:Nat) (RF ((lbL (n+1)).length) (RF (0:Nat) Z))))))))):=⟨rfl,rfl,rfl,rfl,rfl,rfl,rfl,rfl,rfl,z⟩
theorem zB411 (W:Int) (l:List Int) (n:Nat) {Z:Prop} (z:Z):(RF (0:Nat) (RR 0 3 (fun i j=>rowL mmC [] i j) (RF ((lbL (n+1)).length) (RR ((lbL (n+1)).length) 2 (fun i j=>rowL lbC (lbL (n+1)) i j) (RF ((inL l n n).length) (RR ((inL l n n).length) 9 (fun i j=>rowL inC (inL l n n) i j) (RF W (RF (winN l) (RF (6:Int) Z))))))))):=⟨rfl,fun _ _ _ _=>rfl,rfl,fun _ _ _ _=>rfl,rfl,fun _ _ _ _=>rfl,rfl,rfl,rfl,z⟩
theorem zB412 (n:Nat) {Z:Prop} (z:Z):(RR ((lbL (n+1)).length) 2 (fun i j=>rowL lbC (lbL (n+1)) i j) (RF (0:Nat) (RF (n:Int) (RF (0:Int) Z)))):=⟨fun _ _ _ _=>rfl,rfl,rfl,rfl,z⟩
theorem zB413 (n:Nat) {Z:Prop} (z:Z):(RF (0:Nat) (RF (0:Nat) (RF (0:Nat) (RF ((lbL (n+1)).length) (RF (0:Nat) (RF (0:Nat) (RF (0:Nat) (RR 0 3 (fun i j=>rowL mmC [] i j) (RF ((lbL (n+1)).length) Z))))))))):=⟨rfl,rfl,rfl,rfl,rfl,rfl,rfl,fun _ _ _ _=>rfl,rfl,z⟩
theorem zB414 (W:Int) (l:List Int) {Z:Prop} (z:Z):(RF l.length (RR l.length 1 (fun i j=>aI (l.getD i 0)) (RF W (RF (winN l) (RF (6:Int) (RF ((mK W l (4:Nat)).r0) (RF ((mK W l (4:Nat)).r1) (RF ((mK W l (4:Nat)).r2) (RF ((mK W l (4:Nat)).r3) Z))))))))):=⟨rfl,fun _ _ _ _=>rfl,rfl,rfl,rfl,rfl,rfl,rfl,rfl,z⟩
theorem zB415 {Z:Prop} (z:Z):(RF (0:Nat) (RF (0:Nat) (RF (0:Nat) (RF (0:Nat) (RF (0:Nat) (RF (0:Nat) Z)))))):=⟨rfl,rfl,rfl,rfl,rfl,rfl,z⟩
theorem zB416 (l:List Int) {Z:Prop} (z:Z):(RF (0:Int) (RF l.length (RR l.length 1 (fun i j=>aI (l.getD i 0)) Z))):=⟨rfl,rfl,fun _ _ _ _=>rfl,z⟩
theorem zB417 (l:List Int) {Z:Prop} (z:Z):(RF (winN l) (RF (6:Int) (RF (0:Int) (RF (0:Int) (RF (0:Int) (RF (0:Int) (RF (0:Int) (RF (0:Int) (RF (0:Int) Z))))))))):=⟨rfl,rfl,rfl,rfl,rfl,rfl,rfl,rfl,rfl,z⟩
abbrev oB41 (l:List Int):Orc:= .cl [.int .i64 ((0:Nat):Int),kptr l] (.int .i64 (kN l 0)) []
theorem mk_F_F (W:Int) (l:List Int) (n:Nat) (hW1:bits .and .i64 (kN l 0) 1+1=W) (hW:1≤W∧W≤2) (hn1:bits .and .i64 (Int.fdiv (kN l 0) (2^12)) 3+2=(n:Int)) (hn:n<6) (c1f:(decide (bits .and .i64 (Int.fdiv (kN l 1) (2^8)) 3>0))=false) (c4f:(decide (bits .and .i64 (Int.fdiv (kN l 1) (2^12)) 3>0))=false):Vc (vcFn Try.prog false 14 [.row 1 l.length (rowI l)] [oB41 l,oB41 l, .lp [(0,0),(1,1),(2,2)] (mk1 W (winN l) l ⟨0,0,0,0,0,0⟩ 0) (.ext 0) (mk1 W (winN l) l (mK W l 4) 4),oB40 l, .b false,oB40 l, .b false, .b false, .b false, .b false, .b false, .b false,oB41 l, .lp [(0,0),(1,1),(2,2)] (mk2 W (winN l) l (mK W l 4) ([]:List Mm) n 0) (.ext 3) (mk2 W (winN l) l (mK W l 4) ([]:List Mm) n (n+1)), .lp [(0,0),(1,1),(2,2),(3,3),(4,4)] (mk3 W (winN l) l (mK W l 4) ([]:List Mm) n 0) (.ext 5) (mk3 W (winN l) l (mK W l 4) ([]:List Mm) n n)] [(0,3),(1,4),(2,5)] (.agg [.int .i64 W, .int .i64 (winN l), .int .i64 6, .int .i64 (mK W l 4).r0, .int .i64 (mK W l 4).r1, .int .i64 (mK W l 4).r2, .int .i64 (mK W l 4).r3, .own 0 0 3 0 ([]:List Mm).length, .own 1 0 2 0 (lbL (n+1)).length, .own 2 0 9 0 (inL l n n).length]) [mmB ([]:List Mm),lbB (lbL (n+1)),inB (inL l n n)]):=vc_by (zB416 l (cj (kC l 0 (by omega)) (cj (sB44 W l n hW1 hW hn1 hn) (zB416 l (cj (kC l 0 (by omega)) (cj (pv ((0:Int)≤1)) (cj (pv ((3:Int)≠0)) (cj (sB45 W l n hW1 hW hn1 hn) (cj (rf l.length) (cj (rr l.length 1 fun i j=>aI (l.getD i 0)) (cj hW1 (zB417 l (cj (m1_loop W (winN l) l hW) (zB42 l (cj (kC l 1 (by omega)) (cj (pv ((0:Int)≤8)) (cj (sB46 W l hW1 c1f) (zB42 l (cj (kC l 1 (by omega)) (cj (pv ((0:Int)≤12)) (cj (sB47 W l hW1 c4f) (cj (sB47 W l hW1 c4f) (cj (sB47 W l hW1 c4f) (cj (sB47 W l hW1 c4f) (cj (sB47 W l hW1 c4f) (cj (sB47 W l hW1 c4f) (zB416 l (cj (kC l 0 (by omega)) (cj (pv ((0:Int)≤12)) (cj (sB48 W l n hW1 hW hn1 hn) (zB414 W l (zB415 (cj hn1 (cj (rf (0:Int)) (cj (m2_loop W (winN l) l (mK W l 4) ([]:List Mm) n hn) (zB414 W l (zB413 n (zB412 n (cj (m3_loop W (winN l) l (mK W l 4) ([]:List Mm) n hn) (zB411 W l n (zB410 W l n (cj (rf ((inL l n n).length)) trivial)))))))))))))))))))))))))))))))))))))))))) (by kernel_rfl)
theorem sB49 (W:Int) (l:List Int) (hW1:bits .and .i64 (kN l 0) 1+1=W) (c4t:(decide (bits .and .i64 (Int.fdiv (kN l 1) (2^12)) 3>0))=true):decide (Go.bits Go.BinOp.and IntKind.i64 (Int.fdiv (kN l (1:Nat)) ((2:Int)^(12:Nat))) (3:Int)>0)=true:=by first |exact c4t | (rw [hW1];exact c4t)| (simpa [hW1] using c4t)
theorem sB410 (W:Int) (l:List Int) (n:Nat) (hW1:bits .and .i64 (kN l 0) 1+1=W) (hW:1≤W∧W≤2) (hn1:bits .and .i64 (Int.fdiv (kN l 0) (2^12)) 3+2=(n:Int)) (hn:n<6):inK IntKind.i64 ((mK W l (4:Nat)).s+W):=(in64 (by have:=(mK_bd hW l 4).2;omega) (by have:=(mK_bd hW l 4).2;omega))
theorem sB411 (W:Int) (l:List Int) (hW1:bits .and .i64 (kN l 0) 1+1=W) (c5f:(decide ((mK W l 4).s+W≤3))=false):decide ((mK W l (4:Nat)).s+W≤3)=false:=by first |exact c5f | (rw [hW1];exact c5f)| (simpa [hW1] using c5f)
theorem mk_F_TF (W:Int) (l:List Int) (n:Nat) (hW1:bits .and .i64 (kN l 0) 1+1=W) (hW:1≤W∧W≤2) (hn1:bits .and .i64 (Int.fdiv (kN l 0) (2^12)) 3+2=(n:Int)) (hn:n<6) (c1f:(decide (bits .and .i64 (Int.fdiv (kN l 1) (2^8)) 3>0))=false) (c4t:(decide (bits .and .i64 (Int.fdiv (kN l 1) (2^12)) 3>0))=true) (c5f:(decide ((mK W l 4).s+W≤3))=false):Vc (vcFn Try.prog false 14 [.row 1 l.length (rowI l)] [oB41 l,oB41 l, .lp [(0,0),(1,1),(2,2)] (mk1 W (winN l) l ⟨0,0,0,0,0,0⟩ 0) (.ext 0) (mk1 W (winN l) l (mK W l 4) 4),oB40 l, .b false,oB40 l, .b true, .b true, .b true, .b true, .b true, .b true, .b false, .b false, .b false, .b false, .b false, .b false, .b false,oB41 l, .lp [(0,0),(1,1),(2,2)] (mk2 W (winN l) l (mK W l 4) ([]:List Mm) n 0) (.ext 3) (mk2 W (winN l) l (mK W l 4) ([]:List Mm) n (n+1)), .lp [(0,0),(1,1),(2,2),(3,3),(4,4)] (mk3 W (winN l) l (mK W l 4) ([]:List Mm) n 0) (.ext 5) (mk3 W (winN l) l (mK W l 4) ([]:List Mm) n n)] [(0,3),(1,4),(2,5)] (.agg [.int .i64 W, .int .i64 (winN l), .int .i64 6, .int .i64 (mK W l 4).r0, .int .i64 (mK W l 4).r1, .int .i64 (mK W l 4).r2, .int .i64 (mK W l 4).r3, .own 0 0 3 0 ([]:List Mm).length, .own 1 0 2 0 (lbL (n+1)).length, .own 2 0 9 0 (inL l n n).length]) [mmB ([]:List Mm),lbB (lbL (n+1)),inB (inL l n n)]):=vc_by (zB416 l (cj (kC l 0 (by omega)) (cj (sB44 W l n hW1 hW hn1 hn) (zB416 l (cj (kC l 0 (by omega)) (cj (pv ((0:Int)≤1)) (cj (pv ((3:Int)≠0)) (cj (sB45 W l n hW1 hW hn1 hn) (cj (rf l.length) (cj (rr l.length 1 fun i j=>aI (l.getD i 0)) (cj hW1 (zB417 l (cj (m1_loop W (winN l) l hW) (zB42 l (cj (kC l 1 (by omega)) (cj (pv ((0:Int)≤8)) (cj (sB46 W l hW1 c1f) (zB42 l (cj (kC l 1 (by omega)) (cj (pv ((0:Int)≤12)) (cj (sB49 W l hW1 c4t) (cj (sB49 W l hW1 c4t) (cj (sB49 W l hW1 c4t) (cj (sB49 W l hW1 c4t) (cj (sB410 W l n hW1 hW hn1 hn) (cj (sB49 W l hW1 c4t) (cj (sB49 W l hW1 c4t) (cj (sB411 W l hW1 c5f) (cj (sB411 W l hW1 c5f) (cj (sB411 W l hW1 c5f) (cj (sB411 W l hW1 c5f) (cj (sB411 W l hW1 c5f) (cj (sB411 W l hW1 c5f) (cj (sB411 W l hW1 c5f) (zB416 l (cj (kC l 0 (by omega)) (cj (pv ((0:Int)≤12)) (cj (sB48 W l n hW1 hW hn1 hn) (zB414 W l (zB415 (cj hn1 (cj (rf (0:Int)) (cj (m2_loop W (winN l) l (mK W l 4) ([]:List Mm) n hn) (zB414 W l (zB413 n (zB412 n (cj (m3_loop W (winN l) l (mK W l 4) ([]:List Mm) n hn) (zB411 W l n (zB410 W l n (cj (rf ((inL l n n).length)) trivial)))))))))))))))))))))))))))))))))))))))))))))))))) (by kernel_rfl)
theorem sB412 (W:Int) (l:List Int) (hW1:bits .and .i64 (kN l 0) 1+1=W) (c5t:(decide ((mK W l 4).s+W≤3))=true):decide ((mK W l (4:Nat)).s+W≤3)=true:=by first |exact c5t | (rw [hW1];exact c5t)| (simpa [hW1] using c5t)
theorem zB418 (W:Int) (l:List Int) (n:Nat) {Z:Prop} (z:Z):(RF ((mK W l (4:Nat)).r0) (RF ((mK W l (4:Nat)).r1) (RF ((mK W l (4:Nat)).r2) (RF ((mK W l (4:Nat)).r3) (RF (0:Nat) (RF (1:Nat) (RF (0:Nat) (RF ((lbL (n+1)).length) (RF (0:Nat) Z))))))))):=⟨rfl,rfl,rfl,rfl,rfl,rfl,rfl,rfl,rfl,z⟩
theorem zB419 {Z:Prop} (z:Z):(RF (0:Nat) (RF (1:Nat) (RF (0:Nat) (RF (0:Nat) (RF (1:Nat) Z))))):=⟨rfl,rfl,rfl,rfl,rfl,z⟩
theorem mk_F_TT (W:Int) (l:List Int) (n:Nat) (hW1:bits .and .i64 (kN l 0) 1+1=W) (hW:1≤W∧W≤2) (hn1:bits .and .i64 (Int.fdiv (kN l 0) (2^12)) 3+2=(n:Int)) (hn:n<6) (c1f:(decide (bits .and .i64 (Int.fdiv (kN l 1) (2^8)) 3>0))=false) (c4t:(decide (bits .and .i64 (Int.fdiv (kN l 1) (2^12)) 3>0))=true) (c5t:(decide ((mK W l 4).s+W≤3))=true):Vc (vcFn Try.prog false 14 [.row 1 l.length (rowI l)] [oB41 l,oB41 l, .lp [(0,0),(1,1),(2,2)] (mk1 W (winN l) l ⟨0,0,0,0,0,0⟩ 0) (.ext 0) (mk1 W (winN l) l (mK W l 4) 4),oB40 l, .b false,oB40 l, .b true, .b true, .b true, .b true, .b true, .b true, .b true, .b true, .b true, .b true, .b true, .b true, .b true, .b true, .b true, .b true, .b true, .b true, .b true, .b true,oB41 l, .lp [(0,0),(1,1),(2,2),(3,4)] (mk2 W (winN l) l (mK W l 4) ([ms1]:List Mm) n 0) (.ext 3) (mk2 W (winN l) l (mK W l 4) ([ms1]:List Mm) n (n+1)), .lp [(0,0),(1,1),(2,2),(3,3),(4,4)] (mk3 W (winN l) l (mK W l 4) ([ms1]:List Mm) n 0) (.ext 5) (mk3 W (winN l) l (mK W l 4) ([ms1]:List Mm) n n)] [(0,3),(1,4),(2,5)] (.agg [.int .i64 W, .int .i64 (winN l), .int .i64 6, .int .i64 (mK W l 4).r0, .int .i64 (mK W l 4).r1, .int .i64 (mK W l 4).r2, .int .i64 (mK W l 4).r3, .own 0 0 3 0 ([ms1]:List Mm).length, .own 1 0 2 0 (lbL (n+1)).length, .own 2 0 9 0 (inL l n n).length]) [mmB ([ms1]:List Mm),lbB (lbL (n+1)),inB (inL l n n)]):=vc_by (zB416 l (cj (kC l 0 (by omega)) (cj (sB44 W l n hW1 hW hn1 hn) (zB416 l (cj (kC l 0 (by omega)) (cj (pv ((0:Int)≤1)) (cj (pv ((3:Int)≠0)) (cj (sB45 W l n hW1 hW hn1 hn) (cj (rf l.length) (cj (rr l.length 1 fun i j=>aI (l.getD i 0)) (cj hW1 (zB417 l (cj (m1_loop W (winN l) l hW) (zB42 l (cj (kC l 1 (by omega)) (cj (pv ((0:Int)≤8)) (cj (sB46 W l hW1 c1f) (zB42 l (cj (kC l 1 (by omega)) (cj (pv ((0:Int)≤12)) (cj (sB49 W l hW1 c4t) (cj (sB49 W l hW1 c4t) (cj (sB49 W l hW1 c4t) (cj (sB49 W l hW1 c4t) (cj (sB410 W l n hW1 hW hn1 hn) (cj (sB49 W l hW1 c4t) (cj (sB49 W l hW1 c4t) (cj (sB412 W l hW1 c5t) (cj (sB412 W l hW1 c5t) (cj (sB412 W l hW1 c5t) (cj (sB412 W l hW1 c5t) (cj (sB412 W l hW1 c5t) (cj (e1 (0:Int) 0) (cj (e1 (0:Int) 0) (cj (e1 (0:Int) 0) (cj (e1 (0:Int) 0) (cj (e1 (0:Int) 0) (cj (e1 (0:Int) 0) (cj (sB412 W l hW1 c5t) (cj (e1 (0:Int) 0) (cj (sB412 W l hW1 c5t) (cj (pv ((32:Nat)≤140737488355328∧(1:Nat)≤140737488355328)) (zB416 l (cj (kC l 0 (by omega)) (cj (pv ((0:Int)≤12)) (cj (sB48 W l n hW1 hW hn1 hn) (zB414 W l (zB419 (cj (show ∀ (i:Nat),i<1→ ∀ (j:Nat),j<3→List.getD [AV.str (ByteArray.mk (Array.mk [(115:UInt8)])),AV.bool true,aI (1:Int)] ((i+0)*3+j) AV.junk=rowL mmC [ms1] i j from (fun i hi j hj=>match i,hi,j,hj with |0,_,0,_=>rfl |0,_,1,_=>rfl |0,_,2,_=>rfl)) (cj (rf (0:Nat)) (cj hn1 (cj (rf (0:Int)) (cj (m2_loop W (winN l) l (mK W l 4) ([ms1]:List Mm) n hn) (zB414 W l (cj (rf (0:Nat)) (cj (rf (1:Nat)) (cj (rf (0:Nat)) (cj (rf ((lbL (n+1)).length)) (cj (rf (0:Nat)) (cj (rf (0:Nat)) (cj (rf (1:Nat)) (cj (rr 1 3 fun i j=>rowL mmC [ms1] i j) (cj (rf ((lbL (n+1)).length)) (zB412 n (cj (m3_loop W (winN l) l (mK W l 4) ([ms1]:List Mm) n hn) (cj (rf (1:Nat)) (cj (rr 1 3 fun i j=>rowL mmC [ms1] i j) (cj (rf ((lbL (n+1)).length)) (cj (rr ((lbL (n+1)).length) 2 fun i j=>rowL lbC (lbL (n+1)) i j) (cj (rf ((inL l n n).length)) (cj (rr ((inL l n n).length) 9 fun i j=>rowL inC (inL l n n) i j) (cj (rf W) (cj (rf (winN l)) (cj (rf (6:Int)) (zB418 W l n (cj (rf ((inL l n n).length)) trivial)))))))))))))))))))))))))))))))))))))))))))))))))))))))))))))))))))))))))))) (by kernel_rfl)
theorem sB413 (W:Int) (l:List Int) (hW1:bits .and .i64 (kN l 0) 1+1=W) (c1t:(decide (bits .and .i64 (Int.fdiv (kN l 1) (2^8)) 3>0))=true):decide (Go.bits Go.BinOp.and IntKind.i64 (Int.fdiv (kN l (1:Nat)) ((2:Int)^(8:Nat))) (3:Int)>0)=true:=by first |exact c1t | (rw [hW1];exact c1t)| (simpa [hW1] using c1t)
theorem sB414 (W:Int) (l:List Int) (hW1:bits .and .i64 (kN l 0) 1+1=W) (c2f:(W==1)=false):(W==(1:Int))=false:=by first |exact c2f | (rw [hW1];exact c2f)| (simpa [hW1] using c2f)
theorem sB415: ∀ (i:Nat),i<1→ ∀ (j:Nat),j<3→List.getD [AV.str (ByteArray.mk (Array.mk [(109:UInt8)])),AV.bool false,aI (1:Int)] ((i+0)*3+j) AV.junk=rowL mmC [mm1] i j:=(fun i hi j hj=>match i,hi,j,hj with |0,_,0,_=>rfl |0,_,1,_=>rfl |0,_,2,_=>rfl)
theorem zB420 (W:Int) (l:List Int) (n:Nat) {Z:Prop} (z:Z):(RF (1:Nat) (RR 1 3 (fun i j=>rowL mmC [mm1] i j) (RF ((lbL (n+1)).length) (RR ((lbL (n+1)).length) 2 (fun i j=>rowL lbC (lbL (n+1)) i j) (RF ((inL l n n).length) (RR ((inL l n n).length) 9 (fun i j=>rowL inC (inL l n n) i j) (RF W (RF (winN l) (RF (6:Int) Z))))))))):=⟨rfl,fun _ _ _ _=>rfl,rfl,fun _ _ _ _=>rfl,rfl,fun _ _ _ _=>rfl,rfl,rfl,rfl,z⟩
theorem zB421 (n:Nat) {Z:Prop} (z:Z):(RF (0:Nat) (RF (1:Nat) (RF (0:Nat) (RF ((lbL (n+1)).length) (RF (0:Nat) (RF (0:Nat) (RF (1:Nat) (RR 1 3 (fun i j=>rowL mmC [mm1] i j) (RF ((lbL (n+1)).length) Z))))))))):=⟨rfl,rfl,rfl,rfl,rfl,rfl,rfl,fun _ _ _ _=>rfl,rfl,z⟩
theorem zB422 (l:List Int) {Z:Prop} (z:Z):(RF false (RF (1:Int) (RF l.length (RR l.length 1 (fun i j=>aI (l.getD i 0)) Z)))):=⟨rfl,rfl,rfl,fun _ _ _ _=>rfl,z⟩
theorem mk_TF_F (W:Int) (l:List Int) (n:Nat) (hW1:bits .and .i64 (kN l 0) 1+1=W) (hW:1≤W∧W≤2) (hn1:bits .and .i64 (Int.fdiv (kN l 0) (2^12)) 3+2=(n:Int)) (hn:n<6) (c1t:(decide (bits .and .i64 (Int.fdiv (kN l 1) (2^8)) 3>0))=true) (c2f:(W==1)=false) (c4f:(decide (bits .and .i64 (Int.fdiv (kN l 1) (2^12)) 3>0))=false):Vc (vcFn Try.prog false 14 [.row 1 l.length (rowI l)] [oB41 l,oB41 l, .lp [(0,0),(1,1),(2,2)] (mk1 W (winN l) l ⟨0,0,0,0,0,0⟩ 0) (.ext 0) (mk1 W (winN l) l (mK W l 4) 4),oB40 l, .b true, .b false, .b false, .b false, .b false, .b false, .b false, .b false,oB40 l, .b false, .b false, .b false, .b false, .b false, .b false,oB41 l, .lp [(0,0),(1,1),(2,2),(3,4)] (mk2 W (winN l) l (mK W l 4) ([mm1]:List Mm) n 0) (.ext 3) (mk2 W (winN l) l (mK W l 4) ([mm1]:List Mm) n (n+1)), .lp [(0,0),(1,1),(2,2),(3,3),(4,4)] (mk3 W (winN l) l (mK W l 4) ([mm1]:List Mm) n 0) (.ext 5) (mk3 W (winN l) l (mK W l 4) ([mm1]:List Mm) n n)] [(0,3),(1,4),(2,5)] (.agg [.int .i64 W, .int .i64 (winN l), .int .i64 6, .int .i64 (mK W l 4).r0, .int .i64 (mK W l 4).r1, .int .i64 (mK W l 4).r2, .int .i64 (mK W l 4).r3, .own 0 0 3 0 ([mm1]:List Mm).length, .own 1 0 2 0 (lbL (n+1)).length, .own 2 0 9 0 (inL l n n).length]) [mmB ([mm1]:List Mm),lbB (lbL (n+1)),inB (inL l n n)]):=vc_by (zB416 l (cj (kC l 0 (by omega)) (cj (sB44 W l n hW1 hW hn1 hn) (zB416 l (cj (kC l 0 (by omega)) (cj (pv ((0:Int)≤1)) (cj (pv ((3:Int)≠0)) (cj (sB45 W l n hW1 hW hn1 hn) (cj (rf l.length) (cj (rr l.length 1 fun i j=>aI (l.getD i 0)) (cj hW1 (zB417 l (cj (m1_loop W (winN l) l hW) (zB42 l (cj (kC l 1 (by omega)) (cj (pv ((0:Int)≤8)) (cj (sB413 W l hW1 c1t) (cj (pv ((32:Nat)≤140737488355328∧(1:Nat)≤140737488355328)) (cj (sB414 W l hW1 c2f) (cj (sB414 W l hW1 c2f) (cj (sB414 W l hW1 c2f) (cj (sB414 W l hW1 c2f) (cj (sB414 W l hW1 c2f) (cj (sB414 W l hW1 c2f) (zB422 l (cj (kC l 1 (by omega)) (cj (pv ((0:Int)≤12)) (cj (sB47 W l hW1 c4f) (cj (sB47 W l hW1 c4f) (cj (sB47 W l hW1 c4f) (cj (sB47 W l hW1 c4f) (cj (sB47 W l hW1 c4f) (cj (sB47 W l hW1 c4f) (zB416 l (cj (kC l 0 (by omega)) (cj (pv ((0:Int)≤12)) (cj (sB48 W l n hW1 hW hn1 hn) (zB414 W l (zB419 (cj (sB415) (cj (rf (0:Nat)) (cj hn1 (cj (rf (0:Int)) (cj (m2_loop W (winN l) l (mK W l 4) ([mm1]:List Mm) n hn) (zB414 W l (zB421 n (zB412 n (cj (m3_loop W (winN l) l (mK W l 4) ([mm1]:List Mm) n hn) (zB420 W l n (zB418 W l n (cj (rf ((inL l n n).length)) trivial))))))))))))))))))))))))))))))))))))))))))))))))))) (by kernel_rfl)
theorem mk_TF_TF (W:Int) (l:List Int) (n:Nat) (hW1:bits .and .i64 (kN l 0) 1+1=W) (hW:1≤W∧W≤2) (hn1:bits .and .i64 (Int.fdiv (kN l 0) (2^12)) 3+2=(n:Int)) (hn:n<6) (c1t:(decide (bits .and .i64 (Int.fdiv (kN l 1) (2^8)) 3>0))=true) (c2f:(W==1)=false) (c4t:(decide (bits .and .i64 (Int.fdiv (kN l 1) (2^12)) 3>0))=true) (c5f:(decide ((mK W l 4).s+W≤3))=false):Vc (vcFn Try.prog false 14 [.row 1 l.length (rowI l)] [oB41 l,oB41 l, .lp [(0,0),(1,1),(2,2)] (mk1 W (winN l) l ⟨0,0,0,0,0,0⟩ 0) (.ext 0) (mk1 W (winN l) l (mK W l 4) 4),oB40 l, .b true, .b false, .b false, .b false, .b false, .b false, .b false, .b false,oB40 l, .b true, .b true, .b true, .b true, .b true, .b true, .b false, .b false, .b false, .b false, .b false, .b false, .b false,oB41 l, .lp [(0,0),(1,1),(2,2),(3,4)] (mk2 W (winN l) l (mK W l 4) ([mm1]:List Mm) n 0) (.ext 3) (mk2 W (winN l) l (mK W l 4) ([mm1]:List Mm) n (n+1)), .lp [(0,0),(1,1),(2,2),(3,3),(4,4)] (mk3 W (winN l) l (mK W l 4) ([mm1]:List Mm) n 0) (.ext 5) (mk3 W (winN l) l (mK W l 4) ([mm1]:List Mm) n n)] [(0,3),(1,4),(2,5)] (.agg [.int .i64 W, .int .i64 (winN l), .int .i64 6, .int .i64 (mK W l 4).r0, .int .i64 (mK W l 4).r1, .int .i64 (mK W l 4).r2, .int .i64 (mK W l 4).r3, .own 0 0 3 0 ([mm1]:List Mm).length, .own 1 0 2 0 (lbL (n+1)).length, .own 2 0 9 0 (inL l n n).length]) [mmB ([mm1]:List Mm),lbB (lbL (n+1)),inB (inL l n n)]):=vc_by (zB416 l (cj (kC l 0 (by omega)) (cj (sB44 W l n hW1 hW hn1 hn) (zB416 l (cj (kC l 0 (by omega)) (cj (pv ((0:Int)≤1)) (cj (pv ((3:Int)≠0)) (cj (sB45 W l n hW1 hW hn1 hn) (cj (rf l.length) (cj (rr l.length 1 fun i j=>aI (l.getD i 0)) (cj hW1 (zB417 l (cj (m1_loop W (winN l) l hW) (zB42 l (cj (kC l 1 (by omega)) (cj (pv ((0:Int)≤8)) (cj (sB413 W l hW1 c1t) (cj (pv ((32:Nat)≤140737488355328∧(1:Nat)≤140737488355328)) (cj (sB414 W l hW1 c2f) (cj (sB414 W l hW1 c2f) (cj (sB414 W l hW1 c2f) (cj (sB414 W l hW1 c2f) (cj (sB414 W l hW1 c2f) (cj (sB414 W l hW1 c2f) (zB422 l (cj (kC l 1 (by omega)) (cj (pv ((0:Int)≤12)) (cj (sB49 W l hW1 c4t) (cj (sB49 W l hW1 c4t) (cj (sB49 W l hW1 c4t) (cj (sB49 W l hW1 c4t) (cj (sB410 W l n hW1 hW hn1 hn) (cj (sB49 W l hW1 c4t) (cj (sB49 W l hW1 c4t) (cj (sB411 W l hW1 c5f) (cj (sB411 W l hW1 c5f) (cj (sB411 W l hW1 c5f) (cj (sB411 W l hW1 c5f) (cj (sB411 W l hW1 c5f) (cj (sB411 W l hW1 c5f) (cj (sB411 W l hW1 c5f) (zB416 l (cj (kC l 0 (by omega)) (cj (pv ((0:Int)≤12)) (cj (sB48 W l n hW1 hW hn1 hn) (zB414 W l (zB419 (cj (sB415) (cj (rf (0:Nat)) (cj hn1 (cj (rf (0:Int)) (cj (m2_loop W (winN l) l (mK W l 4) ([mm1]:List Mm) n hn) (zB414 W l (zB421 n (zB412 n (cj (m3_loop W (winN l) l (mK W l 4) ([mm1]:List Mm) n hn) (zB420 W l n (zB418 W l n (cj (rf ((inL l n n).length)) trivial))))))))))))))))))))))))))))))))))))))))))))))))))))))))))) (by kernel_rfl)
theorem sB416: ∀ (i:Nat),i<2→ ∀ (j:Nat),j<3→(bif Nat.blt i (1:Nat) then List.getD [AV.str (ByteArray.mk (Array.mk [(109:UInt8)])),AV.bool false,aI (1:Int)] ((i+0)*3+j) AV.junk else List.getD [AV.str (ByteArray.mk (Array.mk [(115:UInt8)])),AV.bool true,aI (1:Int)] ((i-1+0)*3+j) AV.junk)=rowL mmC [mm1,ms1] i j:=(fun i hi j hj=>match i,hi,j,hj with |0,_,0,_=>rfl |0,_,1,_=>rfl |0,_,2,_=>rfl |1,_,0,_=>rfl |1,_,1,_=>rfl |1,_,2,_=>rfl)
theorem zB423 (W:Int) (l:List Int) (n:Nat) {Z:Prop} (z:Z):(RF ((mK W l (4:Nat)).r0) (RF ((mK W l (4:Nat)).r1) (RF ((mK W l (4:Nat)).r2) (RF ((mK W l (4:Nat)).r3) (RF (0:Nat) (RF (2:Nat) (RF (0:Nat) (RF ((lbL (n+1)).length) (RF (0:Nat) Z))))))))):=⟨rfl,rfl,rfl,rfl,rfl,rfl,rfl,rfl,rfl,z⟩
theorem zB424 (W:Int) (l:List Int) (n:Nat) {Z:Prop} (z:Z):(RF (2:Nat) (RR 2 3 (fun i j=>rowL mmC [mm1,ms1] i j) (RF ((lbL (n+1)).length) (RR ((lbL (n+1)).length) 2 (fun i j=>rowL lbC (lbL (n+1)) i j) (RF ((inL l n n).length) (RR ((inL l n n).length) 9 (fun i j=>rowL inC (inL l n n) i j) (RF W (RF (winN l) (RF (6:Int) Z))))))))):=⟨rfl,fun _ _ _ _=>rfl,rfl,fun _ _ _ _=>rfl,rfl,fun _ _ _ _=>rfl,rfl,rfl,rfl,z⟩
theorem zB425 (n:Nat) {Z:Prop} (z:Z):(RF (0:Nat) (RF (2:Nat) (RF (0:Nat) (RF ((lbL (n+1)).length) (RF (0:Nat) (RF (0:Nat) (RF (2:Nat) (RR 2 3 (fun i j=>rowL mmC [mm1,ms1] i j) (RF ((lbL (n+1)).length) Z))))))))):=⟨rfl,rfl,rfl,rfl,rfl,rfl,rfl,fun _ _ _ _=>rfl,rfl,z⟩
theorem zB426 {Z:Prop} (z:Z):(RF (0:Nat) (RF (2:Nat) (RF (0:Nat) (RF (0:Nat) (RF (2:Nat) Z))))):=⟨rfl,rfl,rfl,rfl,rfl,z⟩
theorem mk_TF_TT (W:Int) (l:List Int) (n:Nat) (hW1:bits .and .i64 (kN l 0) 1+1=W) (hW:1≤W∧W≤2) (hn1:bits .and .i64 (Int.fdiv (kN l 0) (2^12)) 3+2=(n:Int)) (hn:n<6) (c1t:(decide (bits .and .i64 (Int.fdiv (kN l 1) (2^8)) 3>0))=true) (c2f:(W==1)=false) (c4t:(decide (bits .and .i64 (Int.fdiv (kN l 1) (2^12)) 3>0))=true) (c5t:(decide ((mK W l 4).s+W≤3))=true):Vc (vcFn Try.prog false 14 [.row 1 l.length (rowI l)] [oB41 l,oB41 l, .lp [(0,0),(1,1),(2,2)] (mk1 W (winN l) l ⟨0,0,0,0,0,0⟩ 0) (.ext 0) (mk1 W (winN l) l (mK W l 4) 4),oB40 l, .b true, .b false, .b false, .b false, .b false, .b false, .b false, .b false,oB40 l, .b true, .b true, .b true, .b true, .b true, .b true, .b true, .b true, .b true, .b true, .b true, .b false, .b false, .b false, .b false, .b false, .b false, .b true, .b false, .b true,oB41 l, .lp [(0,0),(1,1),(2,2),(3,4)] (mk2 W (winN l) l (mK W l 4) ([mm1,ms1]:List Mm) n 0) (.ext 3) (mk2 W (winN l) l (mK W l 4) ([mm1,ms1]:List Mm) n (n+1)), .lp [(0,0),(1,1),(2,2),(3,3),(4,4)] (mk3 W (winN l) l (mK W l 4) ([mm1,ms1]:List Mm) n 0) (.ext 5) (mk3 W (winN l) l (mK W l 4) ([mm1,ms1]:List Mm) n n)] [(0,3),(1,4),(2,5)] (.agg [.int .i64 W, .int .i64 (winN l), .int .i64 6, .int .i64 (mK W l 4).r0, .int .i64 (mK W l 4).r1, .int .i64 (mK W l 4).r2, .int .i64 (mK W l 4).r3, .own 0 0 3 0 ([mm1,ms1]:List Mm).length, .own 1 0 2 0 (lbL (n+1)).length, .own 2 0 9 0 (inL l n n).length]) [mmB ([mm1,ms1]:List Mm),lbB (lbL (n+1)),inB (inL l n n)]):=vc_by (zB416 l (cj (kC l 0 (by omega)) (cj (sB44 W l n hW1 hW hn1 hn) (zB416 l (cj (kC l 0 (by omega)) (cj (pv ((0:Int)≤1)) (cj (pv ((3:Int)≠0)) (cj (sB45 W l n hW1 hW hn1 hn) (cj (rf l.length) (cj (rr l.length 1 fun i j=>aI (l.getD i 0)) (cj hW1 (zB417 l (cj (m1_loop W (winN l) l hW) (zB42 l (cj (kC l 1 (by omega)) (cj (pv ((0:Int)≤8)) (cj (sB413 W l hW1 c1t) (cj (pv ((32:Nat)≤140737488355328∧(1:Nat)≤140737488355328)) (cj (sB414 W l hW1 c2f) (cj (sB414 W l hW1 c2f) (cj (sB414 W l hW1 c2f) (cj (sB414 W l hW1 c2f) (cj (sB414 W l hW1 c2f) (cj (sB414 W l hW1 c2f) (zB422 l (cj (kC l 1 (by omega)) (cj (pv ((0:Int)≤12)) (cj (sB49 W l hW1 c4t) (cj (sB49 W l hW1 c4t) (cj (sB49 W l hW1 c4t) (cj (sB49 W l hW1 c4t) (cj (sB410 W l n hW1 hW hn1 hn) (cj (sB49 W l hW1 c4t) (cj (sB49 W l hW1 c4t) (cj (sB412 W l hW1 c5t) (cj (sB412 W l hW1 c5t) (cj (sB412 W l hW1 c5t) (cj (sB412 W l hW1 c5t) (cj (sB412 W l hW1 c5t) (cj (e0 ((1:Nat):Int) 0) (cj (e0 ((1:Nat):Int) 0) (cj (e0 ((1:Nat):Int) 0) (cj (pv ((0:Int)≤0∧(0:Int)<((1:Nat):Int))) (cj (e0 ((1:Nat):Int) 0) (cj (e0 ((1:Nat):Int) 0) (cj (pv ((0:Nat)<1)) (cj (e0 ((1:Nat):Int) 0) (cj (sB412 W l hW1 c5t) (cj (e0 ((1:Nat):Int) 0) (cj (sB412 W l hW1 c5t) (cj (pv ((0:Nat)=0∧(1:Nat)=1∧(64:Nat)≤140737488355328∧(2:Nat)≤140737488355328)) (zB416 l (cj (kC l 0 (by omega)) (cj (pv ((0:Int)≤12)) (cj (sB48 W l n hW1 hW hn1 hn) (zB414 W l (zB426 (cj (sB416) (cj (rf (0:Nat)) (cj hn1 (cj (rf (0:Int)) (cj (m2_loop W (winN l) l (mK W l 4) ([mm1,ms1]:List Mm) n hn) (zB414 W l (zB425 n (zB412 n (cj (m3_loop W (winN l) l (mK W l 4) ([mm1,ms1]:List Mm) n hn) (zB424 W l n (zB423 W l n (cj (rf ((inL l n n).length)) trivial))))))))))))))))))))))))))))))))))))))))))))))))))))))))))))))))))))) (by kernel_rfl)
theorem sB417 (W:Int) (l:List Int) (hW1:bits .and .i64 (kN l 0) 1+1=W) (c2t:(W==1)=true):(W==(1:Int))=true:=by first |exact c2t | (rw [hW1];exact c2t)| (simpa [hW1] using c2t)
theorem sB418 (W:Int) (l:List Int) (hW1:bits .and .i64 (kN l 0) 1+1=W) (c3f:(bits .and .i64 (Int.fdiv (kN l 1) (2^10)) 3==0)=false):(Go.bits Go.BinOp.and IntKind.i64 (Int.fdiv (kN l (1:Nat)) ((2:Int)^(10:Nat))) (3:Int)==(0:Int))=false:=by first |exact c3f | (rw [hW1];exact c3f)| (simpa [hW1] using c3f)
theorem mk_TTF_F (W:Int) (l:List Int) (n:Nat) (hW1:bits .and .i64 (kN l 0) 1+1=W) (hW:1≤W∧W≤2) (hn1:bits .and .i64 (Int.fdiv (kN l 0) (2^12)) 3+2=(n:Int)) (hn:n<6) (c1t:(decide (bits .and .i64 (Int.fdiv (kN l 1) (2^8)) 3>0))=true) (c2t:(W==1)=true) (c3f:(bits .and .i64 (Int.fdiv (kN l 1) (2^10)) 3==0)=false) (c4f:(decide (bits .and .i64 (Int.fdiv (kN l 1) (2^12)) 3>0))=false):Vc (vcFn Try.prog false 14 [.row 1 l.length (rowI l)] [oB41 l,oB41 l, .lp [(0,0),(1,1),(2,2)] (mk1 W (winN l) l ⟨0,0,0,0,0,0⟩ 0) (.ext 0) (mk1 W (winN l) l (mK W l 4) 4),oB40 l, .b true, .b true, .b true,oB40 l, .b true, .b true, .b true, .b true, .b false,oB40 l, .b false, .b false, .b false, .b false, .b false, .b false,oB41 l, .lp [(0,0),(1,1),(2,2),(3,4)] (mk2 W (winN l) l (mK W l 4) ([mm1]:List Mm) n 0) (.ext 3) (mk2 W (winN l) l (mK W l 4) ([mm1]:List Mm) n (n+1)), .lp [(0,0),(1,1),(2,2),(3,3),(4,4)] (mk3 W (winN l) l (mK W l 4) ([mm1]:List Mm) n 0) (.ext 5) (mk3 W (winN l) l (mK W l 4) ([mm1]:List Mm) n n)] [(0,3),(1,4),(2,5)] (.agg [.int .i64 W, .int .i64 (winN l), .int .i64 6, .int .i64 (mK W l 4).r0, .int .i64 (mK W l 4).r1, .int .i64 (mK W l 4).r2, .int .i64 (mK W l 4).r3, .own 0 0 3 0 ([mm1]:List Mm).length, .own 1 0 2 0 (lbL (n+1)).length, .own 2 0 9 0 (inL l n n).length]) [mmB ([mm1]:List Mm),lbB (lbL (n+1)),inB (inL l n n)]):=vc_by (zB416 l (cj (kC l 0 (by omega)) (cj (sB44 W l n hW1 hW hn1 hn) (zB416 l (cj (kC l 0 (by omega)) (cj (pv ((0:Int)≤1)) (cj (pv ((3:Int)≠0)) (cj (sB45 W l n hW1 hW hn1 hn) (cj (rf l.length) (cj (rr l.length 1 fun i j=>aI (l.getD i 0)) (cj hW1 (zB417 l (cj (m1_loop W (winN l) l hW) (zB42 l (cj (kC l 1 (by omega)) (cj (pv ((0:Int)≤8)) (cj (sB413 W l hW1 c1t) (cj (pv ((32:Nat)≤140737488355328∧(1:Nat)≤140737488355328)) (cj (sB417 W l hW1 c2t) (cj (sB417 W l hW1 c2t) (zB42 l (cj (kC l 1 (by omega)) (cj (sB417 W l hW1 c2t) (cj (pv ((0:Int)≤10)) (cj (sB417 W l hW1 c2t) (cj (sB417 W l hW1 c2t) (cj (sB417 W l hW1 c2t) (cj (sB418 W l hW1 c3f) (zB42 l (cj (kC l 1 (by omega)) (cj (pv ((0:Int)≤12)) (cj (sB47 W l hW1 c4f) (cj (sB47 W l hW1 c4f) (cj (sB47 W l hW1 c4f) (cj (sB47 W l hW1 c4f) (cj (sB47 W l hW1 c4f) (cj (sB47 W l hW1 c4f) (zB416 l (cj (kC l 0 (by omega)) (cj (pv ((0:Int)≤12)) (cj (sB48 W l n hW1 hW hn1 hn) (zB414 W l (zB419 (cj (sB415) (cj (rf (0:Nat)) (cj hn1 (cj (rf (0:Int)) (cj (m2_loop W (winN l) l (mK W l 4) ([mm1]:List Mm) n hn) (zB414 W l (zB421 n (zB412 n (cj (m3_loop W (winN l) l (mK W l 4) ([mm1]:List Mm) n hn) (zB420 W l n (zB418 W l n (cj (rf ((inL l n n).length)) trivial))))))))))))))))))))))))))))))))))))))))))))))))))))))) (by kernel_rfl)
theorem mk_TTF_TF (W:Int) (l:List Int) (n:Nat) (hW1:bits .and .i64 (kN l 0) 1+1=W) (hW:1≤W∧W≤2) (hn1:bits .and .i64 (Int.fdiv (kN l 0) (2^12)) 3+2=(n:Int)) (hn:n<6) (c1t:(decide (bits .and .i64 (Int.fdiv (kN l 1) (2^8)) 3>0))=true) (c2t:(W==1)=true) (c3f:(bits .and .i64 (Int.fdiv (kN l 1) (2^10)) 3==0)=false) (c4t:(decide (bits .and .i64 (Int.fdiv (kN l 1) (2^12)) 3>0))=true) (c5f:(decide ((mK W l 4).s+W≤3))=false):Vc (vcFn Try.prog false 14 [.row 1 l.length (rowI l)] [oB41 l,oB41 l, .lp [(0,0),(1,1),(2,2)] (mk1 W (winN l) l ⟨0,0,0,0,0,0⟩ 0) (.ext 0) (mk1 W (winN l) l (mK W l 4) 4),oB40 l, .b true, .b true, .b true,oB40 l, .b true, .b true, .b true, .b true, .b false,oB40 l, .b true, .b true, .b true, .b true, .b true, .b true, .b false, .b false, .b false, .b false, .b false, .b false, .b false,oB41 l, .lp [(0,0),(1,1),(2,2),(3,4)] (mk2 W (winN l) l (mK W l 4) ([mm1]:List Mm) n 0) (.ext 3) (mk2 W (winN l) l (mK W l 4) ([mm1]:List Mm) n (n+1)), .lp [(0,0),(1,1),(2,2),(3,3),(4,4)] (mk3 W (winN l) l (mK W l 4) ([mm1]:List Mm) n 0) (.ext 5) (mk3 W (winN l) l (mK W l 4) ([mm1]:List Mm) n n)] [(0,3),(1,4),(2,5)] (.agg [.int .i64 W, .int .i64 (winN l), .int .i64 6, .int .i64 (mK W l 4).r0, .int .i64 (mK W l 4).r1, .int .i64 (mK W l 4).r2, .int .i64 (mK W l 4).r3, .own 0 0 3 0 ([mm1]:List Mm).length, .own 1 0 2 0 (lbL (n+1)).length, .own 2 0 9 0 (inL l n n).length]) [mmB ([mm1]:List Mm),lbB (lbL (n+1)),inB (inL l n n)]):=vc_by (zB416 l (cj (kC l 0 (by omega)) (cj (sB44 W l n hW1 hW hn1 hn) (zB416 l (cj (kC l 0 (by omega)) (cj (pv ((0:Int)≤1)) (cj (pv ((3:Int)≠0)) (cj (sB45 W l n hW1 hW hn1 hn) (cj (rf l.length) (cj (rr l.length 1 fun i j=>aI (l.getD i 0)) (cj hW1 (zB417 l (cj (m1_loop W (winN l) l hW) (zB42 l (cj (kC l 1 (by omega)) (cj (pv ((0:Int)≤8)) (cj (sB413 W l hW1 c1t) (cj (pv ((32:Nat)≤140737488355328∧(1:Nat)≤140737488355328)) (cj (sB417 W l hW1 c2t) (cj (sB417 W l hW1 c2t) (zB42 l (cj (kC l 1 (by omega)) (cj (sB417 W l hW1 c2t) (cj (pv ((0:Int)≤10)) (cj (sB417 W l hW1 c2t) (cj (sB417 W l hW1 c2t) (cj (sB417 W l hW1 c2t) (cj (sB418 W l hW1 c3f) (zB42 l (cj (kC l 1 (by omega)) (cj (pv ((0:Int)≤12)) (cj (sB49 W l hW1 c4t) (cj (sB49 W l hW1 c4t) (cj (sB49 W l hW1 c4t) (cj (sB49 W l hW1 c4t) (cj (sB410 W l n hW1 hW hn1 hn) (cj (sB49 W l hW1 c4t) (cj (sB49 W l hW1 c4t) (cj (sB411 W l hW1 c5f) (cj (sB411 W l hW1 c5f) (cj (sB411 W l hW1 c5f) (cj (sB411 W l hW1 c5f) (cj (sB411 W l hW1 c5f) (cj (sB411 W l hW1 c5f) (cj (sB411 W l hW1 c5f) (zB416 l (cj (kC l 0 (by omega)) (cj (pv ((0:Int)≤12)) (cj (sB48 W l n hW1 hW hn1 hn) (zB414 W l (zB419 (cj (sB415) (cj (rf (0:Nat)) (cj hn1 (cj (rf (0:Int)) (cj (m2_loop W (winN l) l (mK W l 4) ([mm1]:List Mm) n hn) (zB414 W l (zB421 n (zB412 n (cj (m3_loop W (winN l) l (mK W l 4) ([mm1]:List Mm) n hn) (zB420 W l n (zB418 W l n (cj (rf ((inL l n n).length)) trivial))))))))))))))))))))))))))))))))))))))))))))))))))))))))))))))) (by kernel_rfl)
theorem mk_TTF_TT (W:Int) (l:List Int) (n:Nat) (hW1:bits .and .i64 (kN l 0) 1+1=W) (hW:1≤W∧W≤2) (hn1:bits .and .i64 (Int.fdiv (kN l 0) (2^12)) 3+2=(n:Int)) (hn:n<6) (c1t:(decide (bits .and .i64 (Int.fdiv (kN l 1) (2^8)) 3>0))=true) (c2t:(W==1)=true) (c3f:(bits .and .i64 (Int.fdiv (kN l 1) (2^10)) 3==0)=false) (c4t:(decide (bits .and .i64 (Int.fdiv (kN l 1) (2^12)) 3>0))=true) (c5t:(decide ((mK W l 4).s+W≤3))=true):Vc (vcFn Try.prog false 14 [.row 1 l.length (rowI l)] [oB41 l,oB41 l, .lp [(0,0),(1,1),(2,2)] (mk1 W (winN l) l ⟨0,0,0,0,0,0⟩ 0) (.ext 0) (mk1 W (winN l) l (mK W l 4) 4),oB40 l, .b true, .b true, .b true,oB40 l, .b true, .b true, .b true, .b true, .b false,oB40 l, .b true, .b true, .b true, .b true, .b true, .b true, .b true, .b true, .b true, .b true, .b true, .b false, .b false, .b false, .b false, .b false, .b false, .b true, .b false, .b true,oB41 l, .lp [(0,0),(1,1),(2,2),(3,4)] (mk2 W (winN l) l (mK W l 4) ([mm1,ms1]:List Mm) n 0) (.ext 3) (mk2 W (winN l) l (mK W l 4) ([mm1,ms1]:List Mm) n (n+1)), .lp [(0,0),(1,1),(2,2),(3,3),(4,4)] (mk3 W (winN l) l (mK W l 4) ([mm1,ms1]:List Mm) n 0) (.ext 5) (mk3 W (winN l) l (mK W l 4) ([mm1,ms1]:List Mm) n n)] [(0,3),(1,4),(2,5)] (.agg [.int .i64 W, .int .i64 (winN l), .int .i64 6, .int .i64 (mK W l 4).r0, .int .i64 (mK W l 4).r1, .int .i64 (mK W l 4).r2, .int .i64 (mK W l 4).r3, .own 0 0 3 0 ([mm1,ms1]:List Mm).length, .own 1 0 2 0 (lbL (n+1)).length, .own 2 0 9 0 (inL l n n).length]) [mmB ([mm1,ms1]:List Mm),lbB (lbL (n+1)),inB (inL l n n)]):=vc_by (zB416 l (cj (kC l 0 (by omega)) (cj (sB44 W l n hW1 hW hn1 hn) (zB416 l (cj (kC l 0 (by omega)) (cj (pv ((0:Int)≤1)) (cj (pv ((3:Int)≠0)) (cj (sB45 W l n hW1 hW hn1 hn) (cj (rf l.length) (cj (rr l.length 1 fun i j=>aI (l.getD i 0)) (cj hW1 (zB417 l (cj (m1_loop W (winN l) l hW) (zB42 l (cj (kC l 1 (by omega)) (cj (pv ((0:Int)≤8)) (cj (sB413 W l hW1 c1t) (cj (pv ((32:Nat)≤140737488355328∧(1:Nat)≤140737488355328)) (cj (sB417 W l hW1 c2t) (cj (sB417 W l hW1 c2t) (zB42 l (cj (kC l 1 (by omega)) (cj (sB417 W l hW1 c2t) (cj (pv ((0:Int)≤10)) (cj (sB417 W l hW1 c2t) (cj (sB417 W l hW1 c2t) (cj (sB417 W l hW1 c2t) (cj (sB418 W l hW1 c3f) (zB42 l (cj (kC l 1 (by omega)) (cj (pv ((0:Int)≤12)) (cj (sB49 W l hW1 c4t) (cj (sB49 W l hW1 c4t) (cj (sB49 W l hW1 c4t) (cj (sB49 W l hW1 c4t) (cj (sB410 W l n hW1 hW hn1 hn) (cj (sB49 W l hW1 c4t) (cj (sB49 W l hW1 c4t) (cj (sB412 W l hW1 c5t) (cj (sB412 W l hW1 c5t) (cj (sB412 W l hW1 c5t) (cj (sB412 W l hW1 c5t) (cj (sB412 W l hW1 c5t) (cj (e0 ((1:Nat):Int) 0) (cj (e0 ((1:Nat):Int) 0) (cj (e0 ((1:Nat):Int) 0) (cj (pv ((0:Int)≤0∧(0:Int)<((1:Nat):Int))) (cj (e0 ((1:Nat):Int) 0) (cj (e0 ((1:Nat):Int) 0) (cj (pv ((0:Nat)<1)) (cj (e0 ((1:Nat):Int) 0) (cj (sB412 W l hW1 c5t) (cj (e0 ((1:Nat):Int) 0) (cj (sB412 W l hW1 c5t) (cj (pv ((0:Nat)=0∧(1:Nat)=1∧(64:Nat)≤140737488355328∧(2:Nat)≤140737488355328)) (zB416 l (cj (kC l 0 (by omega)) (cj (pv ((0:Int)≤12)) (cj (sB48 W l n hW1 hW hn1 hn) (zB414 W l (zB426 (cj (sB416) (cj (rf (0:Nat)) (cj hn1 (cj (rf (0:Int)) (cj (m2_loop W (winN l) l (mK W l 4) ([mm1,ms1]:List Mm) n hn) (zB414 W l (zB425 n (zB412 n (cj (m3_loop W (winN l) l (mK W l 4) ([mm1,ms1]:List Mm) n hn) (zB424 W l n (zB423 W l n (cj (rf ((inL l n n).length)) trivial))))))))))))))))))))))))))))))))))))))))))))))))))))))))))))))))))))))))) (by kernel_rfl)
theorem sB419 (W:Int) (l:List Int) (hW1:bits .and .i64 (kN l 0) 1+1=W) (c3t:(bits .and .i64 (Int.fdiv (kN l 1) (2^10)) 3==0)=true):(Go.bits Go.BinOp.and IntKind.i64 (Int.fdiv (kN l (1:Nat)) ((2:Int)^(10:Nat))) (3:Int)==(0:Int))=true:=by first |exact c3t | (rw [hW1];exact c3t)| (simpa [hW1] using c3t)
theorem sB420: ∀ (i:Nat),i<1→ ∀ (j:Nat),j<3→(bif Nat.ble (2:Nat) j&&Nat.blt j (3:Nat)&&Nat.beq i (0:Nat) then List.getD [aI (2:Int)] (j-2) AV.junk else List.getD [AV.str (ByteArray.mk (Array.mk [(109:UInt8)])),AV.bool false,aI (1:Int)] ((i+0)*3+j) AV.junk)=rowL mmC [mm2] i j:=(fun i hi j hj=>match i,hi,j,hj with |0,_,0,_=>rfl |0,_,1,_=>rfl |0,_,2,_=>rfl)
theorem zB427 (W:Int) (l:List Int) (n:Nat) {Z:Prop} (z:Z):(RF (1:Nat) (RR 1 3 (fun i j=>rowL mmC [mm2] i j) (RF ((lbL (n+1)).length) (RR ((lbL (n+1)).length) 2 (fun i j=>rowL lbC (lbL (n+1)) i j) (RF ((inL l n n).length) (RR ((inL l n n).length) 9 (fun i j=>rowL inC (inL l n n) i j) (RF W (RF (winN l) (RF (6:Int) Z))))))))):=⟨rfl,fun _ _ _ _=>rfl,rfl,fun _ _ _ _=>rfl,rfl,fun _ _ _ _=>rfl,rfl,rfl,rfl,z⟩
theorem zB428 (n:Nat) {Z:Prop} (z:Z):(RF (0:Nat) (RF (1:Nat) (RF (0:Nat) (RF ((lbL (n+1)).length) (RF (0:Nat) (RF (0:Nat) (RF (1:Nat) (RR 1 3 (fun i j=>rowL mmC [mm2] i j) (RF ((lbL (n+1)).length) Z))))))))):=⟨rfl,rfl,rfl,rfl,rfl,rfl,rfl,fun _ _ _ _=>rfl,rfl,z⟩
theorem mk_TTT_F (W:Int) (l:List Int) (n:Nat) (hW1:bits .and .i64 (kN l 0) 1+1=W) (hW:1≤W∧W≤2) (hn1:bits .and .i64 (Int.fdiv (kN l 0) (2^12)) 3+2=(n:Int)) (hn:n<6) (c1t:(decide (bits .and .i64 (Int.fdiv (kN l 1) (2^8)) 3>0))=true) (c2t:(W==1)=true) (c3t:(bits .and .i64 (Int.fdiv (kN l 1) (2^10)) 3==0)=true) (c4f:(decide (bits .and .i64 (Int.fdiv (kN l 1) (2^12)) 3>0))=false):Vc (vcFn Try.prog false 14 [.row 1 l.length (rowI l)] [oB41 l,oB41 l, .lp [(0,0),(1,1),(2,2)] (mk1 W (winN l) l ⟨0,0,0,0,0,0⟩ 0) (.ext 0) (mk1 W (winN l) l (mK W l 4) 4),oB40 l, .b true, .b true, .b true,oB40 l, .b true, .b true, .b true, .b true, .b true,oB40 l, .b false, .b false, .b false, .b false, .b false, .b false,oB41 l, .lp [(0,0),(1,1),(2,2),(3,4)] (mk2 W (winN l) l (mK W l 4) ([mm2]:List Mm) n 0) (.ext 3) (mk2 W (winN l) l (mK W l 4) ([mm2]:List Mm) n (n+1)), .lp [(0,0),(1,1),(2,2),(3,3),(4,4)] (mk3 W (winN l) l (mK W l 4) ([mm2]:List Mm) n 0) (.ext 5) (mk3 W (winN l) l (mK W l 4) ([mm2]:List Mm) n n)] [(0,3),(1,4),(2,5)] (.agg [.int .i64 W, .int .i64 (winN l), .int .i64 6, .int .i64 (mK W l 4).r0, .int .i64 (mK W l 4).r1, .int .i64 (mK W l 4).r2, .int .i64 (mK W l 4).r3, .own 0 0 3 0 ([mm2]:List Mm).length, .own 1 0 2 0 (lbL (n+1)).length, .own 2 0 9 0 (inL l n n).length]) [mmB ([mm2]:List Mm),lbB (lbL (n+1)),inB (inL l n n)]):=vc_by (zB416 l (cj (kC l 0 (by omega)) (cj (sB44 W l n hW1 hW hn1 hn) (zB416 l (cj (kC l 0 (by omega)) (cj (pv ((0:Int)≤1)) (cj (pv ((3:Int)≠0)) (cj (sB45 W l n hW1 hW hn1 hn) (cj (rf l.length) (cj (rr l.length 1 fun i j=>aI (l.getD i 0)) (cj hW1 (zB417 l (cj (m1_loop W (winN l) l hW) (zB42 l (cj (kC l 1 (by omega)) (cj (pv ((0:Int)≤8)) (cj (sB413 W l hW1 c1t) (cj (pv ((32:Nat)≤140737488355328∧(1:Nat)≤140737488355328)) (cj (sB417 W l hW1 c2t) (cj (sB417 W l hW1 c2t) (zB42 l (cj (kC l 1 (by omega)) (cj (sB417 W l hW1 c2t) (cj (pv ((0:Int)≤10)) (cj (sB417 W l hW1 c2t) (cj (sB417 W l hW1 c2t) (cj (sB417 W l hW1 c2t) (cj (sB419 W l hW1 c3t) (cj (pv ((0:Int)≤0∧(0:Int)<((1:Nat):Int))) (cj (pv ((0:Nat)<1)) (zB42 l (cj (kC l 1 (by omega)) (cj (pv ((0:Int)≤12)) (cj (sB47 W l hW1 c4f) (cj (sB47 W l hW1 c4f) (cj (sB47 W l hW1 c4f) (cj (sB47 W l hW1 c4f) (cj (sB47 W l hW1 c4f) (cj (sB47 W l hW1 c4f) (zB416 l (cj (kC l 0 (by omega)) (cj (pv ((0:Int)≤12)) (cj (sB48 W l n hW1 hW hn1 hn) (zB414 W l (zB419 (cj (sB420) (cj (rf (0:Nat)) (cj hn1 (cj (rf (0:Int)) (cj (m2_loop W (winN l) l (mK W l 4) ([mm2]:List Mm) n hn) (zB414 W l (zB428 n (zB412 n (cj (m3_loop W (winN l) l (mK W l 4) ([mm2]:List Mm) n hn) (zB427 W l n (zB418 W l n (cj (rf ((inL l n n).length)) trivial))))))))))))))))))))))))))))))))))))))))))))))))))))))))) (by kernel_rfl)
theorem mk_TTT_TF (W:Int) (l:List Int) (n:Nat) (hW1:bits .and .i64 (kN l 0) 1+1=W) (hW:1≤W∧W≤2) (hn1:bits .and .i64 (Int.fdiv (kN l 0) (2^12)) 3+2=(n:Int)) (hn:n<6) (c1t:(decide (bits .and .i64 (Int.fdiv (kN l 1) (2^8)) 3>0))=true) (c2t:(W==1)=true) (c3t:(bits .and .i64 (Int.fdiv (kN l 1) (2^10)) 3==0)=true) (c4t:(decide (bits .and .i64 (Int.fdiv (kN l 1) (2^12)) 3>0))=true) (c5f:(decide ((mK W l 4).s+W≤3))=false):Vc (vcFn Try.prog false 14 [.row 1 l.length (rowI l)] [oB41 l,oB41 l, .lp [(0,0),(1,1),(2,2)] (mk1 W (winN l) l ⟨0,0,0,0,0,0⟩ 0) (.ext 0) (mk1 W (winN l) l (mK W l 4) 4),oB40 l, .b true, .b true, .b true,oB40 l, .b true, .b true, .b true, .b true, .b true,oB40 l, .b true, .b true, .b true, .b true, .b true, .b true, .b false, .b false, .b false, .b false, .b false, .b false, .b false,oB41 l, .lp [(0,0),(1,1),(2,2),(3,4)] (mk2 W (winN l) l (mK W l 4) ([mm2]:List Mm) n 0) (.ext 3) (mk2 W (winN l) l (mK W l 4) ([mm2]:List Mm) n (n+1)), .lp [(0,0),(1,1),(2,2),(3,3),(4,4)] (mk3 W (winN l) l (mK W l 4) ([mm2]:List Mm) n 0) (.ext 5) (mk3 W (winN l) l (mK W l 4) ([mm2]:List Mm) n n)] [(0,3),(1,4),(2,5)] (.agg [.int .i64 W, .int .i64 (winN l), .int .i64 6, .int .i64 (mK W l 4).r0, .int .i64 (mK W l 4).r1, .int .i64 (mK W l 4).r2, .int .i64 (mK W l 4).r3, .own 0 0 3 0 ([mm2]:List Mm).length, .own 1 0 2 0 (lbL (n+1)).length, .own 2 0 9 0 (inL l n n).length]) [mmB ([mm2]:List Mm),lbB (lbL (n+1)),inB (inL l n n)]):=vc_by (zB416 l (cj (kC l 0 (by omega)) (cj (sB44 W l n hW1 hW hn1 hn) (zB416 l (cj (kC l 0 (by omega)) (cj (pv ((0:Int)≤1)) (cj (pv ((3:Int)≠0)) (cj (sB45 W l n hW1 hW hn1 hn) (cj (rf l.length) (cj (rr l.length 1 fun i j=>aI (l.getD i 0)) (cj hW1 (zB417 l (cj (m1_loop W (winN l) l hW) (zB42 l (cj (kC l 1 (by omega)) (cj (pv ((0:Int)≤8)) (cj (sB413 W l hW1 c1t) (cj (pv ((32:Nat)≤140737488355328∧(1:Nat)≤140737488355328)) (cj (sB417 W l hW1 c2t) (cj (sB417 W l hW1 c2t) (zB42 l (cj (kC l 1 (by omega)) (cj (sB417 W l hW1 c2t) (cj (pv ((0:Int)≤10)) (cj (sB417 W l hW1 c2t) (cj (sB417 W l hW1 c2t) (cj (sB417 W l hW1 c2t) (cj (sB419 W l hW1 c3t) (cj (pv ((0:Int)≤0∧(0:Int)<((1:Nat):Int))) (cj (pv ((0:Nat)<1)) (zB42 l (cj (kC l 1 (by omega)) (cj (pv ((0:Int)≤12)) (cj (sB49 W l hW1 c4t) (cj (sB49 W l hW1 c4t) (cj (sB49 W l hW1 c4t) (cj (sB49 W l hW1 c4t) (cj (sB410 W l n hW1 hW hn1 hn) (cj (sB49 W l hW1 c4t) (cj (sB49 W l hW1 c4t) (cj (sB411 W l hW1 c5f) (cj (sB411 W l hW1 c5f) (cj (sB411 W l hW1 c5f) (cj (sB411 W l hW1 c5f) (cj (sB411 W l hW1 c5f) (cj (sB411 W l hW1 c5f) (cj (sB411 W l hW1 c5f) (zB416 l (cj (kC l 0 (by omega)) (cj (pv ((0:Int)≤12)) (cj (sB48 W l n hW1 hW hn1 hn) (zB414 W l (zB419 (cj (sB420) (cj (rf (0:Nat)) (cj hn1 (cj (rf (0:Int)) (cj (m2_loop W (winN l) l (mK W l 4) ([mm2]:List Mm) n hn) (zB414 W l (zB428 n (zB412 n (cj (m3_loop W (winN l) l (mK W l 4) ([mm2]:List Mm) n hn) (zB427 W l n (zB418 W l n (cj (rf ((inL l n n).length)) trivial))))))))))))))))))))))))))))))))))))))))))))))))))))))))))))))))) (by kernel_rfl)
theorem mk_TTT_TT (W:Int) (l:List Int) (n:Nat) (hW1:bits .and .i64 (kN l 0) 1+1=W) (hW:1≤W∧W≤2) (hn1:bits .and .i64 (Int.fdiv (kN l 0) (2^12)) 3+2=(n:Int)) (hn:n<6) (c1t:(decide (bits .and .i64 (Int.fdiv (kN l 1) (2^8)) 3>0))=true) (c2t:(W==1)=true) (c3t:(bits .and .i64 (Int.fdiv (kN l 1) (2^10)) 3==0)=true) (c4t:(decide (bits .and .i64 (Int.fdiv (kN l 1) (2^12)) 3>0))=true) (c5t:(decide ((mK W l 4).s+W≤3))=true):Vc (vcFn Try.prog false 14 [.row 1 l.length (rowI l)] [oB41 l,oB41 l, .lp [(0,0),(1,1),(2,2)] (mk1 W (winN l) l ⟨0,0,0,0,0,0⟩ 0) (.ext 0) (mk1 W (winN l) l (mK W l 4) 4),oB40 l, .b true, .b true, .b true,oB40 l, .b true, .b true, .b true, .b true, .b true,oB40 l, .b true, .b true, .b true, .b true, .b true, .b true, .b true, .b true, .b true, .b true, .b true, .b false, .b false, .b false, .b false, .b false, .b false, .b true, .b false, .b true,oB41 l, .lp [(0,0),(1,1),(2,2),(3,4)] (mk2 W (winN l) l (mK W l 4) ([mm2]:List Mm) n 0) (.ext 3) (mk2 W (winN l) l (mK W l 4) ([mm2]:List Mm) n (n+1)), .lp [(0,0),(1,1),(2,2),(3,3),(4,4)] (mk3 W (winN l) l (mK W l 4) ([mm2]:List Mm) n 0) (.ext 5) (mk3 W (winN l) l (mK W l 4) ([mm2]:List Mm) n n)] [(0,3),(1,4),(2,5)] (.agg [.int .i64 W, .int .i64 (winN l), .int .i64 6, .int .i64 (mK W l 4).r0, .int .i64 (mK W l 4).r1, .int .i64 (mK W l 4).r2, .int .i64 (mK W l 4).r3, .own 0 0 3 0 ([mm2]:List Mm).length, .own 1 0 2 0 (lbL (n+1)).length, .own 2 0 9 0 (inL l n n).length]) [mmB ([mm2]:List Mm),lbB (lbL (n+1)),inB (inL l n n)]):=vc_by (zB416 l (cj (kC l 0 (by omega)) (cj (sB44 W l n hW1 hW hn1 hn) (zB416 l (cj (kC l 0 (by omega)) (cj (pv ((0:Int)≤1)) (cj (pv ((3:Int)≠0)) (cj (sB45 W l n hW1 hW hn1 hn) (cj (rf l.length) (cj (rr l.length 1 fun i j=>aI (l.getD i 0)) (cj hW1 (zB417 l (cj (m1_loop W (winN l) l hW) (zB42 l (cj (kC l 1 (by omega)) (cj (pv ((0:Int)≤8)) (cj (sB413 W l hW1 c1t) (cj (pv ((32:Nat)≤140737488355328∧(1:Nat)≤140737488355328)) (cj (sB417 W l hW1 c2t) (cj (sB417 W l hW1 c2t) (zB42 l (cj (kC l 1 (by omega)) (cj (sB417 W l hW1 c2t) (cj (pv ((0:Int)≤10)) (cj (sB417 W l hW1 c2t) (cj (sB417 W l hW1 c2t) (cj (sB417 W l hW1 c2t) (cj (sB419 W l hW1 c3t) (cj (pv ((0:Int)≤0∧(0:Int)<((1:Nat):Int))) (cj (pv ((0:Nat)<1)) (zB42 l (cj (kC l 1 (by omega)) (cj (pv ((0:Int)≤12)) (cj (sB49 W l hW1 c4t) (cj (sB49 W l hW1 c4t) (cj (sB49 W l hW1 c4t) (cj (sB49 W l hW1 c4t) (cj (sB410 W l n hW1 hW hn1 hn) (cj (sB49 W l hW1 c4t) (cj (sB49 W l hW1 c4t) (cj (sB412 W l hW1 c5t) (cj (sB412 W l hW1 c5t) (cj (sB412 W l hW1 c5t) (cj (sB412 W l hW1 c5t) (cj (sB412 W l hW1 c5t) (cj (e0 ((1:Nat):Int) 0) (cj (e0 ((1:Nat):Int) 0) (cj (e0 ((1:Nat):Int) 0) (cj (pv ((0:Int)≤0∧(0:Int)<((1:Nat):Int))) (cj (e0 ((1:Nat):Int) 0) (cj (e0 ((1:Nat):Int) 0) (cj (pv ((0:Nat)<1)) (cj (e0 ((1:Nat):Int) 0) (cj (sB412 W l hW1 c5t) (cj (e0 ((1:Nat):Int) 0) (cj (sB412 W l hW1 c5t) (zB416 l (cj (kC l 0 (by omega)) (cj (pv ((0:Int)≤12)) (cj (sB48 W l n hW1 hW hn1 hn) (zB414 W l (zB419 (cj (sB420) (cj (rf (0:Nat)) (cj hn1 (cj (rf (0:Int)) (cj (m2_loop W (winN l) l (mK W l 4) ([mm2]:List Mm) n hn) (zB414 W l (zB428 n (zB412 n (cj (m3_loop W (winN l) l (mK W l 4) ([mm2]:List Mm) n hn) (zB427 W l n (zB418 W l n (cj (rf ((inL l n n).length)) trivial)))))))))))))))))))))))))))))))))))))))))))))))))))))))))))))))))))))))))) (by kernel_rfl)
def wN (l:List Int):Int:=bits .and .i64 (kN l 0) 1+1
def nN (l:List Int):Nat:=(bits .and .i64 (Int.fdiv (kN l 0) (2^12)) 3+2).toNat
def msA (c1 c2 c3 c4 c5:Bool):List Mm:=bif c1 then (bif c2 then (bif c3 then [mm2] else (bif c4 then (bif c5 then [mm1,ms1] else [mm1]) else [mm1])) else (bif c4 then (bif c5 then [mm1,ms1] else [mm1]) else [mm1])) else (bif c4 then (bif c5 then [ms1] else []) else [])
def mkOf (W:Int) (n:Nat) (l:List Int) (c1 c2 c3 c4 c5:Bool):Pg:=⟨W,winN l,6,(mK W l 4).r0,(mK W l 4).r1,(mK W l 4).r2,(mK W l 4).r3,msA c1 c2 c3 c4 c5,lbL (n+1),inL l n n⟩
def mkPg (l:List Int):Pg:=mkOf (wN l) (nN l) l (decide (bits .and .i64 (Int.fdiv (kN l 1) (2^8)) 3>0)) ((wN l)==1) (bits .and .i64 (Int.fdiv (kN l 1) (2^10)) 3==0) (decide (bits .and .i64 (Int.fdiv (kN l 1) (2^12)) 3>0)) (decide ((mK (wN l) l 4).s+wN l≤3))
theorem wN_bd (l:List Int):wN l=1∨wN l=2:=by
 have hb1:bits .and .i64 (kN l 0) 1=kN l 0%2:=Wd.bits_mask (kN l 0) 1 (by omega)
 unfold wN
 omega
theorem nN_bd (l:List Int):2≤nN l∧nN l≤5∧bits .and .i64 (Int.fdiv (kN l 0) (2^12)) 3+2=((nN l:Nat):Int):=by
 have hb2:bits .and .i64 (Int.fdiv (kN l 0) (2^12)) 3=Int.fdiv (kN l 0) (2^12)%4:=Wd.bits_mask _ 2 (by omega)
 unfold nN
 omega
theorem mkC (l:List Int):PureC Try.prog 14 [.row 1 l.length (rowI l)] (.agg (pgA (mkPg l))) []:=by
 have hWW:=wN_bd l
 have hnn:=nN_bd l
 unfold mkPg
 obtain ⟨W,hW1⟩: ∃ W,wN l=W:=⟨_,rfl⟩
 obtain ⟨n,hn0⟩: ∃ n,nN l=n:=⟨_,rfl⟩
 rw [hW1] at hWW
 rw [hn0] at hnn
 rw [hW1,hn0]
 have hW:1≤W∧W≤2:=by omega
 obtain ⟨_,hn5,hn1⟩:=hnn
 have hn:n<6:=by omega
 unfold wN at hW1
 cases c1:decide (bits .and .i64 (Int.fdiv (kN l 1) (2^8)) 3>0) with
 |false=>
  have c1f:=c1
  cases c4:decide (bits .and .i64 (Int.fdiv (kN l 1) (2^12)) 3>0) with
  |false=>exact (PureC.vc (mk_F_F W l n hW1 hW hn1 hn c1f c4)).frozen
  |true=>
   cases c5:decide ((mK W l 4).s+W≤3) with
   |false=>exact (PureC.vc (mk_F_TF W l n hW1 hW hn1 hn c1f c4 c5)).frozen
   |true=>exact (PureC.vc (mk_F_TT W l n hW1 hW hn1 hn c1f c4 c5)).frozen
 |true=>
  have c1t:=c1
  cases c2:(W==1) with
  |false=>
   have c2f:=c2
   cases c4:decide (bits .and .i64 (Int.fdiv (kN l 1) (2^12)) 3>0) with
   |false=>exact (PureC.vc (mk_TF_F W l n hW1 hW hn1 hn c1t c2f c4)).frozen
   |true=>
    cases c5:decide ((mK W l 4).s+W≤3) with
    |false=>exact (PureC.vc (mk_TF_TF W l n hW1 hW hn1 hn c1t c2f c4 c5)).frozen
    |true=>exact (PureC.vc (mk_TF_TT W l n hW1 hW hn1 hn c1t c2f c4 c5)).frozen
  |true=>
   have c2t:=c2
   cases c3:(bits .and .i64 (Int.fdiv (kN l 1) (2^10)) 3==0) with
   |false=>
    have c3f:=c3
    cases c4:decide (bits .and .i64 (Int.fdiv (kN l 1) (2^12)) 3>0) with
    |false=>exact (PureC.vc (mk_TTF_F W l n hW1 hW hn1 hn c1t c2t c3f c4)).frozen
    |true=>
     cases c5:decide ((mK W l 4).s+W≤3) with
     |false=>exact (PureC.vc (mk_TTF_TF W l n hW1 hW hn1 hn c1t c2t c3f c4 c5)).frozen
     |true=>exact (PureC.vc (mk_TTF_TT W l n hW1 hW hn1 hn c1t c2t c3f c4 c5)).frozen
   |true=>
    have c3t:=c3
    cases c4:decide (bits .and .i64 (Int.fdiv (kN l 1) (2^12)) 3>0) with
    |false=>exact (PureC.vc (mk_TTT_F W l n hW1 hW hn1 hn c1t c2t c3t c4)).frozen
    |true=>
     cases c5:decide ((mK W l 4).s+W≤3) with
     |false=>exact (PureC.vc (mk_TTT_TF W l n hW1 hW hn1 hn c1t c2t c3t c4 c5)).frozen
     |true=>exact (PureC.vc (mk_TTT_TT W l n hW1 hW hn1 hn c1t c2t c3t c4 c5)).frozen
theorem tm_ok (y m:Int) (hm:0<m):0≤tmN y m∧tmN y m<m:=tm_bd y m hm
theorem b3_ok (y:Int):0≤bits .and .i64 y 3∧bits .and .i64 y 3<4:=by
 obtain ⟨q,h1,h2⟩:=bits3 y
 omega
theorem vlN_ok (x:Int):okV (vlN x):=by
 unfold vlN
 split
 ·exact fun h=>by cases h
 ·exact fun _=>b3_ok x
theorem insOf_ok (k:Nat) (x:Int) (n:Nat) (hk:1≤k∧k≤11):OkI (insOf k x n) n:=by
 have h14:=b3_ok (x2 x 14)
 have ha:=vlN_ok (x2 x 8)
 have hb:=vlN_ok (x2 x 11)
 have ht:=tm_ok (x2 x 18) (n+1) (by omega)
 match k,hk with
 |1,_=>exact ⟨⟨show (1:Int)≤1 by decide,show (1:Int)≤12 by decide⟩,ha,hb,h14,show (0:Int)≤0 by decide,by show (0:Int)≤_;omega⟩
 |2,_=>exact ⟨⟨show (1:Int)≤2 by decide,show (2:Int)≤12 by decide⟩,ha,hb,h14,show (0:Int)≤0 by decide,by show (0:Int)≤_;omega⟩
 |3,_=>exact ⟨⟨show (1:Int)≤3 by decide,show (3:Int)≤12 by decide⟩,ha,hb,h14,show (0:Int)≤0 by decide,by show (0:Int)≤_;omega⟩
 |4,_=>exact ⟨⟨show (1:Int)≤4 by decide,show (4:Int)≤12 by decide⟩,ha,hb,h14,show (0:Int)≤0 by decide,by show (0:Int)≤_;omega⟩
 |5,_=>exact ⟨⟨show (1:Int)≤5 by decide,show (5:Int)≤12 by decide⟩,ha,hb,⟨show (0:Int)≤0 by decide,show (0:Int)<4 by decide⟩,ht.1,by show tmN _ _≤_;omega⟩
 |6,_=>exact ⟨⟨show (1:Int)≤6 by decide,show (6:Int)≤12 by decide⟩,okV0,okV0,⟨show (0:Int)≤0 by decide,show (0:Int)<4 by decide⟩,ht.1,by show tmN _ _≤_;omega⟩
 |7,_=>exact ⟨⟨show (1:Int)≤7 by decide,show (7:Int)≤12 by decide⟩,ha,okV0,⟨show (0:Int)≤0 by decide,show (0:Int)<4 by decide⟩,show (0:Int)≤0 by decide,by show (0:Int)≤_;omega⟩
 |8,_=>exact ⟨⟨show (1:Int)≤8 by decide,show (8:Int)≤12 by decide⟩,okV0,okV0,⟨show (0:Int)≤0 by decide,show (0:Int)<4 by decide⟩,ht.1,by show tmN _ _≤_;omega⟩
 |9,_=>exact ⟨⟨show (1:Int)≤9 by decide,show (9:Int)≤12 by decide⟩,okV0,okV0,⟨show (0:Int)≤0 by decide,show (0:Int)<4 by decide⟩,show (0:Int)≤0 by decide,by show (0:Int)≤_;omega⟩
 |10,_=>exact ⟨⟨show (1:Int)≤10 by decide,show (10:Int)≤12 by decide⟩,okV0,okV0,⟨show (0:Int)≤0 by decide,show (0:Int)<4 by decide⟩,show (0:Int)≤0 by decide,by show (0:Int)≤_;omega⟩
 |11,_=>exact ⟨⟨show (1:Int)≤11 by decide,show (11:Int)≤12 by decide⟩,okV0,okV0,⟨show (0:Int)≤0 by decide,show (0:Int)<4 by decide⟩,show (0:Int)≤0 by decide,by show (0:Int)≤_;omega⟩
 |0,h=>exact absurd h.1 (by omega)
 |k+12,h=>exact absurd h.2 (by omega)
theorem insN_ok (x:Int) (n:Nat):OkI (insN x n) n∧(insN x n).kind≤11:=by
 have h:=tm_ok x 18 (by omega)
 unfold insN
 obtain ⟨q,e⟩: ∃ q:Nat,tmN x 18=(q:Int):=⟨(tmN x 18).toNat,by omega⟩
 have hq:q<18:=by omega
 rw [e,Int.toNat_natCast]
 match q,hq with
 |0,_=>exact ⟨insOf_ok 1 x n (by decide),by show (1:Int)≤11;decide⟩
 |1,_=>exact ⟨insOf_ok 1 x n (by decide),by show (1:Int)≤11;decide⟩
 |2,_=>exact ⟨insOf_ok 2 x n (by decide),by show (2:Int)≤11;decide⟩
 |3,_=>exact ⟨insOf_ok 2 x n (by decide),by show (2:Int)≤11;decide⟩
 |4,_=>exact ⟨insOf_ok 2 x n (by decide),by show (2:Int)≤11;decide⟩
 |5,_=>exact ⟨insOf_ok 3 x n (by decide),by show (3:Int)≤11;decide⟩
 |6,_=>exact ⟨insOf_ok 3 x n (by decide),by show (3:Int)≤11;decide⟩
 |7,_=>exact ⟨insOf_ok 4 x n (by decide),by show (4:Int)≤11;decide⟩
 |8,_=>exact ⟨insOf_ok 5 x n (by decide),by show (5:Int)≤11;decide⟩
 |9,_=>exact ⟨insOf_ok 5 x n (by decide),by show (5:Int)≤11;decide⟩
 |10,_=>exact ⟨insOf_ok 5 x n (by decide),by show (5:Int)≤11;decide⟩
 |11,_=>exact ⟨insOf_ok 6 x n (by decide),by show (6:Int)≤11;decide⟩
 |12,_=>exact ⟨insOf_ok 7 x n (by decide),by show (7:Int)≤11;decide⟩
 |13,_=>exact ⟨insOf_ok 8 x n (by decide),by show (8:Int)≤11;decide⟩
 |14,_=>exact ⟨insOf_ok 9 x n (by decide),by show (9:Int)≤11;decide⟩
 |15,_=>exact ⟨insOf_ok 10 x n (by decide),by show (10:Int)≤11;decide⟩
 |16,_=>exact ⟨insOf_ok 11 x n (by decide),by show (11:Int)≤11;decide⟩
 |17,_=>exact ⟨insOf_ok 1 x n (by decide),by show (1:Int)≤11;decide⟩
 |_+18,h=>exact absurd h (by omega)
theorem inL_ok (l:List Int) (n:Nat): ∀ k, ∀ i∈inL l n k,OkI i n∧i.kind≤11
 |0,i,hi=>by cases hi
 |k+1,i,hi=>by
  rcases List.mem_append.1 hi with h |h
  ·exact inL_ok l n k i h
  ·rw [List.mem_singleton.1 h];exact insN_ok _ _
theorem msA_bd (c1 c2 c3 c4 c5:Bool):sumN (msA c1 c2 c3 c4 c5)≤3∧(msA c1 c2 c3 c4 c5).length≤2:=by
 cases c1<;>cases c2<;>cases c3<;>cases c4<;>cases c5<;>decide
theorem mkPg_ok (l:List Int):OkP (mkPg l):=by
 have hnn:=nN_bd l
 have hm:=msA_bd (decide (bits .and .i64 (Int.fdiv (kN l 1) (2^8)) 3>0)) ((wN l)==1) (bits .and .i64 (Int.fdiv (kN l 1) (2^10)) 3==0) (decide (bits .and .i64 (Int.fdiv (kN l 1) (2^12)) 3>0)) (decide ((mK (wN l) l 4).s+wN l≤3))
 have e:(mkPg l).is.length=nN l:=inL_len _ _ _
 refine ⟨fun i hi=> ?_,by rw [e];omega,Nat.lt_of_le_of_lt hm.2 (by omega),Nat.le_trans hm.1 (by omega)⟩
 rw [e]
 exact (inL_ok _ _ _ i hi).1
end
end Go.Proofs.Ytfjapapiappacaa.Px
namespace Go.Proofs.Ytfjapapiappacaa.Px
section
open Go.RowKit Go.Proofs.Ytfjapapiappacaa.Rx
def plF (p:Pg):List Pl:=places (rg p.r0 p.r1 p.r2 p.r3) p.ms
def plR (l:List Pl):AV:= .row 3 l.length (rowL plC l)
def rsS (p:Pg) (pl:List Pl) (l:List Int) (s:S7) (k:Nat):Sm:=⟨[(1,lR l),(2,pgP p),(4, .bptr 0 0),(5, .bool false),(6,plR pl),(7, .bptr 1 0),(8, .int .i64 k)],
 [(0,bx 27 (stZ .nils)),(1,bx 27 (stC s (.own 2 0 1 0 s.m.length))),(2,blkI s.m)],3⟩
theorem zB50 (p:Pg) (pl:List Pl) (k:Nat) {Z:Prop} (z:Z):(RF p.is.length (RR p.is.length 9 (fun i j=>rowL inC p.is i j) (RF false (RF pl.length (RR pl.length 3 (fun i j=>rowL plC pl i j) (RF ((k:Int)+1) Z)))))):=⟨rfl,fun _ _ _ _=>rfl,rfl,rfl,fun _ _ _ _=>rfl,rfl,z⟩
theorem zB51 (p:Pg) {Z:Prop} (z:Z):(RF p.fuel (RF p.r0 (RF p.r1 (RF p.r2 (RF p.r3 (RF p.ms.length (RR p.ms.length 3 (fun i j=>rowL mmC p.ms i j) (RF p.ls.length (RR p.ls.length 2 (fun i j=>rowL lbC p.ls i j) Z))))))))):=⟨rfl,rfl,rfl,rfl,rfl,rfl,fun _ _ _ _=>rfl,rfl,fun _ _ _ _=>rfl,z⟩
theorem zB52 (p:Pg) (l:List Int) (s:S7) {Z:Prop} (z:Z):(RF (0:Nat) (RF s.m.length (RF (0:Int) (RF s.m.length (RR s.m.length 1 (fun i j=>aI (s.m.getD i 0)) (RF l.length (RR l.length 1 (fun i j=>aI (l.getD i 0)) (RF p.W (RF p.win Z))))))))):=⟨rfl,rfl,rfl,rfl,fun _ _ _ _=>rfl,rfl,fun _ _ _ _=>rfl,rfl,rfl,z⟩
abbrev oB50 (p:Pg) (l:List Int) (k:Nat):Orc:= .cl [.int .i64 p.W, .int .i64 (l.getD k 0)] (.int .i64 (Wd.maskV p.W (l.getD k 0))) []
theorem rs_reg0 (p:Pg) (pl:List Pl) (l:List Int) (s:S7) (k:Nat) (hk:k<pl.length) (hl:l.length=pl.length) (hp:pl.length<1000000) (hr:(pl.getD k default).reg=true) (hn:(pl.getD k default).n=0):Vc (vcC Try.prog false (ntOf Try.prog 32) (lpC Try.prog 32 0) (rsS p pl l s k) [.b true,oB50 p l k, .b true, .ix 0] .nrm [(0,0),(1,1),(2,2)] (rsS p pl l {s with r0:=Wd.maskV p.W (l.getD k 0)} (k+1))):=vc_by (cj (dt ((k:Int)<(pl.length:Int))) (cj (bi (k:Int) (l.length:Int)) (cj (rf p.W) (cj (rf (l.getD k 0)) (cj (rmaskC p.W (l.getD k 0)) (cj (bi (k:Int) (pl.length:Int)) (cj hr (cj (bi (k:Int) (pl.length:Int)) (cj (show (↑((pl.getD k default).n):Int)=((0:Nat):Int) from (congrArg Int.ofNat hn)) (cj (i6 ((k:Int)+1)) (cj (rf (0:Int)) (cj (rf (0:Int)) (cj (rf (0:Int)) (cj (rf (0:Int)) (cj (rf (0:Int)) (cj (rf (Wd.maskV p.W (l.getD k 0))) (cj (rf s.r1) (cj (rf s.r2) (cj (rf s.r3) (zB52 p l s (zB51 p (zB50 p pl k trivial)))))))))))))))))))))) (by kernel_rfl)
theorem rs_reg1 (p:Pg) (pl:List Pl) (l:List Int) (s:S7) (k:Nat) (hk:k<pl.length) (hl:l.length=pl.length) (hp:pl.length<1000000) (hr:(pl.getD k default).reg=true) (hn:(pl.getD k default).n=1):Vc (vcC Try.prog false (ntOf Try.prog 32) (lpC Try.prog 32 0) (rsS p pl l s k) [.b true,oB50 p l k, .b true, .ix 1] .nrm [(0,0),(1,1),(2,2)] (rsS p pl l {s with r1:=Wd.maskV p.W (l.getD k 0)} (k+1))):=vc_by (cj (dt ((k:Int)<(pl.length:Int))) (cj (bi (k:Int) (l.length:Int)) (cj (rf p.W) (cj (rf (l.getD k 0)) (cj (rmaskC p.W (l.getD k 0)) (cj (bi (k:Int) (pl.length:Int)) (cj hr (cj (bi (k:Int) (pl.length:Int)) (cj (show (↑((pl.getD k default).n):Int)=((1:Nat):Int) from (congrArg Int.ofNat hn)) (cj (i6 ((k:Int)+1)) (cj (rf (0:Int)) (cj (rf (0:Int)) (cj (rf (0:Int)) (cj (rf (0:Int)) (cj (rf (0:Int)) (cj (rf s.r0) (cj (rf (Wd.maskV p.W (l.getD k 0))) (cj (rf s.r2) (cj (rf s.r3) (zB52 p l s (zB51 p (zB50 p pl k trivial)))))))))))))))))))))) (by kernel_rfl)
theorem rs_reg2 (p:Pg) (pl:List Pl) (l:List Int) (s:S7) (k:Nat) (hk:k<pl.length) (hl:l.length=pl.length) (hp:pl.length<1000000) (hr:(pl.getD k default).reg=true) (hn:(pl.getD k default).n=2):Vc (vcC Try.prog false (ntOf Try.prog 32) (lpC Try.prog 32 0) (rsS p pl l s k) [.b true,oB50 p l k, .b true, .ix 2] .nrm [(0,0),(1,1),(2,2)] (rsS p pl l {s with r2:=Wd.maskV p.W (l.getD k 0)} (k+1))):=vc_by (cj (dt ((k:Int)<(pl.length:Int))) (cj (bi (k:Int) (l.length:Int)) (cj (rf p.W) (cj (rf (l.getD k 0)) (cj (rmaskC p.W (l.getD k 0)) (cj (bi (k:Int) (pl.length:Int)) (cj hr (cj (bi (k:Int) (pl.length:Int)) (cj (show (↑((pl.getD k default).n):Int)=((2:Nat):Int) from (congrArg Int.ofNat hn)) (cj (i6 ((k:Int)+1)) (cj (rf (0:Int)) (cj (rf (0:Int)) (cj (rf (0:Int)) (cj (rf (0:Int)) (cj (rf (0:Int)) (cj (rf s.r0) (cj (rf s.r1) (cj (rf (Wd.maskV p.W (l.getD k 0))) (cj (rf s.r3) (zB52 p l s (zB51 p (zB50 p pl k trivial)))))))))))))))))))))) (by kernel_rfl)
theorem rs_reg3 (p:Pg) (pl:List Pl) (l:List Int) (s:S7) (k:Nat) (hk:k<pl.length) (hl:l.length=pl.length) (hp:pl.length<1000000) (hr:(pl.getD k default).reg=true) (hn:(pl.getD k default).n=3):Vc (vcC Try.prog false (ntOf Try.prog 32) (lpC Try.prog 32 0) (rsS p pl l s k) [.b true,oB50 p l k, .b true, .ix 3] .nrm [(0,0),(1,1),(2,2)] (rsS p pl l {s with r3:=Wd.maskV p.W (l.getD k 0)} (k+1))):=vc_by (cj (dt ((k:Int)<(pl.length:Int))) (cj (bi (k:Int) (l.length:Int)) (cj (rf p.W) (cj (rf (l.getD k 0)) (cj (rmaskC p.W (l.getD k 0)) (cj (bi (k:Int) (pl.length:Int)) (cj hr (cj (bi (k:Int) (pl.length:Int)) (cj (show (↑((pl.getD k default).n):Int)=((3:Nat):Int) from (congrArg Int.ofNat hn)) (cj (i6 ((k:Int)+1)) (cj (rf (0:Int)) (cj (rf (0:Int)) (cj (rf (0:Int)) (cj (rf (0:Int)) (cj (rf (0:Int)) (cj (rf s.r0) (cj (rf s.r1) (cj (rf s.r2) (cj (rf (Wd.maskV p.W (l.getD k 0))) (zB52 p l s (zB51 p (zB50 p pl k trivial)))))))))))))))))))))) (by kernel_rfl)
theorem zB53 (p:Pg) (l:List Int) {Z:Prop} (z:Z):(RF l.length (RR l.length 1 (fun i j=>aI (l.getD i 0)) (RF p.W (RF p.win (RF p.fuel (RF p.r0 (RF p.r1 (RF p.r2 (RF p.r3 Z))))))))):=⟨rfl,fun _ _ _ _=>rfl,rfl,rfl,rfl,rfl,rfl,rfl,rfl,z⟩
theorem zB54 (s:S7) {Z:Prop} (z:Z):(RF (0:Int) (RF (0:Int) (RF (0:Int) (RF (0:Int) (RF (0:Int) (RF s.r0 (RF s.r1 (RF s.r2 (RF s.r3 Z))))))))):=⟨rfl,rfl,rfl,rfl,rfl,rfl,rfl,rfl,rfl,z⟩
theorem rs_mem (p:Pg) (pl:List Pl) (l:List Int) (s:S7) (k:Nat) (hk:k<pl.length) (hl:l.length=pl.length) (hp:pl.length<1000000) (hr:(pl.getD k default).reg=false) (hn:(pl.getD k default).n<s.m.length):Vc (vcC Try.prog false (ntOf Try.prog 32) (lpC Try.prog 32 0) (rsS p pl l s k) [.b true,oB50 p l k, .b false] .nrm [(0,0),(1,1),(2,2)] (rsS p pl l {s with m:=s.m.set (pl.getD k default).n (Wd.maskV p.W (l.getD k 0))} (k+1))):=vc_by (cj (dt ((k:Int)<(pl.length:Int))) (cj (bi (k:Int) (l.length:Int)) (cj (rf p.W) (cj (rf (l.getD k 0)) (cj (rmaskC p.W (l.getD k 0)) (cj (bi (k:Int) (pl.length:Int)) (cj hr (cj (bi (k:Int) (pl.length:Int)) (cj (show (0:Int)≤(↑((pl.getD k default).n):Int)∧(↑((pl.getD k default).n):Int)<(↑s.m.length:Int) from ⟨Int.natCast_nonneg _,Int.ofNat_lt.2 hn⟩) (cj hn (cj (i6 ((k:Int)+1)) (zB54 s (cj (rf (0:Nat)) (cj (show s.m.length=(List.set s.m (pl.getD k default).n (Wd.maskV p.W (l.getD k 0))).length from List.length_set.symm) (cj (rf (0:Int)) (cj (show s.m.length=(List.set s.m (pl.getD k default).n (Wd.maskV p.W (l.getD k 0))).length from List.length_set.symm) (cj (show ∀ (i:Nat),i<s.m.length→ ∀ (j:Nat),j<1→(bif Nat.ble (0:Nat) j&&Nat.blt j (1:Nat)&&Nat.beq i ((pl.getD k default).n+0) then List.getD [aI (Wd.maskV p.W (l.getD k 0))] (j-0) AV.junk else aI (s.m.getD i 0))=aI (List.getD (List.set s.m (pl.getD k default).n (Wd.maskV p.W (l.getD k 0))) i (0:Int)) from set_row) (zB53 p l (cj (rf p.ms.length) (cj (rr p.ms.length 3 fun i j=>rowL mmC p.ms i j) (cj (rf p.ls.length) (cj (rr p.ls.length 2 fun i j=>rowL lbC p.ls i j) (cj (rf p.is.length) (cj (rr p.is.length 9 fun i j=>rowL inC p.is i j) (cj (rf false) (cj (rf pl.length) (cj (rr pl.length 3 fun i j=>rowL plC pl i j) (cj (rf ((k:Int)+1)) trivial)))))))))))))))))))))))))))) (by kernel_rfl)
theorem rs_end (p:Pg) (pl:List Pl) (l:List Int) (s:S7):Vc (vcC Try.prog false (ntOf Try.prog 32) (lpC Try.prog 32 0) (rsS p pl l s pl.length) [.b false] (.ext 0) [(0,0),(1,1),(2,2)] (rsS p pl l s pl.length)):=vc_by (cj (df ((pl.length:Int)<(pl.length:Int))) (zB54 s (zB52 p l s (zB51 p (cj (rf p.is.length) (cj (rr p.is.length 9 fun i j=>rowL inC p.is i j) (cj (rf false) (cj (rf pl.length) (cj (rr pl.length 3 fun i j=>rowL plC pl i j) (cj (rf (pl.length:Int)) trivial)))))))))) (by kernel_rfl)
theorem rs_loop (p:Pg) (pl:List Pl) (l:List Int) (s:S7) (hl:l.length=pl.length) (hp:pl.length<1000000) (ho: ∀ x∈pl,plOk s.m.length x):Ok Try.prog (ntOf Try.prog 32) (.loop (lpC Try.prog 32 0)) (rsS p pl l s 0).st (.ext 0) (rsS p pl l (putK p.W pl l s pl.length) pl.length).st:=
 Ok.loop (P:=Try.prog) (nt:=ntOf Try.prog 32) (c:=lpC Try.prog 32 0) (F:=fun k=>rsS p pl l (putK p.W pl l s k) k) (m:=pl.length) (x:= .ext 0) (J:=rsS p pl l (putK p.W pl l s pl.length) pl.length) (fun k hk=>by
  have hm:=putK_len p.W pl l s k
  obtain ⟨h1,h2⟩:=ho _ (getD_mem hk)
  show Ok _ _ _ _ _ (rsS p pl l (put7 (putK p.W pl l s k) (pl.getD k default) (Wd.maskV p.W (l.getD k 0))) (k+1)).st
  cases hr:(pl.getD k default).reg with
  |true=>
   have hn:=h1 hr
   unfold put7
   rw [if_pos hr]
   match hq:(pl.getD k default).n,hn with
   |0,_=>exact Ok.vc (rs_reg0 p pl l _ k hk hl hp hr hq)
   |1,_=>exact Ok.vc (rs_reg1 p pl l _ k hk hl hp hr hq)
   |2,_=>exact Ok.vc (rs_reg2 p pl l _ k hk hl hp hr hq)
   |3,_=>exact Ok.vc (rs_reg3 p pl l _ k hk hl hp hr hq)
  |false=>
   have hn:=h2 hr
   unfold put7
   rw [if_neg (by rw [hr];simp)]
   exact Ok.vc (rs_mem p pl l _ k hk hl hp hr (by rw [hm];exact hn))) (Ok.vc (rs_end p pl l _)) (by simp)
def stK (p:Pg) (l:List Int):S7:=putK p.W (plF p) l (zer7 (sumN p.ms)) (plF p).length
theorem stK_len (p:Pg) (l:List Int):(stK p l).m.length=sumN p.ms:=by simp [stK,putK_len,zer7]
theorem plF_len {p:Pg} (h:OkP p):(plF p).length≤20:=by
 have:=places_length (rg p.r0 p.r1 p.r2 p.r3) p.ms
 have:=h.sum
 unfold plF
 omega
theorem plF_ok (p:Pg): ∀ x∈plF p,plOk (sumN p.ms) x:=places_ok _ _
theorem sB50 (p:Pg):sumN p.ms=(List.replicate (sumN p.ms) (0:Int)).length:=by simp [zer7,stK_len]
theorem zB55 {Z:Prop} (z:Z):(RF (0:Int) (RF (0:Int) (RF (0:Int) (RF (0:Int) (RF (0:Int) (RF (0:Int) (RF (0:Int) (RF (0:Int) (RF (0:Int) Z))))))))):=⟨rfl,rfl,rfl,rfl,rfl,rfl,rfl,rfl,rfl,z⟩
theorem zB56 (p:Pg) {Z:Prop} (z:Z):(RF p.W (RF p.r0 (RF p.r1 (RF p.r2 (RF p.r3 (RF p.ms.length (RR p.ms.length 3 (fun i j=>rowL mmC p.ms i j) Z))))))):=⟨rfl,rfl,rfl,rfl,rfl,rfl,fun _ _ _ _=>rfl,z⟩
theorem rst_vc (p:Pg) (l:List Int) (hP:OkP p) (hl:l.length=(plF p).length):Vc (vcFn Try.prog false 32 [.agg (pgA p),lR l] [.fz, .cl [.agg (progL p.W p.r0 p.r1 p.r2 p.r3 (memR p.ms))] (plR (plF p)) [], .b false, .cl [.agg (progL p.W p.r0 p.r1 p.r2 p.r3 (memR p.ms))] (.int .i64 (sumN p.ms)) [], .lp [(0,1),(1,3),(2,2)] (rsS p (plF p) l (zer7 (sumN p.ms)) 0) (.ext 0) (rsS p (plF p) l (stK p l) (plF p).length)] [(0,2)] (.tup [.agg (stC (stK p l) (.own 0 0 1 0 (stK p l).m.length)), .bool true]) [blkI (stK p l).m]):=vc_by (zB56 p (cj (refPlaces p.W p.r0 p.r1 p.r2 p.r3 p.ms (by have:=hP.ms;omega) (by have:=hP.sum;omega)).frozen (cj (show ((l.length:Int) !=(↑((plF p).length):Int))=false from by rw [hl];simp) (zB56 p (cj (refCells p.W p.r0 p.r1 p.r2 p.r3 p.ms (by have:=hP.ms;omega) (by have:=hP.sum;omega)) (cj (show (0:Int)≤(↑(sumN p.ms):Int)∧(↑(sumN p.ms):Int)≤(↑(sumN p.ms):Int)∧(↑(sumN p.ms):Int)*((8:Nat):Int)≤140737488355328∧(↑(sumN p.ms):Int)≤140737488355328 from by have:=hP.sum;omega) (zB55 (cj (rf (0:Nat)) (cj (sB50 p) (cj (rf (0:Int)) (cj (sB50 p) (cj (show ∀ (i:Nat),i<sumN p.ms→ ∀ (j:Nat),j<1→List.getD [aI (0:Int)] j AV.junk=aI (List.getD (List.replicate (sumN p.ms) (0:Int)) i (0:Int)) from (fun i hi j hj=>(match j,hj with |0,_=>rowI_rep rfl i 0 (by simpa using hi)))) (zB53 p l (cj (rf p.ms.length) (cj (rr p.ms.length 3 fun i j=>rowL mmC p.ms i j) (cj (rf p.ls.length) (cj (rr p.ls.length 2 fun i j=>rowL lbC p.ls i j) (cj (rf p.is.length) (cj (rr p.is.length 9 fun i j=>rowL inC p.is i j) (cj (rf false) (cj (rf ((plF p).length)) (cj (rr ((plF p).length) 3 fun i j=>rowL plC (plF p) i j) (cj (rf (0:Int)) (cj (show Ok Try.prog (ntOf Try.prog 32) (.loop (lpC Try.prog 32 0)) (rsS p (plF p) l (zer7 (sumN p.ms)) 0).st (.ext 0) (rsS p (plF p) l (stK p l) (plF p).length).st from rs_loop p (plF p) l _ hl (by have:=plF_len hP;omega) (by simpa [zer7] using plF_ok p)) (cj (rf ((stK p l).m.length)) (cj (rr ((stK p l).m.length) 1 fun i j=>aI (List.getD (stK p l).m i (0:Int))) (cj (rf ((stK p l).r0)) (cj (rf ((stK p l).r1)) (cj (rf ((stK p l).r2)) (cj (rf ((stK p l).r3)) (cj (rf (0:Nat)) (cj (rf ((stK p l).m.length)) (cj (rf (0:Int)) (cj (rf true) trivial)))))))))))))))))))))))))))))))))) (by kernel_rfl)
theorem rstartC (p:Pg) (l:List Int) (hP:OkP p) (hl:l.length=(plF p).length):PureC Try.prog 32 [.agg (pgA p),lR l] (.tup [.agg (stC (stK p l) (.own 0 0 1 0 (stK p l).m.length)), .bool true]) [blkI (stK p l).m]:=PureC.vc (rst_vc p l hP hl)
def xSt (pl:List Pl) (l:List Int) (how:Int):Nat→List Int
 |0=>List.replicate pl.length 0
 |k+1=>if k<l.length then (xSt pl l how k).set k (l.getD k 0) else xSt pl l how k
def ySt (pl:List Pl) (l:List Int) (how:Int):Nat→List Int
 |0=>List.replicate pl.length 0
 |k+1=>if k<l.length then (if (pl.getD k default).sec=true∨bits .and .i64 how 7=0 then ((ySt pl l how k).set k (l.getD k 0)).set k (Int.fdiv (l.getD k 0) (2^4)) else (ySt pl l how k).set k (l.getD k 0)) else ySt pl l how k
def ssS (p:Pg) (pl:List Pl) (l X Y:List Int) (how:Int) (k:Nat):Sm:=⟨[(1,lR l),(2, .int .i64 how),(3,pgP p),(6, .bptr 0 0),(7, .bptr 1 0),(8,plR pl),(9, .own 2 0 1 0 X.length),(10, .own 3 0 1 0 Y.length),(25, .int .i64 pl.length),(26, .int .i64 k)],
 [(0,bx 27 (stZ .nils)),(1,bx 27 (stZ .nils)),(2,blkI X),(3,blkI Y)],4⟩
theorem set_row2 {m:List Int} {n:Nat} {u v:Int}: ∀ i,i<m.length→ ∀ j,j<1→(bif Nat.ble 0 j&&Nat.blt j 1&&Nat.beq i (n+0) then [AV.int .i64 v].getD (j-0) .junk else (bif Nat.ble 0 j&&Nat.blt j 1&&Nat.beq i (n+0) then [AV.int .i64 u].getD (j-0) .junk else AV.int .i64 (m.getD i 0)))= .int .i64 (((m.set n u).set n v).getD i 0):=by
 intro i hi j hj
 obtain rfl:j=0:=by omega
 rw [List.set_set,set_row (m:=m) (n:=n) (v:=u) i hi 0 (by omega)]
 have:=set_row (m:=m) (n:=n) (v:=v) i hi 0 (by omega)
 rw [←this]
 cases hb:Nat.beq i (n+0) with
 |true=>rfl
 |false=>
  have hne: ¬i=n:=fun e=>by subst e;simp at hb
  show AV.int .i64 ((m.set n u).getD i 0)=AV.int .i64 (m.getD i 0)
  simp [List.getD,List.getElem?_set,Ne.symm hne]
theorem zB57 (p:Pg) (pl:List Pl) (X:List Int) (Y:List Int) {Z:Prop} (z:Z):(RR p.ls.length 2 (fun i j=>rowL lbC p.ls i j) (RF p.is.length (RR p.is.length 9 (fun i j=>rowL inC p.is i j) (RF pl.length (RR pl.length 3 (fun i j=>rowL plC pl i j) (RF (0:Nat) (RF X.length (RF (0:Nat) (RF Y.length Z))))))))):=⟨fun _ _ _ _=>rfl,rfl,fun _ _ _ _=>rfl,rfl,fun _ _ _ _=>rfl,rfl,rfl,rfl,rfl,z⟩
theorem zB58 (p:Pg) {Z:Prop} (z:Z):(RF p.win (RF p.fuel (RF p.r0 (RF p.r1 (RF p.r2 (RF p.r3 (RF p.ms.length (RR p.ms.length 3 (fun i j=>rowL mmC p.ms i j) (RF p.ls.length Z))))))))):=⟨rfl,rfl,rfl,rfl,rfl,rfl,rfl,fun _ _ _ _=>rfl,rfl,z⟩
theorem zB59 (p:Pg) (l:List Int) (X:List Int) (Y:List Int) (how:Int) {Z:Prop} (z:Z):(RF (0:Int) (RF X.length (RR X.length 1 (fun i j=>aI (X.getD i 0)) (RF Y.length (RR Y.length 1 (fun i j=>aI (Y.getD i 0)) (RF l.length (RR l.length 1 (fun i j=>aI (l.getD i 0)) (RF how (RF p.W Z))))))))):=⟨rfl,rfl,fun _ _ _ _=>rfl,rfl,fun _ _ _ _=>rfl,rfl,fun _ _ _ _=>rfl,rfl,rfl,z⟩
theorem ss_out (p:Pg) (pl:List Pl) (l X Y:List Int) (how:Int) (k:Nat) (hk:k<pl.length) (hX:X.length=pl.length) (hY:Y.length=pl.length) (hp:pl.length<1000) (hl: ¬k<l.length):Vc (vcC Try.prog false (ntOf Try.prog 15) (lpC Try.prog 15 0) (ssS p pl l X Y how k) [.b true, .b false] .nrm [(0,0),(1,1),(2,2),(3,3)] (ssS p pl l X Y how (k+1))):=vc_by (cj (dt ((k:Int)<(pl.length:Int))) (cj (df ((k:Int)<(l.length:Int))) (cj (i6 ((k:Int)+1)) (zB55 (zB59 p l X Y how (zB58 p (zB57 p pl X Y (cj (rf (pl.length:Int)) (cj (rf ((k:Int)+1)) trivial))))))))) (by kernel_rfl)
theorem sB51 (l:List Int) (X:List Int) (k:Nat): ∀ (i:Nat),i<X.length→ ∀ (j:Nat),j<1→(bif Nat.ble (0:Nat) j&&Nat.blt j (1:Nat)&&Nat.beq i (k+0) then List.getD [aI (l.getD k 0)] (j-0) AV.junk else aI (X.getD i 0))=aI (List.getD (List.set X k (l.getD k 0)) i (0:Int)):=set_row
theorem sB52 (l:List Int) (Y:List Int) (k:Nat):Y.length=(List.set (List.set Y k (l.getD k 0)) k (Int.fdiv (l.getD k 0) ((2:Int)^(4:Nat)))).length:=by simp
theorem sB53 (l:List Int) (Y:List Int) (k:Nat): ∀ (i:Nat),i<Y.length→ ∀ (j:Nat),j<1→(bif Nat.ble (0:Nat) j&&Nat.blt j (1:Nat)&&Nat.beq i (k+0) then List.getD [aI (Int.fdiv (l.getD k 0) ((2:Int)^(4:Nat)))] (j-0) AV.junk else bif Nat.ble (0:Nat) j&&Nat.blt j (1:Nat)&&Nat.beq i (k+0) then List.getD [aI (l.getD k 0)] (j-0) AV.junk else aI (Y.getD i 0))=aI (List.getD (List.set (List.set Y k (l.getD k 0)) k (Int.fdiv (l.getD k 0) ((2:Int)^(4:Nat)))) i (0:Int)):=set_row2
theorem zB510 (p:Pg) (pl:List Pl) {Z:Prop} (z:Z):(RF p.r3 (RF p.ms.length (RR p.ms.length 3 (fun i j=>rowL mmC p.ms i j) (RF p.ls.length (RR p.ls.length 2 (fun i j=>rowL lbC p.ls i j) (RF p.is.length (RR p.is.length 9 (fun i j=>rowL inC p.is i j) (RF pl.length (RR pl.length 3 (fun i j=>rowL plC pl i j) Z))))))))):=⟨rfl,rfl,fun _ _ _ _=>rfl,rfl,fun _ _ _ _=>rfl,rfl,fun _ _ _ _=>rfl,rfl,fun _ _ _ _=>rfl,z⟩
theorem zB511 (p:Pg) (l:List Int) (how:Int) {Z:Prop} (z:Z):(RF l.length (RR l.length 1 (fun i j=>aI (l.getD i 0)) (RF how (RF p.W (RF p.win (RF p.fuel (RF p.r0 (RF p.r1 (RF p.r2 Z))))))))):=⟨rfl,fun _ _ _ _=>rfl,rfl,rfl,rfl,rfl,rfl,rfl,rfl,z⟩
theorem ss_sec (p:Pg) (pl:List Pl) (l X Y:List Int) (how:Int) (k:Nat) (hk:k<pl.length) (hX:X.length=pl.length) (hY:Y.length=pl.length) (hp:pl.length<1000) (hl:k<l.length) (hs:(pl.getD k default).sec=true):Vc (vcC Try.prog false (ntOf Try.prog 15) (lpC Try.prog 15 0) (ssS p pl l X Y how k) [.b true, .b true, .b true, .b true, .b true, .b true, .b true] .nrm [(0,0),(1,1),(2,2),(3,3)] (ssS p pl l (X.set k (l.getD k 0)) ((Y.set k (l.getD k 0)).set k (Int.fdiv (l.getD k 0) (2^4))) how (k+1))):=vc_by (cj (dt ((k:Int)<(pl.length:Int))) (cj (dt ((k:Int)<(l.length:Int))) (cj (bi (k:Int) (l.length:Int)) (cj (bi (k:Int) (l.length:Int)) (cj (bi (k:Int) (X.length:Int)) (cj (pv (k+0<X.length)) (cj (bi (k:Int) (Y.length:Int)) (cj (pv (k+0<Y.length)) (cj (bi (k:Int) (pl.length:Int)) (cj hs (cj hs (cj hs (cj hs (cj (rf true) (cj (bi (k:Int) (l.length:Int)) (cj (pv ((0:Int)≤4)) (cj (bi (k:Int) (Y.length:Int)) (cj (pv (k+0<Y.length)) (cj (i6 ((k:Int)+1)) (zB55 (cj (rf (0:Int)) (cj (show X.length=(List.set X k (l.getD k 0)).length from by simp) (cj (sB51 l X k) (cj (sB52 l Y k) (cj (sB53 l Y k) (zB511 p l how (zB510 p pl (cj (rf (0:Nat)) (cj (show X.length=(List.set X k (l.getD k 0)).length from by simp) (cj (rf (0:Nat)) (cj (sB52 l Y k) (cj (rf (pl.length:Int)) (cj (rf ((k:Int)+1)) trivial))))))))))))))))))))))))))))))))) (by kernel_rfl)
theorem ss_how (p:Pg) (pl:List Pl) (l X Y:List Int) (how:Int) (k:Nat) (hk:k<pl.length) (hX:X.length=pl.length) (hY:Y.length=pl.length) (hp:pl.length<1000) (hl:k<l.length) (hs:(pl.getD k default).sec=false) (hh:bits .and .i64 how 7=0):Vc (vcC Try.prog false (ntOf Try.prog 15) (lpC Try.prog 15 0) (ssS p pl l X Y how k) [.b true, .b true, .b false, .b false, .b false, .b false, .b true] .nrm [(0,0),(1,1),(2,2),(3,3)] (ssS p pl l (X.set k (l.getD k 0)) ((Y.set k (l.getD k 0)).set k (Int.fdiv (l.getD k 0) (2^4))) how (k+1))):=vc_by (cj (dt ((k:Int)<(pl.length:Int))) (cj (dt ((k:Int)<(l.length:Int))) (cj (bi (k:Int) (l.length:Int)) (cj (bi (k:Int) (l.length:Int)) (cj (bi (k:Int) (X.length:Int)) (cj (pv (k+0<X.length)) (cj (bi (k:Int) (Y.length:Int)) (cj (pv (k+0<Y.length)) (cj (bi (k:Int) (pl.length:Int)) (cj hs (cj hs (cj hs (cj hs (cj (show (Go.bits Go.BinOp.and IntKind.i64 how (7:Int)==(0:Int))=true from by rw [hh];rfl) (cj (bi (k:Int) (l.length:Int)) (cj (pv ((0:Int)≤4)) (cj (bi (k:Int) (Y.length:Int)) (cj (pv (k+0<Y.length)) (cj (i6 ((k:Int)+1)) (zB55 (cj (rf (0:Int)) (cj (show X.length=(List.set X k (l.getD k 0)).length from by simp) (cj (sB51 l X k) (cj (sB52 l Y k) (cj (sB53 l Y k) (zB511 p l how (zB510 p pl (cj (rf (0:Nat)) (cj (show X.length=(List.set X k (l.getD k 0)).length from by simp) (cj (rf (0:Nat)) (cj (sB52 l Y k) (cj (rf (pl.length:Int)) (cj (rf ((k:Int)+1)) trivial))))))))))))))))))))))))))))))))) (by kernel_rfl)
theorem ss_pub (p:Pg) (pl:List Pl) (l X Y:List Int) (how:Int) (k:Nat) (hk:k<pl.length) (hX:X.length=pl.length) (hY:Y.length=pl.length) (hp:pl.length<1000) (hl:k<l.length) (hs:(pl.getD k default).sec=false) (hh: ¬bits .and .i64 how 7=0):Vc (vcC Try.prog false (ntOf Try.prog 15) (lpC Try.prog 15 0) (ssS p pl l X Y how k) [.b true, .b true, .b false, .b false, .b false, .b false, .b false] .nrm [(0,0),(1,1),(2,2),(3,3)] (ssS p pl l (X.set k (l.getD k 0)) (Y.set k (l.getD k 0)) how (k+1))):=vc_by (cj (dt ((k:Int)<(pl.length:Int))) (cj (dt ((k:Int)<(l.length:Int))) (cj (bi (k:Int) (l.length:Int)) (cj (bi (k:Int) (l.length:Int)) (cj (bi (k:Int) (X.length:Int)) (cj (pv (k+0<X.length)) (cj (bi (k:Int) (Y.length:Int)) (cj (pv (k+0<Y.length)) (cj (bi (k:Int) (pl.length:Int)) (cj hs (cj hs (cj hs (cj hs (cj (show (Go.bits Go.BinOp.and IntKind.i64 how (7:Int)==(0:Int))=false from by simpa using hh) (cj (i6 ((k:Int)+1)) (zB55 (cj (rf (0:Int)) (cj (show X.length=(List.set X k (l.getD k 0)).length from by simp) (cj (sB51 l X k) (cj (show Y.length=(List.set Y k (l.getD k 0)).length from by simp) (cj (show ∀ (i:Nat),i<Y.length→ ∀ (j:Nat),j<1→(bif Nat.ble (0:Nat) j&&Nat.blt j (1:Nat)&&Nat.beq i (k+0) then List.getD [aI (l.getD k 0)] (j-0) AV.junk else aI (Y.getD i 0))=aI (List.getD (List.set Y k (l.getD k 0)) i (0:Int)) from set_row) (zB511 p l how (zB510 p pl (cj (rf (0:Nat)) (cj (show X.length=(List.set X k (l.getD k 0)).length from by simp) (cj (rf (0:Nat)) (cj (show Y.length=(List.set Y k (l.getD k 0)).length from by simp) (cj (rf (pl.length:Int)) (cj (rf ((k:Int)+1)) trivial))))))))))))))))))))))))))))) (by kernel_rfl)
theorem ss_end (p:Pg) (pl:List Pl) (l X Y:List Int) (how:Int):Vc (vcC Try.prog false (ntOf Try.prog 15) (lpC Try.prog 15 0) (ssS p pl l X Y how pl.length) [.b false] (.ext 0) [(0,0),(1,1),(2,2),(3,3)] (ssS p pl l X Y how pl.length)):=vc_by (cj (df ((pl.length:Int)<(pl.length:Int))) (zB55 (zB59 p l X Y how (zB58 p (zB57 p pl X Y (cj (rf (pl.length:Int)) (cj (rf (pl.length:Int)) trivial))))))) (by kernel_rfl)
theorem xSt_len (pl:List Pl) (l:List Int) (how:Int): ∀ k,(xSt pl l how k).length=pl.length
 |0=>List.length_replicate
 |k+1=>by
  unfold xSt
  split
  ·rw [List.length_set,xSt_len pl l how k]
  ·exact xSt_len pl l how k
theorem ySt_len (pl:List Pl) (l:List Int) (how:Int): ∀ k,(ySt pl l how k).length=pl.length
 |0=>List.length_replicate
 |k+1=>by
  unfold ySt
  split
  ·split
   ·rw [List.length_set,List.length_set,ySt_len pl l how k]
   ·rw [List.length_set,ySt_len pl l how k]
  ·exact ySt_len pl l how k
theorem ss_loop (p:Pg) (pl:List Pl) (l:List Int) (how:Int) (hp:pl.length<1000):Ok Try.prog (ntOf Try.prog 15) (.loop (lpC Try.prog 15 0)) (ssS p pl l (List.replicate pl.length 0) (List.replicate pl.length 0) how 0).st (.ext 0) (ssS p pl l (xSt pl l how pl.length) (ySt pl l how pl.length) how pl.length).st:=
 Ok.loop (P:=Try.prog) (nt:=ntOf Try.prog 15) (c:=lpC Try.prog 15 0) (F:=fun k=>ssS p pl l (xSt pl l how k) (ySt pl l how k) how k) (m:=pl.length) (x:= .ext 0) (J:=ssS p pl l (xSt pl l how pl.length) (ySt pl l how pl.length) how pl.length) (fun k hk=>by
  have hX:=xSt_len pl l how k
  have hY:=ySt_len pl l how k
  show Ok _ _ _ _ _ (ssS p pl l (xSt pl l how (k+1)) (ySt pl l how (k+1)) how (k+1)).st
  have ex:xSt pl l how (k+1)=if k<l.length then (xSt pl l how k).set k (l.getD k 0) else xSt pl l how k:=rfl
  have ey:ySt pl l how (k+1)=if k<l.length then (if (pl.getD k default).sec=true∨bits .and .i64 how 7=0 then ((ySt pl l how k).set k (l.getD k 0)).set k (Int.fdiv (l.getD k 0) (2^4)) else (ySt pl l how k).set k (l.getD k 0)) else ySt pl l how k:=rfl
  rw [ex,ey]
  by_cases hl:k<l.length
  ·rw [if_pos hl,if_pos hl]
   cases hs:(pl.getD k default).sec with
   |true=>rw [if_pos (.inl rfl)];exact Ok.vc (ss_sec p pl l _ _ how k hk hX hY hp hl hs)
   |false=>
    by_cases hh:bits .and .i64 how 7=0
    ·rw [if_pos (.inr hh)];exact Ok.vc (ss_how p pl l _ _ how k hk hX hY hp hl hs hh)
    ·rw [if_neg (by rintro (h |h);exact absurd h (by simp);exact hh h)];exact Ok.vc (ss_pub p pl l _ _ how k hk hX hY hp hl hs hh)
  ·rw [if_neg hl,if_neg hl]
   exact Ok.vc (ss_out p pl l _ _ how k hk hX hY hp hl)) (Ok.vc (ss_end p pl l _ _ how)) (by simp)
def s8S (s:S7):S8:=⟨s.r0,s.r1,s.r2,s.r3,s.m,[],0⟩
def xF (p:Pg) (l:List Int):List Int:=xSt (plF p) l 0 (plF p).length
def yF (p:Pg) (l:List Int) (how:Int):List Int:=ySt (plF p) l how (plF p).length
def sA (p:Pg) (l:List Int):S8:=s8S (stK p (xF p l))
def sB (p:Pg) (l:List Int) (how:Int):S8:=s8S (stK p (yF p l how))
theorem xSt_how (pl:List Pl) (l:List Int) (h h':Int): ∀ k,xSt pl l h k=xSt pl l h' k
 |0=>rfl
 |k+1=>by simp only [xSt,xSt_how pl l h h' k]
theorem sB54 (p:Pg) (hP:OkP p):(0:Int)≤(↑((plF p).length):Int)∧(↑((plF p).length):Int)≤(↑((plF p).length):Int)∧(↑((plF p).length):Int)*((8:Nat):Int)≤140737488355328∧(↑((plF p).length):Int)≤140737488355328:=by have:=plF_len hP;omega
theorem sB55 (p:Pg):(plF p).length=(List.replicate (plF p).length (0:Int)).length:=by simp
theorem sB56 (p:Pg): ∀ (i:Nat),i<(plF p).length→ ∀ (j:Nat),j<1→List.getD [aI (0:Int)] j AV.junk=aI (List.getD (List.replicate (plF p).length (0:Int)) i (0:Int)):=(fun i hi j hj=>(match j,hj with |0,_=>rowI_rep rfl i 0 (by simpa using hi)))
theorem zB512 (p:Pg) {Z:Prop} (z:Z):(RF p.ls.length (RR p.ls.length 2 (fun i j=>rowL lbC p.ls i j) (RF p.is.length (RR p.is.length 9 (fun i j=>rowL inC p.is i j) Z)))):=⟨rfl,fun _ _ _ _=>rfl,rfl,fun _ _ _ _=>rfl,z⟩
theorem zB513 (p:Pg) {Z:Prop} (z:Z):(RF p.W (RF p.win (RF p.fuel (RF p.r0 (RF p.r1 (RF p.r2 (RF p.r3 (RF p.ms.length (RR p.ms.length 3 (fun i j=>rowL mmC p.ms i j) Z))))))))):=⟨rfl,rfl,rfl,rfl,rfl,rfl,rfl,rfl,fun _ _ _ _=>rfl,z⟩
theorem st_vc (p:Pg) (l:List Int) (how:Int) (hP:OkP p):Vc (vcFn Try.prog false 15 [.agg (pgA p),lR l, .int .i64 how] [.fz, .cl [.agg (progL p.W p.r0 p.r1 p.r2 p.r3 (memR p.ms))] (plR (plF p)) [], .lp [(0,1),(1,2),(2,3),(3,4)] (ssS p (plF p) l (List.replicate (plF p).length 0) (List.replicate (plF p).length 0) how 0) (.ext 0) (ssS p (plF p) l (xSt (plF p) l how (plF p).length) (yF p l how) how (plF p).length), .cl [.agg (pgA p),lR (xSt (plF p) l how (plF p).length)] (.tup [.agg (stC (stK p (xSt (plF p) l how (plF p).length)) (lR (stK p (xSt (plF p) l how (plF p).length)).m)), .bool true]) [], .cl [.agg (pgA p),lR (yF p l how)] (.tup [.agg (stC (stK p (yF p l how)) (lR (stK p (yF p l how)).m)), .bool true]) [], .ll [4,5]] [] (.tup [.agg (stC (stK p (xSt (plF p) l how (plF p).length)) (lR (stK p (xSt (plF p) l how (plF p).length)).m)), .agg (stC (stK p (yF p l how)) (lR (stK p (yF p l how)).m))]) []):=vc_by (zB56 p (cj (refPlaces p.W p.r0 p.r1 p.r2 p.r3 p.ms (by have:=hP.ms;omega) (by have:=hP.sum;omega)).frozen (cj (sB54 p hP) (cj (sB54 p hP) (zB55 (cj (rf (0:Int)) (cj (sB55 p) (cj (sB56 p) (cj (sB55 p) (cj (sB56 p) (zB511 p l how (cj (rf p.r3) (cj (rf p.ms.length) (cj (rr p.ms.length 3 fun i j=>rowL mmC p.ms i j) (cj (rf p.ls.length) (cj (rr p.ls.length 2 fun i j=>rowL lbC p.ls i j) (cj (rf p.is.length) (cj (rr p.is.length 9 fun i j=>rowL inC p.is i j) (cj (rf ((plF p).length)) (cj (rr ((plF p).length) 3 fun i j=>rowL plC (plF p) i j) (cj (rf (0:Nat)) (cj (sB55 p) (cj (rf (0:Nat)) (cj (sB55 p) (cj (rf (↑((plF p).length):Int)) (cj (rf (0:Int)) (cj (ss_loop p (plF p) l how (by have:=plF_len hP;omega)) (zB513 p (zB512 p (cj (rf ((xSt (plF p) l how (plF p).length).length)) (cj (rr ((xSt (plF p) l how (plF p).length).length) 1 fun i j=>aI (List.getD (xSt (plF p) l how (plF p).length) i (0:Int))) (cj (show PureC Try.prog 32 [.agg (pgA p),lR (xSt (plF p) l how (plF p).length)] (.tup [.agg (stC (stK p (xSt (plF p) l how (plF p).length)) (lR (stK p (xSt (plF p) l how (plF p).length)).m)), .bool true]) [] from (rstartC p (xSt (plF p) l how (plF p).length) hP (xSt_len _ _ _ _)).frozen2) (zB513 p (zB512 p (cj (rf ((yF p l how).length)) (cj (rr ((yF p l how).length) 1 fun i j=>aI (List.getD (yF p l how) i (0:Int))) (cj (show PureC Try.prog 32 [.agg (pgA p),lR (yF p l how)] (.tup [.agg (stC (stK p (yF p l how)) (lR (stK p (yF p l how)).m)), .bool true]) [] from (rstartC p (yF p l how) hP (ySt_len _ _ _ _)).frozen2) (cj (rf ((stK p (xSt (plF p) l how (plF p).length)).r0)) (cj (rf ((stK p (xSt (plF p) l how (plF p).length)).r1)) (cj (rf ((stK p (xSt (plF p) l how (plF p).length)).r2)) (cj (rf ((stK p (xSt (plF p) l how (plF p).length)).r3)) (cj (rf (((stK p (xSt (plF p) l how (plF p).length)).m).length)) (cj (rr (((stK p (xSt (plF p) l how (plF p).length)).m).length) 1 fun i j=>aI (List.getD ((stK p (xSt (plF p) l how (plF p).length)).m) i (0:Int))) (cj (rf (0:Int)) (cj (rf ((stK p (yF p l how)).r0)) (cj (rf ((stK p (yF p l how)).r1)) (cj (rf ((stK p (yF p l how)).r2)) (cj (rf ((stK p (yF p l how)).r3)) (cj (rf ((stK p (yF p l how)).m.length)) (cj (rr ((stK p (yF p l how)).m.length) 1 fun i j=>aI (List.getD (stK p (yF p l how)).m i (0:Int))) (cj (rf (0:Int)) trivial))))))))))))))))))))))))))))))))))))))))))))))))))) (by kernel_rfl)
theorem statesC (p:Pg) (l:List Int) (how:Int) (hP:OkP p):PureC Try.prog 15 [.agg (pgA p),lR l, .int .i64 how] (.tup [.agg (s8N (sA p l)), .agg (s8N (sB p l how))]) []:=by
 have h:=PureC.vc (st_vc p l how hP)
 rw [xSt_how (plF p) l how 0] at h
 exact h
end
end Go.Proofs.Ytfjapapiappacaa.Px
namespace Go.Proofs.Ytfjapapiappacaa.Px
section
open Go.RowKit Go.Proofs.Ytfjapapiappacaa.Rx
def B7 (s:S7):Prop:=((0≤s.r0∧s.r0<65536)∧(0≤s.r1∧s.r1<65536)∧(0≤s.r2∧s.r2<65536)∧(0≤s.r3∧s.r3<65536))∧ ∀ x∈s.m,0≤x∧x<65536
theorem put7_b {s:S7} (h:B7 s) (P:Pl) {v:Int} (hv:0≤v∧v<65536):B7 (put7 s P v):=by
 obtain ⟨⟨h0,h1,h2,h3⟩,hm⟩:=h
 unfold put7
 split
 ·split
  ·exact ⟨⟨hv,h1,h2,h3⟩,hm⟩
  ·split
   ·exact ⟨⟨h0,hv,h2,h3⟩,hm⟩
   ·split
    ·exact ⟨⟨h0,h1,hv,h3⟩,hm⟩
    ·exact ⟨⟨h0,h1,h2,hv⟩,hm⟩
 ·refine ⟨⟨h0,h1,h2,h3⟩,fun x hx=> ?_⟩
  rcases List.mem_or_eq_of_mem_set hx with h |rfl
  ·exact hm x h
  ·exact hv
theorem zz:(0:Int)≤0∧(0:Int)<65536:=by decide
theorem zer7_b (n:Nat):B7 (zer7 n):=⟨⟨zz,zz,zz,zz⟩,fun x hx=>by
 have:=(List.mem_replicate.1 hx).2
 omega⟩
theorem putK_b (W:Int) (pl:List Pl) (l:List Int) (s:S7) (h:B7 s): ∀ k,B7 (putK W pl l s k)
 |0=>h
 |k+1=>put7_b (putK_b W pl l s h k) _ (Wd.maskV_bd _ _)
theorem s8S_ok (p:Pg) (l:List Int):OkS ((sumN p.ms:Nat):Int) p.is.length (s8S (stK p l)):=by
 obtain ⟨h1,h2⟩:=putK_b p.W (plF p) l (zer7 (sumN p.ms)) (zer7_b _) (plF p).length
 refine ⟨h1,h2, ?_,⟨by show (-1:Int)≤0;decide,by show (0:Int)≤_;omega⟩,by show (0:Nat)≤100;decide,fun x hx=>by cases hx⟩
 show ((sumN p.ms:Nat):Int)=(((stK p l).m.length:Nat):Int)
 rw [stK_len]
theorem sA_ok (p:Pg) (l:List Int):OkS ((sumN p.ms:Nat):Int) p.is.length (sA p l):=s8S_ok p _
theorem mkPg_win (l:List Int):1≤(mkPg l).win∧(mkPg l).win≤3:=by
 have h:=tm_bd (Int.fdiv (kN l 0) (2^1)) 3 (by omega)
 show 1≤winN l∧winN l≤3
 unfold winN
 omega
theorem inv_sA (m z:List Int):Inv (mkPg m) (beg (sA (mkPg m) z)):=by
 have h:=sA_ok (mkPg m) z
 have e:(sA (mkPg m) z).m.length=sumN (mkPg m).ms:=stK_len _ _
 refine Inv.begin (e▸h) e (Nat.zero_le _) fun x hx=> ?_
 cases hx
theorem inv_sB (m z:List Int) (how:Int):Inv (mkPg m) (beg (sB (mkPg m) z how)):=by
 have h:=s8S_ok (mkPg m) (yF (mkPg m) z how)
 have e:(sB (mkPg m) z how).m.length=sumN (mkPg m).ms:=stK_len _ _
 refine Inv.begin (e▸h) e (Nat.zero_le _) fun x hx=> ?_
 cases hx
def wkC (m z w:List Int):Cf:=(wkV (mkPg m) (sA (mkPg m) z) w).1
theorem wkC_inv (m z w:List Int):Inv (mkPg m) (wkC m z w):=wkR_inv (mkPg_ok m) (by have:=mkPg_win m;omega) _ _ _ _ (inv_sA m z)
theorem wkC_ok (m z w:List Int):MOk (mkPg m) (wkC m z w):=(wkC_inv m z w).ok (mkPg_ok m) (by have:=mkPg_win m;omega)
theorem wkC_len (m z w:List Int):(wkC m z w).b.length≤3:=by
 have:=(wkC_inv m z w).bl
 have:=mkPg_win m
 omega
theorem walkC (m z w:List Int):PureC Try.prog 18 [.agg (pgA (mkPg m)), .agg (s8R (sA (mkPg m) z)),lR w] (.tup [.agg (cfA (wkC m z w)),drR (wkV (mkPg m) (sA (mkPg m) z) w).2]) []:=
 rwalkC (mkPg m) (sA (mkPg m) z) w (mkPg_ok m) (by have:=mkPg_win m;omega) (inv_sA m z)
end
end Go.Proofs.Ytfjapapiappacaa.Px
namespace Go.Proofs.Ytfjapapiappacaa.Px
section
open Go.RowKit Go.Proofs.Ytfjapapiappacaa.Rx
structure Liv (p:Pg) (c:Cf):Prop where
 e:c.e=0∨c.e=1∨c.e=2
 fin: ¬c.e=0→c.b=[]∧c.r=[]
 lst:c.s.pc= -1→c.e=0→ ∃ k,c.b.length=k+1∧((enX p c k).kind=11∨(enX p c k).kind=12)
 und: ∀ k,k<c.b.length→(c.b.getD k default).dn=false→(enX p c k).kind≠6∧(enX p c k).kind≠8∧(enX p c k).kind≠11∧(enX p c k).kind≠12
theorem Liv.up {p:Pg} {c:Cf} (h:Liv p c) (he:c.e=0) {k:Nat} (hk:k<c.b.length) {e:En} (hp:e.pc=(c.b.getD k default).pc) (hd:e.dn=false→(c.b.getD k default).dn=false):Liv p ⟨c.s,c.b.set k e,c.r,c.e⟩:=by
 have hpc: ∀ i,((c.b.set k e).getD i default).pc=(c.b.getD i default).pc:=fun i=>by
  rw [gdE_set hk]
  split
  ·rename_i hi;rw [hi];exact hp
  ·rfl
 have hx: ∀ i,enX p ⟨c.s,c.b.set k e,c.r,c.e⟩ i=enX p c i:=fun i=>by
  show atI p ((c.b.set k e).getD i default).pc=_
  rw [hpc];rfl
 refine ⟨h.e,fun hn=>absurd he hn,fun h1 h2=> ?_,fun i hi hdn=> ?_⟩
 ·obtain ⟨q,h3,h4⟩:=h.lst h1 h2
  exact ⟨q,(List.length_set).trans h3,by rw [hx];exact h4⟩
 ·have hi:i<c.b.length:=by have:(c.b.set k e).length=c.b.length:=List.length_set;exact this▸hi
  rw [hx]
  refine h.und i hi ?_
  have hdn:((c.b.set k e).getD i default).dn=false:=hdn
  rw [gdE_set hk] at hdn
  split at hdn
  ·rename_i hq;rw [hq];exact hd hdn
  ·exact hdn
theorem Liv.cut {p:Pg} {c:Cf} (h:Liv p c) (he:c.e=0) (n:Nat) {t:Int} (ht:0≤t):Liv p ⟨c.s.go t,c.b.take n,c.r,c.e⟩:=by
 refine ⟨h.e,fun hn=>absurd he hn,fun h1 _=> ?_,fun i hi hdn=> ?_⟩
 ·have:t= -1:=h1
  omega
 ·have hi:i<min n c.b.length:=by have:(c.b.take n).length=min n c.b.length:=List.length_take;exact this▸hi
  have e1:(c.b.take n).getD i default=c.b.getD i default:=gdE_take (by omega)
  have hdn:((c.b.take n).getD i default).dn=false:=hdn
  rw [e1] at hdn
  have:=h.und i (by omega) hdn
  show (atI p ((c.b.take n).getD i default).pc).kind≠6∧_
  unfold enX
  show (atI p ((c.b.take n).getD i default).pc).kind≠6∧(atI p ((c.b.take n).getD i default).pc).kind≠8∧(atI p ((c.b.take n).getD i default).pc).kind≠11∧(atI p ((c.b.take n).getD i default).pc).kind≠12
  rw [e1];exact this
theorem Liv.goV {p:Pg} {c:Cf} (h:Liv p c) (he:c.e=0) {k:Nat} (hk:k<c.b.length) {t:Int} (ht:0≤t):Liv p (goV c k t):=by
 unfold Px.goV
 split
 ·exact h
 ·exact (h.up he hk (e:=(c.b.getD k default).to t) rfl (fun h=>h)).cut he (k+1) ht
theorem opV_e {p:Pg} {c:Cf} {i:Int} (h:opV p c i=true):c.e=0:=by
 unfold opV at h
 split at h
 ·rename_i h1;exact h1.1
 ·cases h
theorem cnV_e {p:Pg} {c:Cf} {i:Int} (h:cnV p c i=true):c.e=0:=by
 unfold cnV at h
 rw [Bool.and_eq_true] at h
 exact opV_e h.1
theorem caV_e {p:Pg} {c:Cf} {i:Int} (h:caV p c i=true):c.e=0:=by
 unfold caV at h
 rw [Bool.and_eq_true] at h
 exact opV_e h.1
theorem lastI_ok {p:Pg} (hP:OkP p) {c:Cf} (h:Inv p c) {k:Nat} {L:List Int} (hv:reG p c.b 0 k c.s.st=some L) (h0: ¬L.length=0):0≤lastI L:=by
 have hm:lastI L∈L:=by unfold lastI;exact gdI_mem (by omega)
 have:=reG_mem p c.b (fun x=>0≤x∧x≤p.is.length) k 0 c.s.st L h.stk (fun i _ hi h8=>by
  have:=(atI_ok hP (c.b.getD i default).pc).2 (by unfold enI at h8;omega)
  omega) hv _ hm
 exact this.1
theorem goV_e (c:Cf) (k:Nat) (t:Int):(Px.goV c k t).e=c.e:=by unfold Px.goV;split<;>rfl
theorem Liv.doO {p:Pg} {c c2:Cf} {o:List Ob} (hP:OkP p) (hI:Inv p c) (h:Liv p c) {i:Int} (e:doO p c i=some (c2,o)):Liv p c2∧c2.e=c.e:=by
 unfold Px.doO at e
 split at e
 ·rename_i hc
  have he:=cnV_e hc
  obtain ⟨k,rfl,hk,hd,hK⟩:=cnV_in hc
  rw [Int.toNat_natCast,Option.some.injEq] at e
  obtain ⟨hx,hx2⟩:=enX_ok hP c k
  have mk: ∀ g:En→En,(g (c.b.getD k default)).pc=(c.b.getD k default).pc→(g (c.b.getD k default)).dn=true→Liv p (upE c k g):=fun g h1 h2=>h.up he hk h1 (fun h3=>by rw [h2] at h3;cases h3)
  have hD:Liv p (upE c k En.done):=mk _ rfl rfl
  have hlD:(upE c k En.done).b.length=c.b.length:=List.length_set
  have go: ∀ t,0≤t→Liv p (Px.goV (upE c k En.done) k t)∧(Px.goV (upE c k En.done) k t).e=c.e:=fun t ht=>⟨hD.goV he (by rw [hlD];exact hk) ht,goV_e _ _ _⟩
  have hbD: ∀ i,((upE c k En.done).b.getD i default).pc=(c.b.getD i default).pc:=fun i=>pc_set (l:=c.b) (k:=k) (g:=En.done) (fun _=>rfl) i
  unfold dmV at e
  by_cases k1:(enX p c k).kind=1
  ·rw [if_pos k1] at e
   cases e
   exact ⟨mk _ rfl rfl,rfl⟩
  rw [if_neg k1] at e
  by_cases k4:(enX p c k).kind=4
  ·rw [if_pos k4] at e
   cases e
   exact ⟨mk _ rfl rfl,rfl⟩
  rw [if_neg k4] at e
  by_cases k3:(enX p c k).kind=3
  ·rw [if_pos k3] at e
   cases e
   exact ⟨mk _ rfl rfl,rfl⟩
  rw [if_neg k3] at e
  by_cases k2:(enX p c k).kind=2
  ·rw [if_pos k2] at e
   split at e
   ·cases e
    exact ⟨mk _ rfl rfl,rfl⟩
   ·cases e
    exact ⟨mk _ rfl rfl,rfl⟩
  rw [if_neg k2] at e
  by_cases k5:(enX p c k).kind=5
  ·rw [if_pos k5] at e
   cases e
   refine go _ ?_
   have hpc:=hx2 (by omega)
   have htg:=hx.2.2.2.2
   split
   ·omega
   ·omega
  rw [if_neg k5] at e
  by_cases k7:(enX p c k).kind=7
  ·rw [if_pos k7] at e
   cases e
   refine go _ ?_
   have:=(valF_bd (p:=p) hI.reg (hI.done k) (k:Int) (enX p c k).a).1
   unfold jmpV tA
   show 0≤min (valF p c.s (upE c k En.done).b k (enX p c k).a).1 _
   omega
  rw [if_neg k7,reV_nat p c.s.st _ (by rw [hlD];omega),reG_pcs p c.s.st (fun i _=>hbD i)] at e
  cases hv:reG p c.b 0 k c.s.st with
  |none=>rw [hv] at e;cases e;exact ⟨mk _ rfl rfl,rfl⟩
  |some L=>
   rw [hv] at e
   by_cases h0:L.length=0
   ·have e':(if L.length=0 then ((upE c k fun e=>e.done.flt,[]):Cf×List Ob) else (Px.goV (upE c k En.done) k (lastI L),[⟨3,lastI L⟩]))=(c2,o):=e
    rw [if_pos h0] at e';cases e';exact ⟨mk _ rfl rfl,rfl⟩
   ·have e':(if L.length=0 then ((upE c k fun e=>e.done.flt,[]):Cf×List Ob) else (Px.goV (upE c k En.done) k (lastI L),[⟨3,lastI L⟩]))=(c2,o):=e
    rw [if_neg h0] at e';cases e'
    exact go _ (lastI_ok hP hI hv h0)
 ·cases e
theorem Liv.adrO {p:Pg} {c c2:Cf} {o:List Ob} (hI:Inv p c) (h:Liv p c) {i:Int} (e:adrO p c i=some (c2,o)):Liv p c2∧c2.e=c.e:=by
 unfold Px.adrO at e
 split at e
 ·rename_i hc
  have he:=caV_e hc
  obtain ⟨k,rfl,hk,hd,hK⟩:=caV_in hc
  rw [Int.toNat_natCast,Option.some.injEq] at e
  have mk: ∀ g:En→En,(g (c.b.getD k default)).pc=(c.b.getD k default).pc→(g (c.b.getD k default)).dn=(c.b.getD k default).dn→Liv p (upE c k g):=fun g h1 h2=>h.up he hk h1 (fun h3=>by rw [h2] at h3;exact h3)
  unfold adrV at e
  split at e
  ·cases e;exact ⟨mk _ rfl rfl,rfl⟩
  ·split at e
   ·rename_i q hz
    cases e
    obtain ⟨q',rfl,hq⟩:=hzV_lt hz
    refine ⟨(mk (fun e=>e.ad (adV p c k (enX p c k))) rfl rfl).cut he _ ?_,rfl⟩
    rw [Int.toNat_natCast]
    have hl:q'<c.b.length:=by have:(upE c k fun e=>e.ad (adV p c k (enX p c k))).b.length=c.b.length:=List.length_set;exact this▸hq
    have e1:((upE c k fun e=>e.ad (adV p c k (enX p c k))).b.getD q' default).pc=(c.b.getD q' default).pc:=pc_set (l:=c.b) (k:=k) (g:=fun e=>e.ad (adV p c k (enX p c k))) (fun _=>rfl) q'
    rw [e1]
    exact (hI.be _ (gdE_mem hl)).pc.1
   ·cases e;exact ⟨mk _ rfl rfl,rfl⟩
 ·cases e
theorem Liv.ftO {p:Pg} {c c2:Cf} {g:Int} (hP:OkP p) (hI:Inv p c) (h:Liv p c) (e:ftO p c g=some c2):Liv p c2∧c2.e=c.e:=by
 unfold Px.ftO at e
 split at e
 ·rename_i hg
  cases e
  obtain ⟨⟨he,hp1,hw⟩,h7,h9⟩:=gsV_pos hg.1 hg.2
  have hpc:=hI.pc
  obtain ⟨hx,hx2⟩:=atI_ok hP c.s.pc
  have htg:=hx.2.2.2.2
  have key:(ftE p c g).pc=c.s.pc∧((ftE p c g).nxt= -1→(atI p c.s.pc).kind=11∨(atI p c.s.pc).kind=12)∧((ftE p c g).dn=false→(atI p c.s.pc).kind≠6∧(atI p c.s.pc).kind≠8∧(atI p c.s.pc).kind≠11∧(atI p c.s.pc).kind≠12):=by
   unfold ftE
   by_cases k5:(atI p c.s.pc).kind=5
   ·rw [if_pos k5]
    refine ⟨rfl,fun hn=> ?_,fun _=>by omega⟩
    have hn:(if g=1 then (atI p c.s.pc).tg else c.s.pc+1)= -1:=hn
    split at hn<;>omega
   rw [if_neg k5]
   by_cases k6:(atI p c.s.pc).kind=6
   ·rw [if_pos k6]
    exact ⟨rfl,fun hn=>by have hn:(atI p c.s.pc).tg= -1:=hn;omega,fun hd=>by cases hd⟩
   rw [if_neg k6]
   by_cases k7:(atI p c.s.pc).kind=7
   ·rw [if_pos k7]
    exact ⟨rfl,fun hn=>by have hn:g= -1:=hn;omega,fun _=>by omega⟩
   rw [if_neg k7]
   by_cases k9:(atI p c.s.pc).kind=9
   ·rw [if_pos k9]
    refine ⟨rfl,fun hn=> ?_,fun _=>by omega⟩
    have hn:(if c.r.length=0 then g else lastI c.r)= -1:=hn
    split at hn
    ·omega
    ·rename_i hr
     have:=hI.rb (lastI c.r) (by unfold lastI;exact gdI_mem (by omega))
     omega
   rw [if_neg k9]
   by_cases k8:(atI p c.s.pc).kind=8
   ·rw [if_pos k8]
    exact ⟨rfl,fun hn=>by have hn:(atI p c.s.pc).tg= -1:=hn;omega,fun hd=>by cases hd⟩
   rw [if_neg k8]
   by_cases k1:(atI p c.s.pc).kind=11∨(atI p c.s.pc).kind=12
   ·rw [if_pos k1]
    exact ⟨rfl,fun _=>k1,fun hd=>by cases hd⟩
   rw [if_neg k1]
   exact ⟨rfl,fun hn=>by have hn:c.s.pc+1= -1:=hn;omega,fun _=>by omega⟩
  obtain ⟨kp,kn,kd⟩:=key
  have hlast:enX p (ftD p c g) c.b.length=atI p c.s.pc:=by
   show atI p ((c.b++[ftE p c g]).getD c.b.length default).pc=_
   rw [gdE_last,kp]
  refine ⟨⟨h.e,fun hn=>absurd he hn,fun h1 _=>⟨c.b.length,by show (c.b++[_]).length=_;rw [List.length_append];rfl, ?_⟩,fun i hi hdn=> ?_⟩,rfl⟩
  ·rw [hlast];exact kn h1
  ·have hi:i<c.b.length+1:=by
    have:(c.b++[ftE p c g]).length=c.b.length+1:=by rw [List.length_append];rfl
    exact this▸hi
   by_cases hq:i<c.b.length
   ·have e1:(c.b++[ftE p c g]).getD i default=c.b.getD i default:=gdE_app hq
    have hdn:((c.b++[ftE p c g]).getD i default).dn=false:=hdn
    rw [e1] at hdn
    have:=h.und i hq hdn
    show (atI p ((c.b++[ftE p c g]).getD i default).pc).kind≠6∧(atI p ((c.b++[ftE p c g]).getD i default).pc).kind≠8∧(atI p ((c.b++[ftE p c g]).getD i default).pc).kind≠11∧(atI p ((c.b++[ftE p c g]).getD i default).pc).kind≠12
    rw [e1];exact this
   ·obtain rfl:i=c.b.length:=by omega
    rw [hlast]
    have hdn:((c.b++[ftE p c g]).getD c.b.length default).dn=false:=hdn
    rw [gdE_last] at hdn
    exact kd hdn
 ·cases e
theorem Liv.rtO {p:Pg} {c c2:Cf} (h:Liv p c) (e:rtO p c=some c2):Liv p c2:=by
 unfold Px.rtO at e
 split at e
 ·rename_i hc
  cases e
  obtain ⟨h0,hl,hdn,hkn⟩:=crV_in hc
  have hpop: ∀ s:S8,s.pc=c.s.pc→ ¬((enX p c 0).kind=11∨(enX p c 0).kind=12)→Liv p ⟨s,popL c.b,c.r,c.e⟩:=fun s hs hk=>by
   have hx: ∀ i,i+1<c.b.length→enX p ⟨s,popL c.b,c.r,c.e⟩ i=enX p c (i+1):=fun i hi=>by
    show atI p ((popL c.b).getD i default).pc=atI p (c.b.getD (i+1) default).pc
    rw [popL_get c.b (by omega)];rfl
   refine ⟨h.e,fun hn=>absurd h0 hn,fun h1 h2=> ?_,fun i hi hd=> ?_⟩
   ·have h1:s.pc= -1:=h1
    obtain ⟨q,h3,h4⟩:=h.lst (hs▸h1) h0
    cases q with
    |zero=>exact absurd h4 hk
    |succ q=>exact ⟨q,by show (popL c.b).length=_;rw [popL_len];omega,by rw [hx q (by omega)];exact h4⟩
   ·have hi:i<c.b.length-1:=by have:=popL_len c.b;exact this▸hi
    rw [hx i (by omega)]
    refine h.und (i+1) (by omega) ?_
    have hd:((popL c.b).getD i default).dn=false:=hd
    rw [popL_get c.b (by omega)] at hd
    exact hd
  have hfin: ∀ t q,q=1∨q=2→Liv p ⟨c.s.go t,[],[],q⟩:=fun t q hq=>
   ⟨.inr hq,fun _=>⟨rfl,rfl⟩,fun _ he=>by have he:q=0:=he;omega,fun k hk=>absurd hk (Nat.not_lt_zero k)⟩
  unfold rtV
  by_cases n12:(c.b.getD 0 default).ft=true∨(enX p c 0).kind=12
  ·rw [if_pos n12];exact hfin _ 2 (.inr rfl)
  rw [if_neg n12]
  by_cases k11:(enX p c 0).kind=11
  ·rw [if_pos k11];exact hfin _ 1 (.inl rfl)
  rw [if_neg k11]
  have hk: ¬((enX p c 0).kind=11∨(enX p c 0).kind=12):=fun hk=>hk.elim k11 fun h=>n12 (.inr h)
  by_cases kd:dstB (enX p c 0)=true
  ·rw [if_pos kd];exact hpop _ rfl hk
  rw [if_neg kd]
  by_cases k3:(enX p c 0).kind=3
  ·rw [if_pos k3];exact hpop _ rfl hk
  rw [if_neg k3]
  by_cases k8:(enX p c 0).kind=8
  ·rw [if_pos k8];exact hpop _ rfl hk
  rw [if_neg k8]
  by_cases k9:(enX p c 0).kind=9
  ·rw [if_pos k9];exact hpop _ rfl hk
  rw [if_neg k9]
  exact hpop _ rfl hk
 ·cases e
theorem Liv.sayO {p:Pg} {c c2:Cf} {o:List Ob} (hP:OkP p) (hI:Inv p c) (h:Liv p c) {d:Dr} (e:sayO p c d=some (c2,o)):Liv p c2∧(d.k≠4→c2.e=c.e):=by
 unfold Px.sayO at e
 split at e
 ·cases hq:Px.ftO p c d.n with
  |none=>rw [hq] at e;cases e
  |some x=>rw [hq] at e;cases e;exact ⟨(h.ftO hP hI hq).1,fun _=>(h.ftO hP hI hq).2⟩
 ·split at e
  ·exact ⟨(h.doO hP hI e).1,fun _=>(h.doO hP hI e).2⟩
  ·split at e
   ·exact ⟨(h.adrO hI e).1,fun _=>(h.adrO hI e).2⟩
   ·split at e
    ·rename_i h4
     split at e
     ·cases hq:Px.rtO p c with
      |none=>rw [hq] at e;cases e
      |some x=>rw [hq] at e;cases e;exact ⟨h.rtO hq,fun hn=>absurd h4 hn⟩
     ·cases e
    ·cases e
theorem Liv.beg {p:Pg} {s:S8} (hs:s.pc≠ -1):Liv p (beg s):=
 ⟨.inl rfl,fun hn=>absurd rfl hn,fun h=>absurd h hs,fun k hk=>absurd hk (Nat.not_lt_zero k)⟩
theorem aX_ge (p:Pg) (c:Cf) (L:List Dr): ∀ k,L.length≤(aX p c L k).length
 |0=>Nat.le_refl _
 |k+1=>by
  have:=aX_ge p c L k
  unfold aX
  split
  ·rw [List.length_append];omega
  ·exact this
theorem aA_ge (p:Pg) (c:Cf) (L:List Dr): ∀ k,L.length≤(aA p c L k).length
 |0=>Nat.le_refl _
 |k+1=>by
  have:=aA_ge p c L k
  unfold aA
  split
  ·rw [List.length_append];omega
  ·exact this
theorem aR_ge (p:Pg) (c:Cf) (L:List Dr):L.length≤(aR p c L).length:=by
 unfold aR
 split
 ·rw [List.length_append];omega
 ·exact Nat.le_refl _
theorem aX_pos (p:Pg) (c:Cf) (L:List Dr) {i:Nat} (h:cnV p c i=true): ∀ k,i<k→0<(aX p c L k).length
 |0,hk=>absurd hk (Nat.not_lt_zero i)
 |k+1,hk=>by
  unfold aX
  by_cases e:i=k
  ·subst e
   rw [if_pos h,List.length_append,List.length_singleton];omega
  ·have:=aX_pos p c L h k (by omega)
   split
   ·rw [List.length_append];omega
   ·exact this
theorem aA_pos (p:Pg) (c:Cf) (L:List Dr) {i:Nat} (h:caV p c i=true): ∀ k,i<k→0<(aA p c L k).length
 |0,hk=>absurd hk (Nat.not_lt_zero i)
 |k+1,hk=>by
  unfold aA
  by_cases e:i=k
  ·subst e
   rw [if_pos h,List.length_append,List.length_singleton];omega
  ·have:=aA_pos p c L h k (by omega)
   split
   ·rw [List.length_append];omega
   ·exact this
theorem aF_n: ∀ k,(aF k).length=k
 |0=>rfl
 |k+1=>by rw [aF,List.length_append,aF_n k];rfl
theorem reg0 (p:Pg) (s:S8) (l:List En) {r:Int} (h:0≤r∧r<4):(regV p s l 0 r).2=true:=by
 unfold regV
 rw [if_pos h,show cl0 0 l.length=0 by unfold cl0;omega]
 rfl
theorem val0 (p:Pg) (s:S8) (l:List En) {v:Vl} (h:okV v):(valF p s l 0 v).2=true:=by
 unfold valF
 split
 ·rename_i hr
  exact reg0 p s l (by have:=h;unfold okV at this;first |exact this hr |exact this.2 hr |exact this |omega)
 ·rfl
theorem all_pos {p:Pg} {c:Cf} (hP:OkP p) (hw:1≤p.win) (hI:Inv p c) (h:Liv p c) (he:c.e=0):0<(allV p c).length:=by
 unfold allV
 by_cases hb:c.b.length=0
 ·have hpc:c.s.pc≠ -1:=fun hp=>by
   obtain ⟨k,h1,_⟩:=h.lst hp he
   omega
  have hg:1≤gsV p c:=by
   unfold gsV
   rw [if_neg (by omega)]
   repeat' split
   all_goals omega
  have:=aF_n (gsV p c).toNat
  have h1:=aX_ge p c (aF (gsV p c).toNat) c.b.length
  have h2:=aA_ge p c (aX p c (aF (gsV p c).toNat) c.b.length) c.b.length
  have h3:=aR_ge p c (aA p c (aX p c (aF (gsV p c).toNat) c.b.length) c.b.length)
  omega
 ·have hl:0<c.b.length:=by omega
  obtain ⟨hx,hx2⟩:=enX_ok hP c 0
  have hop:opV p c ((0:Nat):Int)=true:=by
   unfold opV
   rw [if_pos ⟨he,by omega,by omega⟩]
   show (!blkV p c.b 0)=true
   unfold blkV
   rw [show cl0 0 c.b.length=0 by unfold cl0;omega]
   rfl
  have hA: ∀ v:Vl,okV v→(valF p c.s c.b ((0:Nat):Int) v).2=true:=fun v hv=>val0 p c.s c.b hv
  have hR: ∀ r,0≤r∧r<4→(regV p c.s c.b ((0:Nat):Int) r).2=true:=fun r hr=>reg0 p c.s c.b hr
  have hAB:tAB p c ((0:Nat):Int) (enX p c 0)=true:=by
   unfold tAB tA tB
   rw [hA _ hx.2.1,hA _ hx.2.2.1];rfl
  have hD:(tD p c ((0:Nat):Int) (enX p c 0)).2=true:=hR _ hx.2.2.2.1
  by_cases hcr:crV p c=true
  ·unfold aR
   rw [if_pos hcr,List.length_append,List.length_singleton];omega
  have hcr': ¬((c.b.getD 0 default).dn=true∨(enX p c 0).kind=10)∨((enX p c 0).kind=3∧(c.b.getD 0 default).kn=false):=by
   apply Classical.byContradiction
   intro hn
   have h1:(c.b.getD 0 default).dn=true∨(enX p c 0).kind=10:=Classical.byContradiction fun h=>hn (.inl h)
   have h2:(enX p c 0).kind≠3∨(c.b.getD 0 default).kn=true:=Classical.byContradiction fun h=>hn (.inr ⟨Classical.byContradiction fun a=>h (.inl a),by
    cases hk:(c.b.getD 0 default).kn with
    |true=>exact absurd (.inr hk) h
    |false=>rfl⟩)
   apply hcr
   unfold crV
   rw [if_pos he]
   cases hq:c.b with
   |nil=>rw [hq] at hb;exact absurd rfl hb
   |cons e l=>
    have e0:c.b.getD 0 default=e:=by rw [hq];rfl
    unfold enX at h1 h2
    rw [e0] at h1 h2
    show crE p e l=true
    unfold crE
    rw [Bool.and_eq_true,Bool.or_eq_true,Bool.or_eq_true,beq_iff_eq,bne_iff_ne]
    exact ⟨h1,h2⟩
  by_cases hst:(enX p c 0).kind=3∧(c.b.getD 0 default).kn=false
  ·have hca:caV p c ((0:Nat):Int)=true:=by
    unfold caV
    rw [hop,Int.toNat_natCast,hst.2,hst.1,hAB];rfl
   have h1:=aA_pos p c (aX p c (aF (gsV p c).toNat) c.b.length) hca c.b.length hl
   have h3:=aR_ge p c (aA p c (aX p c (aF (gsV p c).toNat) c.b.length) c.b.length)
   omega
  ·have hnd:=hcr'.resolve_right hst
   have hdn:(c.b.getD 0 default).dn=false:=by
    cases hk:(c.b.getD 0 default).dn with
    |true=>exact absurd (.inl hk) hnd
    |false=>rfl
   have hk10:(enX p c 0).kind≠10:=fun hk=>hnd (.inr hk)
   have hu:=h.und 0 hl hdn
   have hcK:cnK p c ((0:Nat):Int) (enX p c 0)=true:=by
    unfold cnK
    by_cases k1:(enX p c 0).kind=1
    ·rw [if_pos k1];exact hAB
    rw [if_neg k1]
    by_cases k5:(enX p c 0).kind=5
    ·rw [if_pos k5];exact hAB
    rw [if_neg k5]
    by_cases k4:(enX p c 0).kind=4
    ·rw [if_pos k4,hAB,hD];rfl
    rw [if_neg k4]
    by_cases k2:(enX p c 0).kind=2
    ·rw [if_pos k2,hAB]
     have:(ldV p c.s.m c.b ((0:Nat):Int) (adV p c ((0:Nat):Int) (enX p c 0))).2.2=true:=by
      unfold ldV
      rw [show cl0 ((0:Nat):Int) c.b.length=0 by unfold cl0;omega]
      show (if _ then _ else _:Int×Int×Bool).2.2=true
      split<;>rfl
     rw [this,Bool.or_true];rfl
    rw [if_neg k2]
    by_cases k3:(enX p c 0).kind=3
    ·rw [if_pos k3];exact hD
    rw [if_neg k3]
    by_cases k7:(enX p c 0).kind=7
    ·rw [if_pos k7];exact hA _ hx.2.1
    rw [if_neg k7,beq_iff_eq]
    have:=hx.1
    omega
   have hcn:cnV p c ((0:Nat):Int)=true:=by
    unfold cnV
    rw [hop,Int.toNat_natCast,hdn,hcK];rfl
   have h1:=aX_pos p c (aF (gsV p c).toNat) hcn c.b.length hl
   have h2:=aA_ge p c (aX p c (aF (gsV p c).toNat) c.b.length) c.b.length
   have h3:=aR_ge p c (aA p c (aX p c (aF (gsV p c).toNat) c.b.length) c.b.length)
   omega
theorem all_nil {p:Pg} {c:Cf} (he: ¬c.e=0):(allV p c).length=0:=by
 have h1:gsV p c=0:=by unfold gsV;rw [if_pos (.inl he)]
 have h2: ∀ k:Nat,aX p c [] k=[]:=fun k=>by
  induction k with
  |zero=>rfl
  |succ k ih=>unfold aX;rw [if_neg (fun hc=>he (cnV_e hc)),ih]
 have h3: ∀ k:Nat,aA p c [] k=[]:=fun k=>by
  induction k with
  |zero=>rfl
  |succ k ih=>unfold aA;rw [if_neg (fun hc=>he (caV_e hc)),ih]
 unfold allV
 rw [h1,show aF (Int.toNat 0)=[] from rfl,h2,h3]
 unfold aR
 rw [if_neg (fun hc=>he (crV_in hc).1)];rfl
def Lst (c:Cf) (o:List Dr):Prop:= ¬c.e=0→ ∃ q d,o=q++[d]∧d.k=4
theorem wkR_liv {p:Pg} {l:List Int} (hP:OkP p) (hw:p.win≤1000) (hw1:1≤p.win): ∀ j i c o,Inv p c→Liv p c→Lst c o→Liv p (wkR p l j i c o).1∧Lst (wkR p l j i c o).1 (wkR p l j i c o).2
 |0,i,c,o,hI,h,hL=>⟨h,hL⟩
 |j+1,i,c,o,hI,h,hL=>by
  unfold wkR
  split
  ·exact ⟨h,hL⟩
  ·rename_i hn
   cases e:sayO p c (wkD p l c i) with
   |none=>exact ⟨h,hL⟩
   |some x=>
    have hs:=h.sayO hP hI (o:=x.2) e
    have he:c.e=0:=Classical.byContradiction fun he=>hn (all_nil he)
    refine wkR_liv hP hw hw1 j (i+1) x.1 _ (hI.sayO hP hw (o:=x.2) e) hs.1 fun hx=>⟨o,_,rfl, ?_⟩
    exact Classical.byContradiction fun hk=>hx ((hs.2 hk).trans he)
theorem sA_pc (p:Pg) (z:List Int):(sA p z).pc=0:=rfl
theorem wkC_liv (m z w:List Int):Liv (mkPg m) (wkC m z w)∧Lst (wkC m z w) (wkV (mkPg m) (sA (mkPg m) z) w).2:=by
 have hw:=mkPg_win m
 exact wkR_liv (mkPg_ok m) (by omega) (by omega) _ _ _ _ (inv_sA m z) (Liv.beg (by rw [sA_pc];decide)) fun hn=>absurd rfl hn
end
end Go.Proofs.Ytfjapapiappacaa.Px
