import Derived.Test.YtlfldlnohmobmaaMaE
import Derived.Test.YtlfldlnohmobmaaMaD
set_option linter.unusedVariables false
set_option linter.unusedSimpArgs false
set_option maxRecDepth 100000
namespace Go.Proofs.Ytlfldlnohmobmaa.Px
section
open Go.RowKit Go.Proofs.Ytlfldlnohmobmaa.Rx
abbrev ik(w:Int):Prop:=PureC Try.prog 62 [.int .i64 w] (.bool true) []
abbrev ip(w:Int)(a:Int):Orc:= .cl [aI w, aI a] (aI (Wd.maskV w a)) []
abbrev io(w:Int)(b:Int):Orc:= .cl [aI w, aI b] (aI (Wd.maskV w b)) []
abbrev iq(w:Int):Orc:= .cl [aI w] (.bool true) []
theorem Bg(w a b:Int)(h:1<=w∧w<=16)(hO:ik w):Vc (vF_ 86 [aI w, aI 1, aI a, aI b] [iq w,ip w a,io w b,.bd true,.cl [aI w, aI ((Wd.maskV w a)+(Wd.maskV w b))] (aI (Wd.maskV w ((Wd.maskV w a)+(Wd.maskV w b)))) []] [] (.tup [aI (Wd.doV w 1 a b),.bool (Wd.doB w 1)]) []):=ar (cj (rf w) (cj hO (cj (rf w) (cj (rf a) (cj (bz w a) (cj (rf w) (cj (rf b) (cj (bz w b) (cj (e1 1 1) (cj (show inK IntKind.i64 (Wd.maskV w a+Wd.maskV w b) from by have h1:=Wd.maskV_bd w a;have h2:=Wd.maskV_bd w b;exact rX (by omega) (by omega)) (cj (rf w) (cj (rf (Wd.maskV w a+Wd.maskV w b)) (cj (bz w ((Wd.maskV w a)+(Wd.maskV w b))) (cj (show Wd.maskV w (Wd.maskV w a+Wd.maskV w b)=Wd.doV w (1:Int) a b from Wd.ref1) (cj (show true=Wd.doB w (1:Int) from by simp[Wd.doB,bM h,Wd.opB]) trivial)))))))))))))))
theorem Bf(w a b:Int)(h:1<=w∧w<=16)(hO:ik w):Vc (vF_ 86 [aI w, aI 2, aI a, aI b] [iq w,ip w a,io w b,.bd false,.bd true,.cl [aI w, aI ((Wd.maskV w a)-(Wd.maskV w b))] (aI (Wd.maskV w ((Wd.maskV w a)-(Wd.maskV w b)))) []] [] (.tup [aI (Wd.doV w 2 a b),.bool (Wd.doB w 2)]) []):=ar (cj (rf w) (cj hO (cj (rf w) (cj (rf a) (cj (bz w a) (cj (rf w) (cj (rf b) (cj (bz w b) (cj (e0 2 1) (cj (e1 2 2) (cj (show inK IntKind.i64 (Wd.maskV w a-Wd.maskV w b) from by have h1:=Wd.maskV_bd w a;have h2:=Wd.maskV_bd w b;exact rX (by omega) (by omega)) (cj (rf w) (cj (rf (Wd.maskV w a-Wd.maskV w b)) (cj (bz w ((Wd.maskV w a)-(Wd.maskV w b))) (cj (show Wd.maskV w (Wd.maskV w a-Wd.maskV w b)=Wd.doV w (2:Int) a b from Wd.ref2) (cj (show true=Wd.doB w (2:Int) from by simp[Wd.doB,bM h,Wd.opB]) trivial))))))))))))))))
theorem A9(w a b:Int)(h:1<=w∧w<=16)(hO:ik w):Vc (vF_ 86 [aI w, aI 8, aI a, aI b] [iq w,ip w a,io w b,.bd false,.bd false,.bd true,.cl [aI w, aI ((Wd.maskV w a)*(Wd.maskV w b))] (aI (Wd.maskV w ((Wd.maskV w a)*(Wd.maskV w b)))) []] [] (.tup [aI (Wd.doV w 8 a b),.bool (Wd.doB w 8)]) []):=ar (cj (rf w) (cj hO (cj (rf w) (cj (rf a) (cj (bz w a) (cj (rf w) (cj (rf b) (cj (bz w b) (cj (e0 8 1) (cj (e0 8 2) (cj (e1 8 8) (cj (show inK IntKind.i64 (Wd.maskV w a*Wd.maskV w b) from by have h1:=Wd.maskV_bd w a;have h2:=Wd.maskV_bd w b;have h3:=Wd.mul_bd h1.1 h1.2 h2.1 h2.2;exact rX (by omega) (by omega)) (cj (rf w) (cj (rf (Wd.maskV w a*Wd.maskV w b)) (cj (bz w ((Wd.maskV w a)*(Wd.maskV w b))) (cj (rf (Wd.doV w (8:Int) a b)) (cj (show true=Wd.doB w (8:Int) from by simp[Wd.doB,bM h,Wd.opB]) trivial)))))))))))))))))
theorem Be(w a b:Int)(h:1<=w∧w<=16)(hO:ik w):Vc (vF_ 86 [aI w, aI 3, aI a, aI b] [iq w,ip w a,io w b,.bd false,.bd false,.bd false,.bd true,.cl [aI w, aI (bits .and .i64 (Wd.maskV w a) (Wd.maskV w b))] (aI (Wd.maskV w (bits .and .i64 (Wd.maskV w a) (Wd.maskV w b)))) []] [] (.tup [aI (Wd.doV w 3 a b),.bool (Wd.doB w 3)]) []):=ar (cj (rf w) (cj hO (cj (rf w) (cj (rf a) (cj (bz w a) (cj (rf w) (cj (rf b) (cj (bz w b) (cj (e0 3 1) (cj (e0 3 2) (cj (e0 3 8) (cj (e1 3 3) (cj (rf w) (cj (rf (Go.bits Go.BinOp.and IntKind.i64 (Wd.maskV w a) (Wd.maskV w b))) (cj (bz w (bits .and .i64 (Wd.maskV w a) (Wd.maskV w b))) (cj (show Wd.maskV w (Go.bits Go.BinOp.and IntKind.i64 (Wd.maskV w a) (Wd.maskV w b))=Wd.doV w (3:Int) a b from by rw[Wd.ref3 (bM h)];exact Wd.maskV_idem w _) (cj (show true=Wd.doB w (3:Int) from by simp[Wd.doB,bM h,Wd.opB]) trivial)))))))))))))))))
theorem Bd(w a b:Int)(h:1<=w∧w<=16)(hO:ik w):Vc (vF_ 86 [aI w, aI 4, aI a, aI b] [iq w,ip w a,io w b,.bd false,.bd false,.bd false,.bd false,.bd true,.cl [aI w, aI (bits .or .i64 (Wd.maskV w a) (Wd.maskV w b))] (aI (Wd.maskV w (bits .or .i64 (Wd.maskV w a) (Wd.maskV w b)))) []] [] (.tup [aI (Wd.doV w 4 a b),.bool (Wd.doB w 4)]) []):=ar (cj (rf w) (cj hO (cj (rf w) (cj (rf a) (cj (bz w a) (cj (rf w) (cj (rf b) (cj (bz w b) (cj (e0 4 1) (cj (e0 4 2) (cj (e0 4 8) (cj (e0 4 3) (cj (e1 4 4) (cj (rf w) (cj (rf (Go.bits Go.BinOp.or IntKind.i64 (Wd.maskV w a) (Wd.maskV w b))) (cj (bz w (bits .or .i64 (Wd.maskV w a) (Wd.maskV w b))) (cj (show Wd.maskV w (Go.bits Go.BinOp.or IntKind.i64 (Wd.maskV w a) (Wd.maskV w b))=Wd.doV w (4:Int) a b from by rw[Wd.ref4 (bM h)];exact Wd.maskV_idem w _) (cj (show true=Wd.doB w (4:Int) from by simp[Wd.doB,bM h,Wd.opB]) trivial))))))))))))))))))
theorem Bc(w a b:Int)(h:1<=w∧w<=16)(hO:ik w):Vc (vF_ 86 [aI w, aI 5, aI a, aI b] [iq w,ip w a,io w b,.bd false,.bd false,.bd false,.bd false,.bd false,.bd true,.cl [aI w, aI (bits .xor .i64 (Wd.maskV w a) (Wd.maskV w b))] (aI (Wd.maskV w (bits .xor .i64 (Wd.maskV w a) (Wd.maskV w b)))) []] [] (.tup [aI (Wd.doV w 5 a b),.bool (Wd.doB w 5)]) []):=ar (cj (rf w) (cj hO (cj (rf w) (cj (rf a) (cj (bz w a) (cj (rf w) (cj (rf b) (cj (bz w b) (cj (e0 5 1) (cj (e0 5 2) (cj (e0 5 8) (cj (e0 5 3) (cj (e0 5 4) (cj (e1 5 5) (cj (rf w) (cj (rf (Go.bits Go.BinOp.xor IntKind.i64 (Wd.maskV w a) (Wd.maskV w b))) (cj (bz w (bits .xor .i64 (Wd.maskV w a) (Wd.maskV w b))) (cj (show Wd.maskV w (Go.bits Go.BinOp.xor IntKind.i64 (Wd.maskV w a) (Wd.maskV w b))=Wd.doV w (5:Int) a b from by rw[Wd.ref5 (bM h)];exact Wd.maskV_idem w _) (cj (show true=Wd.doB w (5:Int) from by simp[Wd.doB,bM h,Wd.opB]) trivial)))))))))))))))))))
theorem Bb(w a b:Int)(h:1<=w∧w<=16)(hO:ik w):Vc (vF_ 86 [aI w, aI 6, aI a, aI b] [iq w,ip w a,io w b,.bd false,.bd false,.bd false,.bd false,.bd false,.bd false,.bd true,.cl [aI w, aI (IntKind.i64.wrap ((Wd.maskV w a)*2^min ((Wd.maskV w b)).toNat IntKind.i64.bits))] (aI (Wd.maskV w (IntKind.i64.wrap ((Wd.maskV w a)*2^min ((Wd.maskV w b)).toNat IntKind.i64.bits)))) []] [] (.tup [aI (Wd.doV w 6 a b),.bool (Wd.doB w 6)]) []):=ar (cj (rf w) (cj hO (cj (rf w) (cj (rf a) (cj (bz w a) (cj (rf w) (cj (rf b) (cj (bz w b) (cj (e0 6 1) (cj (e0 6 2) (cj (e0 6 8) (cj (e0 6 3) (cj (e0 6 4) (cj (e0 6 5) (cj (e1 6 6) (cj (show(0:Int)<=Wd.maskV w b from by have h1:=Wd.maskV_bd w a;have h2:=Wd.maskV_bd w b;omega) (cj (rf w) (cj (rf (IntKind.wrap IntKind.i64 (Wd.maskV w a*2^Min.min (Int.toNat (Wd.maskV w b)) (64:Nat)))) (cj (bz w (IntKind.i64.wrap ((Wd.maskV w a)*2^min ((Wd.maskV w b)).toNat IntKind.i64.bits))) (cj (show Wd.maskV w (IntKind.wrap IntKind.i64 (Wd.maskV w a*2^Min.min (Int.toNat (Wd.maskV w b)) (64:Nat)))=Wd.doV w (6:Int) a b from by have e:=Wd.ref6 (w:=w) (a:=a) (b:=b);rw[IntWalk.i64_left];exact e) (cj (show true=Wd.doB w (6:Int) from by simp[Wd.doB,bM h,Wd.opB]) trivial)))))))))))))))))))))
theorem Ba(w a b:Int)(h:1<=w∧w<=16)(hO:ik w):Vc (vF_ 86 [aI w, aI 7, aI a, aI b] [iq w,ip w a,io w b,.bd false,.bd false,.bd false,.bd false,.bd false,.bd false,.bd false,.bd true,.cl [aI w, aI (Int.fdiv (Wd.maskV w a) (2^min ((Wd.maskV w b)).toNat IntKind.i64.bits))] (aI (Wd.maskV w (Int.fdiv (Wd.maskV w a) (2^min ((Wd.maskV w b)).toNat IntKind.i64.bits)))) []] [] (.tup [aI (Wd.doV w 7 a b),.bool (Wd.doB w 7)]) []):=ar (cj (rf w) (cj hO (cj (rf w) (cj (rf a) (cj (bz w a) (cj (rf w) (cj (rf b) (cj (bz w b) (cj (e0 7 1) (cj (e0 7 2) (cj (e0 7 8) (cj (e0 7 3) (cj (e0 7 4) (cj (e0 7 5) (cj (e0 7 6) (cj (e1 7 7) (cj (show(0:Int)<=Wd.maskV w b from by have h1:=Wd.maskV_bd w a;have h2:=Wd.maskV_bd w b;omega) (cj (rf w) (cj (rf (Int.fdiv (Wd.maskV w a) ((2:Int)^Min.min (Int.toNat (Wd.maskV w b)) (64:Nat)))) (cj (bz w (Int.fdiv (Wd.maskV w a) (2^min ((Wd.maskV w b)).toNat IntKind.i64.bits))) (cj (show Wd.maskV w (Int.fdiv (Wd.maskV w a) ((2:Int)^Min.min (Int.toNat (Wd.maskV w b)) (64:Nat)))=Wd.doV w (7:Int) a b from by rw[Int.fdiv_eq_ediv_of_nonneg _ (by have:=Wd.pow_pos (min (Wd.maskV w b).toNat 64);omega)];have e:=Wd.ref7' (w:=w) (a:=a) (b:=b) (bM h);exact(congrArg (Wd.maskV w) e).trans (Wd.maskV_idem w _)) (cj (show true=Wd.doB w (7:Int) from by simp[Wd.doB,bM h,Wd.opB]) trivial))))))))))))))))))))))
theorem xj(w a b:Int)(h:1<=w∧w<=16)(hO:ik w)(hc:(Wd.maskV w a)<(Wd.maskV w b)):Vc (vF_ 86 [aI w, aI 9, aI a, aI b] [iq w,ip w a,io w b,.bd false,.bd false,.bd false,.bd false,.bd false,.bd false,.bd false,.bd false,.bd true,.bd true,.inl,.cl [aI w, aI 1] (aI (Wd.maskV w 1)) []] [] (.tup [aI (Wd.doV w 9 a b),.bool (Wd.doB w 9)]) []):=ar (cj (rf w) (cj hO (cj (rf w) (cj (rf a) (cj (bz w a) (cj (rf w) (cj (rf b) (cj (bz w b) (cj (e0 9 1) (cj (e0 9 2) (cj (e0 9 8) (cj (e0 9 3) (cj (e0 9 4) (cj (e0 9 5) (cj (e0 9 6) (cj (e0 9 7) (cj (e1 9 9) (cj (dt (Wd.maskV w a<Wd.maskV w b)) (cj (rf w) (cj (rf (1:Int)) (cj (bz w 1) (cj (show Wd.maskV w (1:Int)=Wd.doV w (9:Int) a b from by rw[<-Wd.ref9 (bM h),cO hc];exact Wd.mask_one (bM h) true) (cj (show true=Wd.doB w (9:Int) from by simp[Wd.doB,bM h,Wd.opB]) trivial)))))))))))))))))))))))
abbrev wW(w:Int):Orc:= .cl [aI w, aI 0] (aI (Wd.maskV w 0)) []
theorem xl(w a b:Int)(h:1<=w∧w<=16)(hO:ik w)(hc: ¬(Wd.maskV w a)<(Wd.maskV w b)):Vc (vF_ 86 [aI w, aI 9, aI a, aI b] [iq w,ip w a,io w b,.bd false,.bd false,.bd false,.bd false,.bd false,.bd false,.bd false,.bd false,.bd true,.bd false,.inl,wW w] [] (.tup [aI (Wd.doV w 9 a b),.bool (Wd.doB w 9)]) []):=ar (cj (rf w) (cj hO (cj (rf w) (cj (rf a) (cj (bz w a) (cj (rf w) (cj (rf b) (cj (bz w b) (cj (e0 9 1) (cj (e0 9 2) (cj (e0 9 8) (cj (e0 9 3) (cj (e0 9 4) (cj (e0 9 5) (cj (e0 9 6) (cj (e0 9 7) (cj (e1 9 9) (cj (df (Wd.maskV w a<Wd.maskV w b)) (cj (rf w) (cj (rf (0:Int)) (cj (bz w 0) (cj (show Wd.maskV w (0:Int)=Wd.doV w (9:Int) a b from by rw[<-Wd.ref9 (bM h),dQ hc];exact Wd.mask_one (bM h) false) (cj (show true=Wd.doB w (9:Int) from by simp[Wd.doB,bM h,Wd.opB]) trivial)))))))))))))))))))))))
theorem uz(w a b:Int)(h:1<=w∧w<=16)(hO:ik w)(hc:(Wd.maskV w a)=(Wd.maskV w b)):Vc (vF_ 86 [aI w, aI 10, aI a, aI b] [iq w,ip w a,io w b,.bd false,.bd false,.bd false,.bd false,.bd false,.bd false,.bd false,.bd false,.bd false,.bd true,.bd true,.inl,.cl [aI w, aI 1] (aI (Wd.maskV w 1)) []] [] (.tup [aI (Wd.doV w 10 a b),.bool (Wd.doB w 10)]) []):=ar (cj (rf w) (cj hO (cj (rf w) (cj (rf a) (cj (bz w a) (cj (rf w) (cj (rf b) (cj (bz w b) (cj (e0 10 1) (cj (e0 10 2) (cj (e0 10 8) (cj (e0 10 3) (cj (e0 10 4) (cj (e0 10 5) (cj (e0 10 6) (cj (e0 10 7) (cj (e0 10 9) (cj (e1 10 10) (cj (aG.2 hc) (cj (rf w) (cj (rf (1:Int)) (cj (bz w 1) (cj (show Wd.maskV w (1:Int)=Wd.doV w (10:Int) a b from by rw[<-Wd.ref10 (bM h),aG.2 hc];exact Wd.mask_one (bM h) true) (cj (show true=Wd.doB w (10:Int) from by simp[Wd.doB,bM h,Wd.opB]) trivial))))))))))))))))))))))))
theorem uA(w a b:Int)(h:1<=w∧w<=16)(hO:ik w)(hc: ¬(Wd.maskV w a)=(Wd.maskV w b)):Vc (vF_ 86 [aI w, aI 10, aI a, aI b] [iq w,ip w a,io w b,.bd false,.bd false,.bd false,.bd false,.bd false,.bd false,.bd false,.bd false,.bd false,.bd true,.bd false,.inl,wW w] [] (.tup [aI (Wd.doV w 10 a b),.bool (Wd.doB w 10)]) []):=ar (cj (rf w) (cj hO (cj (rf w) (cj (rf a) (cj (bz w a) (cj (rf w) (cj (rf b) (cj (bz w b) (cj (e0 10 1) (cj (e0 10 2) (cj (e0 10 8) (cj (e0 10 3) (cj (e0 10 4) (cj (e0 10 5) (cj (e0 10 6) (cj (e0 10 7) (cj (e0 10 9) (cj (e1 10 10) (cj (af.2 hc) (cj (rf w) (cj (rf (0:Int)) (cj (bz w 0) (cj (show Wd.maskV w (0:Int)=Wd.doV w (10:Int) a b from by rw[<-Wd.ref10 (bM h),af.2 hc];exact Wd.mask_one (bM h) false) (cj (show true=Wd.doB w (10:Int) from by simp[Wd.doB,bM h,Wd.opB]) trivial))))))))))))))))))))))))
theorem Bh(w o a b:Int)(h:1<=w∧w<=16)(ho:o<1∨10<o)(hO:ik w):Vc (vF_ 86 [aI w, aI o, aI a, aI b] [iq w,ip w a,io w b,.bd false,.bd false,.bd false,.bd false,.bd false,.bd false,.bd false,.bd false,.bd false,.bd false,wW w] [] (.tup [aI (Wd.doV w o a b),.bool (Wd.doB w o)]) []):=ar (cj (rf w) (cj hO (cj (rf w) (cj (rf a) (cj (bz w a) (cj (rf w) (cj (rf b) (cj (bz w b) (cj (show(o==(1:Int))=false from(af.2 (by omega))) (cj (show(o==(2:Int))=false from(af.2 (by omega))) (cj (show(o==(8:Int))=false from(af.2 (by omega))) (cj (show(o==(3:Int))=false from(af.2 (by omega))) (cj (show(o==(4:Int))=false from(af.2 (by omega))) (cj (show(o==(5:Int))=false from(af.2 (by omega))) (cj (show(o==(6:Int))=false from(af.2 (by omega))) (cj (show(o==(7:Int))=false from(af.2 (by omega))) (cj (show(o==(9:Int))=false from(af.2 (by omega))) (cj (show(o==(10:Int))=false from(af.2 (by omega))) (cj (rf w) (cj (rf (0:Int)) (cj (bz w 0) (cj (show Wd.maskV w (0:Int)=Wd.doV w o a b from by rw[<-Wd.ref0 ho];exact Wd.maskV_of_lt (bM h) (ec 0) (by have:=Wd.sizeV_pos (bM h);omega)) (cj (show false=Wd.doB w o from by simp[Wd.doB,Wd.opB_no ho]) trivial)))))))))))))))))))))))
theorem A8(w o a b:Int)(h: ¬(1<=w∧w<=16))(hO:pC_ 62 [aI w] (.bool false) []):Vc (vF_ 86 [aI w, aI o, aI a, aI b] [.cl [aI w] (.bool false) []] [] (.tup [aI (Wd.doV w o a b),.bool (Wd.doB w o)]) []):=ar (cj (rf w) (cj hO (cj (show(0:Int)=Wd.doV w o a b from by simp[Wd.doV,Wd.maskV,rp h]) (cj (show false=Wd.doB w o from by simp[Wd.doB,rp h]) trivial))))
theorem CD(w o a b:Int):pC_ 86 [.int .i64 w,.int .i64 o,.int .i64 a,.int .i64 b] (.tup [.int .i64 (Wd.doV w o a b),.bool (Wd.doB w o)]) []:=by
 by_cases h:1<=w∧w<=16
 ·have hO:pC_ 62 [.int .i64 w] (.bool true) []:=by
   obtain⟨k,rfl⟩: ∃k:Nat,w=(k:Int):=⟨w.toNat,by omega⟩
   exact PureC.vc (qt k (by omega))
  rcases (by omega:o=1∨o=2∨o=3∨o=4∨o=5∨o=6∨o=7∨o=8∨o=9∨o=10∨(o<1∨10<o)) with rfl |rfl |rfl |rfl |rfl |rfl |rfl |rfl |rfl |rfl |ho
  ·exact PureC.vc (Bg w a b h hO)
  ·exact PureC.vc (Bf w a b h hO)
  ·exact PureC.vc (Be w a b h hO)
  ·exact PureC.vc (Bd w a b h hO)
  ·exact PureC.vc (Bc w a b h hO)
  ·exact PureC.vc (Bb w a b h hO)
  ·exact PureC.vc (Ba w a b h hO)
  ·exact PureC.vc (A9 w a b h hO)
  ·by_cases hc:(Wd.maskV w a)<(Wd.maskV w b)
   ·exact PureC.vc (xj w a b h hO hc)
   ·exact PureC.vc (xl w a b h hO hc)
  ·by_cases hc:(Wd.maskV w a)=(Wd.maskV w b)
   ·exact PureC.vc (uz w a b h hO hc)
   ·exact PureC.vc (uA w a b h hO hc)
  ·exact PureC.vc (Bh w o a b h ho hO)
 ·refine PureC.vc (A8 w o a b h ?_)
  by_cases h1:w<1
  ·exact PureC.vc (qu w h1)
  ·exact PureC.vc (qv w (by omega))
theorem pS(c:Cf){Z:Prop}(z:Z):(RF c.b.length (RR c.b.length 8 (fun i j=>au enC c.b i j) (RF c.r.length (RR c.r.length 1 (fun i j=>aI (c.r.getD i 0)) (RF c.e Z))))):=⟨rfl,fun _ _ _ _=>rfl,rfl,fun _ _ _ _=>rfl,rfl,z⟩
theorem pR(c:Cf){Z:Prop}(z:Z):(RF c.s.r0 (RF c.s.r1 (RF c.s.r2 (RF c.s.r3 (RF c.s.m.length (RR c.s.m.length 1 (fun i j=>aI (List.getD c.s.m i 0)) (RF c.s.st.length (RR c.s.st.length 1 (fun i j=>aI (List.getD c.s.st i 0)) (RF c.s.pc Z))))))))):=⟨rfl,rfl,rfl,rfl,rfl,fun _ _ _ _=>rfl,rfl,fun _ _ _ _=>rfl,rfl,z⟩
theorem Ct(p:Pg)(c:Cf)(i:Int)(hF:pC_ 40 [.agg (cfA c)] (.bool true) []):Vc (vF_ 24 [.agg (pgA p),.agg (cfA c), aI i] [.fv,.fv,.cl [.agg (cfA c)] (.bool true) []] [] (.bool false) []):=ar (pR c (pS c (cj hF (cj (rf false) trivial))))
abbrev tX(c:Cf):Prop:=PureC Try.prog 40 [.agg (cfA c)] (.bool false) []
abbrev ue(c:Cf):Orc:= .cl [.agg (cfA c)] (.bool false) []
theorem Cq(p:Pg)(c:Cf)(i:Int)(hi: ¬0<=i)(hF:tX c):Vc (vF_ 24 [.agg (pgA p),.agg (cfA c), aI i] [.fv,.fv,ue c,.bd false] [] (.bool false) []):=ar (pR c (pS c (cj hF (cj (df ((0:Int)<=i)) (cj (rf false) trivial)))))
theorem Cr(p:Pg)(c:Cf)(i:Int)(hi:0<=i)(hl: ¬i<(c.b.length:Int))(hb:c.b.length<1000000)(hF:tX c):Vc (vF_ 24 [.agg (pgA p),.agg (cfA c), aI i] [.fv,.fv,ue c,.bd true,.bd false] [] (.bool false) []):=ar (pR c (pS c (cj hF (cj (dt ((0:Int)<=i)) (cj (df (i<(↑c.b.length:Int))) (cj (rf false) trivial))))))
theorem xW(p:Pg)(c:Cf)(k:Nat){Z:Prop}(z:Z):(RF p.ls.length (RR p.ls.length 2 (fun i j=>au lbC p.ls i j) (RF p.is.length (RR p.is.length 9 (fun i j=>au inC p.is i j) (RF c.b.length (RR c.b.length 8 (fun i j=>au enC c.b i j) (RF (k:Int) Z))))))):=⟨rfl,fun _ _ _ _=>rfl,rfl,fun _ _ _ _=>rfl,rfl,fun _ _ _ _=>rfl,rfl,z⟩
theorem xV(p:Pg){Z:Prop}(z:Z):(RF p.W (RF p.win (RF p.fuel (RF p.r0 (RF p.r1 (RF p.r2 (RF p.r3 (RF p.ms.length (RR p.ms.length 3 (fun i j=>au mmC p.ms i j) Z))))))))):=⟨rfl,rfl,rfl,rfl,rfl,rfl,rfl,rfl,fun _ _ _ _=>rfl,z⟩
theorem Cp(p:Pg)(c:Cf)(k:Nat)(hl:k<c.b.length)(hb:c.b.length<1000000)(hB:pC_ 41 [.agg (pgA p),enR c.b, aI k] (.bool true) [])(hF:tX c):Vc (vF_ 24 [.agg (pgA p),.agg (cfA c), aI k] [.fv,.fv,ue c,.bd true,.bd true,.cl [.agg (pgA p),enR c.b, aI k] (.bool true) []] [] (.bool false) []):=ar (pR c (pS c (cj hF (cj (dt ((0:Int)<=k)) (cj (dt ((k:Int)<c.b.length)) (xV p (xW p c k (cj hB (cj (rf false) trivial)))))))))
theorem Cs(p:Pg)(c:Cf)(k:Nat)(hl:k<c.b.length)(hb:c.b.length<1000000)(hB:pC_ 41 [.agg (pgA p),enR c.b, aI k] (.bool false) [])(hF:tX c):Vc (vF_ 24 [.agg (pgA p),.agg (cfA c), aI k] [.fv,.fv,ue c,.bd true,.bd true,.cl [.agg (pgA p),enR c.b, aI k] (.bool false) []] [] (.bool true) []):=ar (pR c (pS c (cj hF (cj (dt ((0:Int)<=k)) (cj (dt ((k:Int)<c.b.length)) (xV p (xW p c k (cj hB (cj (rf true) trivial)))))))))
theorem zh(p:Pg)(c:Cf)(i:Int)(hb:c.b.length<1000000):pC_ 24 [.agg (pgA p),.agg (cfA c),.int .i64 i] (.bool (opV p c i)) []:=by
 unfold opV
 by_cases h0:c.e=0
 ·have hF:=PureC.vc (pH c (bw.2 h0))
  by_cases hi:0<=i
  ·by_cases hl:i<(c.b.length:Int)
   ·obtain⟨k,rfl⟩: ∃k:Nat,i=(k:Int):=⟨i.toNat,by omega⟩
    rw[ao ⟨h0,hi,hl⟩]
    have hB:=Bi p c.b k hb
    cases hv:nJ p c.b k with
    |true=>rw[hv] at hB;exact PureC.vc (Cp p c k (by omega) hb hB hF)
    |false=>rw[hv] at hB;exact PureC.vc (Cs p c k (by omega) hb hB hF)
   ·rw[aj (fun h=>hl h.2.2)];exact PureC.vc (Cr p c i hi hl hb hF)
  ·rw[aj (fun h=>hi h.2.1)];exact PureC.vc (Cq p c i hi hF)
 ·rw[aj (fun h=>h0 h.1)];exact PureC.vc (Ct p c i (PureC.vc (sb c (kA.2 h0))))
theorem dU(p:Pg){Z:Prop}(z:Z):(RF p.W (RF p.win (RF p.fuel (RF p.r0 (RF p.r1 (RF p.r2 (RF p.r3 (RF p.ms.length (RR p.ms.length 3 (fun i j=>au mmC p.ms i j) Z))))))))):=⟨rfl,rfl,rfl,rfl,rfl,rfl,rfl,rfl,fun _ _ _ _=>rfl,z⟩
theorem wk(p:Pg)(c:Cf)(k:Nat)(hk:k<c.b.length):Vc (vF_ 26 [.agg (pgA p),.agg (cfA c), aI k] [.fv,.fv,.cl [.agg (pgA p), aI (c.b.getD k default).pc] (.agg (inA (enX p c k))) []] [] (.agg (inA (enX p c k))) []):=ar (cj (bi k c.b.length) (dU p (cj (rf p.ls.length) (cj (rr p.ls.length 2 fun i j=>au lbC p.ls i j) (cj (rf p.is.length) (cj (rr p.is.length 9 fun i j=>au inC p.is i j) (cj (rf ((c.b.getD k default).pc)) (cj (atC p (c.b.getD k default).pc) (cj (rf ((enX p c k).kind)) (cj (rf ((enX p c k).op)) (cj (rf ((enX p c k).d)) (cj (rf ((enX p c k).a.reg)) (cj (rf ((enX p c k).a.n)) (cj (rf ((enX p c k).b.reg)) (cj (rf ((enX p c k).b.n)) (cj (rf ((enX p c k).nm)) (cj (rf ((enX p c k).tg)) trivial)))))))))))))))))
theorem kL(p:Pg)(c:Cf)(k:Nat)(hk:k<c.b.length):pC_ 26 [.agg (pgA p),.agg (cfA c),.int .i64 k] (.agg (inA (enX p c k))) []:=PureC.vc (wk p c k hk)
def vlC(l:List Vl)(i j:Nat):AV:=(l.flatMap vlA).getD (i*2+j) .junk
theorem lD(c:Cf)(k:Nat)(v0:Vl){Z:Prop}(z:Z):(RR c.b.length 8 (fun i j=>au enC c.b i j) (RF (k:Int) (RF v0.reg (RF v0.n Z)))):=⟨fun _ _ _ _=>rfl,rfl,rfl,rfl,z⟩
theorem fe(p:Pg)(c:Cf){Z:Prop}(z:Z):(RF p.ls.length (RR p.ls.length 2 (fun i j=>au lbC p.ls i j) (RF p.is.length (RR p.is.length 9 (fun i j=>au inC p.is i j) (RF c.s.r0 (RF c.s.r1 (RF c.s.r2 (RF c.s.r3 (RF c.b.length Z))))))))):=⟨rfl,fun _ _ _ _=>rfl,rfl,fun _ _ _ _=>rfl,rfl,rfl,rfl,rfl,rfl,z⟩
abbrev wM(p:Pg)(c:Cf)(k:Nat)(v0:Vl)(n0:Int):Prop:=PureC Try.prog 51 [.agg (pgA p),.agg (rgA c.s),enR c.b,.int .i64 k,.agg (vlA v0)] (.tup [.int .i64 n0,.bool false]) []
abbrev wU(p:Pg)(c:Cf)(k:Nat)(v0:Vl)(n0:Int):Orc:= .cl [.agg (pgA p),.agg (rgA c.s),enR c.b, aI k,.agg (vlA v0)] (.tup [aI n0,.bool false]) []
theorem wa(p:Pg)(c:Cf)(k:Nat)(v0:Vl)(n0:Int)(h0:wM p c k v0 n0):Vc (vF_ 42 [.agg (pgA p),.agg (cfA c), aI k,.row 2 1 (vlC [v0])] [.fv,.fv,.it 2,wU p c k v0 n0] [] (.bool false) []):=ar (cj (pv ((0:Int)<=0∧(0:Int)<(1:Nat))) (dU p (fe p c (lD c k v0 (cj h0 (cj (rf false) trivial))))))
abbrev pq(p:Pg)(c:Cf)(k:Nat)(v0:Vl)(n0:Int):Prop:=PureC Try.prog 51 [.agg (pgA p),.agg (rgA c.s),enR c.b,.int .i64 k,.agg (vlA v0)] (.tup [.int .i64 n0,.bool true]) []
abbrev pu(p:Pg)(c:Cf)(k:Nat)(v0:Vl)(n0:Int):Orc:= .cl [.agg (pgA p),.agg (rgA c.s),enR c.b, aI k,.agg (vlA v0)] (.tup [aI n0,.bool true]) []
theorem v9(p:Pg)(c:Cf)(k:Nat)(v0:Vl)(n0:Int)(h0:pq p c k v0 n0):Vc (vF_ 42 [.agg (pgA p),.agg (cfA c), aI k,.row 2 1 (vlC [v0])] [.fv,.fv,.it 2,pu p c k v0 n0] [] (.bool true) []):=ar (cj (pv ((0:Int)<=0∧(0:Int)<(1:Nat))) (dU p (fe p c (lD c k v0 (cj h0 (cj (i6 (0+1)) (cj (rf true) trivial)))))))
theorem v8(p:Pg)(c:Cf)(k:Nat)(v0 v1:Vl)(n0:Int)(h0:wM p c k v0 n0):Vc (vF_ 42 [.agg (pgA p),.agg (cfA c), aI k,.row 2 2 (vlC [v0,v1])] [.fv,.fv,.it 3,wU p c k v0 n0] [] (.bool false) []):=ar (cj (pv ((0:Int)<=0∧(0:Int)<(2:Nat))) (dU p (fe p c (lD c k v0 (cj h0 (cj (rf false) trivial))))))
theorem qc(c:Cf)(k:Nat)(v1:Vl){Z:Prop}(z:Z):(RR c.b.length 8 (fun i j=>au enC c.b i j) (RF (k:Int) (RF v1.reg (RF v1.n Z)))):=⟨fun _ _ _ _=>rfl,rfl,rfl,rfl,z⟩
abbrev Al(p:Pg)(c:Cf)(k:Nat)(v1:Vl)(n1:Int):Prop:=PureC Try.prog 51 [.agg (pgA p),.agg (rgA c.s),enR c.b,.int .i64 k,.agg (vlA v1)] (.tup [.int .i64 n1,.bool false]) []
theorem v7(p:Pg)(c:Cf)(k:Nat)(v0 v1:Vl)(n0 n1:Int)(h0:pq p c k v0 n0)(h1:Al p c k v1 n1):Vc (vF_ 42 [.agg (pgA p),.agg (cfA c), aI k,.row 2 2 (vlC [v0,v1])] [.fv,.fv,.it 3,pu p c k v0 n0,.cl [.agg (pgA p),.agg (rgA c.s),enR c.b, aI k,.agg (vlA v1)] (.tup [aI n1,.bool false]) []] [] (.bool false) []):=ar (cj (pv ((0:Int)<=0∧(0:Int)<(2:Nat))) (dU p (fe p c (lD c k v0 (cj h0 (cj (i6 (0+1)) (cj (pv ((0:Int)<=0+1∧(0:Int)+1<(2:Nat))) (dU p (fe p c (qc c k v1 (cj h1 (cj (rf false) trivial))))))))))))
abbrev wL(p:Pg)(c:Cf)(k:Nat)(v1:Vl)(n1:Int):Prop:=PureC Try.prog 51 [.agg (pgA p),.agg (rgA c.s),enR c.b,.int .i64 k,.agg (vlA v1)] (.tup [.int .i64 n1,.bool true]) []
abbrev wT(p:Pg)(c:Cf)(k:Nat)(v1:Vl)(n1:Int):Orc:= .cl [.agg (pgA p),.agg (rgA c.s),enR c.b, aI k,.agg (vlA v1)] (.tup [aI n1,.bool true]) []
theorem v6(p:Pg)(c:Cf)(k:Nat)(v0 v1:Vl)(n0 n1:Int)(h0:pq p c k v0 n0)(h1:wL p c k v1 n1):Vc (vF_ 42 [.agg (pgA p),.agg (cfA c), aI k,.row 2 2 (vlC [v0,v1])] [.fv,.fv,.it 3,pu p c k v0 n0,wT p c k v1 n1] [] (.bool true) []):=ar (cj (pv ((0:Int)<=0∧(0:Int)<(2:Nat))) (dU p (fe p c (lD c k v0 (cj h0 (cj (i6 (0+1)) (cj (pv ((0:Int)<=0+1∧(0:Int)+1<(2:Nat))) (dU p (fe p c (qc c k v1 (cj h1 (cj (i6 (0+1+1)) (cj (rf true) trivial)))))))))))))
theorem v5(p:Pg)(c:Cf)(k:Nat)(v0 v1 v2:Vl)(n0:Int)(h0:wM p c k v0 n0):Vc (vF_ 42 [.agg (pgA p),.agg (cfA c), aI k,.row 2 3 (vlC [v0,v1,v2])] [.fv,.fv,.it 4,wU p c k v0 n0] [] (.bool false) []):=ar (cj (pv ((0:Int)<=0∧(0:Int)<(3:Nat))) (dU p (fe p c (lD c k v0 (cj h0 (cj (rf false) trivial))))))
theorem v4(p:Pg)(c:Cf)(k:Nat)(v0 v1 v2:Vl)(n0 n1:Int)(h0:pq p c k v0 n0)(h1:Al p c k v1 n1):Vc (vF_ 42 [.agg (pgA p),.agg (cfA c), aI k,.row 2 3 (vlC [v0,v1,v2])] [.fv,.fv,.it 4,pu p c k v0 n0,.cl [.agg (pgA p),.agg (rgA c.s),enR c.b, aI k,.agg (vlA v1)] (.tup [aI n1,.bool false]) []] [] (.bool false) []):=ar (cj (pv ((0:Int)<=0∧(0:Int)<(3:Nat))) (dU p (fe p c (lD c k v0 (cj h0 (cj (i6 (0+1)) (cj (pv ((0:Int)<=0+1∧(0:Int)+1<(3:Nat))) (dU p (fe p c (qc c k v1 (cj h1 (cj (rf false) trivial))))))))))))
theorem yx(c:Cf)(k:Nat)(v2:Vl){Z:Prop}(z:Z):(RR c.b.length 8 (fun i j=>au enC c.b i j) (RF (k:Int) (RF v2.reg (RF v2.n Z)))):=⟨fun _ _ _ _=>rfl,rfl,rfl,rfl,z⟩
theorem vZ(p:Pg)(c:Cf)(k:Nat)(v0 v1 v2:Vl)(n0 n1 n2:Int)(h0:pq p c k v0 n0)(h1:wL p c k v1 n1)(h2:pC_ 51 [.agg (pgA p),.agg (rgA c.s),enR c.b, aI k,.agg (vlA v2)] (.tup [aI n2,.bool false]) []):Vc (vF_ 42 [.agg (pgA p),.agg (cfA c), aI k,.row 2 3 (vlC [v0,v1,v2])] [.fv,.fv,.it 4,pu p c k v0 n0,wT p c k v1 n1,.cl [.agg (pgA p),.agg (rgA c.s),enR c.b, aI k,.agg (vlA v2)] (.tup [aI n2,.bool false]) []] [] (.bool false) []):=ar (cj (pv ((0:Int)<=0∧(0:Int)<(3:Nat))) (dU p (fe p c (lD c k v0 (cj h0 (cj (i6 (0+1)) (cj (pv ((0:Int)<=0+1∧(0:Int)+1<(3:Nat))) (dU p (fe p c (qc c k v1 (cj h1 (cj (i6 (0+1+1)) (cj (pv ((0:Int)<=0+1+1∧(0:Int)+1+1<(3:Nat))) (dU p (fe p c (yx c k v2 (cj h2 (cj (rf false) trivial))))))))))))))))))
theorem vY(p:Pg)(c:Cf)(k:Nat)(v0 v1 v2:Vl)(n0 n1 n2:Int)(h0:pq p c k v0 n0)(h1:wL p c k v1 n1)(h2:pC_ 51 [.agg (pgA p),.agg (rgA c.s),enR c.b, aI k,.agg (vlA v2)] (.tup [aI n2,.bool true]) []):Vc (vF_ 42 [.agg (pgA p),.agg (cfA c), aI k,.row 2 3 (vlC [v0,v1,v2])] [.fv,.fv,.it 4,pu p c k v0 n0,wT p c k v1 n1,.cl [.agg (pgA p),.agg (rgA c.s),enR c.b, aI k,.agg (vlA v2)] (.tup [aI n2,.bool true]) []] [] (.bool true) []):=ar (cj (pv ((0:Int)<=0∧(0:Int)<(3:Nat))) (dU p (fe p c (lD c k v0 (cj h0 (cj (i6 (0+1)) (cj (pv ((0:Int)<=0+1∧(0:Int)+1<(3:Nat))) (dU p (fe p c (qc c k v1 (cj h1 (cj (i6 (0+1+1)) (cj (pv ((0:Int)<=0+1+1∧(0:Int)+1+1<(3:Nat))) (dU p (fe p c (yx c k v2 (cj h2 (cj (i6 (0+1+1+1)) (cj (rf true) trivial)))))))))))))))))))
theorem y9(p:Pg)(c:Cf)(k:Nat)(hb:c.b.length<1000000)(v0:Vl):pC_ 42 [.agg (pgA p),.agg (cfA c),.int .i64 k,.row 2 1 (vlC [v0])] (.bool (cd p c.s c.b k v0).2) []:=by
 have h0:=mY p c.s c.b k v0 hb
 cases t0:(cd p c.s c.b k v0).2 with
 |false=>rw[t0] at h0;exact PureC.vc (wa p c k _ _ h0)
 |true=>rw[t0] at h0;exact PureC.vc (v9 p c k _ _ h0)
theorem wb(p:Pg)(c:Cf)(k:Nat)(hb:c.b.length<1000000)(v0 v1:Vl):pC_ 42 [.agg (pgA p),.agg (cfA c),.int .i64 k,.row 2 2 (vlC [v0,v1])] (.bool ((cd p c.s c.b k v0).2&&(cd p c.s c.b k v1).2)) []:=by
 have h0:=mY p c.s c.b k v0 hb
 have h1:=mY p c.s c.b k v1 hb
 cases t0:(cd p c.s c.b k v0).2 with
 |false=>rw[t0] at h0;exact PureC.vc (v8 p c k _ _ _ h0)
 |true=>
  rw[t0] at h0
  cases t1:(cd p c.s c.b k v1).2 with
  |false=>rw[t1] at h1;exact PureC.vc (v7 p c k _ _ _ _ h0 h1)
  |true=>rw[t1] at h1;exact PureC.vc (v6 p c k _ _ _ _ h0 h1)
theorem B9(p:Pg)(c:Cf)(k:Nat)(hb:c.b.length<1000000)(v0 v1 v2:Vl):pC_ 42 [.agg (pgA p),.agg (cfA c),.int .i64 k,.row 2 3 (vlC [v0,v1,v2])] (.bool ((cd p c.s c.b k v0).2&&(cd p c.s c.b k v1).2&&(cd p c.s c.b k v2).2)) []:=by
 have h0:=mY p c.s c.b k v0 hb
 have h1:=mY p c.s c.b k v1 hb
 have h2:=mY p c.s c.b k v2 hb
 cases t0:(cd p c.s c.b k v0).2 with
 |false=>rw[t0] at h0;exact PureC.vc (v5 p c k _ _ _ _ h0)
 |true=>
  rw[t0] at h0
  cases t1:(cd p c.s c.b k v1).2 with
  |false=>rw[t1] at h1;exact PureC.vc (v4 p c k _ _ _ _ _ h0 h1)
  |true=>
   rw[t1] at h1
   cases t2:(cd p c.s c.b k v2).2 with
   |false=>rw[t2] at h2;exact PureC.vc (vZ p c k _ _ _ _ _ _ h0 h1 h2)
   |true=>rw[t2] at h2;exact PureC.vc (vY p c k _ _ _ _ _ _ h0 h1 h2)
theorem wd(r:Int):Vc (vF_ 43 [aI r] [] [] (.agg (vlA ⟨true,r⟩)) []):=ar (cj (rf true) (cj (rf r) trivial))
theorem zf(r:Int):pC_ 43 [.int .i64 r] (.agg (vlA ⟨true,r⟩)) []:=PureC.vc (wd r)
theorem yw(p:Pg)(c:Cf)(k:Nat){Z:Prop}(z:Z):(RF (k:Int) (RF (2:Nat) (RR 2 2 (fun i j=>vlC [(enX p c k).a,(enX p c k).b] i j) Z))):=⟨rfl,rfl,fun _ _ _ _=>rfl,z⟩
theorem s8(c:Cf){Z:Prop}(z:Z):(RR c.s.m.length 1 (fun i j=>aI (List.getD c.s.m i 0)) (RF c.s.st.length (RR c.s.st.length 1 (fun i j=>aI (List.getD c.s.st i 0)) (RF c.s.pc (RF c.b.length (RR c.b.length 8 (fun i j=>au enC c.b i j) (RF c.r.length (RR c.r.length 1 (fun i j=>aI (c.r.getD i 0)) (RF c.e Z))))))))):=⟨fun _ _ _ _=>rfl,rfl,fun _ _ _ _=>rfl,rfl,rfl,fun _ _ _ _=>rfl,rfl,fun _ _ _ _=>rfl,rfl,z⟩
theorem s7(p:Pg)(c:Cf){Z:Prop}(z:Z):(RF p.ls.length (RR p.ls.length 2 (fun i j=>au lbC p.ls i j) (RF p.is.length (RR p.is.length 9 (fun i j=>au inC p.is i j) (RF c.s.r0 (RF c.s.r1 (RF c.s.r2 (RF c.s.r3 (RF c.s.m.length Z))))))))):=⟨rfl,fun _ _ _ _=>rfl,rfl,fun _ _ _ _=>rfl,rfl,rfl,rfl,rfl,rfl,z⟩
abbrev Ak(p:Pg)(c:Cf)(k:Nat):Prop:=PureC Try.prog 26 [.agg (pgA p),.agg (cfA c),.int .i64 k] (.agg (inA (enX p c k))) []
theorem zF(p:Pg)(c:Cf)(k:Nat)(h0:Ak p c k)(h1:pC_ 42 [.agg (pgA p),.agg (cfA c), aI k,.row 2 2 (vlC [(enX p c k).a,(enX p c k).b])] (.bool false) []):Vc (vF_ 37 [.agg (pgA p),.agg (cfA c), aI k] [.fv,.fv,.cl [.agg (pgA p),.agg (cfA c), aI k] (.agg (inA (enX p c k))) [],.fz,.cl [.agg (pgA p),.agg (cfA c), aI k,.row 2 2 (vlC [(enX p c k).a,(enX p c k).b])] (.bool false) []] [] (.tup [aI 0,.bool false]) []):=ar (dU p (s7 p c (s8 c (cj (rf (k:Int)) (cj h0 (dU p (s7 p c (s8 c (yw p c k (cj h1 (cj (rf (0:Int)) (cj (rf false) trivial))))))))))))
theorem zE(p:Pg)(c:Cf)(k:Nat)(va vb:Int)(ta tb:Bool)(hab: -1000000<=va+vb∧va+vb<=1000000)(h0:Ak p c k)(h1:pC_ 42 [.agg (pgA p),.agg (cfA c), aI k,.row 2 2 (vlC [(enX p c k).a,(enX p c k).b])] (.bool true) [])(h2:pC_ 51 [.agg (pgA p),.agg (rgA c.s),enR c.b, aI k,.agg (vlA (enX p c k).a)] (.tup [aI va,.bool ta]) [])(h3:pC_ 51 [.agg (pgA p),.agg (rgA c.s),enR c.b, aI k,.agg (vlA (enX p c k).b)] (.tup [aI vb,.bool tb]) []):Vc (vF_ 37 [.agg (pgA p),.agg (cfA c), aI k] [.fv,.fv,.cl [.agg (pgA p),.agg (cfA c), aI k] (.agg (inA (enX p c k))) [],.fz,.cl [.agg (pgA p),.agg (cfA c), aI k,.row 2 2 (vlC [(enX p c k).a,(enX p c k).b])] (.bool true) [],.cl [.agg (pgA p),.agg (rgA c.s),enR c.b, aI k,.agg (vlA (enX p c k).a)] (.tup [aI va,.bool ta]) [],.cl [.agg (pgA p),.agg (rgA c.s),enR c.b, aI k,.agg (vlA (enX p c k).b)] (.tup [aI vb,.bool tb]) [],.cl [aI p.W, aI (va+vb)] (aI (Wd.maskV p.W (va+vb))) []] [] (.tup [aI (Wd.maskV p.W (va+vb)),.bool true]) []):=ar (dU p (s7 p c (s8 c (cj (rf (k:Int)) (cj h0 (dU p (s7 p c (s8 c (yw p c k (cj h1 (dU p (fe p c (cj (rr c.b.length 8 fun i j=>au enC c.b i j) (cj (rf (k:Int)) (cj (rf ((enX p c k).a.reg)) (cj (rf ((enX p c k).a.n)) (cj h2 (dU p (fe p c (cj (rr c.b.length 8 fun i j=>au enC c.b i j) (cj (rf (k:Int)) (cj (rf ((enX p c k).b.reg)) (cj (rf ((enX p c k).b.n)) (cj h3 (cj (i6 (va+vb)) (cj (rf p.W) (cj (rf (va+vb)) (cj (bz p.W (va+vb)) (cj (rf (Wd.maskV p.W (va+vb))) (cj (rf true) trivial))))))))))))))))))))))))))))))
theorem tq(p:Pg)(c:Cf)(k:Nat)(hk:k<c.b.length)(hb:c.b.length<1000000)(hv:Sml p c):pC_ 37 [.agg (pgA p),.agg (cfA c),.int .i64 k] (.tup [.int .i64 (if tAB p c k (enX p c k)=true then adV p c k (enX p c k) else 0),.bool (tAB p c k (enX p c k))]) []:=by
 have h0:=kL p c k hk
 have h1:=wb p c k hb (enX p c k).a (enX p c k).b
 have ha:=hv.add k (enX p c k)
 cases ht:tAB p c k (enX p c k) with
 |false=>
  rw[show((cd p c.s c.b k (enX p c k).a).2&&(cd p c.s c.b k (enX p c k).b).2)=false from ht] at h1
  exact PureC.vc (zF p c k h0 h1)
 |true=>
  rw[show((cd p c.s c.b k (enX p c k).a).2&&(cd p c.s c.b k (enX p c k).b).2)=true from ht] at h1
  exact PureC.vc (zE p c k _ _ _ _ ha h0 h1 (mY p c.s c.b k (enX p c k).a hb) (mY p c.s c.b k (enX p c k).b hb))
theorem dy(c:Cf){Z:Prop}(z:Z):(RR c.s.m.length 1 (fun i j=>aI (List.getD c.s.m i 0)) (RF c.s.st.length (RR c.s.st.length 1 (fun i j=>aI (List.getD c.s.st i 0)) (RF c.s.pc (RF c.b.length (RR c.b.length 8 (fun i j=>au enC c.b i j) (RF c.r.length (RR c.r.length 1 (fun i j=>aI (c.r.getD i 0)) (RF c.e Z))))))))):=⟨fun _ _ _ _=>rfl,rfl,fun _ _ _ _=>rfl,rfl,rfl,fun _ _ _ _=>rfl,rfl,fun _ _ _ _=>rfl,rfl,z⟩
theorem dx(p:Pg)(c:Cf){Z:Prop}(z:Z):(RF p.ls.length (RR p.ls.length 2 (fun i j=>au lbC p.ls i j) (RF p.is.length (RR p.is.length 9 (fun i j=>au inC p.is i j) (RF c.s.r0 (RF c.s.r1 (RF c.s.r2 (RF c.s.r3 (RF c.s.m.length Z))))))))):=⟨rfl,fun _ _ _ _=>rfl,rfl,fun _ _ _ _=>rfl,rfl,rfl,rfl,rfl,rfl,z⟩
theorem dl(p:Pg){Z:Prop}(z:Z):(RF p.W (RF p.win (RF p.fuel (RF p.r0 (RF p.r1 (RF p.r2 (RF p.r3 (RF p.ms.length (RR p.ms.length 3 (fun i j=>au mmC p.ms i j) Z))))))))):=⟨rfl,rfl,rfl,rfl,rfl,rfl,rfl,rfl,fun _ _ _ _=>rfl,z⟩
theorem ze(p:Pg)(c:Cf)(k:Nat)(va:Int)(h0:pC_ 37 [.agg (pgA p),.agg (cfA c), aI k] (.tup [aI va,.bool false]) []):Vc (vF_ 44 [.agg (pgA p),.agg (cfA c), aI k] [.fv,.fv,.cl [.agg (pgA p),.agg (cfA c), aI k] (.tup [aI va,.bool false]) []] [] (.bool false) []):=ar (dl p (dx p c (dy c (cj (rf (k:Int)) (cj h0 (cj (rf false) trivial))))))
theorem yv(p:Pg){Z:Prop}(z:Z):(RF p.W (RF p.r0 (RF p.r1 (RF p.r2 (RF p.r3 (RF p.ms.length (RR p.ms.length 3 (fun i j=>au mmC p.ms i j) Z))))))):=⟨rfl,rfl,rfl,rfl,rfl,rfl,fun _ _ _ _=>rfl,z⟩
abbrev Aj(p:Pg)(c:Cf)(k:Nat)(va:Int):Prop:=PureC Try.prog 37 [.agg (pgA p),.agg (cfA c),.int .i64 k] (.tup [.int .i64 va,.bool true]) []
abbrev Ai(p:Pg):Prop:=PureC Try.prog 38 [.agg (gi p.W p.r0 p.r1 p.r2 p.r3 (i9 p.ms))] (.int .i64 (aQ p.ms)) []
abbrev AJ(p:Pg):Orc:= .cl [.agg (gi p.W p.r0 p.r1 p.r2 p.r3 (i9 p.ms))] (aI (aQ p.ms)) []
theorem zb(p:Pg)(c:Cf)(k:Nat)(va:Int)(hm:((aQ p.ms:Nat):Int)<=va)(h0:Aj p c k va)(h1:Ai p):Vc (vF_ 44 [.agg (pgA p),.agg (cfA c), aI k] [.fv,.fv,.cl [.agg (pgA p),.agg (cfA c), aI k] (.tup [aI va,.bool true]) [],AJ p,.bd true] [] (.bool true) []):=ar (dl p (dx p c (dy c (cj (rf (k:Int)) (cj h0 (yv p (cj h1 (cj (dt (va>=(↑(aQ p.ms):Int))) (cj (rf true) trivial)))))))))
theorem zd(p:Pg)(c:Cf)(k:Nat)(va v fr:Int)(tl:Bool)(hm: ¬((aQ p.ms:Nat):Int)<=va)(h0:Aj p c k va)(h1:Ai p)(h2:pC_ 48 [.agg (pgA p),lR c.s.m,enR c.b, aI k, aI va] (.tup [aI v, aI fr,.bool tl]) []):Vc (vF_ 44 [.agg (pgA p),.agg (cfA c), aI k] [.fv,.fv,.cl [.agg (pgA p),.agg (cfA c), aI k] (.tup [aI va,.bool true]) [],AJ p,.bd false,.cl [.agg (pgA p),lR c.s.m,enR c.b, aI k, aI va] (.tup [aI v, aI fr,.bool tl]) []] [] (.bool tl) []):=ar (dl p (dx p c (dy c (cj (rf (k:Int)) (cj h0 (yv p (cj h1 (cj (df (va>=(↑(aQ p.ms):Int))) (dl p (cj (rf p.ls.length) (cj (rr p.ls.length 2 fun i j=>au lbC p.ls i j) (cj (rf p.is.length) (cj (rr p.is.length 9 fun i j=>au inC p.is i j) (cj (rf c.s.m.length) (cj (rr c.s.m.length 1 fun i j=>aI (List.getD c.s.m i 0)) (cj (rf c.b.length) (cj (rr c.b.length 8 fun i j=>au enC c.b i j) (cj (rf (k:Int)) (cj (rf va) (cj h2 (cj (rf tl) trivial)))))))))))))))))))))
theorem sA(p:Pg)(hP:OkP p):pC_ 38 [.agg (gi p.W p.r0 p.r1 p.r2 p.r3 (i9 p.ms))] (.int .i64 (aQ p.ms)) []:=fZ p.W p.r0 p.r1 p.r2 p.r3 p.ms (by have:=hP.ms;omega) hP.sum
theorem Ca(p:Pg)(c:Cf)(k:Nat)(hk:k<c.b.length)(hb:c.b.length<1000000)(hv:Sml p c)(hP:OkP p)(hm:c.s.m.length=aQ p.ms):pC_ 44 [.agg (pgA p),.agg (cfA c),.int .i64 k] (.bool (tAB p c k (enX p c k)&&(decide ((c.s.m.length:Int)<=adV p c k (enX p c k))||(ldV p c.s.m c.b k (adV p c k (enX p c k))).2.2))) []:=by
 have h0:=tq p c k hk hb hv
 have h1:=sA p hP
 have h2:=A7 p c.s.m c.b k (adV p c k (enX p c k)) hb
 cases ht:tAB p c k (enX p c k) with
 |false=>
  rw[ht] at h0
  exact PureC.vc (ze p c k _ h0)
 |true=>
  rw[ht,ao rfl] at h0
  rw[Bool.true_and]
  by_cases hq:(c.s.m.length:Int)<=adV p c k (enX p c k)
  ·rw[cO hq,Bool.true_or];exact PureC.vc (zb p c k _ (hm▸hq) h0 h1)
  ·rw[dQ hq,Bool.false_or];exact PureC.vc (zd p c k _ _ _ _ (hm▸hq) h0 h1 h2)
theorem yu(p:Pg)(c:Cf)(k:Nat){Z:Prop}(z:Z):(RF (k:Int) (RF (2:Nat) (RR 2 2 (fun i j=>vlC [(enX p c k).a,(enX p c k).b] i j) Z))):=⟨rfl,rfl,fun _ _ _ _=>rfl,z⟩
abbrev Ah(p:Pg)(c:Cf)(k:Nat)(ta:Bool):Prop:=PureC Try.prog 42 [.agg (pgA p),.agg (cfA c),.int .i64 k,.row 2 2 (vlC [(enX p c k).a,(enX p c k).b])] (.bool ta) []
abbrev kP(p:Pg)(c:Cf)(k:Nat):Prop:=PureC Try.prog 26 [.agg (pgA p),.agg (cfA c),.int .i64 k] (.agg (inA (enX p c k))) []
abbrev kR(p:Pg)(c:Cf)(k:Nat):Orc:= .cl [.agg (pgA p),.agg (cfA c), aI k] (.agg (inA (enX p c k))) []
theorem Ck(p:Pg)(c:Cf)(k:Nat)(ta:Bool)(h0:kP p c k)(h1:Ah p c k ta)(k1:(enX p c k).kind=1):Vc (vF_ 25 [.agg (pgA p),.agg (cfA c), aI k] [.fv,.fv,kR p c k,.bd true,.fz,.cl [.agg (pgA p),.agg (cfA c), aI k,.row 2 2 (vlC [(enX p c k).a,(enX p c k).b])] (.bool ta) []] [] (.bool ta) []):=ar (dl p (dx p c (dy c (cj (rf (k:Int)) (cj h0 (cj (aG.2 k1) (dl p (dx p c (dy c (yu p c k (cj h1 (cj (rf ta) trivial))))))))))))
theorem Cg(p:Pg)(c:Cf)(k:Nat)(ta:Bool)(h0:kP p c k)(h1:Ah p c k ta)(k1: ¬(enX p c k).kind=1)(k5:(enX p c k).kind=5):Vc (vF_ 25 [.agg (pgA p),.agg (cfA c), aI k] [.fv,.fv,kR p c k,.bd false,.bd true,.fz,.cl [.agg (pgA p),.agg (cfA c), aI k,.row 2 2 (vlC [(enX p c k).a,(enX p c k).b])] (.bool ta) []] [] (.bool ta) []):=ar (dl p (dx p c (dy c (cj (rf (k:Int)) (cj h0 (cj (af.2 k1) (cj (aG.2 k5) (dl p (dx p c (dy c (yu p c k (cj h1 (cj (rf ta) trivial)))))))))))))
theorem Ch(p:Pg)(c:Cf)(k:Nat)(ta:Bool)(h0:kP p c k)(h1:pC_ 42 [.agg (pgA p),.agg (cfA c), aI k,.row 2 3 (vlC [(enX p c k).a,(enX p c k).b,(⟨true,(enX p c k).d⟩:Vl)])] (.bool ta) [])(k1: ¬(enX p c k).kind=1)(k5: ¬(enX p c k).kind=5)(k4:(enX p c k).kind=4):Vc (vF_ 25 [.agg (pgA p),.agg (cfA c), aI k] [.fv,.fv,kR p c k,.bd false,.bd false,.bd true,.cl [aI (enX p c k).d] (.agg (vlA ⟨true,(enX p c k).d⟩)) [],.fz,.cl [.agg (pgA p),.agg (cfA c), aI k,.row 2 3 (vlC [(enX p c k).a,(enX p c k).b,(⟨true,(enX p c k).d⟩:Vl)])] (.bool ta) []] [] (.bool ta) []):=ar (dl p (dx p c (dy c (cj (rf (k:Int)) (cj h0 (cj (af.2 k1) (cj (af.2 k5) (cj (aG.2 k4) (cj (rf ((enX p c k).d)) (cj (zf (enX p c k).d) (dl p (dx p c (dy c (cj (rf (k:Int)) (cj (rf (3:Nat)) (cj (rr 3 2 fun i j=>vlC [(enX p c k).a,(enX p c k).b,Vl.mk true (enX p c k).d] i j) (cj h1 (cj (rf ta) trivial))))))))))))))))))
theorem Ci(p:Pg)(c:Cf)(k:Nat)(ta:Bool)(h0:kP p c k)(h1:pC_ 42 [.agg (pgA p),.agg (cfA c), aI k,.row 2 1 (vlC [(⟨true,(enX p c k).d⟩:Vl)])] (.bool ta) [])(k1: ¬(enX p c k).kind=1)(k5: ¬(enX p c k).kind=5)(k4: ¬(enX p c k).kind=4)(k2: ¬(enX p c k).kind=2)(k3:(enX p c k).kind=3):Vc (vF_ 25 [.agg (pgA p),.agg (cfA c), aI k] [.fv,.fv,kR p c k,.bd false,.bd false,.bd false,.bd false,.bd true,.cl [aI (enX p c k).d] (.agg (vlA ⟨true,(enX p c k).d⟩)) [],.fz,.cl [.agg (pgA p),.agg (cfA c), aI k,.row 2 1 (vlC [(⟨true,(enX p c k).d⟩:Vl)])] (.bool ta) []] [] (.bool ta) []):=ar (dl p (dx p c (dy c (cj (rf (k:Int)) (cj h0 (cj (af.2 k1) (cj (af.2 k5) (cj (af.2 k4) (cj (af.2 k2) (cj (aG.2 k3) (cj (rf ((enX p c k).d)) (cj (zf (enX p c k).d) (dl p (dx p c (dy c (cj (rf (k:Int)) (cj (rf (1:Nat)) (cj (rr 1 2 fun i j=>vlC [Vl.mk true (enX p c k).d] i j) (cj h1 (cj (rf ta) trivial))))))))))))))))))))
theorem Ce(p:Pg)(c:Cf)(k:Nat)(ta:Bool)(h0:kP p c k)(h1:pC_ 42 [.agg (pgA p),.agg (cfA c), aI k,.row 2 1 (vlC [(enX p c k).a])] (.bool ta) [])(k1: ¬(enX p c k).kind=1)(k5: ¬(enX p c k).kind=5)(k4: ¬(enX p c k).kind=4)(k2: ¬(enX p c k).kind=2)(k3: ¬(enX p c k).kind=3)(k7:(enX p c k).kind=7):Vc (vF_ 25 [.agg (pgA p),.agg (cfA c), aI k] [.fv,.fv,kR p c k,.bd false,.bd false,.bd false,.bd false,.bd false,.bd true,.fz,.cl [.agg (pgA p),.agg (cfA c), aI k,.row 2 1 (vlC [(enX p c k).a])] (.bool ta) []] [] (.bool ta) []):=ar (dl p (dx p c (dy c (cj (rf (k:Int)) (cj h0 (cj (af.2 k1) (cj (af.2 k5) (cj (af.2 k4) (cj (af.2 k2) (cj (af.2 k3) (cj (aG.2 k7) (dl p (dx p c (dy c (cj (rf (k:Int)) (cj (rf (1:Nat)) (cj (rr 1 2 fun i j=>vlC [(enX p c k).a] i j) (cj h1 (cj (rf ta) trivial)))))))))))))))))))
theorem Cc(p:Pg)(c:Cf)(k:Nat)(h0:kP p c k)(k1: ¬(enX p c k).kind=1)(k5: ¬(enX p c k).kind=5)(k4: ¬(enX p c k).kind=4)(k2: ¬(enX p c k).kind=2)(k3: ¬(enX p c k).kind=3)(k7: ¬(enX p c k).kind=7)(k9:(enX p c k).kind=9):Vc (vF_ 25 [.agg (pgA p),.agg (cfA c), aI k] [.fv,.fv,kR p c k,.bd false,.bd false,.bd false,.bd false,.bd false,.bd false,.bd true] [] (.bool true) []):=ar (dl p (dx p c (dy c (cj (rf (k:Int)) (cj h0 (cj (af.2 k1) (cj (af.2 k5) (cj (af.2 k4) (cj (af.2 k2) (cj (af.2 k3) (cj (af.2 k7) (cj (aG.2 k9) (cj (rf true) trivial)))))))))))))
theorem Cb(p:Pg)(c:Cf)(k:Nat)(h0:kP p c k)(k1: ¬(enX p c k).kind=1)(k5: ¬(enX p c k).kind=5)(k4: ¬(enX p c k).kind=4)(k2: ¬(enX p c k).kind=2)(k3: ¬(enX p c k).kind=3)(k7: ¬(enX p c k).kind=7)(k9: ¬(enX p c k).kind=9):Vc (vF_ 25 [.agg (pgA p),.agg (cfA c), aI k] [.fv,.fv,kR p c k,.bd false,.bd false,.bd false,.bd false,.bd false,.bd false,.bd false] [] (.bool false) []):=ar (dl p (dx p c (dy c (cj (rf (k:Int)) (cj h0 (cj (af.2 k1) (cj (af.2 k5) (cj (af.2 k4) (cj (af.2 k2) (cj (af.2 k3) (cj (af.2 k7) (cj (af.2 k9) (cj (rf false) trivial)))))))))))))
theorem Cj(p:Pg)(c:Cf)(k:Nat)(ta:Bool)(h0:kP p c k)(h1:pC_ 44 [.agg (pgA p),.agg (cfA c), aI k] (.bool ta) [])(k1: ¬(enX p c k).kind=1)(k5: ¬(enX p c k).kind=5)(k4: ¬(enX p c k).kind=4)(k2:(enX p c k).kind=2):Vc (vF_ 25 [.agg (pgA p),.agg (cfA c), aI k] [.fv,.fv,kR p c k,.bd false,.bd false,.bd false,.bd true,.cl [.agg (pgA p),.agg (cfA c), aI k] (.bool ta) []] [] (.bool ta) []):=ar (dl p (dx p c (dy c (cj (rf (k:Int)) (cj h0 (cj (af.2 k1) (cj (af.2 k5) (cj (af.2 k4) (cj (aG.2 k2) (dl p (dx p c (dy c (cj (rf (k:Int)) (cj h1 (cj (rf ta) trivial)))))))))))))))
theorem xrC(p:Pg)(c:Cf)(k:Nat)(hk:k<c.b.length)(hb:c.b.length<1000000)(hv:Sml p c)(hP:OkP p)(hm:c.s.m.length=aQ p.ms):pC_ 25 [.agg (pgA p),.agg (cfA c),.int .i64 k] (.bool (cnK p c k (enX p c k))) []:=by
 have h0:=kL p c k hk
 unfold cnK
 by_cases k1:(enX p c k).kind=1
 ·rw[ao k1];exact PureC.vc (Ck p c k _ h0 (wb p c k hb (enX p c k).a (enX p c k).b) k1)
 rw[aj k1]
 by_cases k5:(enX p c k).kind=5
 ·rw[ao k5];exact PureC.vc (Cg p c k _ h0 (wb p c k hb (enX p c k).a (enX p c k).b) k1 k5)
 rw[aj k5]
 by_cases k4:(enX p c k).kind=4
 ·rw[ao k4];exact PureC.vc (Ch p c k _ h0 (B9 p c k hb (enX p c k).a (enX p c k).b (⟨true,(enX p c k).d⟩:Vl)) k1 k5 k4)
 rw[aj k4]
 by_cases k2:(enX p c k).kind=2
 ·rw[ao k2];exact PureC.vc (Cj p c k _ h0 (Ca p c k hk hb hv hP hm) k1 k5 k4 k2)
 rw[aj k2]
 by_cases k3:(enX p c k).kind=3
 ·rw[ao k3];exact PureC.vc (Ci p c k _ h0 (y9 p c k hb (⟨true,(enX p c k).d⟩:Vl)) k1 k5 k4 k2 k3)
 rw[aj k3]
 by_cases k7:(enX p c k).kind=7
 ·rw[ao k7];exact PureC.vc (Ce p c k _ h0 (y9 p c k hb (enX p c k).a) k1 k5 k4 k2 k3 k7)
 rw[aj k7]
 by_cases k9:(enX p c k).kind=9
 ·rw[show((enX p c k).kind==9)=true from aG.2 k9];exact PureC.vc (Cc p c k h0 k1 k5 k4 k2 k3 k7 k9)
 ·rw[show((enX p c k).kind==9)=false from af.2 k9];exact PureC.vc (Cb p c k h0 k1 k5 k4 k2 k3 k7 k9)
theorem Cv(p:Pg)(c:Cf)(i:Int)(hO:pC_ 24 [.agg (pgA p),.agg (cfA c), aI i] (.bool false) []):Vc (vF_ 11 [.agg (pgA p),.agg (cfA c), aI i] [.fv,.fv,.cl [.agg (pgA p),.agg (cfA c), aI i] (.bool false) []] [] (.bool false) []):=ar (dl p (dx p c (dy c (cj (rf i) (cj hO (cj (rf false) trivial))))))
abbrev q9(p:Pg)(c:Cf)(k:Nat):Prop:=PureC Try.prog 24 [.agg (pgA p),.agg (cfA c),.int .i64 k] (.bool true) []
abbrev rA(p:Pg)(c:Cf)(k:Nat):Orc:= .cl [.agg (pgA p),.agg (cfA c), aI k] (.bool true) []
theorem Cy(p:Pg)(c:Cf)(k:Nat)(hk:k<c.b.length)(hb:c.b.length<1000000)(hO:q9 p c k)(hd:(c.b.getD k default).dn=true):Vc (vF_ 11 [.agg (pgA p),.agg (cfA c), aI k] [.fv,.fv,rA p c k,.lv (enR c.b),.lv (.bool true)] [] (.bool false) []):=ar (dl p (dx p c (dy c (cj (rf (k:Int)) (cj hO (cj (rf (Option.some (AV.row (nat_lit 8) c.b.length fun(a a_1:Nat)=>au enC c.b a a_1))) (cj (bi k c.b.length) (cj (congrArg (fun b=>some (AV.bool b)) hd) (cj (rf false) trivial)))))))))
theorem Cw(p:Pg)(c:Cf)(k:Nat)(hk:k<c.b.length)(hb:c.b.length<1000000)(hO:q9 p c k)(hd:(c.b.getD k default).dn=false)(ta:Bool)(h1:pC_ 25 [.agg (pgA p),.agg (cfA c), aI k] (.bool ta) []):Vc (vF_ 11 [.agg (pgA p),.agg (cfA c), aI k] [.fv,.fv,rA p c k,.lv (enR c.b),.lv (.bool false),.cl [.agg (pgA p),.agg (cfA c), aI k] (.bool ta) []] [] (.bool ta) []):=ar (dl p (dx p c (dy c (cj (rf (k:Int)) (cj hO (cj (rf (Option.some (AV.row (nat_lit 8) c.b.length fun(a a_1:Nat)=>au enC c.b a a_1))) (cj (bi k c.b.length) (cj (congrArg (fun b=>some (AV.bool b)) hd) (dl p (dx p c (dy c (cj (rf (k:Int)) (cj h1 (cj (rf ta) trivial))))))))))))))
theorem zC(p:Pg)(c:Cf)(i:Int)(hb:c.b.length<1000000)(hv:Sml p c)(hP:OkP p)(hm:c.s.m.length=aQ p.ms):pC_ 11 [.agg (pgA p),.agg (cfA c),.int .i64 i] (.bool (cnV p c i)) []:=by
 have hO:=zh p c i hb
 cases ho:opV p c i with
 |false=>
  rw[ho] at hO
  have e:cnV p c i=false:=by unfold cnV;rw[ho];rfl
  rw[e]
  exact PureC.vc (Cv p c i hO)
 |true=>
  rw[ho] at hO
  obtain⟨k,rfl,hk⟩:=lQ ho
  cases hd:(c.b.getD k default).dn with
  |true=>
   have e:cnV p c k=false:=by unfold cnV;rw[ho,aE,hd];rfl
   rw[e]
   exact PureC.vc (Cy p c k hk hb hO hd)
  |false=>
   have e:cnV p c k=cnK p c k (enX p c k):=by unfold cnV;rw[ho,aE,hd];rfl
   rw[e]
   exact PureC.vc (Cw p c k hk hb hO hd _ (xrC p c k hk hb hv hP hm))
theorem Cl(p:Pg)(c:Cf)(i:Int)(hO:pC_ 24 [.agg (pgA p),.agg (cfA c), aI i] (.bool false) []):Vc (vF_ 19 [.agg (pgA p),.agg (cfA c), aI i] [.fv,.fv,.cl [.agg (pgA p),.agg (cfA c), aI i] (.bool false) []] [] (.bool false) []):=ar (dl p (dx p c (dy c (cj (rf i) (cj hO (cj (rf false) trivial))))))
theorem Co(p:Pg)(c:Cf)(k:Nat)(hk:k<c.b.length)(hb:c.b.length<1000000)(hO:q9 p c k)(hn:(c.b.getD k default).kn=true):Vc (vF_ 19 [.agg (pgA p),.agg (cfA c), aI k] [.fv,.fv,rA p c k,.lv (enR c.b),.lv (.bool true)] [] (.bool false) []):=ar (dl p (dx p c (dy c (cj (rf (k:Int)) (cj hO (cj (rf (Option.some (AV.row (nat_lit 8) c.b.length fun(a a_1:Nat)=>au enC c.b a a_1))) (cj (bi k c.b.length) (cj (congrArg (fun b=>some (AV.bool b)) hn) (cj (rf false) trivial)))))))))
theorem Cn(p:Pg)(c:Cf)(k:Nat)(hk:k<c.b.length)(hb:c.b.length<1000000)(hO:q9 p c k)(hn:(c.b.getD k default).kn=false)(h0:kP p c k)(k3: ¬(enX p c k).kind=3):Vc (vF_ 19 [.agg (pgA p),.agg (cfA c), aI k] [.fv,.fv,rA p c k,.lv (enR c.b),.lv (.bool false),kR p c k,.bd true] [] (.bool false) []):=ar (dl p (dx p c (dy c (cj (rf (k:Int)) (cj hO (cj (rf (Option.some (AV.row (nat_lit 8) c.b.length fun(a a_1:Nat)=>au enC c.b a a_1))) (cj (bi k c.b.length) (cj (congrArg (fun b=>some (AV.bool b)) hn) (dl p (dx p c (dy c (cj (rf (k:Int)) (cj h0 (cj (n1 ((enX p c k).kind) 3) (cj (rf false) trivial)))))))))))))))
theorem Cm(p:Pg)(c:Cf)(k:Nat)(hk:k<c.b.length)(hb:c.b.length<1000000)(hO:q9 p c k)(hn:(c.b.getD k default).kn=false)(h0:kP p c k)(va:Int)(ta:Bool)(h1:pC_ 37 [.agg (pgA p),.agg (cfA c), aI k] (.tup [aI va,.bool ta]) [])(k3:(enX p c k).kind=3):Vc (vF_ 19 [.agg (pgA p),.agg (cfA c), aI k] [.fv,.fv,rA p c k,.lv (enR c.b),.lv (.bool false),kR p c k,.bd false,.cl [.agg (pgA p),.agg (cfA c), aI k] (.tup [aI va,.bool ta]) []] [] (.bool ta) []):=ar (dl p (dx p c (dy c (cj (rf (k:Int)) (cj hO (cj (rf (Option.some (AV.row (nat_lit 8) c.b.length fun(a a_1:Nat)=>au enC c.b a a_1))) (cj (bi k c.b.length) (cj (congrArg (fun b=>some (AV.bool b)) hn) (dl p (dx p c (dy c (cj (rf (k:Int)) (cj h0 (cj (n0 ((enX p c k).kind) 3) (dl p (dx p c (dy c (cj (rf (k:Int)) (cj h1 (cj (rf ta) trivial))))))))))))))))))))
theorem zD(p:Pg)(c:Cf)(i:Int)(hb:c.b.length<1000000)(hv:Sml p c):pC_ 19 [.agg (pgA p),.agg (cfA c),.int .i64 i] (.bool (caV p c i)) []:=by
 have hO:=zh p c i hb
 cases ho:opV p c i with
 |false=>
  rw[ho] at hO
  have e:caV p c i=false:=by unfold caV;rw[ho];rfl
  rw[e]
  exact PureC.vc (Cl p c i hO)
 |true=>
  rw[ho] at hO
  obtain⟨k,rfl,hk⟩:=lQ ho
  cases hn:(c.b.getD k default).kn with
  |true=>
   have e:caV p c k=false:=by unfold caV;rw[ho,aE,hn];rfl
   rw[e]
   exact PureC.vc (Co p c k hk hb hO hn)
  |false=>
   have e:caV p c k=((enX p c k).kind==3&&tAB p c k (enX p c k)):=by unfold caV;rw[ho,aE,hn];rfl
   rw[e]
   have h0:=kL p c k hk
   by_cases k3:(enX p c k).kind=3
   ·rw[show((enX p c k).kind==3)=true from aG.2 k3,Bool.true_and]
    exact PureC.vc (Cm p c k hk hb hO hn h0 _ _ (tq p c k hk hb hv) k3)
   ·rw[show((enX p c k).kind==3)=false from af.2 k3];exact PureC.vc (Cn p c k hk hb hO hn h0 k3)
def aF(W c len:Int)(i:In)(s:S8):S8×List Ob×Int:=
 if i.kind=1 then((s.set i.d (Wd.doV W i.op (vlV W s i.a) (vlV W s i.b))).go (s.pc+1),[],0)
 else if i.kind=4 then(if vlV W s i.a=0 then s.go (s.pc+1) else(s.set i.d (vlV W s i.b)).go (s.pc+1),[],0)
 else if i.kind=2 then(if Wd.maskV W (vlV W s i.a+vlV W s i.b)<c then((s.set i.d (s.m.getD (Wd.maskV W (vlV W s i.a+vlV W s i.b)).toNat 0)).go (s.pc+1),[⟨1,Wd.maskV W (vlV W s i.a+vlV W s i.b)⟩],0) else(s,[],2))
 else if i.kind=3 then(if Wd.maskV W (vlV W s i.a+vlV W s i.b)<c then({s with m:=s.m.set (Wd.maskV W (vlV W s i.a+vlV W s i.b)).toNat (s.reg i.d),pc:=s.pc+1},[⟨2,Wd.maskV W (vlV W s i.a+vlV W s i.b)⟩],0) else(s,[],2))
 else if i.kind=5 then(if Wd.doV W i.op (vlV W s i.a) (vlV W s i.b)=0 then(s.go (s.pc+1),[⟨3,s.pc+1⟩],0) else(s.go i.tg,[⟨3,i.tg⟩],0))
 else if i.kind=6 then(s.go i.tg,[],0)
 else if i.kind=7 then(s.go (if len<vlV W s i.a then len else vlV W s i.a),[⟨3,if len<vlV W s i.a then len else vlV W s i.a⟩],0)
 else if i.kind=8 then(if 4<=s.st.length then(s,[],2) else({s with st:=s.st++[s.pc+1],pc:=i.tg},[],0))
 else if i.kind=9 then(if s.st.length=0 then(s,[],2) else({s with st:=s.st.take (s.st.length-1),pc:=s.st.getD (s.st.length-1) 0},[⟨3,s.st.getD (s.st.length-1) 0⟩],0))
 else if i.kind=10 then(s.go (s.pc+1),[],0)
 else if i.kind=11 then(s,[],1)
 else(s,[],2)
def mcA(p:Pg)(c:Int)(s:S8)(am ak sn:AV):List AV:=pgA p++[.int .i64 c]++s8A s am ak++[sn]
def mcC(p:Pg)(c:Int)(s:S8)(am ak sn:AV)(q:Nat):AV:=(mcA p c s am ak sn).getD q .junk
def mcP(p:Pg)(c:Int)(s:S8)(am ak sn:AV):AV:= .rptr 19 (mcC p c s am ak sn) 0
theorem wD(p:Pg)(c:Int)(s:S8)(r:Int)(h0:0<=r)(h1:r<4):Vc (vF_ 84 [(mcP p c s .junk .junk .junk), aI r] [.b true,.b true,.b true,.b false,.iz,.lv (aI (s.reg r))] [] (aI (s.reg r)) []):=ar (cj (dt ((0:Int)<=r)) (cj (dt ((0:Int)<=r)) (cj (dt ((0:Int)<=r)) (cj (pv ((!decide (r<4))=false)) (cj (bi r (4:Nat)) (cj (show jM Try.prog (3:Nat) (19:Nat) (mcC p c s AV.junk AV.junk AV.junk) ((11:Nat)+Int.toNat r*1)=Option.some (aI (s.reg r)) from by rcases ki h0 h1 with rfl |rfl |rfl |rfl<;>kernel_rfl) (cj (rf (s.reg r)) trivial)))))))
theorem vA(p:Pg)(c:Int)(s:S8)(r:Int)(h0:0<=r)(h1:r<4):pC_ 84 [(mcP p c s .junk .junk .junk),.int .i64 r] (.int .i64 (s.reg r)) []:=PureC.vc (wD p c s r h0 h1)
theorem mq(p:Pg)(c:Int)(s:S8){Z:Prop}(z:Z):(RF p.ls.length (RR p.ls.length 2 (fun i j=>au lbC p.ls i j) (RF p.is.length (RR p.is.length 9 (fun i j=>au inC p.is i j) (RF c (RF s.r0 (RF s.r1 (RF s.r2 (RF s.r3 Z))))))))):=⟨rfl,fun _ _ _ _=>rfl,rfl,fun _ _ _ _=>rfl,rfl,rfl,rfl,rfl,rfl,z⟩
theorem mo(p:Pg){Z:Prop}(z:Z):(RF p.W (RF p.win (RF p.fuel (RF p.r0 (RF p.r1 (RF p.r2 (RF p.r3 (RF p.ms.length (RR p.ms.length 3 (fun i j=>au mmC p.ms i j) Z))))))))):=⟨rfl,rfl,rfl,rfl,rfl,rfl,rfl,rfl,fun _ _ _ _=>rfl,z⟩
theorem wY(p:Pg)(c:Int)(s:S8)(n:Int)(h0:0<=n)(h1:n<4):Vc (vF_ 72 [(mcP p c s .junk .junk .junk),.agg [.bool true, aI n]] [.fz,.cl [(mcP p c s .junk .junk .junk), aI n] (aI (s.reg n)) []] [] (aI (s.reg n)) []):=ar (mo p (mq p c s (cj (rf s.pc) (cj (rf n) (cj (vA p c s n h0 h1) (cj (rf (s.reg n)) trivial))))))
theorem wZ(p:Pg)(c:Int)(s:S8)(n:Int):Vc (vF_ 72 [(mcP p c s .junk .junk .junk),.agg [.bool false, aI n]] [.fz,.cl [aI p.W, aI n] (aI (Wd.maskV p.W n)) []] [] (aI (Wd.maskV p.W n)) []):=ar (cj (rf p.W) (cj (rf n) (cj (bz p.W n) (cj (rf (Wd.maskV p.W n)) trivial))))
theorem iR(p:Pg)(c:Int)(s:S8)(x:Vl)(hx:okV x):pC_ 72 [(mcP p c s .junk .junk .junk),.agg (vlA x)] (.int .i64 (vlV p.W s x)) []:=by
 obtain⟨b,n⟩:=x
 cases b with
 |true=>exact PureC.vc (wY p c s n (hx rfl).1 (hx rfl).2)
 |false=>exact PureC.vc (wZ p c s n)
theorem u7(s:S8)(i:In){Z:Prop}(z:Z):(RF s.pc (RF i.b.reg (RF i.b.n Z))):=⟨rfl,rfl,rfl,z⟩
theorem u6(s:S8)(i:In){Z:Prop}(z:Z):(RF s.pc (RF i.a.reg (RF i.a.n Z))):=⟨rfl,rfl,rfl,z⟩
theorem w5(p:Pg)(c:Int)(s:S8)(i:In)(ha:okV i.a)(hb:okV i.b):Vc (vF_ 79 [(mcP p c s .junk .junk .junk),.agg (inA i)] [.fz,.cl [(mcP p c s .junk .junk .junk),.agg (vlA i.a)] (aI (vlV p.W s i.a)) [],.cl [(mcP p c s .junk .junk .junk),.agg (vlA i.b)] (aI (vlV p.W s i.b)) [],.cl [aI p.W, aI i.op, aI (vlV p.W s i.a), aI (vlV p.W s i.b)] (.tup [aI (Wd.doV p.W i.op (vlV p.W s i.a) (vlV p.W s i.b)),.bool (Wd.doB p.W i.op)]) []] [] (aI (Wd.doV p.W i.op (vlV p.W s i.a) (vlV p.W s i.b))) []):=ar (mo p (mq p c s (u6 s i (cj (iR p c s i.a ha) (mo p (mq p c s (u7 s i (cj (iR p c s i.b hb) (cj (rf p.W) (cj (rf i.op) (cj (rf (vlV p.W s i.a)) (cj (rf (vlV p.W s i.b)) (cj (CD p.W i.op (vlV p.W s i.a) (vlV p.W s i.b)) (cj (rf (Wd.doV p.W i.op (vlV p.W s i.a) (vlV p.W s i.b))) trivial))))))))))))))
theorem w6(p:Pg)(c:Int)(s:S8)(i:In)(ha:okV i.a)(hb:okV i.b):pC_ 79 [(mcP p c s .junk .junk .junk),.agg (inA i)] (.int .i64 (Wd.doV p.W i.op (vlV p.W s i.a) (vlV p.W s i.b))) []:=PureC.vc (w5 p c s i ha hb)
theorem xS(p:Pg)(c:Int)(s:S8)(i:In)(ha:okV i.a)(hb:okV i.b)(hs:okR s):Vc (vF_ 80 [(mcP p c s .junk .junk .junk),.agg (inA i)] [.fz,.cl [(mcP p c s .junk .junk .junk),.agg (vlA i.a)] (aI (vlV p.W s i.a)) [],.cl [(mcP p c s .junk .junk .junk),.agg (vlA i.b)] (aI (vlV p.W s i.b)) [],.cl [aI p.W, aI ((vlV p.W s i.a)+(vlV p.W s i.b))] (aI (Wd.maskV p.W ((vlV p.W s i.a)+(vlV p.W s i.b)))) []] [] (.tup [aI (Wd.maskV p.W ((vlV p.W s i.a)+(vlV p.W s i.b))),.bool (decide ((Wd.maskV p.W ((vlV p.W s i.a)+(vlV p.W s i.b)))<c))]) []):=ar (mo p (mq p c s (u6 s i (cj (iR p c s i.a ha) (mo p (mq p c s (u7 s i (cj (iR p c s i.b hb) (cj (show inK IntKind.i64 (vlV p.W s i.a+vlV p.W s i.b) from(rX (by have:=lF (W:=p.W) hs i.a;have:=lF (W:=p.W) hs i.b;omega) (by have:=lF (W:=p.W) hs i.a;have:=lF (W:=p.W) hs i.b;omega))) (cj (rf p.W) (cj (rf (vlV p.W s i.a+vlV p.W s i.b)) (cj (bz p.W ((vlV p.W s i.a)+(vlV p.W s i.b))) (cj (rf (Wd.maskV p.W (vlV p.W s i.a+vlV p.W s i.b))) (cj (rf (decide (Wd.maskV p.W (vlV p.W s i.a+vlV p.W s i.b)<c))) trivial))))))))))))))
theorem oF(p:Pg)(c:Int)(s:S8)(i:In)(ha:okV i.a)(hb:okV i.b)(hs:okR s):pC_ 80 [(mcP p c s .junk .junk .junk),.agg (inA i)] (.tup [.int .i64 (Wd.maskV p.W ((vlV p.W s i.a)+(vlV p.W s i.b))),.bool (decide ((Wd.maskV p.W ((vlV p.W s i.a)+(vlV p.W s i.b)))<c))]) []:=PureC.vc (xS p c s i ha hb hs)
theorem uL(p:Pg)(c:Int)(s:S8)(n:Int)(h0:0<=n)(h1:n<s.m.length):Vc (vF_ 82 [(mcP p c s (.row 1 s.m.length (dD s.m)) .junk .junk), aI n] [.b false] [] (aI (s.m.getD n.toNat 0)) []):=ar (cj (df (n>=(↑s.m.length:Int))) (cj (bi n s.m.length) (cj (rf (s.m.getD (Int.toNat n) (0:Int))) trivial)))
theorem w7(p:Pg)(c:Int)(s:S8)(n:Int)(h0:0<=n)(h1:n<s.m.length):pC_ 82 [(mcP p c s (.row 1 s.m.length (dD s.m)) .junk .junk),.int .i64 n] (.int .i64 (s.m.getD n.toNat 0)) []:=PureC.vc (uL p c s n h0 h1)
def obB(l:List Ob):Blk:=⟨0,false,49,.rows 2 l.length (au obC l)⟩
def mcO(p:Pg)(c:Int)(s:S8)(sn:List Ob):List AV:=mcA p c s (.own 2 0 1 0 s.m.length) (.own 3 0 1 0 s.st.length) (.own 4 0 2 0 sn.length)
def bV(p:Pg)(c:Int)(s:S8)(sn:List Ob)(n done e:Int):Sm:=⟨[(2,.int .i64 n),(6,.bptr 0 0),(10,.bptr 1 0),(11,.int .i64 done),(12,.int .i64 e)],
 [(0,bx 36 (stZ .nils)),(1,bx 101 (mcO p c s sn)),(2,gd s.m),(3,gd s.st),(4,obB sn)],5⟩
theorem u5(s:S8)(sn:List Ob)(n:Int)(done:Int){Z:Prop}(z:Z):(RF s.st.length (RR s.st.length 1 (fun i j=>aI (s.st.getD i 0)) (RF sn.length (RR sn.length 2 (fun i j=>au obC sn i j) (RF n (RF (done+1) (RF (0:Int) Z))))))):=⟨rfl,fun _ _ _ _=>rfl,rfl,fun _ _ _ _=>rfl,rfl,rfl,rfl,z⟩
theorem u0(s:S8)(sn:List Ob){Z:Prop}(z:Z):(RF (0:Nat) (RF s.m.length (RF (0:Nat) (RF s.st.length (RF (s.pc+1) (RF (0:Nat) (RF sn.length (RF s.m.length (RR s.m.length 1 (fun i j=>aI (s.m.getD i 0)) Z))))))))):=⟨rfl,rfl,rfl,rfl,rfl,rfl,rfl,rfl,fun _ _ _ _=>rfl,z⟩
theorem dk(p:Pg){Z:Prop}(z:Z):(RF p.r1 (RF p.r2 (RF p.r3 (RF p.ms.length (RR p.ms.length 3 (fun i j=>au mmC p.ms i j) (RF p.ls.length (RR p.ls.length 2 (fun i j=>au lbC p.ls i j) (RF p.is.length (RR p.is.length 9 (fun i j=>au inC p.is i j) Z))))))))):=⟨rfl,rfl,rfl,rfl,fun _ _ _ _=>rfl,rfl,fun _ _ _ _=>rfl,rfl,fun _ _ _ _=>rfl,z⟩
theorem dj(p:Pg){Z:Prop}(z:Z):(RF (0:Int) (RF (0:Int) (RF (0:Int) (RF (0:Int) (RF (0:Int) (RF p.W (RF p.win (RF p.fuel (RF p.r0 Z))))))))):=⟨rfl,rfl,rfl,rfl,rfl,rfl,rfl,rfl,rfl,z⟩
theorem ev(p:Pg)(c:Int)(s:S8){Z:Prop}(z:Z):(RF p.ls.length (RR p.ls.length 2 (fun i j=>au lbC p.ls i j) (RF p.is.length (RR p.is.length 9 (fun i j=>au inC p.is i j) (RF c (RF s.r0 (RF s.r1 (RF s.r2 (RF s.r3 Z))))))))):=⟨rfl,fun _ _ _ _=>rfl,rfl,fun _ _ _ _=>rfl,rfl,rfl,rfl,rfl,rfl,z⟩
theorem bT(p:Pg){Z:Prop}(z:Z):(RF p.W (RF p.win (RF p.fuel (RF p.r0 (RF p.r1 (RF p.r2 (RF p.r3 (RF p.ms.length (RR p.ms.length 3 (fun i j=>au mmC p.ms i j) Z))))))))):=⟨rfl,rfl,rfl,rfl,rfl,rfl,rfl,rfl,fun _ _ _ _=>rfl,z⟩
theorem dz(p:Pg)(s:S8){Z:Prop}(z:Z):(RF p.ls.length (RR p.ls.length 2 (fun i j=>au lbC p.ls i j) (RF p.is.length (RR p.is.length 9 (fun i j=>au inC p.is i j) (RF s.pc Z))))):=⟨rfl,fun _ _ _ _=>rfl,rfl,fun _ _ _ _=>rfl,rfl,z⟩
theorem wx(p:Pg)(c:Int)(s:S8)(sn:List Ob)(n done:Int)(op d tg:Int)(a b:Vl)(nm:ByteArray)(hn:done<n)(hn2:n<1000000)(hd0:0<=done)(hp0: -1<=s.pc)(hp1:s.pc<1000000)(hA:pC_ 45 [.agg (pgA p), aI s.pc] (.agg (inA (⟨1,op,d,a,b,nm,tg⟩:In))) [])(h0:0<=d)(h1:d<4)(ha:okV a)(hb:okV b):Vc (vC_ 46 0 (bV p c s sn n done 0) [.b true,.b true,.b true,.inl,.cl [.agg (pgA p), aI s.pc] (.agg (inA (⟨1,op,d,a,b,nm,tg⟩:In))) [],.fz,.cp [(mcP p c s .junk .junk .junk),.agg (inA (⟨1,op,d,a,b,nm,tg⟩:In))] (aI (Wd.doV p.W op (vlV p.W s a) (vlV p.W s b))),.b true,.b true,.b true,.b true,.iz,.sv (mcO p c (s.set d (Wd.doV p.W op (vlV p.W s a) (vlV p.W s b))) sn)] .nrm [(0,0),(1,1),(2,2),(3,3),(4,4)] (bV p c ((s.set d (Wd.doV p.W op (vlV p.W s a) (vlV p.W s b))).go (s.pc+1)) sn n (done+1) 0)):=ar (cj (dt (done<n)) (cj (dt (done<n)) (cj (dt (done<n)) (bT p (dz p s (cj hA (bT p (ev p c s (cj (rf s.pc) (cj (rf (1:Int)) (cj (rf op) (cj (rf d) (cj (rf a.reg) (cj (rf a.n) (cj (rf b.reg) (cj (rf b.n) (cj (rf nm) (cj (rf tg) (cj (w6 p c s (⟨1,op,d,a,b,nm,tg⟩:In) ha hb) (cj (dt ((0:Int)<=d)) (cj (dt ((0:Int)<=d)) (cj (dt ((0:Int)<=d)) (cj (dt (d<4)) (cj (bi d (4:Nat)) (cj (pv ((11:Nat)+Int.toNat d*1+1<=19)) (cj (show setR [aI p.W,aI p.win,aI p.fuel,aI p.r0,aI p.r1,aI p.r2,aI p.r3,AV.row (nat_lit 3) p.ms.length fun(a a_1:Nat)=>au mmC p.ms a a_1,AV.row (nat_lit 2) p.ls.length fun(a a_1:Nat)=>au lbC p.ls a a_1,AV.row (nat_lit 9) p.is.length fun(a a_1:Nat)=>au inC p.is a a_1,aI c,aI s.r0,aI s.r1,aI s.r2,aI s.r3,AV.own (nat_lit 2) (nat_lit 0) (nat_lit 1) (nat_lit 0) s.m.length,AV.own (nat_lit 3) (nat_lit 0) (nat_lit 1) (nat_lit 0) s.st.length,aI s.pc,AV.own (nat_lit 4) (nat_lit 0) (nat_lit 2) (nat_lit 0) sn.length] ((11:Nat)+Int.toNat d*1) [aI (Wd.doV p.W op (vlV p.W s a) (vlV p.W s b))]=[aI p.W,aI p.win,aI p.fuel,aI p.r0,aI p.r1,aI p.r2,aI p.r3,AV.row (nat_lit 3) p.ms.length fun(a a_1:Nat)=>au mmC p.ms a a_1,AV.row (nat_lit 2) p.ls.length fun(a a_1:Nat)=>au lbC p.ls a a_1,AV.row (nat_lit 9) p.is.length fun(a a_1:Nat)=>au inC p.is a a_1,aI c,aI (if d=0 then Wd.doV p.W op (vlV p.W s a) (vlV p.W s b) else s.r0),aI (if d=1 then Wd.doV p.W op (vlV p.W s a) (vlV p.W s b) else s.r1),aI (if d=2 then Wd.doV p.W op (vlV p.W s a) (vlV p.W s b) else s.r2),aI (if d=3 then Wd.doV p.W op (vlV p.W s a) (vlV p.W s b) else s.r3),AV.own (nat_lit 2) (nat_lit 0) (nat_lit 1) (nat_lit 0) s.m.length,AV.own (nat_lit 3) (nat_lit 0) (nat_lit 1) (nat_lit 0) s.st.length,aI s.pc,AV.own (nat_lit 4) (nat_lit 0) (nat_lit 2) (nat_lit 0) sn.length] from by rcases ki h0 h1 with rfl |rfl |rfl |rfl<;>rfl) (cj (i6 (s.pc+1)) (cj (i6 (done+1)) (dj p (dk p (cj (rf c) (cj (rf (if d=0 then Wd.doV p.W op (vlV p.W s a) (vlV p.W s b) else s.r0)) (cj (rf (if d=1 then Wd.doV p.W op (vlV p.W s a) (vlV p.W s b) else s.r1)) (cj (rf (if d=2 then Wd.doV p.W op (vlV p.W s a) (vlV p.W s b) else s.r2)) (cj (rf (if d=3 then Wd.doV p.W op (vlV p.W s a) (vlV p.W s b) else s.r3)) (u0 s sn (u5 s sn n done trivial)))))))))))))))))))))))))))))))))))))
theorem ge(n:Int)(done:Int){Z:Prop}(z:Z):(RF n (RF (done+1) (RF (0:Int) Z))):=⟨rfl,rfl,rfl,z⟩
theorem uZ(s:S8)(sn:List Ob){Z:Prop}(z:Z):(RF (s.pc+1) (RF (0:Nat) (RF sn.length (RF s.m.length (RR s.m.length 1 (fun i j=>aI (s.m.getD i 0)) (RF s.st.length (RR s.st.length 1 (fun i j=>aI (s.st.getD i 0)) (RF sn.length (RR sn.length 2 (fun i j=>au obC sn i j) Z))))))))):=⟨rfl,rfl,rfl,rfl,fun _ _ _ _=>rfl,rfl,fun _ _ _ _=>rfl,rfl,fun _ _ _ _=>rfl,z⟩
theorem fc(c:Int)(s:S8){Z:Prop}(z:Z):(RF c (RF s.r0 (RF s.r1 (RF s.r2 (RF s.r3 (RF (0:Nat) (RF s.m.length (RF (0:Nat) (RF s.st.length Z))))))))):=⟨rfl,rfl,rfl,rfl,rfl,rfl,rfl,rfl,rfl,z⟩
theorem nO(s:S8)(n:Int)(a:Vl){Z:Prop}(z:Z):(RF s.pc (RF a.reg (RF a.n Z))):=⟨rfl,rfl,rfl,z⟩
abbrev rq(p:Pg)(c:Int)(s:S8)(a:Vl):Orc:= .cp [(mcP p c s .junk .junk .junk),.agg (vlA a)] (aI (vlV p.W s a))
theorem qG(p:Pg)(c:Int)(s:S8)(sn:List Ob)(n done:Int)(op d tg:Int)(a b:Vl)(nm:ByteArray)(hn:done<n)(hn2:n<1000000)(hd0:0<=done)(hp0: -1<=s.pc)(hp1:s.pc<1000000)(hA:pC_ 45 [.agg (pgA p), aI s.pc] (.agg (inA (⟨4,op,d,a,b,nm,tg⟩:In))) [])(ha:okV a)(hz:(vlV p.W s a)=0):Vc (vC_ 46 0 (bV p c s sn n done 0) [.b true,.b true,.b true,.inl,.cl [.agg (pgA p), aI s.pc] (.agg (inA (⟨4,op,d,a,b,nm,tg⟩:In))) [],.inl,.fz,rq p c s a,.b false] .nrm [(0,0),(1,1),(2,2),(3,3),(4,4)] (bV p c (s.go (s.pc+1)) sn n (done+1) 0)):=ar (cj (dt (done<n)) (cj (dt (done<n)) (cj (dt (done<n)) (bT p (dz p s (cj hA (bT p (ev p c s (nO s n a (cj (iR p c s a ha) (cj (show(vlV p.W s a !=(0:Int))=false from by rw[hz];rfl) (cj (i6 (s.pc+1)) (cj (i6 (done+1)) (dj p (dk p (fc c s (uZ s sn (ge n done trivial))))))))))))))))))
theorem qF(p:Pg)(c:Int)(s:S8)(sn:List Ob)(n done:Int)(op d tg:Int)(a b:Vl)(nm:ByteArray)(hn:done<n)(hn2:n<1000000)(hd0:0<=done)(hp0: -1<=s.pc)(hp1:s.pc<1000000)(hA:pC_ 45 [.agg (pgA p), aI s.pc] (.agg (inA (⟨4,op,d,a,b,nm,tg⟩:In))) [])(ha:okV a)(hb:okV b)(hz: ¬(vlV p.W s a)=0)(h0:0<=d)(h1:d<4):Vc (vC_ 46 0 (bV p c s sn n done 0) [.b true,.b true,.b true,.inl,.cl [.agg (pgA p), aI s.pc] (.agg (inA (⟨4,op,d,a,b,nm,tg⟩:In))) [],.inl,.fz,rq p c s a,.b true,.cp [(mcP p c s .junk .junk .junk),.agg (vlA b)] (aI (vlV p.W s b)),.b true,.b true,.b true,.b true,.iz,.sv (mcO p c (s.set d (vlV p.W s b)) sn)] .nrm [(0,0),(1,1),(2,2),(3,3),(4,4)] (bV p c ((s.set d (vlV p.W s b)).go (s.pc+1)) sn n (done+1) 0)):=ar (cj (dt (done<n)) (cj (dt (done<n)) (cj (dt (done<n)) (bT p (dz p s (cj hA (bT p (ev p c s (nO s n a (cj (iR p c s a ha) (cj (kA.2 hz) (bT p (ev p c s (cj (rf s.pc) (cj (rf b.reg) (cj (rf b.n) (cj (iR p c s b hb) (cj (dt ((0:Int)<=d)) (cj (dt ((0:Int)<=d)) (cj (dt ((0:Int)<=d)) (cj (dt (d<4)) (cj (bi d (4:Nat)) (cj (pv ((11:Nat)+Int.toNat d*1+1<=19)) (cj (show setR [aI p.W,aI p.win,aI p.fuel,aI p.r0,aI p.r1,aI p.r2,aI p.r3,AV.row (nat_lit 3) p.ms.length fun(a a_1:Nat)=>au mmC p.ms a a_1,AV.row (nat_lit 2) p.ls.length fun(a a_1:Nat)=>au lbC p.ls a a_1,AV.row (nat_lit 9) p.is.length fun(a a_1:Nat)=>au inC p.is a a_1,aI c,aI s.r0,aI s.r1,aI s.r2,aI s.r3,AV.own (nat_lit 2) (nat_lit 0) (nat_lit 1) (nat_lit 0) s.m.length,AV.own (nat_lit 3) (nat_lit 0) (nat_lit 1) (nat_lit 0) s.st.length,aI s.pc,AV.own (nat_lit 4) (nat_lit 0) (nat_lit 2) (nat_lit 0) sn.length] ((11:Nat)+Int.toNat d*1) [aI (vlV p.W s b)]=[aI p.W,aI p.win,aI p.fuel,aI p.r0,aI p.r1,aI p.r2,aI p.r3,AV.row (nat_lit 3) p.ms.length fun(a a_1:Nat)=>au mmC p.ms a a_1,AV.row (nat_lit 2) p.ls.length fun(a a_1:Nat)=>au lbC p.ls a a_1,AV.row (nat_lit 9) p.is.length fun(a a_1:Nat)=>au inC p.is a a_1,aI c,aI (if d=0 then vlV p.W s b else s.r0),aI (if d=1 then vlV p.W s b else s.r1),aI (if d=2 then vlV p.W s b else s.r2),aI (if d=3 then vlV p.W s b else s.r3),AV.own (nat_lit 2) (nat_lit 0) (nat_lit 1) (nat_lit 0) s.m.length,AV.own (nat_lit 3) (nat_lit 0) (nat_lit 1) (nat_lit 0) s.st.length,aI s.pc,AV.own (nat_lit 4) (nat_lit 0) (nat_lit 2) (nat_lit 0) sn.length] from by rcases ki h0 h1 with rfl |rfl |rfl |rfl<;>rfl) (cj (i6 (s.pc+1)) (cj (i6 (done+1)) (dj p (dk p (cj (rf c) (cj (rf (if d=0 then vlV p.W s b else s.r0)) (cj (rf (if d=1 then vlV p.W s b else s.r1)) (cj (rf (if d=2 then vlV p.W s b else s.r2)) (cj (rf (if d=3 then vlV p.W s b else s.r3)) (u0 s sn (u5 s sn n done trivial)))))))))))))))))))))))))))))))))))
theorem zM{l:List Int}{x:Int}: ∀i,i<l.length+1-> ∀j,j<1->(bif Nat.blt i l.length then AV.int .i64 (l.getD i 0) else[AV.int .i64 x].getD ((i-l.length)*1+j) .junk)= .int .i64 ((l++[x]).getD i 0):=by
 intro i hi j hj
 obtain rfl:j=0:=by omega
 by_cases h:i<l.length
 ·have:Nat.blt i l.length=true:=by rw[bc];exact h
  rw[this]
  simp[List.getD,bj h]
 ·obtain rfl:i=l.length:=by omega
  have:Nat.blt l.length l.length=false:=by
   cases hb:Nat.blt l.length l.length with
   |false=>rfl
   |true=>rw[bc] at hb;omega
  rw[this]
  simp[List.getD]
theorem jw(n:Int)(done:Int){Z:Prop}(z:Z):(RF n (RF (done+1) (RF (2:Int) Z))):=⟨rfl,rfl,rfl,z⟩
theorem hG(s:S8)(sn:List Ob){Z:Prop}(z:Z):(RF s.pc (RF (0:Nat) (RF sn.length (RF s.m.length (RR s.m.length 1 (fun i j=>aI (s.m.getD i 0)) (RF s.st.length (RR s.st.length 1 (fun i j=>aI (s.st.getD i 0)) (RF sn.length (RR sn.length 2 (fun i j=>au obC sn i j) Z))))))))):=⟨rfl,rfl,rfl,rfl,fun _ _ _ _=>rfl,rfl,fun _ _ _ _=>rfl,rfl,fun _ _ _ _=>rfl,z⟩
theorem pV(s:S8)(n:Int)(op:Int)(d:Int)(a:Vl)(b:Vl)(nm:ByteArray){Z:Prop}(z:Z):(RF s.pc (RF (2:Int) (RF op (RF d (RF a.reg (RF a.n (RF b.reg (RF b.n (RF nm Z))))))))):=⟨rfl,rfl,rfl,rfl,rfl,rfl,rfl,rfl,rfl,z⟩
abbrev vv(p:Pg)(c:Int)(s:S8)(op:Int)(d:Int)(tg:Int)(a:Vl)(b:Vl)(nm:ByteArray):Orc:= .cp [(mcP p c s .junk .junk .junk),.agg (inA (⟨2,op,d,a,b,nm,tg⟩:In))] (.tup [aI (Wd.maskV p.W ((vlV p.W s a)+(vlV p.W s b))),.bool (decide ((Wd.maskV p.W ((vlV p.W s a)+(vlV p.W s b)))<c))])
theorem qC(p:Pg)(c:Int)(s:S8)(sn:List Ob)(n done:Int)(op d tg:Int)(a b:Vl)(nm:ByteArray)(hn:done<n)(hn2:n<1000000)(hd0:0<=done)(hp0: -1<=s.pc)(hp1:s.pc<1000000)(hA:pC_ 45 [.agg (pgA p), aI s.pc] (.agg (inA (⟨2,op,d,a,b,nm,tg⟩:In))) [])(ha:okV a)(hb:okV b)(hc:c=s.m.length)(hs:okR s)(hx: ¬(Wd.maskV p.W ((vlV p.W s a)+(vlV p.W s b)))<c):Vc (vC_ 46 0 (bV p c s sn n done 0) [.b true,.b true,.b true,.inl,.cl [.agg (pgA p), aI s.pc] (.agg (inA (⟨2,op,d,a,b,nm,tg⟩:In))) [],.inl,.fz,vv p c s op d tg a b nm,.b true] .nrm [(0,0),(1,1),(2,2),(3,3),(4,4)] (bV p c s sn n (done+1) 2)):=ar (cj (dt (done<n)) (cj (dt (done<n)) (cj (dt (done<n)) (bT p (dz p s (cj hA (bT p (ev p c s (pV s n op d a b nm (cj (rf tg) (cj (oF p c s (⟨2,op,d,a,b,nm,tg⟩:In) ha hb hs) (cj (show(!decide (Wd.maskV p.W (vlV p.W s a+vlV p.W s b)<c))=true from by rw[dQ hx];rfl) (cj (i6 (done+1)) (dj p (dk p (fc c s (hG s sn (jw n done trivial))))))))))))))))))
theorem pU(s:S8)(n:Int)(op:Int)(d:Int)(a:Vl)(b:Vl)(nm:ByteArray){Z:Prop}(z:Z):(RF s.pc (RF (3:Int) (RF op (RF d (RF a.reg (RF a.n (RF b.reg (RF b.n (RF nm Z))))))))):=⟨rfl,rfl,rfl,rfl,rfl,rfl,rfl,rfl,rfl,z⟩
abbrev vu(p:Pg)(c:Int)(s:S8)(op:Int)(d:Int)(tg:Int)(a:Vl)(b:Vl)(nm:ByteArray):Orc:= .cp [(mcP p c s .junk .junk .junk),.agg (inA (⟨3,op,d,a,b,nm,tg⟩:In))] (.tup [aI (Wd.maskV p.W ((vlV p.W s a)+(vlV p.W s b))),.bool (decide ((Wd.maskV p.W ((vlV p.W s a)+(vlV p.W s b)))<c))])
theorem pb(p:Pg)(c:Int)(s:S8)(sn:List Ob)(n done:Int)(op d tg:Int)(a b:Vl)(nm:ByteArray)(hn:done<n)(hn2:n<1000000)(hd0:0<=done)(hp0: -1<=s.pc)(hp1:s.pc<1000000)(hA:pC_ 45 [.agg (pgA p), aI s.pc] (.agg (inA (⟨3,op,d,a,b,nm,tg⟩:In))) [])(ha:okV a)(hb:okV b)(hc:c=s.m.length)(hs:okR s)(hx: ¬(Wd.maskV p.W ((vlV p.W s a)+(vlV p.W s b)))<c):Vc (vC_ 46 0 (bV p c s sn n done 0) [.b true,.b true,.b true,.inl,.cl [.agg (pgA p), aI s.pc] (.agg (inA (⟨3,op,d,a,b,nm,tg⟩:In))) [],.inl,.fz,vu p c s op d tg a b nm,.b true] .nrm [(0,0),(1,1),(2,2),(3,3),(4,4)] (bV p c s sn n (done+1) 2)):=ar (cj (dt (done<n)) (cj (dt (done<n)) (cj (dt (done<n)) (bT p (dz p s (cj hA (bT p (ev p c s (pU s n op d a b nm (cj (rf tg) (cj (oF p c s (⟨3,op,d,a,b,nm,tg⟩:In) ha hb hs) (cj (show(!decide (Wd.maskV p.W (vlV p.W s a+vlV p.W s b)<c))=true from by rw[dQ hx];rfl) (cj (i6 (done+1)) (dj p (dk p (fc c s (hG s sn (jw n done trivial))))))))))))))))))
theorem jv(s:S8){Z:Prop}(z:Z):(RF s.m.length (RR s.m.length 1 (fun i j=>aI (s.m.getD i 0)) (RF s.st.length (RR s.st.length 1 (fun i j=>aI (s.st.getD i 0)) Z)))):=⟨rfl,fun _ _ _ _=>rfl,rfl,fun _ _ _ _=>rfl,z⟩
theorem qB(p:Pg)(c:Int)(s:S8)(sn:List Ob)(n done:Int)(op d tg:Int)(a b:Vl)(nm:ByteArray)(hn:done<n)(hn2:n<1000000)(hd0:0<=done)(hp0: -1<=s.pc)(hp1:s.pc<1000000)(hA:pC_ 45 [.agg (pgA p), aI s.pc] (.agg (inA (⟨2,op,d,a,b,nm,tg⟩:In))) [])(ha:okV a)(hb:okV b)(hc:c=s.m.length)(hs:okR s)(h0:0<=d)(h1:d<4)(hx:(Wd.maskV p.W ((vlV p.W s a)+(vlV p.W s b)))<c)(hl:sn.length<1000000):Vc (vC_ 46 0 (bV p c s sn n done 0) [.b true,.b true,.b true,.inl,.cl [.agg (pgA p), aI s.pc] (.agg (inA (⟨2,op,d,a,b,nm,tg⟩:In))) [],.inl,.fz,vv p c s op d tg a b nm,.b false,.inl,.cp [(mcP p c s (.row 1 s.m.length (dD s.m)) .junk .junk), aI (Wd.maskV p.W ((vlV p.W s a)+(vlV p.W s b)))] (aI (s.m.getD (Wd.maskV p.W ((vlV p.W s a)+(vlV p.W s b))).toNat 0)),.b true,.b true,.b true,.b true,.iz,.sv (mcA p c (s.set d (s.m.getD (Wd.maskV p.W ((vlV p.W s a)+(vlV p.W s b))).toNat 0)) (.own 2 0 1 0 s.m.length) (.own 3 0 1 0 s.st.length) (.own 4 1 2 0 (sn.length+1)))] .nrm [(0,0),(1,1),(2,2),(3,3),(4,4)] (bV p c ((s.set d (s.m.getD (Wd.maskV p.W ((vlV p.W s a)+(vlV p.W s b))).toNat 0)).go (s.pc+1)) (sn++[⟨1,(Wd.maskV p.W ((vlV p.W s a)+(vlV p.W s b)))⟩]) n (done+1) 0)):=ar (cj (dt (done<n)) (cj (dt (done<n)) (cj (dt (done<n)) (bT p (dz p s (cj hA (bT p (ev p c s (pV s n op d a b nm (cj (rf tg) (cj (oF p c s (⟨2,op,d,a,b,nm,tg⟩:In) ha hb hs) (cj (show(!decide (Wd.maskV p.W (vlV p.W s a+vlV p.W s b)<c))=false from by rw[cO hx];rfl) (cj (ap sn.length 1 16) (bT p (ev p c s (cj (rf s.m.length) (cj (rr s.m.length 1 fun i j=>aI (s.m.getD i 0)) (cj (rf s.pc) (cj (rf (Wd.maskV p.W (vlV p.W s a+vlV p.W s b))) (cj (show pC_ 82 [(mcP p c s (.row 1 s.m.length (dD s.m)) .junk .junk), aI (Wd.maskV p.W ((vlV p.W s a)+(vlV p.W s b)))] (aI (s.m.getD (Wd.maskV p.W ((vlV p.W s a)+(vlV p.W s b))).toNat 0)) [] from w7 p c s (Wd.maskV p.W ((vlV p.W s a)+(vlV p.W s b))) (Wd.maskV_bd _ _).1 (by rw[<-hc];exact hx)) (cj (dt ((0:Int)<=d)) (cj (dt ((0:Int)<=d)) (cj (dt ((0:Int)<=d)) (cj (dt (d<4)) (cj (bi d (4:Nat)) (cj (pv ((11:Nat)+Int.toNat d*1+1<=19)) (cj (show setR [aI p.W,aI p.win,aI p.fuel,aI p.r0,aI p.r1,aI p.r2,aI p.r3,AV.row (nat_lit 3) p.ms.length fun(a a_1:Nat)=>au mmC p.ms a a_1,AV.row (nat_lit 2) p.ls.length fun(a a_1:Nat)=>au lbC p.ls a a_1,AV.row (nat_lit 9) p.is.length fun(a a_1:Nat)=>au inC p.is a a_1,aI c,aI s.r0,aI s.r1,aI s.r2,aI s.r3,AV.own (nat_lit 2) (nat_lit 0) (nat_lit 1) (nat_lit 0) s.m.length,AV.own (nat_lit 3) (nat_lit 0) (nat_lit 1) (nat_lit 0) s.st.length,aI s.pc,AV.own (nat_lit 4) (nat_lit 1) (nat_lit 2) (nat_lit 0) (sn.length+1)] ((11:Nat)+Int.toNat d*1) [aI (s.m.getD (Int.toNat (Wd.maskV p.W (vlV p.W s a+vlV p.W s b))) 0)]=[aI p.W,aI p.win,aI p.fuel,aI p.r0,aI p.r1,aI p.r2,aI p.r3,AV.row (nat_lit 3) p.ms.length fun(a a_1:Nat)=>au mmC p.ms a a_1,AV.row (nat_lit 2) p.ls.length fun(a a_1:Nat)=>au lbC p.ls a a_1,AV.row (nat_lit 9) p.is.length fun(a a_1:Nat)=>au inC p.is a a_1,aI c,aI (if d=0 then s.m.getD (Int.toNat (Wd.maskV p.W (vlV p.W s a+vlV p.W s b))) (0:Int) else s.r0),aI (if d=1 then s.m.getD (Int.toNat (Wd.maskV p.W (vlV p.W s a+vlV p.W s b))) (0:Int) else s.r1),aI (if d=2 then s.m.getD (Int.toNat (Wd.maskV p.W (vlV p.W s a+vlV p.W s b))) (0:Int) else s.r2),aI (if d=3 then s.m.getD (Int.toNat (Wd.maskV p.W (vlV p.W s a+vlV p.W s b))) (0:Int) else s.r3),AV.own (nat_lit 2) (nat_lit 0) (nat_lit 1) (nat_lit 0) s.m.length,AV.own (nat_lit 3) (nat_lit 0) (nat_lit 1) (nat_lit 0) s.st.length,aI s.pc,AV.own (nat_lit 4) (nat_lit 1) (nat_lit 2) (nat_lit 0) (sn.length+1)] from by rcases ki h0 h1 with rfl |rfl |rfl |rfl<;>rfl) (cj (i6 (s.pc+1)) (cj (i6 (done+1)) (dj p (dk p (cj (rf c) (cj (rf (if d=0 then s.m.getD (Int.toNat (Wd.maskV p.W (vlV p.W s a+vlV p.W s b))) (0:Int) else s.r0)) (cj (rf (if d=1 then s.m.getD (Int.toNat (Wd.maskV p.W (vlV p.W s a+vlV p.W s b))) (0:Int) else s.r1)) (cj (rf (if d=2 then s.m.getD (Int.toNat (Wd.maskV p.W (vlV p.W s a+vlV p.W s b))) (0:Int) else s.r2)) (cj (rf (if d=3 then s.m.getD (Int.toNat (Wd.maskV p.W (vlV p.W s a+vlV p.W s b))) (0:Int) else s.r3)) (cj (rf (0:Nat)) (cj (rf s.m.length) (cj (rf (0:Nat)) (cj (rf s.st.length) (cj (rf (s.pc+1)) (cj (rf (0:Nat)) (cj (pv (sn.length+1=(sn++[Ob.mk (1:Int) (Wd.maskV p.W (vlV p.W s a+vlV p.W s b))]).length)) (jv s (cj (pv (sn.length+1=(sn++[Ob.mk (1:Int) (Wd.maskV p.W (vlV p.W s a+vlV p.W s b))]).length)) (cj (show ∀(i:Nat),i<sn.length+1-> ∀(j:Nat),j<2->(bif Nat.blt i sn.length then au obC sn i j else List.getD [aI 1,aI (Wd.maskV p.W (vlV p.W s a+vlV p.W s b))] ((i-sn.length+0)*2+j) AV.junk)=au obC (sn++[Ob.mk (1:Int) (Wd.maskV p.W (vlV p.W s a+vlV p.W s b))]) i j from(fun i hi j hj=>fF (fun h=>(dB h).symm) (fun h=>by obtain rfl:i=_:=dS (dR.mp hi) (bX.mp h);rw[dC,cX];match j,hj with |0,_=>rfl |1,_=>rfl))) (ge n done trivial)))))))))))))))))))))))))))))))))))))))))))))))
theorem o9(p:Pg)(c:Int)(s:S8)(sn:List Ob)(n done:Int)(op d tg:Int)(a b:Vl)(nm:ByteArray)(hn:done<n)(hn2:n<1000000)(hd0:0<=done)(hp0: -1<=s.pc)(hp1:s.pc<1000000)(hA:pC_ 45 [.agg (pgA p), aI s.pc] (.agg (inA (⟨3,op,d,a,b,nm,tg⟩:In))) [])(ha:okV a)(hb:okV b)(hc:c=s.m.length)(hs:okR s)(h0:0<=d)(h1:d<4)(hx:(Wd.maskV p.W ((vlV p.W s a)+(vlV p.W s b)))<c)(hl:sn.length<1000000):Vc (vC_ 46 0 (bV p c s sn n done 0) [.b true,.b true,.b true,.inl,.cl [.agg (pgA p), aI s.pc] (.agg (inA (⟨3,op,d,a,b,nm,tg⟩:In))) [],.inl,.fz,vu p c s op d tg a b nm,.b false,.inl,.cp [(mcP p c s .junk .junk .junk), aI d] (aI (s.reg d)),.b true] .nrm [(0,0),(1,1),(2,2),(3,3),(4,4)] (bV p c {s with m:=s.m.set (Wd.maskV p.W ((vlV p.W s a)+(vlV p.W s b))).toNat (s.reg d),pc:=s.pc+1} (sn++[⟨2,(Wd.maskV p.W ((vlV p.W s a)+(vlV p.W s b)))⟩]) n (done+1) 0)):=ar (cj (dt (done<n)) (cj (dt (done<n)) (cj (dt (done<n)) (bT p (dz p s (cj hA (bT p (ev p c s (pU s n op d a b nm (cj (rf tg) (cj (oF p c s (⟨3,op,d,a,b,nm,tg⟩:In) ha hb hs) (cj (show(!decide (Wd.maskV p.W (vlV p.W s a+vlV p.W s b)<c))=false from by rw[cO hx];rfl) (cj (ap sn.length 1 16) (bT p (ev p c s (cj (rf s.pc) (cj (rf d) (cj (vA p c s d h0 h1) (cj (show decide (Wd.maskV p.W (vlV p.W s a+vlV p.W s b)<(↑s.m.length:Int))=true from(cO (by rw[<-hc];exact hx))) (cj (show(0:Int)<=Wd.maskV p.W (vlV p.W s a+vlV p.W s b)∧Wd.maskV p.W (vlV p.W s a+vlV p.W s b)<(↑s.m.length:Int) from⟨(Wd.maskV_bd _ _).1,by rw[<-hc];exact hx⟩) (cj (show Int.toNat (Wd.maskV p.W (vlV p.W s a+vlV p.W s b))+0<s.m.length from by have:=(Wd.maskV_bd p.W ((vlV p.W s a)+(vlV p.W s b))).1;rw[hc] at hx;omega) (cj (i6 (s.pc+1)) (cj (i6 (done+1)) (dj p (dk p (cj (rf c) (cj (rf s.r0) (cj (rf s.r1) (cj (rf s.r2) (cj (rf s.r3) (cj (rf (0:Nat)) (cj (show s.m.length=(List.set s.m (Int.toNat (Wd.maskV p.W (vlV p.W s a+vlV p.W s b))) (s.reg d)).length from aN.symm) (cj (rf (0:Nat)) (cj (rf s.st.length) (cj (rf (s.pc+1)) (cj (rf (0:Nat)) (cj (pv (sn.length+1=(sn++[Ob.mk (2:Int) (Wd.maskV p.W (vlV p.W s a+vlV p.W s b))]).length)) (cj (show s.m.length=(List.set s.m (Int.toNat (Wd.maskV p.W (vlV p.W s a+vlV p.W s b))) (s.reg d)).length from aN.symm) (cj (show ∀(i:Nat),i<s.m.length-> ∀(j:Nat),j<1->(bif Nat.ble (0:Nat) j&&Nat.blt j (1:Nat)&&Nat.beq i (Int.toNat (Wd.maskV p.W (vlV p.W s a+vlV p.W s b))+0) then List.getD [aI (s.reg d)] (j-0) AV.junk else aI (s.m.getD i 0))=aI (List.getD (List.set s.m (Int.toNat (Wd.maskV p.W (vlV p.W s a+vlV p.W s b))) (s.reg d)) i 0) from(fun i hi j hj=>tL i hi j hj)) (cj (rf s.st.length) (cj (rr s.st.length 1 fun i j=>aI (s.st.getD i 0)) (cj (pv (sn.length+1=(sn++[Ob.mk (2:Int) (Wd.maskV p.W (vlV p.W s a+vlV p.W s b))]).length)) (cj (show ∀(i:Nat),i<sn.length+1-> ∀(j:Nat),j<2->(bif Nat.blt i sn.length then au obC sn i j else List.getD [aI 2,aI (Wd.maskV p.W (vlV p.W s a+vlV p.W s b))] ((i-sn.length+0)*2+j) AV.junk)=au obC (sn++[Ob.mk (2:Int) (Wd.maskV p.W (vlV p.W s a+vlV p.W s b))]) i j from(fun i hi j hj=>fF (fun h=>(dB h).symm) (fun h=>by obtain rfl:i=_:=dS (dR.mp hi) (bX.mp h);rw[dC,cX];match j,hj with |0,_=>rfl |1,_=>rfl))) (ge n done trivial))))))))))))))))))))))))))))))))))))))))))))
theorem pT(s:S8)(n:Int)(op:Int)(d:Int)(a:Vl)(b:Vl)(nm:ByteArray){Z:Prop}(z:Z):(RF s.pc (RF (5:Int) (RF op (RF d (RF a.reg (RF a.n (RF b.reg (RF b.n (RF nm Z))))))))):=⟨rfl,rfl,rfl,rfl,rfl,rfl,rfl,rfl,rfl,z⟩
theorem ww(p:Pg)(c:Int)(s:S8)(sn:List Ob)(n done:Int)(op d tg:Int)(a b:Vl)(nm:ByteArray)(hn:done<n)(hn2:n<1000000)(hd0:0<=done)(hp0: -1<=s.pc)(hp1:s.pc<1000000)(hA:pC_ 45 [.agg (pgA p), aI s.pc] (.agg (inA (⟨5,op,d,a,b,nm,tg⟩:In))) [])(ha:okV a)(hb:okV b)(hz:(Wd.doV p.W op (vlV p.W s a) (vlV p.W s b))=0)(hl:sn.length<1000000):Vc (vC_ 46 0 (bV p c s sn n done 0) [.b true,.b true,.b true,.inl,.cl [.agg (pgA p), aI s.pc] (.agg (inA (⟨5,op,d,a,b,nm,tg⟩:In))) [],.inl,.fz,.cp [(mcP p c s .junk .junk .junk),.agg (inA (⟨5,op,d,a,b,nm,tg⟩:In))] (aI (Wd.doV p.W op (vlV p.W s a) (vlV p.W s b))),.b false] .nrm [(0,0),(1,1),(2,2),(3,3),(4,4)] (bV p c (s.go (s.pc+1)) (sn++[⟨3,s.pc+1⟩]) n (done+1) 0)):=ar (cj (dt (done<n)) (cj (dt (done<n)) (cj (dt (done<n)) (bT p (dz p s (cj hA (bT p (ev p c s (pT s n op d a b nm (cj (rf tg) (cj (w6 p c s (⟨5,op,d,a,b,nm,tg⟩:In) ha hb) (cj (show(Wd.doV p.W op (vlV p.W s a) (vlV p.W s b) !=(0:Int))=false from by rw[hz];rfl) (cj (i6 (s.pc+1)) (cj (ap sn.length 1 16) (cj (i6 (done+1)) (dj p (dk p (fc c s (cj (rf (s.pc+1)) (cj (rf (0:Nat)) (cj (pv (sn.length+1=(sn++[Ob.mk (3:Int) (s.pc+1)]).length)) (jv s (cj (pv (sn.length+1=(sn++[Ob.mk (3:Int) (s.pc+1)]).length)) (cj (show ∀(i:Nat),i<sn.length+1-> ∀(j:Nat),j<2->(bif Nat.blt i sn.length then au obC sn i j else List.getD [aI 3,aI (s.pc+1)] ((i-sn.length+0)*2+j) AV.junk)=au obC (sn++[Ob.mk (3:Int) (s.pc+1)]) i j from(fun i hi j hj=>fF (fun h=>(dB h).symm) (fun h=>by obtain rfl:i=_:=dS (dR.mp hi) (bX.mp h);rw[dC,cX];match j,hj with |0,_=>rfl |1,_=>rfl))) (ge n done trivial)))))))))))))))))))))))))
theorem wv(p:Pg)(c:Int)(s:S8)(sn:List Ob)(n done:Int)(op d tg:Int)(a b:Vl)(nm:ByteArray)(hn:done<n)(hn2:n<1000000)(hd0:0<=done)(hp0: -1<=s.pc)(hp1:s.pc<1000000)(hA:pC_ 45 [.agg (pgA p), aI s.pc] (.agg (inA (⟨5,op,d,a,b,nm,tg⟩:In))) [])(ha:okV a)(hb:okV b)(hz: ¬(Wd.doV p.W op (vlV p.W s a) (vlV p.W s b))=0)(hl:sn.length<1000000):Vc (vC_ 46 0 (bV p c s sn n done 0) [.b true,.b true,.b true,.inl,.cl [.agg (pgA p), aI s.pc] (.agg (inA (⟨5,op,d,a,b,nm,tg⟩:In))) [],.inl,.fz,.cp [(mcP p c s .junk .junk .junk),.agg (inA (⟨5,op,d,a,b,nm,tg⟩:In))] (aI (Wd.doV p.W op (vlV p.W s a) (vlV p.W s b))),.b true] .nrm [(0,0),(1,1),(2,2),(3,3),(4,4)] (bV p c (s.go tg) (sn++[⟨3,tg⟩]) n (done+1) 0)):=ar (cj (dt (done<n)) (cj (dt (done<n)) (cj (dt (done<n)) (bT p (dz p s (cj hA (bT p (ev p c s (pT s n op d a b nm (cj (rf tg) (cj (w6 p c s (⟨5,op,d,a,b,nm,tg⟩:In) ha hb) (cj (kA.2 hz) (cj (ap sn.length 1 16) (cj (i6 (done+1)) (dj p (dk p (fc c s (cj (rf tg) (cj (rf (0:Nat)) (cj (pv (sn.length+1=(sn++[Ob.mk (3:Int) tg]).length)) (jv s (cj (pv (sn.length+1=(sn++[Ob.mk (3:Int) tg]).length)) (cj (show ∀(i:Nat),i<sn.length+1-> ∀(j:Nat),j<2->(bif Nat.blt i sn.length then au obC sn i j else List.getD [aI 3,aI tg] ((i-sn.length+0)*2+j) AV.junk)=au obC (sn++[Ob.mk (3:Int) tg]) i j from(fun i hi j hj=>fF (fun h=>(dB h).symm) (fun h=>by obtain rfl:i=_:=dS (dR.mp hi) (bX.mp h);rw[dC,cX];match j,hj with |0,_=>rfl |1,_=>rfl))) (ge n done trivial))))))))))))))))))))))))
theorem wt(p:Pg)(c:Int)(s:S8)(sn:List Ob)(n done:Int)(op d tg:Int)(a b:Vl)(nm:ByteArray)(hn:done<n)(hn2:n<1000000)(hd0:0<=done)(hp0: -1<=s.pc)(hp1:s.pc<1000000)(hA:pC_ 45 [.agg (pgA p), aI s.pc] (.agg (inA (⟨6,op,d,a,b,nm,tg⟩:In))) []):Vc (vC_ 46 0 (bV p c s sn n done 0) [.b true,.b true,.b true,.inl,.cl [.agg (pgA p), aI s.pc] (.agg (inA (⟨6,op,d,a,b,nm,tg⟩:In))) []] .nrm [(0,0),(1,1),(2,2),(3,3),(4,4)] (bV p c (s.go tg) sn n (done+1) 0)):=ar (cj (dt (done<n)) (cj (dt (done<n)) (cj (dt (done<n)) (bT p (dz p s (cj hA (cj (i6 (done+1)) (dj p (dk p (fc c s (cj (rf tg) (cj (rf (0:Nat)) (cj (rf sn.length) (cj (rf s.m.length) (cj (rr s.m.length 1 fun i j=>aI (s.m.getD i 0)) (cj (rf s.st.length) (cj (rr s.st.length 1 fun i j=>aI (s.st.getD i 0)) (cj (rf sn.length) (cj (rr sn.length 2 fun i j=>au obC sn i j) (ge n done trivial))))))))))))))))))))
theorem wu(p:Pg)(c:Int)(s:S8)(sn:List Ob)(n done:Int)(op d tg:Int)(a b:Vl)(nm:ByteArray)(hn:done<n)(hn2:n<1000000)(hd0:0<=done)(hp0: -1<=s.pc)(hp1:s.pc<1000000)(hA:pC_ 45 [.agg (pgA p), aI s.pc] (.agg (inA (⟨7,op,d,a,b,nm,tg⟩:In))) [])(ha:okV a)(hl:sn.length<1000000):Vc (vC_ 46 0 (bV p c s sn n done 0) [.b true,.b true,.b true,.inl,.cl [.agg (pgA p), aI s.pc] (.agg (inA (⟨7,op,d,a,b,nm,tg⟩:In))) [],rq p c s a] .nrm [(0,0),(1,1),(2,2),(3,3),(4,4)] (bV p c (s.go (if(p.is.length:Int)<(vlV p.W s a) then(p.is.length:Int) else(vlV p.W s a))) (sn++[⟨3,(if(p.is.length:Int)<(vlV p.W s a) then(p.is.length:Int) else(vlV p.W s a))⟩]) n (done+1) 0)):=ar (cj (dt (done<n)) (cj (dt (done<n)) (cj (dt (done<n)) (bT p (dz p s (cj hA (bT p (ev p c s (nO s n a (cj (iR p c s a ha) (cj (ap sn.length 1 16) (cj (i6 (done+1)) (dj p (dk p (fc c s (cj (rf (if(↑p.is.length:Int)<vlV p.W s a then(↑p.is.length:Int) else vlV p.W s a)) (cj (rf (0:Nat)) (cj (pv (sn.length+1=(sn++[Ob.mk (3:Int) (if(↑p.is.length:Int)<vlV p.W s a then(↑p.is.length:Int) else vlV p.W s a)]).length)) (jv s (cj (pv (sn.length+1=(sn++[Ob.mk (3:Int) (if(↑p.is.length:Int)<vlV p.W s a then(↑p.is.length:Int) else vlV p.W s a)]).length)) (cj (show ∀(i:Nat),i<sn.length+1-> ∀(j:Nat),j<2->(bif Nat.blt i sn.length then au obC sn i j else List.getD [aI 3,aI (if(↑p.is.length:Int)<vlV p.W s a then(↑p.is.length:Int) else vlV p.W s a)] ((i-sn.length+0)*2+j) AV.junk)=au obC (sn++[Ob.mk (3:Int) (if(↑p.is.length:Int)<vlV p.W s a then(↑p.is.length:Int) else vlV p.W s a)]) i j from(fun i hi j hj=>fF (fun h=>(dB h).symm) (fun h=>by obtain rfl:i=_:=dS (dR.mp hi) (bX.mp h);rw[dC,cX];match j,hj with |0,_=>rfl |1,_=>rfl))) (ge n done trivial))))))))))))))))))))))
theorem qI(p:Pg)(c:Int)(s:S8)(sn:List Ob)(n done:Int)(op d tg:Int)(a b:Vl)(nm:ByteArray)(hn:done<n)(hn2:n<1000000)(hd0:0<=done)(hp0: -1<=s.pc)(hp1:s.pc<1000000)(hA:pC_ 45 [.agg (pgA p), aI s.pc] (.agg (inA (⟨8,op,d,a,b,nm,tg⟩:In))) [])(hk:4<=s.st.length)(hk2:s.st.length<1000):Vc (vC_ 46 0 (bV p c s sn n done 0) [.b true,.b true,.b true,.inl,.cl [.agg (pgA p), aI s.pc] (.agg (inA (⟨8,op,d,a,b,nm,tg⟩:In))) [],.fz,.b true] .nrm [(0,0),(1,1),(2,2),(3,3),(4,4)] (bV p c s sn n (done+1) 2)):=ar (cj (dt (done<n)) (cj (dt (done<n)) (cj (dt (done<n)) (bT p (dz p s (cj hA (cj (dt ((↑s.st.length:Int)>=4)) (cj (i6 (done+1)) (dj p (dk p (fc c s (hG s sn (jw n done trivial)))))))))))))
theorem nN(c:Int)(s:S8){Z:Prop}(z:Z):(RF c (RF s.r0 (RF s.r1 (RF s.r2 (RF s.r3 (RF (0:Nat) (RF s.m.length (RF (0:Nat) Z)))))))):=⟨rfl,rfl,rfl,rfl,rfl,rfl,rfl,rfl,z⟩
theorem qH(p:Pg)(c:Int)(s:S8)(sn:List Ob)(n done:Int)(op d tg:Int)(a b:Vl)(nm:ByteArray)(hn:done<n)(hn2:n<1000000)(hd0:0<=done)(hp0: -1<=s.pc)(hp1:s.pc<1000000)(hA:pC_ 45 [.agg (pgA p), aI s.pc] (.agg (inA (⟨8,op,d,a,b,nm,tg⟩:In))) [])(hk: ¬4<=s.st.length):Vc (vC_ 46 0 (bV p c s sn n done 0) [.b true,.b true,.b true,.inl,.cl [.agg (pgA p), aI s.pc] (.agg (inA (⟨8,op,d,a,b,nm,tg⟩:In))) [],.fz,.b false] .nrm [(0,0),(1,1),(2,2),(3,3),(4,4)] (bV p c {s with st:=s.st++[s.pc+1],pc:=tg} sn n (done+1) 0)):=ar (cj (dt (done<n)) (cj (dt (done<n)) (cj (dt (done<n)) (bT p (dz p s (cj hA (cj (df ((↑s.st.length:Int)>=4)) (cj (i6 (s.pc+1)) (cj (ap s.st.length 1 8) (cj (i6 (done+1)) (dj p (dk p (nN c s (cj (pv (s.st.length+1=(s.st++[s.pc+1]).length)) (cj (rf tg) (cj (rf (0:Nat)) (cj (rf sn.length) (cj (rf s.m.length) (cj (rr s.m.length 1 fun i j=>aI (s.m.getD i 0)) (cj (pv (s.st.length+1=(s.st++[s.pc+1]).length)) (cj (show ∀(i:Nat),i<s.st.length+1-> ∀(j:Nat),j<1->(bif Nat.blt i s.st.length then aI (s.st.getD i 0) else List.getD [aI (s.pc+1)] ((i-s.st.length+0)*1+j) AV.junk)=aI (List.getD (s.st++[s.pc+1]) i (0:Int)) from zM) (cj (rf sn.length) (cj (rr sn.length 2 fun i j=>au obC sn i j) (cj (rf n) (cj (rf (done+1)) (cj (rf (0:Int)) trivial))))))))))))))))))))))))))
theorem tz(p:Pg)(c:Int)(s:S8)(sn:List Ob)(n done:Int)(op d tg:Int)(a b:Vl)(nm:ByteArray)(hn:done<n)(hn2:n<1000000)(hd0:0<=done)(hp0: -1<=s.pc)(hp1:s.pc<1000000)(hA:pC_ 45 [.agg (pgA p), aI s.pc] (.agg (inA (⟨9,op,d,a,b,nm,tg⟩:In))) [])(hk:s.st.length=0):Vc (vC_ 46 0 (bV p c s sn n done 0) [.b true,.b true,.b true,.inl,.cl [.agg (pgA p), aI s.pc] (.agg (inA (⟨9,op,d,a,b,nm,tg⟩:In))) [],.inl,.b true] .nrm [(0,0),(1,1),(2,2),(3,3),(4,4)] (bV p c s sn n (done+1) 2)):=ar (cj (dt (done<n)) (cj (dt (done<n)) (cj (dt (done<n)) (bT p (dz p s (cj hA (cj (i6 (s.st.length-1)) (cj (dt ((↑s.st.length:Int)-1<0)) (cj (i6 (done+1)) (dj p (dk p (fc c s (hG s sn (jw n done trivial))))))))))))))
theorem qD(p:Pg)(c:Int)(s:S8)(sn:List Ob)(n done:Int)(op d tg:Int)(a b:Vl)(nm:ByteArray)(hn:done<n)(hn2:n<1000000)(hd0:0<=done)(hp0: -1<=s.pc)(hp1:s.pc<1000000)(hA:pC_ 45 [.agg (pgA p), aI s.pc] (.agg (inA (⟨10,op,d,a,b,nm,tg⟩:In))) []):Vc (vC_ 46 0 (bV p c s sn n done 0) [.b true,.b true,.b true,.inl,.cl [.agg (pgA p), aI s.pc] (.agg (inA (⟨10,op,d,a,b,nm,tg⟩:In))) []] .nrm [(0,0),(1,1),(2,2),(3,3),(4,4)] (bV p c (s.go (s.pc+1)) sn n (done+1) 0)):=ar (cj (dt (done<n)) (cj (dt (done<n)) (cj (dt (done<n)) (bT p (dz p s (cj hA (cj (i6 (s.pc+1)) (cj (i6 (done+1)) (dj p (dk p (fc c s (uZ s sn (ge n done trivial)))))))))))))
theorem tC(p:Pg)(c:Int)(s:S8)(sn:List Ob)(n done:Int)(op d tg:Int)(a b:Vl)(nm:ByteArray)(hn:done<n)(hn2:n<1000000)(hd0:0<=done)(hp0: -1<=s.pc)(hp1:s.pc<1000000)(hA:pC_ 45 [.agg (pgA p), aI s.pc] (.agg (inA (⟨11,op,d,a,b,nm,tg⟩:In))) []):Vc (vC_ 46 0 (bV p c s sn n done 0) [.b true,.b true,.b true,.inl,.cl [.agg (pgA p), aI s.pc] (.agg (inA (⟨11,op,d,a,b,nm,tg⟩:In))) []] .nrm [(0,0),(1,1),(2,2),(3,3),(4,4)] (bV p c s sn n (done+1) 1)):=ar (cj (dt (done<n)) (cj (dt (done<n)) (cj (dt (done<n)) (bT p (dz p s (cj hA (cj (i6 (done+1)) (dj p (dk p (fc c s (hG s sn (cj (rf n) (cj (rf (done+1)) (cj (rf (1:Int)) trivial))))))))))))))
theorem qE(p:Pg)(c:Int)(s:S8)(sn:List Ob)(n done:Int)(op d tg:Int)(a b:Vl)(nm:ByteArray)(hn:done<n)(hn2:n<1000000)(hd0:0<=done)(hp0: -1<=s.pc)(hp1:s.pc<1000000)(hA:pC_ 45 [.agg (pgA p), aI s.pc] (.agg (inA (⟨12,op,d,a,b,nm,tg⟩:In))) []):Vc (vC_ 46 0 (bV p c s sn n done 0) [.b true,.b true,.b true,.inl,.cl [.agg (pgA p), aI s.pc] (.agg (inA (⟨12,op,d,a,b,nm,tg⟩:In))) []] .nrm [(0,0),(1,1),(2,2),(3,3),(4,4)] (bV p c s sn n (done+1) 2)):=ar (cj (dt (done<n)) (cj (dt (done<n)) (cj (dt (done<n)) (bT p (dz p s (cj hA (cj (i6 (done+1)) (dj p (dk p (fc c s (hG s sn (jw n done trivial))))))))))))
def zU(p:Pg)(c:Int)(s:S8)(L:Nat)(pc:Int)(sn:List Ob)(n done e:Int):Sm:=⟨[(2,.int .i64 n),(6,.bptr 0 0),(10,.bptr 1 0),(11,.int .i64 done),(12,.int .i64 e)],
 [(0,bx 36 (stZ .nils)),(1,bx 101 (mcA p c (s.go pc) (.own 2 0 1 0 s.m.length) (.own 3 0 1 0 L) (.own 4 0 2 0 sn.length))),(2,gd s.m),(3,gd s.st),(4,obB sn)],5⟩
theorem ng{l:List Int}:((l.length:Int)-1).toNat=l.length-1:=by omega
theorem zI{l:List Int}{n:Nat}: ∀i,i<n-> ∀j,j<1->dD l i j=dD (l.take n) i j:=by
 intro i hi j hj
 unfold dD
 simp[List.getD,aU,hi]
theorem qA(p:Pg)(c:Int)(s:S8)(sn:List Ob)(n done:Int)(op d tg:Int)(a b:Vl)(nm:ByteArray)(hn:done<n)(hn2:n<1000000)(hd0:0<=done)(hp0: -1<=s.pc)(hp1:s.pc<1000000)(hA:pC_ 45 [.agg (pgA p), aI s.pc] (.agg (inA (⟨9,op,d,a,b,nm,tg⟩:In))) [])(hk: ¬s.st.length=0)(hk2:s.st.length<1000)(hl:sn.length<1000000):Vc (vC_ 46 0 (bV p c s sn n done 0) [.b true,.b true,.b true,.inl,.cl [.agg (pgA p), aI s.pc] (.agg (inA (⟨9,op,d,a,b,nm,tg⟩:In))) [],.inl,.b false] .nrm [(0,0),(1,1),(2,2),(3,3),(4,4)] (zU p c s (s.st.length-1) (s.st.getD (s.st.length-1) 0) (sn++[⟨3,(s.st.getD (s.st.length-1) 0)⟩]) n (done+1) 0)):=ar (cj (dt (done<n)) (cj (dt (done<n)) (cj (dt (done<n)) (bT p (dz p s (cj hA (cj (i6 (s.st.length-1)) (cj (df ((↑s.st.length:Int)-1<0)) (cj (bi (s.st.length-1) s.st.length) (cj (pv (Int.toNat ((↑s.st.length:Int)-1)+0<s.st.length)) (cj (pv ((0:Int)<=s.st.length-1∧(↑s.st.length:Int)-1<=s.st.length)) (cj (ap sn.length 1 16) (cj (i6 (done+1)) (dj p (dk p (nN c s (cj (pv (Int.toNat ((↑s.st.length:Int)-1)=s.st.length-1)) (cj (show s.st.getD (Int.toNat ((↑s.st.length:Int)-1)+0) (0:Int)=s.st.getD (s.st.length-1) (0:Int) from by rw[ng];rfl) (cj (rf (0:Nat)) (cj (pv (sn.length+1=(sn++[Ob.mk (3:Int) (s.st.getD (s.st.length-1) (0:Int))]).length)) (jv s (cj (pv (sn.length+1=(sn++[Ob.mk (3:Int) (s.st.getD (s.st.length-1) (0:Int))]).length)) (cj (show ∀(i:Nat),i<sn.length+1-> ∀(j:Nat),j<2->(bif Nat.blt i sn.length then au obC sn i j else List.getD [aI 3,aI (s.st.getD (Int.toNat (s.st.length-1)+0) 0)] ((i-sn.length+0)*2+j) AV.junk)=au obC (sn++[Ob.mk (3:Int) (s.st.getD (s.st.length-1) (0:Int))]) i j from(fun i hi j hj=>fF (fun h=>(dB h).symm) (fun h=>by obtain rfl:i=_:=dS (dR.mp hi) (bX.mp h);rw[dC,cX];match j,hj with |0,_=>rfl |1,_=>(show AV.int .i64 (s.st.getD (((s.st.length:Int)-1).toNat+0) 0)=_;rw[ng];rfl)))) (ge n done trivial))))))))))))))))))))))))
theorem qz(p:Pg)(c:Int)(s:S8)(sn:List Ob)(n done:Int)(hk: ¬s.st.length=0):Vc (qw 3 (s.st.length-1) (zU p c s (s.st.length-1) (s.st.getD (s.st.length-1) 0) (sn++[⟨3,(s.st.getD (s.st.length-1) 0)⟩]) n (done+1) 0) [(0,0),(1,1),(2,2),(3,3),(4,4)] (bV p c {s with st:=s.st.take (s.st.length-1),pc:=(s.st.getD (s.st.length-1) 0)} (sn++[⟨3,(s.st.getD (s.st.length-1) 0)⟩]) n (done+1) 0)):=ar (cj (pv ((0:Nat)+(s.st.length-1)<=s.st.length-1)) (cj (pv (s.st.length-1<=s.st.length)) (dj p (dk p (nN c s (cj (pv (s.st.length-1=(List.take (s.st.length-1) s.st).length)) (cj (rf (s.st.getD (s.st.length-1) (0:Int))) (cj (rf (0:Nat)) (cj (rf ((sn++[Ob.mk (3:Int) (s.st.getD (s.st.length-1) (0:Int))]).length)) (cj (rf s.m.length) (cj (rr s.m.length 1 fun i j=>aI (s.m.getD i 0)) (cj (pv (s.st.length-1=(List.take (s.st.length-1) s.st).length)) (cj (show ∀(i:Nat),i<s.st.length-1-> ∀(j:Nat),j<1->aI (s.st.getD i 0)=aI (List.getD (List.take (s.st.length-1) s.st) i 0) from zI) (cj (rf ((sn++[Ob.mk (3:Int) (s.st.getD (s.st.length-1) (0:Int))]).length)) (cj (rr ((sn++[Ob.mk (3:Int) (s.st.getD (s.st.length-1) (0:Int))]).length) 2 fun i j=>au obC (sn++[Ob.mk (3:Int) (s.st.getD (s.st.length-1) (0:Int))]) i j) (ge n done trivial))))))))))))))))
structure R8 where
 s:S8
 o:List Ob
 k:Nat
 e:Int
def gb(p:Pg)(c:Int)(s:S8):Nat->R8
 |0=>⟨s,[],0,0⟩
 |n+1=>if(gb p c s n).e=0 then⟨(aF p.W c p.is.length (atI p (gb p c s n).s.pc) (gb p c s n).s).1,(gb p c s n).o++(aF p.W c p.is.length (atI p (gb p c s n).s.pc) (gb p c s n).s).2.1,(gb p c s n).k+1,(aF p.W c p.is.length (atI p (gb p c s n).s.pc) (gb p c s n).s).2.2⟩ else gb p c s n
structure OkZ (p:Pg) (c:Int) (s:S8):Prop where
 reg:okR s
 c:(atI p s.pc).kind=2∨(atI p s.pc).kind=3->c=s.m.length
 pc: -1<=s.pc∧s.pc<=p.is.length
 st:s.st.length<=100
theorem OkS.go{c len:Int}{s:S8}(h:OkS c len s){pc:Int}(hp: -1<=pc∧pc<=len):OkS c len (s.go pc):=⟨h.reg,h.mem,h.c,hp,h.st,h.stk⟩
theorem OkS.set{c len:Int}{s:S8}(h:OkS c len s)(n:Int){v:Int}(hv:0<=v∧v<65536):OkS c len (s.set n v):=⟨wB h.reg n hv,h.mem,h.c,h.pc,h.st,h.stk⟩
theorem wC(p:Pg)(c:Int)(s:S8)(sn:List Ob)(n done:Int)(hP:OkP p)(hs:OkZ p c s)(hl:sn.length<1000000)(hn:done<n)(hn2:n<1000000)(hd0:0<=done):Ok Try.prog (cF Try.prog 46) (lpC Try.prog 46 0) (bV p c s sn n done 0).st .nrm (bV p c (aF p.W c p.is.length (atI p s.pc) s).1 (sn++(aF p.W c p.is.length (atI p s.pc) s).2.1) n (done+1) (aF p.W c p.is.length (atI p s.pc) s).2.2).st:=by
 obtain⟨hi,hpc⟩:=fO hP s.pc
 have hA:=atC p s.pc
 have hcc:=hs.c
 generalize atI p s.pc=i at hi hpc hA hcc
 obtain⟨k,op,d,a,b,nm,tg⟩:=i
 obtain⟨hk,ha,hb,hd,ht⟩:=hi
 simp only at hk ha hb hd ht hpc
 have hp:=hs.pc
 have hlen:=hP.len
 have hp1:s.pc<1000000:=by omega
 have hst:=hs.st
 rcases (by omega:k=1∨k=2∨k=3∨k=4∨k=5∨k=6∨k=7∨k=8∨k=9∨k=10∨k=11∨k=12) with rfl |rfl |rfl |rfl |rfl |rfl |rfl |rfl |rfl |rfl |rfl |rfl
 ·have e:aF p.W c p.is.length ⟨1,op,d,a,b,nm,tg⟩ s=((s.set d (Wd.doV p.W op (vlV p.W s a) (vlV p.W s b))).go (s.pc+1),[],0):=by simp[aF]
  rw[e,br]
  exact Ok.vc (wx p c s sn n done op d tg a b nm hn hn2 hd0 hp.1 hp1 hA hd.1 hd.2 ha hb)
 ·by_cases hx:Wd.maskV p.W (vlV p.W s a+vlV p.W s b)<c
  ·have e:aF p.W c p.is.length ⟨2,op,d,a,b,nm,tg⟩ s=((s.set d (s.m.getD (Wd.maskV p.W (vlV p.W s a+vlV p.W s b)).toNat 0)).go (s.pc+1),[⟨1,Wd.maskV p.W (vlV p.W s a+vlV p.W s b)⟩],0):=by simp[aF,hx]
   rw[e]
   exact Ok.vc (qB p c s sn n done op d tg a b nm hn hn2 hd0 hp.1 hp1 hA ha hb (hcc (.inl rfl)) hs.reg hd.1 hd.2 hx hl)
  ·have e:aF p.W c p.is.length ⟨2,op,d,a,b,nm,tg⟩ s=(s,[],2):=by simp[aF,hx]
   rw[e,br]
   exact Ok.vc (qC p c s sn n done op d tg a b nm hn hn2 hd0 hp.1 hp1 hA ha hb (hcc (.inl rfl)) hs.reg hx)
 ·by_cases hx:Wd.maskV p.W (vlV p.W s a+vlV p.W s b)<c
  ·have e:aF p.W c p.is.length ⟨3,op,d,a,b,nm,tg⟩ s=({s with m:=s.m.set (Wd.maskV p.W (vlV p.W s a+vlV p.W s b)).toNat (s.reg d),pc:=s.pc+1},[⟨2,Wd.maskV p.W (vlV p.W s a+vlV p.W s b)⟩],0):=by simp[aF,hx]
   rw[e]
   exact Ok.vc (o9 p c s sn n done op d tg a b nm hn hn2 hd0 hp.1 hp1 hA ha hb (hcc (.inr rfl)) hs.reg hd.1 hd.2 hx hl)
  ·have e:aF p.W c p.is.length ⟨3,op,d,a,b,nm,tg⟩ s=(s,[],2):=by simp[aF,hx]
   rw[e,br]
   exact Ok.vc (pb p c s sn n done op d tg a b nm hn hn2 hd0 hp.1 hp1 hA ha hb (hcc (.inr rfl)) hs.reg hx)
 ·by_cases hz:vlV p.W s a=0
  ·have e:aF p.W c p.is.length ⟨4,op,d,a,b,nm,tg⟩ s=(s.go (s.pc+1),[],0):=by simp[aF,hz]
   rw[e,br]
   exact Ok.vc (qG p c s sn n done op d tg a b nm hn hn2 hd0 hp.1 hp1 hA ha hz)
  ·have e:aF p.W c p.is.length ⟨4,op,d,a,b,nm,tg⟩ s=((s.set d (vlV p.W s b)).go (s.pc+1),[],0):=by simp[aF,hz]
   rw[e,br]
   exact Ok.vc (qF p c s sn n done op d tg a b nm hn hn2 hd0 hp.1 hp1 hA ha hb hz hd.1 hd.2)
 ·by_cases hz:Wd.doV p.W op (vlV p.W s a) (vlV p.W s b)=0
  ·have e:aF p.W c p.is.length ⟨5,op,d,a,b,nm,tg⟩ s=(s.go (s.pc+1),[⟨3,s.pc+1⟩],0):=by simp[aF,hz]
   rw[e]
   exact Ok.vc (ww p c s sn n done op d tg a b nm hn hn2 hd0 hp.1 hp1 hA ha hb hz hl)
  ·have e:aF p.W c p.is.length ⟨5,op,d,a,b,nm,tg⟩ s=(s.go tg,[⟨3,tg⟩],0):=by simp[aF,hz]
   rw[e]
   exact Ok.vc (wv p c s sn n done op d tg a b nm hn hn2 hd0 hp.1 hp1 hA ha hb hz hl)
 ·have e:aF p.W c p.is.length ⟨6,op,d,a,b,nm,tg⟩ s=(s.go tg,[],0):=by simp[aF]
  rw[e,br]
  exact Ok.vc (wt p c s sn n done op d tg a b nm hn hn2 hd0 hp.1 hp1 hA)
 ·have e:aF p.W c p.is.length ⟨7,op,d,a,b,nm,tg⟩ s=(s.go (if(p.is.length:Int)<vlV p.W s a then(p.is.length:Int) else vlV p.W s a),[⟨3,if(p.is.length:Int)<vlV p.W s a then(p.is.length:Int) else vlV p.W s a⟩],0):=by simp[aF]
  rw[e]
  exact Ok.vc (wu p c s sn n done op d tg a b nm hn hn2 hd0 hp.1 hp1 hA ha hl)
 ·by_cases hk:4<=s.st.length
  ·have e:aF p.W c p.is.length ⟨8,op,d,a,b,nm,tg⟩ s=(s,[],2):=by simp[aF,hk]
   rw[e,br]
   exact Ok.vc (qI p c s sn n done op d tg a b nm hn hn2 hd0 hp.1 hp1 hA hk (by omega))
  ·have e:aF p.W c p.is.length ⟨8,op,d,a,b,nm,tg⟩ s=({s with st:=s.st++[s.pc+1],pc:=tg},[],0):=by simp[aF,hk]
   rw[e,br]
   exact Ok.vc (qH p c s sn n done op d tg a b nm hn hn2 hd0 hp.1 hp1 hA hk)
 ·by_cases hk:s.st.length=0
  ·have e:aF p.W c p.is.length ⟨9,op,d,a,b,nm,tg⟩ s=(s,[],2):=by simp[aF,hk]
   rw[e,br]
   exact Ok.vc (tz p c s sn n done op d tg a b nm hn hn2 hd0 hp.1 hp1 hA hk)
  ·have e:aF p.W c p.is.length ⟨9,op,d,a,b,nm,tg⟩ s=({s with st:=s.st.take (s.st.length-1),pc:=s.st.getD (s.st.length-1) 0},[⟨3,s.st.getD (s.st.length-1) 0⟩],0):=by simp[aF,hk]
   rw[e]
   exact Ok.shr (Ok.vc (qA p c s sn n done op d tg a b nm hn hn2 hd0 hp.1 hp1 hA hk (by omega) hl)) (qz p c s sn n done hk)
 ·have e:aF p.W c p.is.length ⟨10,op,d,a,b,nm,tg⟩ s=(s.go (s.pc+1),[],0):=by simp[aF]
  rw[e,br]
  exact Ok.vc (qD p c s sn n done op d tg a b nm hn hn2 hd0 hp.1 hp1 hA)
 ·have e:aF p.W c p.is.length ⟨11,op,d,a,b,nm,tg⟩ s=(s,[],1):=by simp[aF]
  rw[e,br]
  exact Ok.vc (tC p c s sn n done op d tg a b nm hn hn2 hd0 hp.1 hp1 hA)
 ·have e:aF p.W c p.is.length ⟨12,op,d,a,b,nm,tg⟩ s=(s,[],2):=by simp[aF]
  rw[e,br]
  exact Ok.vc (qE p c s sn n done op d tg a b nm hn hn2 hd0 hp.1 hp1 hA)
theorem x7(s:S8)(sn:List Ob){Z:Prop}(z:Z):(RF s.pc (RF (0:Nat) (RF sn.length (RF s.m.length (RR s.m.length 1 (fun i j=>aI (s.m.getD i 0)) (RF s.st.length (RR s.st.length 1 (fun i j=>aI (s.st.getD i 0)) (RF sn.length (RR sn.length 2 (fun i j=>au obC sn i j) Z))))))))):=⟨rfl,rfl,rfl,rfl,fun _ _ _ _=>rfl,rfl,fun _ _ _ _=>rfl,rfl,fun _ _ _ _=>rfl,z⟩
theorem x6(c:Int)(s:S8){Z:Prop}(z:Z):(RF c (RF s.r0 (RF s.r1 (RF s.r2 (RF s.r3 (RF (0:Nat) (RF s.m.length (RF (0:Nat) (RF s.st.length Z))))))))):=⟨rfl,rfl,rfl,rfl,rfl,rfl,rfl,rfl,rfl,z⟩
theorem uY(p:Pg){Z:Prop}(z:Z):(RF p.r1 (RF p.r2 (RF p.r3 (RF p.ms.length (RR p.ms.length 3 (fun i j=>au mmC p.ms i j) (RF p.ls.length (RR p.ls.length 2 (fun i j=>au lbC p.ls i j) (RF p.is.length (RR p.is.length 9 (fun i j=>au inC p.is i j) Z))))))))):=⟨rfl,rfl,rfl,rfl,fun _ _ _ _=>rfl,rfl,fun _ _ _ _=>rfl,rfl,fun _ _ _ _=>rfl,z⟩
theorem uX(p:Pg){Z:Prop}(z:Z):(RF (0:Int) (RF (0:Int) (RF (0:Int) (RF (0:Int) (RF (0:Int) (RF p.W (RF p.win (RF p.fuel (RF p.r0 Z))))))))):=⟨rfl,rfl,rfl,rfl,rfl,rfl,rfl,rfl,rfl,z⟩
theorem tS(p:Pg)(c:Int)(s:S8)(sn:List Ob)(n done:Int)(hn: ¬done<n)(e:Int):Vc (vC_ 46 0 (bV p c s sn n done e) [.b false,.b false,.b false] (.ext 0) [(0,0),(1,1),(2,2),(3,3),(4,4)] (bV p c s sn n done e)):=ar (cj (df (done<n)) (cj (df (done<n)) (cj (df (done<n)) (uX p (uY p (x6 c s (x7 s sn (cj (rf n) (cj (rf done) (cj (rf e) trivial))))))))))
theorem x5(p:Pg)(s:S8){Z:Prop}(z:Z):(RF (↑(aQ p.ms):Int) (RF s.r0 (RF s.r1 (RF s.r2 (RF s.r3 (RF (0:Nat) (RF s.m.length (RF (0:Nat) (RF s.st.length Z))))))))):=⟨rfl,rfl,rfl,rfl,rfl,rfl,rfl,rfl,rfl,z⟩
theorem x4(p:Pg){Z:Prop}(z:Z):(RF p.W (RF p.r0 (RF p.r1 (RF p.r2 (RF p.r3 (RF p.ms.length (RR p.ms.length 3 (fun i j=>au mmC p.ms i j) Z))))))):=⟨rfl,rfl,rfl,rfl,rfl,rfl,fun _ _ _ _=>rfl,z⟩
abbrev AF(p:Pg):Orc:= .cl [.agg (gi p.W p.r0 p.r1 p.r2 p.r3 (i9 p.ms))] (aI (aQ p.ms)) []
abbrev AG(s:S8):Orc:= .cl [.row 1 s.st.length (dD s.st)] (.own 0 0 1 0 s.st.length) [gd s.st]
theorem pj(p:Pg)(s:S8)(hP:OkP p)(hs:OkZ p ((aQ p.ms:Nat):Int) s):oL_ 46 0 (bV p ((aQ p.ms:Nat):Int) s [] 1 0 0).st (.ext 0) (bV p ((aQ p.ms:Nat):Int) (aF p.W ((aQ p.ms:Nat):Int) p.is.length (atI p s.pc) s).1 (aF p.W ((aQ p.ms:Nat):Int) p.is.length (atI p s.pc) s).2.1 1 1 (aF p.W ((aQ p.ms:Nat):Int) p.is.length (atI p s.pc) s).2.2).st:=
 Ok.loop (P:=Try.prog) (nt:=cF Try.prog 46) (c:=lpC Try.prog 46 0) (F:=fun k=>match k with |0=>bV p ((aQ p.ms:Nat):Int) s [] 1 0 0 |_=>bV p ((aQ p.ms:Nat):Int) (aF p.W ((aQ p.ms:Nat):Int) p.is.length (atI p s.pc) s).1 (aF p.W ((aQ p.ms:Nat):Int) p.is.length (atI p s.pc) s).2.1 1 1 (aF p.W ((aQ p.ms:Nat):Int) p.is.length (atI p s.pc) s).2.2) (m:=1) (x:= .ext 0) (J:=bV p ((aQ p.ms:Nat):Int) (aF p.W ((aQ p.ms:Nat):Int) p.is.length (atI p s.pc) s).1 (aF p.W ((aQ p.ms:Nat):Int) p.is.length (atI p s.pc) s).2.1 1 1 (aF p.W ((aQ p.ms:Nat):Int) p.is.length (atI p s.pc) s).2.2) (fun k hk=>by
  obtain rfl:k=0:=by omega
  exact wC p ((aQ p.ms:Nat):Int) s [] 1 0 hP hs (by show(0:Nat)<1000000;decide) (by omega) (by omega) (by omega)) (Ok.vc (tS p ((aQ p.ms:Nat):Int) _ _ 1 1 (by omega) _)) (by simp)
theorem uW(p:Pg)(s:S8){Z:Prop}(z:Z):(RF (((Prod.fst (aF p.W (↑(aQ p.ms):Int) (↑p.is.length:Int) (atI p s.pc) s)).m).length) (RR (((Prod.fst (aF p.W (↑(aQ p.ms):Int) (↑p.is.length:Int) (atI p s.pc) s)).m).length) 1 (fun i j=>aI (List.getD ((Prod.fst (aF p.W (↑(aQ p.ms):Int) p.is.length (atI p s.pc) s)).m) i 0)) (RF (((Prod.fst (aF p.W (↑(aQ p.ms):Int) (↑p.is.length:Int) (atI p s.pc) s)).st).length) (RR (((Prod.fst (aF p.W (↑(aQ p.ms):Int) (↑p.is.length:Int) (atI p s.pc) s)).st).length) 1 (fun i j=>aI (List.getD ((Prod.fst (aF p.W (↑(aQ p.ms):Int) p.is.length (atI p s.pc) s)).st) i 0)) (RF ((Prod.fst (Prod.snd (aF p.W (↑(aQ p.ms):Int) (↑p.is.length:Int) (atI p s.pc) s))).length) (RR ((Prod.fst (Prod.snd (aF p.W (↑(aQ p.ms):Int) (↑p.is.length:Int) (atI p s.pc) s))).length) 2 (fun i j=>au obC (Prod.fst (Prod.snd (aF p.W (↑(aQ p.ms):Int) (↑p.is.length:Int) (atI p s.pc) s))) i j) (RF ((Prod.fst (aF p.W (↑(aQ p.ms):Int) (↑p.is.length:Int) (atI p s.pc) s)).r0) (RF ((Prod.fst (aF p.W (↑(aQ p.ms):Int) (↑p.is.length:Int) (atI p s.pc) s)).r1) (RF ((Prod.fst (aF p.W (↑(aQ p.ms):Int) (↑p.is.length:Int) (atI p s.pc) s)).r2) Z))))))))):=⟨rfl,fun _ _ _ _=>rfl,rfl,fun _ _ _ _=>rfl,rfl,fun _ _ _ _=>rfl,rfl,rfl,rfl,z⟩
theorem tQ(p:Pg)(s:S8)(hP:OkP p)(hs:OkZ p ((aQ p.ms:Nat):Int) s)(hm:s.m.length<=1000):Vc (vF_ 46 [.agg (pgA p),.agg (s8A s (.row 1 s.m.length (dD s.m)) (.row 1 s.st.length (dD s.st))), aI 1] [.fz,.cl [.row 1 s.m.length (dD s.m)] (.own 0 0 1 0 s.m.length) [gd s.m],AG s,AF p,.lp [(0,2),(1,5),(2,3),(3,4)] (bV p ((aQ p.ms:Nat):Int) s [] 1 0 0) (.ext 0) (bV p ((aQ p.ms:Nat):Int) (aF p.W ((aQ p.ms:Nat):Int) p.is.length (atI p s.pc) s).1 (aF p.W ((aQ p.ms:Nat):Int) p.is.length (atI p s.pc) s).2.1 1 1 (aF p.W ((aQ p.ms:Nat):Int) p.is.length (atI p s.pc) s).2.2),.ll [1]] [(0,2),(1,3),(2,4)] (.tup [.agg (s8A (aF p.W ((aQ p.ms:Nat):Int) p.is.length (atI p s.pc) s).1 (.own 0 0 1 0 (aF p.W ((aQ p.ms:Nat):Int) p.is.length (atI p s.pc) s).1.m.length) (.own 1 0 1 0 (aF p.W ((aQ p.ms:Nat):Int) p.is.length (atI p s.pc) s).1.st.length)),.own 2 0 2 0 (aF p.W ((aQ p.ms:Nat):Int) p.is.length (atI p s.pc) s).2.1.length, aI 1, aI (aF p.W ((aQ p.ms:Nat):Int) p.is.length (atI p s.pc) s).2.2]) [gd (aF p.W ((aQ p.ms:Nat):Int) p.is.length (atI p s.pc) s).1.m,gd (aF p.W ((aQ p.ms:Nat):Int) p.is.length (atI p s.pc) s).1.st,obB (aF p.W ((aQ p.ms:Nat):Int) p.is.length (atI p s.pc) s).2.1]):=ar (cj (rf s.m.length) (cj (rr s.m.length 1 fun i j=>aI (s.m.getD i 0)) (cj (gD (.row s.m) (by omega)) (cj (rf s.st.length) (cj (rr s.st.length 1 fun i j=>aI (s.st.getD i 0)) (cj (gD (.row s.st) (by have:=hs.st;omega)) (x4 p (cj (fZ p.W p.r0 p.r1 p.r2 p.r3 p.ms (by have:=hP.ms;omega) hP.sum) (uX p (uY p (x5 p s (cj (rf s.pc) (cj (rf (0:Nat)) (cj (rf (0:Nat)) (cj (rf s.m.length) (cj (rr s.m.length 1 fun i j=>aI (s.m.getD i 0)) (cj (rf s.st.length) (cj (rr s.st.length 1 fun i j=>aI (s.st.getD i 0)) (cj (rf (0:Nat)) (cj (rf (1:Int)) (cj (rf (0:Int)) (cj (rf (0:Int)) (cj (pj p s hP hs) (uW p s (cj (rf ((Prod.fst (aF p.W (↑(aQ p.ms):Int) (↑p.is.length:Int) (atI p s.pc) s)).r3)) (cj (rf (0:Nat)) (cj (rf (((Prod.fst (aF p.W (↑(aQ p.ms):Int) (↑p.is.length:Int) (atI p s.pc) s)).m).length)) (cj (rf (0:Nat)) (cj (rf (((Prod.fst (aF p.W (↑(aQ p.ms):Int) (↑p.is.length:Int) (atI p s.pc) s)).st).length)) (cj (rf ((Prod.fst (aF p.W (↑(aQ p.ms):Int) (↑p.is.length:Int) (atI p s.pc) s)).pc)) (cj (rf (0:Nat)) (cj (rf ((Prod.fst (Prod.snd (aF p.W (↑(aQ p.ms):Int) (↑p.is.length:Int) (atI p s.pc) s))).length)) (cj (rf (1:Int)) (cj (rf (Prod.snd (Prod.snd (aF p.W (↑(aQ p.ms):Int) (↑p.is.length:Int) (atI p s.pc) s)))) trivial))))))))))))))))))))))))))))))))))
theorem ws(p:Pg)(s:S8)(hP:OkP p)(hs:OkZ p ((aQ p.ms:Nat):Int) s)(hm:s.m.length<=1000):Vc (vF_ 27 [.agg (pgA p),.agg (s8A s (.row 1 s.m.length (dD s.m)) (.row 1 s.st.length (dD s.st)))] [.cl [.agg (pgA p),.agg (s8A s (.row 1 s.m.length (dD s.m)) (.row 1 s.st.length (dD s.st))), aI 1] (.tup [.agg (s8A (aF p.W ((aQ p.ms:Nat):Int) p.is.length (atI p s.pc) s).1 (.own 0 0 1 0 (aF p.W ((aQ p.ms:Nat):Int) p.is.length (atI p s.pc) s).1.m.length) (.own 1 0 1 0 (aF p.W ((aQ p.ms:Nat):Int) p.is.length (atI p s.pc) s).1.st.length)),.own 2 0 2 0 (aF p.W ((aQ p.ms:Nat):Int) p.is.length (atI p s.pc) s).2.1.length, aI 1, aI (aF p.W ((aQ p.ms:Nat):Int) p.is.length (atI p s.pc) s).2.2]) [gd (aF p.W ((aQ p.ms:Nat):Int) p.is.length (atI p s.pc) s).1.m,gd (aF p.W ((aQ p.ms:Nat):Int) p.is.length (atI p s.pc) s).1.st,obB (aF p.W ((aQ p.ms:Nat):Int) p.is.length (atI p s.pc) s).2.1]] [(0,3),(1,4),(2,5)] (.tup [.agg (s8A (aF p.W ((aQ p.ms:Nat):Int) p.is.length (atI p s.pc) s).1 (.own 0 0 1 0 (aF p.W ((aQ p.ms:Nat):Int) p.is.length (atI p s.pc) s).1.m.length) (.own 1 0 1 0 (aF p.W ((aQ p.ms:Nat):Int) p.is.length (atI p s.pc) s).1.st.length)),.own 2 0 2 0 (aF p.W ((aQ p.ms:Nat):Int) p.is.length (atI p s.pc) s).2.1.length, aI (aF p.W ((aQ p.ms:Nat):Int) p.is.length (atI p s.pc) s).2.2]) [gd (aF p.W ((aQ p.ms:Nat):Int) p.is.length (atI p s.pc) s).1.m,gd (aF p.W ((aQ p.ms:Nat):Int) p.is.length (atI p s.pc) s).1.st,obB (aF p.W ((aQ p.ms:Nat):Int) p.is.length (atI p s.pc) s).2.1]):=ar (cj (rf p.W) (cj (rf p.win) (cj (rf p.fuel) (cj (rf p.r0) (cj (rf p.r1) (cj (rf p.r2) (cj (rf p.r3) (cj (rf p.ms.length) (cj (rr p.ms.length 3 fun i j=>au mmC p.ms i j) (cj (rf p.ls.length) (cj (rr p.ls.length 2 fun i j=>au lbC p.ls i j) (cj (rf p.is.length) (cj (rr p.is.length 9 fun i j=>au inC p.is i j) (cj (rf s.r0) (cj (rf s.r1) (cj (rf s.r2) (cj (rf s.r3) (cj (rf s.m.length) (cj (rr s.m.length 1 fun i j=>aI (s.m.getD i 0)) (cj (rf s.st.length) (cj (rr s.st.length 1 fun i j=>aI (s.st.getD i 0)) (cj (rf s.pc) (cj (rf (1:Int)) (cj (PureC.vc (tQ p s hP hs hm)) (uW p s (cj (rf ((Prod.fst (aF p.W (↑(aQ p.ms):Int) (↑p.is.length:Int) (atI p s.pc) s)).r3)) (cj (rf (0:Nat)) (cj (rf (((Prod.fst (aF p.W (↑(aQ p.ms):Int) (↑p.is.length:Int) (atI p s.pc) s)).m).length)) (cj (rf (0:Nat)) (cj (rf (((Prod.fst (aF p.W (↑(aQ p.ms):Int) (↑p.is.length:Int) (atI p s.pc) s)).st).length)) (cj (rf ((Prod.fst (aF p.W (↑(aQ p.ms):Int) (↑p.is.length:Int) (atI p s.pc) s)).pc)) (cj (rf (0:Nat)) (cj (rf ((Prod.fst (Prod.snd (aF p.W (↑(aQ p.ms):Int) (↑p.is.length:Int) (atI p s.pc) s))).length)) (cj (rf (Prod.snd (Prod.snd (aF p.W (↑(aQ p.ms):Int) (↑p.is.length:Int) (atI p s.pc) s)))) trivial))))))))))))))))))))))))))))))))))
theorem qy(p:Pg)(s:S8)(hP:OkP p)(hs:OkZ p ((aQ p.ms:Nat):Int) s)(hm:s.m.length<=1000):pC_ 27 [.agg (pgA p),.agg (s8R s)] (.tup [.agg (s8R (aF p.W ((aQ p.ms:Nat):Int) p.is.length (atI p s.pc) s).1),obR (aF p.W ((aQ p.ms:Nat):Int) p.is.length (atI p s.pc) s).2.1,.int .i64 (aF p.W ((aQ p.ms:Nat):Int) p.is.length (atI p s.pc) s).2.2]) []:=(PureC.vc (ws p s hP hs hm)).frozenT
theorem zn(s:S8):Vc (vF_ 29 [.agg (rgA s), aI 0] [.fv] [] (aI s.r0) []):=ar (cj (rf s.r0) trivial)
theorem zm(s:S8):Vc (vF_ 29 [.agg (rgA s), aI 1] [.fv] [] (aI s.r1) []):=ar (cj (rf s.r1) trivial)
theorem zl(s:S8):Vc (vF_ 29 [.agg (rgA s), aI 2] [.fv] [] (aI s.r2) []):=ar (cj (rf s.r2) trivial)
theorem zk(s:S8):Vc (vF_ 29 [.agg (rgA s), aI 3] [.fv] [] (aI s.r3) []):=ar (cj (rf s.r3) trivial)
theorem tk(s:S8)(d:Int)(h:0<=d∧d<4):pC_ 29 [.agg (rgA s),.int .i64 d] (.int .i64 (s.reg d)) []:=by
 obtain rfl |rfl |rfl |rfl:=ki h.1 h.2
 ·exact PureC.vc (zn s)
 ·exact PureC.vc (zm s)
 ·exact PureC.vc (zl s)
 ·exact PureC.vc (zk s)
theorem s6(p:Pg)(c:Cf){Z:Prop}(z:Z):(RF p.ls.length (RR p.ls.length 2 (fun i j=>au lbC p.ls i j) (RF p.is.length (RR p.is.length 9 (fun i j=>au inC p.is i j) (RF c.s.r0 (RF c.s.r1 (RF c.s.r2 (RF c.s.r3 (RF c.b.length Z))))))))):=⟨rfl,fun _ _ _ _=>rfl,rfl,fun _ _ _ _=>rfl,rfl,rfl,rfl,rfl,rfl,z⟩
theorem jx(p:Pg){Z:Prop}(z:Z):(RF p.W (RF p.win (RF p.fuel (RF p.r0 (RF p.r1 (RF p.r2 (RF p.r3 (RF p.ms.length (RR p.ms.length 3 (fun i j=>au mmC p.ms i j) Z))))))))):=⟨rfl,rfl,rfl,rfl,rfl,rfl,rfl,rfl,fun _ _ _ _=>rfl,z⟩
theorem wc(p:Pg)(c:Cf)(k:Nat)(r00 r10 r20 r30:Int)(t00 t10 t20 t30:Bool)(h0:pC_ 47 [.agg (pgA p),.agg (rgA c.s),enR c.b, aI k, aI 0] (.tup [aI r00,.bool t00]) [])(h1:pC_ 47 [.agg (pgA p),.agg (rgA c.s),enR c.b, aI k, aI 1] (.tup [aI r10,.bool t10]) [])(h2:pC_ 47 [.agg (pgA p),.agg (rgA c.s),enR c.b, aI k, aI 2] (.tup [aI r20,.bool t20]) [])(h3:pC_ 47 [.agg (pgA p),.agg (rgA c.s),enR c.b, aI k, aI 3] (.tup [aI r30,.bool t30]) []):Vc (vF_ 28 [.agg (pgA p),.agg (cfA c), aI k] [.fv,.fv,.it 5,.cl [.agg (pgA p),.agg (rgA c.s),enR c.b, aI k, aI 0] (.tup [aI r00,.bool t00]) [],.cl [.agg (pgA p),.agg (rgA c.s),enR c.b, aI k, aI 1] (.tup [aI r10,.bool t10]) [],.cl [.agg (pgA p),.agg (rgA c.s),enR c.b, aI k, aI 2] (.tup [aI r20,.bool t20]) [],.cl [.agg (pgA p),.agg (rgA c.s),enR c.b, aI k, aI 3] (.tup [aI r30,.bool t30]) []] [] (.agg [aI r00, aI r10, aI r20, aI r30]) []):=ar (jx p (s6 p c (cj (rr c.b.length 8 fun i j=>au enC c.b i j) (cj (rf (k:Int)) (cj (rf (0:Int)) (cj h0 (cj (i6 (0+1)) (jx p (s6 p c (cj (rr c.b.length 8 fun i j=>au enC c.b i j) (cj (rf (k:Int)) (cj (rf ((0:Int)+1)) (cj h1 (cj (i6 (0+1+1)) (jx p (s6 p c (cj (rr c.b.length 8 fun i j=>au enC c.b i j) (cj (rf (k:Int)) (cj (rf ((0:Int)+1+1)) (cj h2 (cj (i6 (0+1+1+1)) (jx p (s6 p c (cj (rr c.b.length 8 fun i j=>au enC c.b i j) (cj (rf (k:Int)) (cj (rf ((0:Int)+1+1+1)) (cj h3 (cj (i6 (0+1+1+1+1)) (cj (rf r00) (cj (rf r10) (cj (rf r20) (cj (rf r30) trivial))))))))))))))))))))))))))))))))
def bO(p:Pg)(c:Cf)(k:Nat):S8:=⟨(b9 p c.s c.b k 0).1,(b9 p c.s c.b k 1).1,(b9 p c.s c.b k 2).1,(b9 p c.s c.b k 3).1,[],[],(c.b.getD k default).pc⟩
theorem qk(p:Pg)(c:Cf)(k:Nat)(hb:c.b.length<1000000):pC_ 28 [.agg (pgA p),.agg (cfA c),.int .i64 k] (.agg (rgA (bO p c k))) []:=PureC.vc (wc p c k _ _ _ _ _ _ _ _ (mZ p c.s c.b k 0 hb) (mZ p c.s c.b k 1 hb) (mZ p c.s c.b k 2 hb) (mZ p c.s c.b k 3 hb))
theorem we(kd va:Int):Vc (vF_ 22 [aI kd, aI va] [] [] (obR [⟨kd,va⟩]) []):=ar (cj (rf (1:Nat)) (cj (show ∀(i:Nat),i<1-> ∀(j:Nat),j<2->List.getD [aI kd,aI va] ((i+0)*2+j) AV.junk=au obC [Ob.mk kd va] i j from(fun i hi j hj=>match i,hi,j,hj with |0,_,0,_=>rfl |0,_,1,_=>rfl)) trivial))
theorem wg(kd va:Int):pC_ 22 [.int .i64 kd,.int .i64 va] (obR [⟨kd,va⟩]) []:=PureC.vc (we kd va)
theorem yr(p:Pg){Z:Prop}(z:Z):(RF p.W (RF p.r0 (RF p.r1 (RF p.r2 (RF p.r3 (RF p.ms.length (RR p.ms.length 3 (fun i j=>au mmC p.ms i j) Z))))))):=⟨rfl,rfl,rfl,rfl,rfl,rfl,fun _ _ _ _=>rfl,z⟩
theorem s5(c:Cf){Z:Prop}(z:Z):(RR c.s.m.length 1 (fun i j=>aI (List.getD c.s.m i 0)) (RF c.s.st.length (RR c.s.st.length 1 (fun i j=>aI (List.getD c.s.st i 0)) (RF c.s.pc (RF c.b.length (RR c.b.length 8 (fun i j=>au enC c.b i j) (RF c.r.length (RR c.r.length 1 (fun i j=>aI (c.r.getD i 0)) (RF c.e Z))))))))):=⟨fun _ _ _ _=>rfl,rfl,fun _ _ _ _=>rfl,rfl,rfl,fun _ _ _ _=>rfl,rfl,fun _ _ _ _=>rfl,rfl,z⟩
theorem s4(p:Pg)(c:Cf){Z:Prop}(z:Z):(RF p.ls.length (RR p.ls.length 2 (fun i j=>au lbC p.ls i j) (RF p.is.length (RR p.is.length 9 (fun i j=>au inC p.is i j) (RF c.s.r0 (RF c.s.r1 (RF c.s.r2 (RF c.s.r3 (RF c.s.m.length Z))))))))):=⟨rfl,fun _ _ _ _=>rfl,rfl,fun _ _ _ _=>rfl,rfl,rfl,rfl,rfl,rfl,z⟩
abbrev Ag(p:Pg):Prop:=PureC Try.prog 38 [.agg (gi p.W p.r0 p.r1 p.r2 p.r3 (i9 p.ms))] (.int .i64 (aQ p.ms)) []
abbrev AH(p:Pg):Orc:= .cl [.agg (gi p.W p.r0 p.r1 p.r2 p.r3 (i9 p.ms))] (aI (aQ p.ms)) []
theorem vj(p:Pg)(c:Cf)(k:Nat)(hk:k<c.b.length)(va:Int)(ta:Bool)(hm:va<((aQ p.ms:Nat):Int))(h0:pC_ 37 [.agg (pgA p),.agg (cfA c), aI k] (.tup [aI va,.bool ta]) [])(h1:Ag p):Vc (vF_ 20 [.agg (pgA p),.agg (cfA c), aI k] [.fv,.fv,.cl [.agg (pgA p),.agg (cfA c), aI k] (.tup [aI va,.bool ta]) [],AH p,.bd true] [] (.tup [.agg (enA ⟨(c.b.getD k default).pc,(c.b.getD k default).val,va,(c.b.getD k default).frm,(c.b.getD k default).nxt,(c.b.getD k default).dn,true,(c.b.getD k default).ft⟩),.bool true]) []):=ar (cj (bi k c.b.length) (jx p (s4 p c (s5 c (cj (rf (k:Int)) (cj h0 (yr p (cj h1 (cj (dt (va<(↑(aQ p.ms):Int))) (cj (rf ((c.b.getD k default).pc)) (cj (rf ((c.b.getD k default).val)) (cj (rf va) (cj (rf ((c.b.getD k default).frm)) (cj (rf ((c.b.getD k default).nxt)) (cj (rf ((c.b.getD k default).dn)) (cj (rf true) (cj (rf ((c.b.getD k default).ft)) (cj (rf true) trivial))))))))))))))))))
theorem vk(p:Pg)(c:Cf)(k:Nat)(hk:k<c.b.length)(va:Int)(ta:Bool)(hm: ¬va<((aQ p.ms:Nat):Int))(h0:pC_ 37 [.agg (pgA p),.agg (cfA c), aI k] (.tup [aI va,.bool ta]) [])(h1:Ag p):Vc (vF_ 20 [.agg (pgA p),.agg (cfA c), aI k] [.fv,.fv,.cl [.agg (pgA p),.agg (cfA c), aI k] (.tup [aI va,.bool ta]) [],AH p,.bd false] [] (.tup [.agg (enA ⟨(c.b.getD k default).pc,(c.b.getD k default).val,va,(c.b.getD k default).frm,(c.b.getD k default).nxt,(c.b.getD k default).dn,true,true⟩),.bool false]) []):=ar (cj (bi k c.b.length) (jx p (s4 p c (s5 c (cj (rf (k:Int)) (cj h0 (yr p (cj h1 (cj (df (va<(↑(aQ p.ms):Int))) (cj (rf ((c.b.getD k default).pc)) (cj (rf ((c.b.getD k default).val)) (cj (rf va) (cj (rf ((c.b.getD k default).frm)) (cj (rf ((c.b.getD k default).nxt)) (cj (rf ((c.b.getD k default).dn)) (cj (rf true) (cj (rf true) (cj (rf false) trivial))))))))))))))))))
theorem zj(p:Pg)(c:Cf)(k:Nat)(e:En)(h0:pC_ 20 [.agg (pgA p),.agg (cfA c), aI k] (.tup [.agg (enA e),.bool false]) []):Vc (vF_ 30 [.agg (pgA p),.agg (cfA c), aI k] [.fv,.fv,.cl [.agg (pgA p),.agg (cfA c), aI k] (.tup [.agg (enA e),.bool false]) []] [] (.tup [.agg (enA ⟨e.pc,0,e.adr, -1,e.nxt,true,e.kn,e.ft⟩),.nils]) []):=ar (jx p (s4 p c (s5 c (cj (rf (k:Int)) (cj h0 (cj (rf e.pc) (cj (rf (0:Int)) (cj (rf e.adr) (cj (rf (-1:Int)) (cj (rf e.nxt) (cj (rf true) (cj (rf e.kn) (cj (rf e.ft) trivial)))))))))))))
theorem zi(p:Pg)(c:Cf)(k:Nat)(e:En)(v fr:Int)(tl:Bool)(h0:pC_ 20 [.agg (pgA p),.agg (cfA c), aI k] (.tup [.agg (enA e),.bool true]) [])(h1:pC_ 48 [.agg (pgA p),lR c.s.m,enR c.b, aI k, aI e.adr] (.tup [aI v, aI fr,.bool tl]) []):Vc (vF_ 30 [.agg (pgA p),.agg (cfA c), aI k] [.fv,.fv,.cl [.agg (pgA p),.agg (cfA c), aI k] (.tup [.agg (enA e),.bool true]) [],.cl [.agg (pgA p),lR c.s.m,enR c.b, aI k, aI e.adr] (.tup [aI v, aI fr,.bool tl]) [],.cl [aI 1, aI e.adr] (obR [⟨1,e.adr⟩]) []] [] (.tup [.agg (enA ⟨e.pc,v,e.adr,fr,e.nxt,true,e.kn,e.ft⟩),(obR [⟨1,e.adr⟩])]) []):=ar (jx p (s4 p c (s5 c (cj (rf (k:Int)) (cj h0 (jx p (cj (rf p.ls.length) (cj (rr p.ls.length 2 fun i j=>au lbC p.ls i j) (cj (rf p.is.length) (cj (rr p.is.length 9 fun i j=>au inC p.is i j) (cj (rf c.s.m.length) (cj (rr c.s.m.length 1 fun i j=>aI (List.getD c.s.m i 0)) (cj (rf c.b.length) (cj (rr c.b.length 8 fun i j=>au enC c.b i j) (cj (rf (k:Int)) (cj (rf e.adr) (cj h1 (cj (rf (1:Int)) (cj (rf e.adr) (cj (wg 1 e.adr) (cj (rf e.pc) (cj (rf v) (cj (rf e.adr) (cj (rf fr) (cj (rf e.nxt) (cj (rf true) (cj (rf e.kn) (cj (rf e.ft) (cj (rf (1:Nat)) (cj (rr 1 2 fun i j=>au obC [Ob.mk (1:Int) e.adr] i j) trivial))))))))))))))))))))))))))))))
theorem yq(s:S8){Z:Prop}(z:Z):(RR s.m.length 1 (fun i j=>aI (s.m.getD i 0)) (RF s.st.length (RR s.st.length 1 (fun i j=>aI (s.st.getD i 0)) (RF s.pc Z)))):=⟨fun _ _ _ _=>rfl,rfl,fun _ _ _ _=>rfl,rfl,z⟩
theorem yp(p:Pg)(s:S8){Z:Prop}(z:Z):(RF p.ls.length (RR p.ls.length 2 (fun i j=>au lbC p.ls i j) (RF p.is.length (RR p.is.length 9 (fun i j=>au inC p.is i j) (RF s.r0 (RF s.r1 (RF s.r2 (RF s.r3 (RF s.m.length Z))))))))):=⟨rfl,fun _ _ _ _=>rfl,rfl,fun _ _ _ _=>rfl,rfl,rfl,rfl,rfl,rfl,z⟩
theorem vm(p:Pg)(e:En)(s s2:S8)(o:List Ob)(en:Int)(hen: ¬en=0)(h1:pC_ 27 [.agg (pgA p),.agg (s8R s)] (.tup [.agg (s8R s2),obR o, aI en]) []):Vc (vF_ 31 [.agg (pgA p),.agg (enA e),.agg (s8R s)] [.fv,.cl [.agg (pgA p),.agg (s8R s)] (.tup [.agg (s8R s2),obR o, aI en]) [],.bd true] [] (.tup [.agg (enA e.flt),.nils]) []):=ar (jx p (yp p s (yq s (cj h1 (cj (n1 en 0) (cj (rf e.pc) (cj (rf e.val) (cj (rf e.adr) (cj (rf e.frm) (cj (rf e.nxt) (cj (rf e.dn) (cj (rf e.kn) (cj (rf true) trivial)))))))))))))
theorem ql(p:Pg)(e:En)(s s2:S8)(o:List Ob)(h1:pC_ 27 [.agg (pgA p),.agg (s8R s)] (.tup [.agg (s8R s2),obR o, aI 0]) []):Vc (vF_ 31 [.agg (pgA p),.agg (enA e),.agg (s8R s)] [.fv,.cl [.agg (pgA p),.agg (s8R s)] (.tup [.agg (s8R s2),obR o, aI 0]) [],.bd false] [] (.tup [.agg (enA (e.to s2.pc)),(obR o)]) []):=ar (jx p (yp p s (yq s (cj h1 (cj (n0 (0:Int) 0) (cj (rf e.pc) (cj (rf e.val) (cj (rf e.adr) (cj (rf e.frm) (cj (rf s2.pc) (cj (rf e.dn) (cj (rf e.kn) (cj (rf e.ft) (cj (rf o.length) (cj (rr o.length 2 fun i j=>au obC o i j) trivial)))))))))))))))
def ouV(p:Pg)(c:Cf)(k:Nat):En×Option Int×List Ob:=
 if(enX p c k).kind=1 then((c.b.getD k default).done.vl (Wd.doV p.W (enX p c k).op (tA p c k (enX p c k)).1 (tB p c k (enX p c k)).1),none,[])
 else if(enX p c k).kind=4 then((c.b.getD k default).done.vl (if(tA p c k (enX p c k)).1=0 then(tD p c k (enX p c k)).1 else(tB p c k (enX p c k)).1),none,[])
 else if(enX p c k).kind=3 then((c.b.getD k default).done.vl (tD p c k (enX p c k)).1,none,[])
 else if(enX p c k).kind=2 then(if(c.s.m.length:Int)<=adV p c k (enX p c k) then(((c.b.getD k default).done.ad (adV p c k (enX p c k))).flt,none,[])
  else(((c.b.getD k default).done.ad (adV p c k (enX p c k))).ld (ldV p c.s.m c.b k (adV p c k (enX p c k))).1 (ldV p c.s.m c.b k (adV p c k (enX p c k))).2.1,none,[⟨1,adV p c k (enX p c k)⟩]))
 else if(enX p c k).kind=5 then((c.b.getD k default).done,some (if Wd.doV p.W (enX p c k).op (tA p c k (enX p c k)).1 (tB p c k (enX p c k)).1=0 then(c.b.getD k default).pc+1 else(enX p c k).tg),[⟨3,if Wd.doV p.W (enX p c k).op (tA p c k (enX p c k)).1 (tB p c k (enX p c k)).1=0 then(c.b.getD k default).pc+1 else(enX p c k).tg⟩])
 else if(enX p c k).kind=7 then((c.b.getD k default).done,some (jb p (tA p c k (enX p c k)).1),[⟨3,jb p (tA p c k (enX p c k)).1⟩])
 else match reV p c.s.st c.b k with
  |none=>((c.b.getD k default).done.flt,none,[])
  |some L=>if L.length=0 then((c.b.getD k default).done.flt,none,[]) else((c.b.getD k default).done,some (bo L),[⟨3,bo L⟩])
def apl(c:Cf)(k:Nat)(e:En)(t:Option Int):Cf:=match t with
 |none=>⟨c.s,c.b.set k e,c.r,c.e⟩
 |some t=>goV ⟨c.s,c.b.set k e,c.r,c.e⟩ k t
structure Alk (p:Pg) (c d:Cf) (k:Nat):Prop where
 lc:k<c.b.length
 ld:k<d.b.length
 m:d.s.m=c.s.m
 e:d.e=c.e
 en:d.b.getD k default=c.b.getD k default
 rg: ∀r,(b9 p c.s c.b k r).2=true->b9 p d.s d.b k r=b9 p c.s c.b k r
 lo:(enX p c k).kind=2-> ¬(c.s.m.length:Int)<=adV p c k (enX p c k)->(ldV p c.s.m c.b k (adV p c k (enX p c k))).2.2=true->ldV p d.s.m d.b k (adV p c k (enX p c k))=ldV p c.s.m c.b k (adV p c k (enX p c k))
 re:reV p d.s.st d.b k=reV p c.s.st c.b k
 bl:nJ p d.b k=nJ p c.b k
theorem gP(p:Pg){l l':List En}(r:Int): ∀k,(∀j,j<k->l'.getD j default=l.getD j default)->gu p l' r k=gu p l r k
 |0,_=>rfl
 |k+1,h=>by
  unfold gu enI
  rw[h k (by omega),gP p r k fun j hj=>h j (by omega)]
theorem lU(p:Pg){l l':List En}(a:Int): ∀k,(∀j,j<k->l'.getD j default=l.getD j default)->ldF p l' a k=ldF p l a k
 |0,_=>rfl
 |k+1,h=>by
  unfold ldF enI
  rw[h k (by omega),lU p a k fun j hj=>h j (by omega)]
theorem mh(p:Pg){l l':List En}: ∀j k,(∀i,k<=i->i<k+j->(l'.getD i default).pc=(l.getD i default).pc)->kV p l' k j=kV p l k j
 |0,_,_=>rfl
 |j+1,k,h=>by
  unfold kV enI
  rw[h k (by omega) (by omega),mh p j (k+1) fun i h1 h2=>h i (by omega) (by omega)]
theorem d8(l:List En)(k j:Nat)(e:En)(hk:k<l.length):(l.set k e).getD j default=if k=j then e else l.getD j default:=by
 by_cases h:k=j
 ·subst h
  rw[ao rfl];simp[List.getD,hk]
 ·rw[aj h];simp[List.getD,cD,h]
theorem la(p:Pg){l:List En}(r:Int){k:Nat}{e:En}(hk:k<l.length)(hp:e.pc=(l.getD k default).pc)(hd:(l.getD k default).dn=false): ∀i,(∀x,gu p l r i=some x->x.2=true)->gu p (l.set k e) r i=gu p l r i
 |0,_=>rfl
 |i+1,h=>by
  unfold gu at h ⊢
  have e1:enI p (l.set k e) i=enI p l i:=by
   unfold enI
   rw[d8 l k i e hk]
   split
   ·rename_i h1;subst h1;rw[hp]
   ·rfl
  rw[e1]
  by_cases hc:eX (enI p l i)=true∧(enI p l i).d=r
  ·rw[ao hc] at h ⊢
   rw[ao hc,d8 l k i e hk]
   split
   ·rename_i h1
    subst h1
    rw[hd] at h
    cases h _ rfl
   ·rfl
  ·rw[aj hc] at h ⊢
   rw[aj hc]
   exact la p r hk hp hd i h
theorem jW(p:Pg){l:List En}(a:Int){k:Nat}{e:En}(hk:k<l.length)(hp:e.pc=(l.getD k default).pc)(hd:(l.getD k default).dn=false)(h3:(enI p l k).kind=3->e.kn=(l.getD k default).kn∧e.adr=(l.getD k default).adr): ∀i,(∀x,ldF p l a i=some x->x.2.2=true)->ldF p (l.set k e) a i=ldF p l a i
 |0,_=>rfl
 |i+1,h=>by
  unfold ldF at h ⊢
  by_cases h1:k=i
  ·subst h1
   have e1:enI p (l.set k e) k=enI p l k:=by unfold enI;rw[d8 l k k e hk,ao rfl,hp]
   have e2:(l.set k e).getD k default=e:=by rw[d8 l k k e hk,ao rfl]
   rw[e1,e2]
   by_cases hc:(enI p l k).kind=3∧(l.getD k default).kn=true∧(l.getD k default).adr=a
   ·rw[ao hc,hd] at h
    cases h _ rfl
   ·rw[aj hc] at h ⊢
    rw[aj (fun q=>hc ⟨q.1,by rw[<-(h3 q.1).1];exact q.2.1,by rw[<-(h3 q.1).2];exact q.2.2⟩)]
    exact jW p a hk hp hd h3 k h
  ·have e2:(l.set k e).getD i default=l.getD i default:=by rw[d8 l k i e hk,aj h1]
   have e1:enI p (l.set k e) i=enI p l i:=by unfold enI;rw[e2]
   rw[e1,e2]
   split
   ·rfl
   ·rename_i hc
    rw[aj hc] at h
    exact jW p a hk hp hd h3 i h
theorem tw(p:Pg)(s:S8)(l:List En)(e:En)(k:Nat)(hk:k<l.length)(v:Vl):cd p s (l.set k e) k v=cd p s l k v:=by
 unfold cd b9
 rw[aN,cn (by omega),gP p (l:=l) (l':=l.set k e) v.n k fun j hj=>by rw[d8 l k j e hk,aj (by omega)]]
theorem tU(p:Pg)(s:S8)(l:List En)(e:En)(k:Nat)(hk:k<l.length)(r:Int):b9 p s (l.set k e) k r=b9 p s l k r:=by
 unfold b9
 rw[aN,cn (by omega),gP p (l:=l) (l':=l.set k e) r k fun j hj=>by rw[d8 l k j e hk,aj (by omega)]]
theorem xn(p:Pg)(m:List Int)(l:List En)(e:En)(k:Nat)(hk:k<l.length)(a:Int):ldV p m (l.set k e) k a=ldV p m l k a:=by
 unfold ldV
 rw[aN,cn (by omega),lU p (l:=l) (l':=l.set k e) a k fun j hj=>by rw[d8 l k j e hk,aj (by omega)]]
theorem wG(p:Pg)(st:List Int)(l:List En)(e:En)(k:Nat)(hk:k<l.length):reV p st (l.set k e) k=reV p st l k:=by
 unfold reV
 rw[aN,cn (by omega)]
 exact eC p _ _ _ _ _ _ fun i hi=>by rw[d8 l k _ e hk,aj (by omega)]
theorem BM(p:Pg)(c:Cf)(k:Nat)(hk:k<c.b.length):dmV p c k=(apl c k (ouV p c k).1 (ouV p c k).2.1,(ouV p c k).2.2):=by
 have hA: ∀v,cd p (upE c k En.done).s (upE c k En.done).b k v=cd p c.s c.b k v:=fun v=>tw p c.s c.b _ k hk v
 have hD: ∀r,b9 p (upE c k En.done).s (upE c k En.done).b k r=b9 p c.s c.b k r:=fun r=>tU p c.s c.b _ k hk r
 have hL: ∀(g:En->En) a,ldV p c.s.m (upE c k g).b k a=ldV p c.s.m c.b k a:=fun g a=>xn p c.s.m c.b _ k hk a
 have hR:reV p c.s.st (upE c k En.done).b k=reV p c.s.st c.b k:=wG p c.s.st c.b _ k hk
 unfold dmV ouV adV tA tB tD
 simp only[hA,hD,hL,hR]
 by_cases k1:(enX p c k).kind=1
 ·simp only[ao k1];rfl
 simp only[aj k1]
 by_cases k4:(enX p c k).kind=4
 ·simp only[ao k4];rfl
 simp only[aj k4]
 by_cases k3:(enX p c k).kind=3
 ·simp only[ao k3];rfl
 simp only[aj k3]
 by_cases k2:(enX p c k).kind=2
 ·simp only[ao k2]
  split<;>rfl
 simp only[aj k2]
 by_cases k5:(enX p c k).kind=5
 ·simp only[ao k5];rfl
 simp only[aj k5]
 by_cases k7:(enX p c k).kind=7
 ·simp only[ao k7];rfl
 simp only[aj k7]
 cases reV p c.s.st c.b k with
 |none=>rfl
 |some L=>
  show(if L.length=0 then _ else _)=_
  by_cases h0:L.length=0
  ·simp only[ao h0];rfl
  ·simp only[aj h0];rfl
theorem AB(p:Pg)(c:Cf)(k:Nat):(ouV p c k).1.pc=(c.b.getD k default).pc∧(ouV p c k).1.dn=true∧(ouV p c k).1.nxt=(c.b.getD k default).nxt∧((enX p c k).kind=3->(ouV p c k).1.kn=(c.b.getD k default).kn∧(ouV p c k).1.adr=(c.b.getD k default).adr):=by
 unfold ouV
 by_cases k1:(enX p c k).kind=1
 ·rw[ao k1];exact⟨rfl,rfl,rfl,fun _=>⟨rfl,rfl⟩⟩
 rw[aj k1]
 by_cases k4:(enX p c k).kind=4
 ·rw[ao k4];exact⟨rfl,rfl,rfl,fun _=>⟨rfl,rfl⟩⟩
 rw[aj k4]
 by_cases k3:(enX p c k).kind=3
 ·rw[ao k3];exact⟨rfl,rfl,rfl,fun _=>⟨rfl,rfl⟩⟩
 rw[aj k3]
 repeat' split
 all_goals exact⟨rfl,rfl,rfl,fun h=>absurd h k3⟩
theorem Alk.val{p:Pg}{c d:Cf}{k:Nat}(h:Alk p c d k)(v:Vl)(ht:(cd p c.s c.b k v).2=true):cd p d.s d.b k v=cd p c.s c.b k v:=by
 unfold cd at ht ⊢
 split
 ·rename_i hv
  rw[ao hv] at ht
  exact h.rg _ ht
 ·rfl
theorem Alk.loc{p:Pg}{c d:Cf}{k:Nat}(lc:k<c.b.length)(ld:k<d.b.length)(hr: ∀n,d.s.reg n=c.s.reg n)(hm:d.s.m=c.s.m)(hst:d.s.st=c.s.st)(he:d.e=c.e)(hb: ∀j,j<k+1->d.b.getD j default=c.b.getD j default):Alk p c d k:=by
 refine⟨lc,ld,hm,he,hb k (by omega),fun r _=> ?_,fun _ _ _=> ?_, ?_, ?_⟩
 ·unfold b9
  rw[cn (by omega),cn (by omega),gP p (l:=c.b) (l':=d.b) r k fun j hj=>hb j (by omega),hr]
 ·unfold ldV
  rw[cn (by omega),cn (by omega),lU p (l:=c.b) (l':=d.b) _ k fun j hj=>hb j (by omega),hm]
 ·unfold reV
  rw[cn (by omega),cn (by omega),hst]
  exact eC p _ _ _ _ _ _ fun i hi=>by rw[hb _ (by omega)]
 ·unfold nJ
  rw[cn (by omega),cn (by omega)]
  exact mh p _ _ fun i _ hi=>by rw[hb i (by omega)]
theorem Alk.stab{p:Pg}{c:Cf}{k i:Nat}(hki:k<i)(hi:i<c.b.length){e:En}(hp:e.pc=(c.b.getD k default).pc)(hd:(c.b.getD k default).dn=false)(h3:(enX p c k).kind=3->e.kn=(c.b.getD k default).kn∧e.adr=(c.b.getD k default).adr):Alk p c ⟨c.s,c.b.set k e,c.r,c.e⟩ i:=by
 have hk:k<c.b.length:=by omega
 have hpc: ∀j,((c.b.set k e).getD j default).pc=(c.b.getD j default).pc:=fun j=>by
  rw[d8 c.b k j e hk]
  split
  ·rename_i h1;subst h1;exact hp
  ·rfl
 refine⟨hi,by rw[aN];exact hi,rfl,rfl,by rw[d8 c.b k i e hk,aj (by omega)],fun r ht=> ?_,fun _ _ ht=> ?_, ?_, ?_⟩
 ·unfold b9 at ht ⊢
  rw[aN]
  rw[cn (by omega)] at ht ⊢
  split
  ·rename_i hr
   rw[ao hr] at ht
   rw[la p r hk hp hd i fun x hx=>by rw[hx] at ht;exact ht]
  ·rfl
 ·unfold ldV at ht ⊢
  rw[aN]
  rw[cn (by omega)] at ht ⊢
  rw[jW p _ hk hp hd h3 i fun x hx=>by rw[hx] at ht;exact ht]
 ·unfold reV
  rw[aN]
  exact eC p _ _ _ _ _ _ fun j _=>hpc _
 ·unfold nJ
  rw[aN]
  exact mh p _ _ fun j _ _=>hpc j
theorem n5(s:S8)(t:Int)(n:Int):(s.go t).reg n=s.reg n:=rfl
theorem PureC.obs2{P:Program}{f:FuncId}{args:List AV}{a:AV}{o:List Ob}(h:PureC P f args (.tup [a,obX o]) []):PureC P f args (.tup [a,obR o]) []:=by
 cases o with
 |cons x r=>exact h
 |nil=>
  intro w R vs hR hl ha
  refine(h w R vs hR hl ha).mono ?_
  rintro e w' ⟨z,cx,rfl,rfl,k1,k2,k3,k4,k5,k6,k7⟩
  refine⟨z,cx,rfl,rfl,k1,k2,k3,k4,k5,k6, ?_⟩
  have nr: ∀{u:Value},RepP cx.w cx.R .nils u->RepP cx.w cx.R (obR []) u:=fun hu=>by
   cases hu
   exact .row none 0 (fun _ _=> .bool false) (ax _) (aY _) (fun h=>absurd h (cA _)) (fun i h=>absurd h (cA _)) (fun i h=>absurd h (cA _))
  have nr2: ∀{u:Value},Rep cx .nils u->Rep cx (obR []) u:=fun hu=>by
   cases hu with
   |pure h=>exact .pure (nr h)
  cases k7 with
  |pure h=>cases h with
   |tup hl h=>exact .pure (.tup hl fun j x v hx hv=>match j,hx with
    |0,hx=>h 0 x v hx hv
    |1,hx=>by
     simp only[bK,ba,ah] at hx
     subst hx
     exact nr (h 1 _ v rfl hv)
    |j+2,hx=>by simp at hx)
  |tup hl h=>exact .tup hl fun j x v hx hv=>match j,hx with
    |0,hx=>h 0 x v hx hv
    |1,hx=>by
     simp only[bK,ba,ah] at hx
     subst hx
     exact nr2 (h 1 _ v rfl hv)
    |j+2,hx=>by simp at hx
theorem vR(e1:En){Z:Prop}(z:Z):(RF e1.pc (RF e1.val (RF e1.adr (RF e1.frm (RF e1.nxt (RF e1.dn (RF e1.kn (RF e1.ft Z)))))))):=⟨rfl,rfl,rfl,rfl,rfl,rfl,rfl,rfl,z⟩
theorem fm(c:Cf){Z:Prop}(z:Z):(RR c.s.m.length 1 (fun i j=>aI (List.getD c.s.m i 0)) (RF c.s.st.length (RR c.s.st.length 1 (fun i j=>aI (List.getD c.s.st i 0)) (RF c.s.pc (RF c.b.length (RR c.b.length 8 (fun i j=>au enC c.b i j) (RF c.r.length (RR c.r.length 1 (fun i j=>aI (c.r.getD i 0)) (RF c.e Z))))))))):=⟨fun _ _ _ _=>rfl,rfl,fun _ _ _ _=>rfl,rfl,rfl,fun _ _ _ _=>rfl,rfl,fun _ _ _ _=>rfl,rfl,z⟩
theorem fl(p:Pg)(c:Cf){Z:Prop}(z:Z):(RF p.ls.length (RR p.ls.length 2 (fun i j=>au lbC p.ls i j) (RF p.is.length (RR p.is.length 9 (fun i j=>au inC p.is i j) (RF c.s.r0 (RF c.s.r1 (RF c.s.r2 (RF c.s.r3 (RF c.s.m.length Z))))))))):=⟨rfl,fun _ _ _ _=>rfl,rfl,fun _ _ _ _=>rfl,rfl,rfl,rfl,rfl,rfl,z⟩
theorem dA(p:Pg){Z:Prop}(z:Z):(RF p.W (RF p.win (RF p.fuel (RF p.r0 (RF p.r1 (RF p.r2 (RF p.r3 (RF p.ms.length (RR p.ms.length 3 (fun i j=>au mmC p.ms i j) Z))))))))):=⟨rfl,rfl,rfl,rfl,rfl,rfl,rfl,rfl,fun _ _ _ _=>rfl,z⟩
abbrev kO(p:Pg)(c:Cf)(k:Nat):Prop:=PureC Try.prog 26 [.agg (pgA p),.agg (cfA c),.int .i64 k] (.agg (inA (enX p c k))) []
abbrev kQ(p:Pg)(c:Cf)(k:Nat):Orc:= .cl [.agg (pgA p),.agg (cfA c), aI k] (.agg (inA (enX p c k))) []
theorem wj(p:Pg)(c:Cf)(k:Nat)(hk:k<c.b.length)(h0:kO p c k)(e1:En)(h1:pC_ 30 [.agg (pgA p),.agg (cfA c), aI k] (.tup [.agg (enA e1),.nils]) [])(k1: ¬(enX p c k).kind=1)(k4: ¬(enX p c k).kind=4)(k2:(enX p c k).kind=2):Vc (vF_ 16 [.agg (pgA p),.agg (cfA c), aI k] [.fv,.fv,kQ p c k,.bd false,.bd false,.bd true,.cl [.agg (pgA p),.agg (cfA c), aI k] (.tup [.agg (enA e1),.nils]) []] [] (.tup [.agg (enA e1),.nils]) []):=ar (cj (bi k c.b.length) (dA p (fl p c (fm c (cj (rf (k:Int)) (cj h0 (cj (af.2 k1) (cj (af.2 k4) (cj (aG.2 k2) (dA p (fl p c (fm c (cj (rf (k:Int)) (cj h1 (vR e1 trivial)))))))))))))))
theorem s3(e1:En)(o:List Ob){Z:Prop}(z:Z):(RF e1.pc (RF e1.val (RF e1.adr (RF e1.frm (RF e1.nxt (RF e1.dn (RF e1.kn (RF e1.ft (RF o.length Z))))))))):=⟨rfl,rfl,rfl,rfl,rfl,rfl,rfl,rfl,rfl,z⟩
theorem wi(p:Pg)(c:Cf)(k:Nat)(hk:k<c.b.length)(h0:kO p c k)(e1:En)(o:List Ob)(h1:pC_ 30 [.agg (pgA p),.agg (cfA c), aI k] (.tup [.agg (enA e1),(obR o)]) [])(k1: ¬(enX p c k).kind=1)(k4: ¬(enX p c k).kind=4)(k2:(enX p c k).kind=2):Vc (vF_ 16 [.agg (pgA p),.agg (cfA c), aI k] [.fv,.fv,kQ p c k,.bd false,.bd false,.bd true,.cl [.agg (pgA p),.agg (cfA c), aI k] (.tup [.agg (enA e1),(obR o)]) []] [] (.tup [.agg (enA e1),(obR o)]) []):=ar (cj (bi k c.b.length) (dA p (fl p c (fm c (cj (rf (k:Int)) (cj h0 (cj (af.2 k1) (cj (af.2 k4) (cj (aG.2 k2) (dA p (fl p c (fm c (cj (rf (k:Int)) (cj h1 (s3 e1 o (cj (rr o.length 2 fun i j=>au obC o i j) trivial))))))))))))))))
theorem vP(c:Cf)(k:Nat)(vd:Int){Z:Prop}(z:Z):(RF ((c.b.getD k default).pc) (RF vd (RF ((c.b.getD k default).adr) (RF ((c.b.getD k default).frm) (RF ((c.b.getD k default).nxt) (RF true (RF ((c.b.getD k default).kn) (RF ((c.b.getD k default).ft) Z)))))))):=⟨rfl,rfl,rfl,rfl,rfl,rfl,rfl,rfl,z⟩
abbrev qZ(p:Pg)(c:Cf)(k:Nat):Prop:=PureC Try.prog 28 [.agg (pgA p),.agg (cfA c),.int .i64 k] (.agg (rgA (bO p c k))) []
abbrev rz(p:Pg)(c:Cf)(k:Nat):Orc:= .cl [.agg (pgA p),.agg (cfA c), aI k] (.agg (rgA (bO p c k))) []
theorem zr(p:Pg)(c:Cf)(k:Nat)(hk:k<c.b.length)(h0:kO p c k)(vd:Int)(h1:qZ p c k)(h2:pC_ 29 [.agg (rgA (bO p c k)), aI (enX p c k).d] (aI vd) [])(k1: ¬(enX p c k).kind=1)(k4: ¬(enX p c k).kind=4)(k2: ¬(enX p c k).kind=2)(k3:(enX p c k).kind=3):Vc (vF_ 16 [.agg (pgA p),.agg (cfA c), aI k] [.fv,.fv,kQ p c k,.bd false,.bd false,.bd false,.bd true,rz p c k,.cl [.agg (rgA (bO p c k)), aI (enX p c k).d] (aI vd) []] [] (.tup [.agg (enA ((c.b.getD k default).done.vl vd)),.nils]) []):=ar (cj (bi k c.b.length) (dA p (fl p c (fm c (cj (rf (k:Int)) (cj h0 (cj (af.2 k1) (cj (af.2 k4) (cj (af.2 k2) (cj (aG.2 k3) (dA p (fl p c (fm c (cj (rf (k:Int)) (cj h1 (cj (rf (Prod.fst (b9 p c.s c.b (k:Int) 0))) (cj (rf (Prod.fst (b9 p c.s c.b (k:Int) 1))) (cj (rf (Prod.fst (b9 p c.s c.b (k:Int) 2))) (cj (rf (Prod.fst (b9 p c.s c.b (k:Int) 3))) (cj (rf ((enX p c k).d)) (cj h2 (vP c k vd trivial))))))))))))))))))))))
theorem yn(p:Pg)(c:Cf)(k:Nat)(s2:S8){Z:Prop}(z:Z):(RF s2.r0 (RF s2.r1 (RF s2.r2 (RF s2.r3 (RF ((enX p c k).d) Z))))):=⟨rfl,rfl,rfl,rfl,rfl,z⟩
theorem ym(p:Pg)(c:Cf)(k:Nat){Z:Prop}(z:Z):(RF p.ls.length (RR p.ls.length 2 (fun i j=>au lbC p.ls i j) (RF p.is.length (RR p.is.length 9 (fun i j=>au inC p.is i j) (RF (Prod.fst (b9 p c.s c.b (k:Int) (0:Int))) (RF (Prod.fst (b9 p c.s c.b (k:Int) (1:Int))) (RF (Prod.fst (b9 p c.s c.b (k:Int) (2:Int))) (RF (Prod.fst (b9 p c.s c.b (k:Int) (3:Int))) (RF (0:Nat) Z))))))))):=⟨rfl,fun _ _ _ _=>rfl,rfl,fun _ _ _ _=>rfl,rfl,rfl,rfl,rfl,rfl,z⟩
theorem zt(p:Pg)(c:Cf)(k:Nat)(hk:k<c.b.length)(h0:kO p c k)(s2:S8)(o:List Ob)(en vd:Int)(h1:qZ p c k)(h2:pC_ 27 [.agg (pgA p),.agg (s8R (bO p c k))] (.tup [.agg (s8R s2),obR o, aI en]) [])(h3:pC_ 29 [.agg (rgA s2), aI (enX p c k).d] (aI vd) [])(k1:(enX p c k).kind=1):Vc (vF_ 16 [.agg (pgA p),.agg (cfA c), aI k] [.fv,.fv,kQ p c k,.bd true,rz p c k,.cl [.agg (pgA p),.agg (s8R (bO p c k))] (.tup [.agg (s8R s2),obR o, aI en]) [],.cl [.agg (rgA s2), aI (enX p c k).d] (aI vd) []] [] (.tup [.agg (enA ((c.b.getD k default).done.vl vd)),.nils]) []):=ar (cj (bi k c.b.length) (dA p (fl p c (fm c (cj (rf (k:Int)) (cj h0 (cj (aG.2 k1) (dA p (fl p c (fm c (cj (rf (k:Int)) (cj h1 (dA p (ym p c k (cj (rf (0:Nat)) (cj (rf ((c.b.getD k default).pc)) (cj h2 (yn p c k s2 (cj h3 (vP c k vd trivial))))))))))))))))))))
theorem vn(p:Pg)(c:Cf)(k:Nat)(hk:k<c.b.length)(h0:kO p c k)(s2:S8)(o:List Ob)(en vd:Int)(h1:qZ p c k)(h2:pC_ 27 [.agg (pgA p),.agg (s8R (bO p c k))] (.tup [.agg (s8R s2),obR o, aI en]) [])(h3:pC_ 29 [.agg (rgA s2), aI (enX p c k).d] (aI vd) [])(k1: ¬(enX p c k).kind=1)(k4:(enX p c k).kind=4):Vc (vF_ 16 [.agg (pgA p),.agg (cfA c), aI k] [.fv,.fv,kQ p c k,.bd false,.bd true,rz p c k,.cl [.agg (pgA p),.agg (s8R (bO p c k))] (.tup [.agg (s8R s2),obR o, aI en]) [],.cl [.agg (rgA s2), aI (enX p c k).d] (aI vd) []] [] (.tup [.agg (enA ((c.b.getD k default).done.vl vd)),.nils]) []):=ar (cj (bi k c.b.length) (dA p (fl p c (fm c (cj (rf (k:Int)) (cj h0 (cj (af.2 k1) (cj (aG.2 k4) (dA p (fl p c (fm c (cj (rf (k:Int)) (cj h1 (dA p (ym p c k (cj (rf (0:Nat)) (cj (rf ((c.b.getD k default).pc)) (cj h2 (yn p c k s2 (cj h3 (vP c k vd trivial)))))))))))))))))))))
theorem yl(p:Pg)(c:Cf)(k:Nat){Z:Prop}(z:Z):(RF true (RF ((c.b.getD k default).kn) (RF ((c.b.getD k default).ft) (RF (Prod.fst (b9 p c.s c.b (k:Int) (0:Int))) (RF (Prod.fst (b9 p c.s c.b (k:Int) (1:Int))) (RF (Prod.fst (b9 p c.s c.b (k:Int) (2:Int))) (RF (Prod.fst (b9 p c.s c.b (k:Int) (3:Int))) (RF (0:Nat) (RF (0:Nat) Z))))))))):=⟨rfl,rfl,rfl,rfl,rfl,rfl,rfl,rfl,rfl,z⟩
theorem qa(p:Pg)(c:Cf)(k:Nat){Z:Prop}(z:Z):(RF p.ls.length (RR p.ls.length 2 (fun i j=>au lbC p.ls i j) (RF p.is.length (RR p.is.length 9 (fun i j=>au inC p.is i j) (RF ((c.b.getD k default).pc) (RF ((c.b.getD k default).val) (RF ((c.b.getD k default).adr) (RF ((c.b.getD k default).frm) (RF ((c.b.getD k default).nxt) Z))))))))):=⟨rfl,fun _ _ _ _=>rfl,rfl,fun _ _ _ _=>rfl,rfl,rfl,rfl,rfl,rfl,z⟩
abbrev Af(p:Pg)(c:Cf)(k:Nat)(e1:En)(o:List Ob):Prop:=PureC Try.prog 31 [.agg (pgA p),.agg (enA (c.b.getD k default).done),.agg (s8R (bO p c k))] (.tup [.agg (enA e1),(obR o)]) []
theorem zq(p:Pg)(c:Cf)(k:Nat)(hk:k<c.b.length)(h0:kO p c k)(e1:En)(o:List Ob)(h1:qZ p c k)(h2:Af p c k e1 o)(k1: ¬(enX p c k).kind=1)(k4: ¬(enX p c k).kind=4)(k2: ¬(enX p c k).kind=2)(k3: ¬(enX p c k).kind=3)(k5:(enX p c k).kind=5):Vc (vF_ 16 [.agg (pgA p),.agg (cfA c), aI k] [.fv,.fv,kQ p c k,.bd false,.bd false,.bd false,.bd false,.bd true,rz p c k,.cl [.agg (pgA p),.agg (enA (c.b.getD k default).done),.agg (s8R (bO p c k))] (.tup [.agg (enA e1),(obR o)]) []] [] (.tup [.agg (enA e1),(obR o)]) []):=ar (cj (bi k c.b.length) (dA p (fl p c (fm c (cj (rf (k:Int)) (cj h0 (cj (af.2 k1) (cj (af.2 k4) (cj (af.2 k2) (cj (af.2 k3) (cj (aG.2 k5) (dA p (fl p c (fm c (cj (rf (k:Int)) (cj h1 (dA p (qa p c k (yl p c k (cj (rf ((c.b.getD k default).pc)) (cj h2 (s3 e1 o (cj (rr o.length 2 fun i j=>au obC o i j) trivial)))))))))))))))))))))))
theorem zp(p:Pg)(c:Cf)(k:Nat)(hk:k<c.b.length)(h0:kO p c k)(e1:En)(o:List Ob)(h1:qZ p c k)(h2:Af p c k e1 o)(k1: ¬(enX p c k).kind=1)(k4: ¬(enX p c k).kind=4)(k2: ¬(enX p c k).kind=2)(k3: ¬(enX p c k).kind=3)(k5: ¬(enX p c k).kind=5)(k7:(enX p c k).kind=7):Vc (vF_ 16 [.agg (pgA p),.agg (cfA c), aI k] [.fv,.fv,kQ p c k,.bd false,.bd false,.bd false,.bd false,.bd false,.bd true,rz p c k,.cl [.agg (pgA p),.agg (enA (c.b.getD k default).done),.agg (s8R (bO p c k))] (.tup [.agg (enA e1),(obR o)]) []] [] (.tup [.agg (enA e1),(obR o)]) []):=ar (cj (bi k c.b.length) (dA p (fl p c (fm c (cj (rf (k:Int)) (cj h0 (cj (af.2 k1) (cj (af.2 k4) (cj (af.2 k2) (cj (af.2 k3) (cj (af.2 k5) (cj (aG.2 k7) (dA p (fl p c (fm c (cj (rf (k:Int)) (cj h1 (dA p (qa p c k (yl p c k (cj (rf ((c.b.getD k default).pc)) (cj h2 (s3 e1 o (cj (rr o.length 2 fun i j=>au obC o i j) trivial))))))))))))))))))))))))
theorem ve(c:Cf)(k:Nat)(L:List Int){Z:Prop}(z:Z):(RF true (RF ((c.b.getD k default).kn) (RF ((c.b.getD k default).ft) (RF (0:Int) (RF (0:Int) (RF (0:Int) (RF (0:Int) (RF (0:Nat) (RF L.length Z))))))))):=⟨rfl,rfl,rfl,rfl,rfl,rfl,rfl,rfl,rfl,z⟩
theorem qb(p:Pg)(c:Cf)(k:Nat){Z:Prop}(z:Z):(RF p.ls.length (RR p.ls.length 2 (fun i j=>au lbC p.ls i j) (RF p.is.length (RR p.is.length 9 (fun i j=>au inC p.is i j) (RF c.s.st.length (RR c.s.st.length 1 (fun i j=>aI (List.getD c.s.st i 0)) (RF c.b.length (RR c.b.length 8 (fun i j=>au enC c.b i j) (RF (k:Int) Z))))))))):=⟨rfl,fun _ _ _ _=>rfl,rfl,fun _ _ _ _=>rfl,rfl,fun _ _ _ _=>rfl,rfl,fun _ _ _ _=>rfl,rfl,z⟩
abbrev Ae(p:Pg)(c:Cf)(k:Nat)(L:List Int):Prop:=PureC Try.prog 32 [.agg (pgA p),lR c.s.st,enR c.b,.int .i64 k] (.tup [(lR L),.bool true]) []
theorem tn(p:Pg)(c:Cf)(k:Nat)(hk:k<c.b.length)(h0:kO p c k)(e1:En)(L:List Int)(h1:Ae p c k L)(h2:pC_ 31 [.agg (pgA p),.agg (enA (c.b.getD k default).done),.agg (s8R ⟨0,0,0,0,[],L,(c.b.getD k default).pc⟩)] (.tup [.agg (enA e1),.nils]) [])(k1: ¬(enX p c k).kind=1)(k4: ¬(enX p c k).kind=4)(k2: ¬(enX p c k).kind=2)(k3: ¬(enX p c k).kind=3)(k5: ¬(enX p c k).kind=5)(k7: ¬(enX p c k).kind=7)(k9:(enX p c k).kind=9):Vc (vF_ 16 [.agg (pgA p),.agg (cfA c), aI k] [.fv,.fv,kQ p c k,.bd false,.bd false,.bd false,.bd false,.bd false,.bd false,.bd true,.cl [.agg (pgA p),lR c.s.st,enR c.b, aI k] (.tup [(lR L),.bool true]) [],.cl [.agg (pgA p),.agg (enA (c.b.getD k default).done),.agg (s8R ⟨0,0,0,0,[],L,(c.b.getD k default).pc⟩)] (.tup [.agg (enA e1),.nils]) []] [] (.tup [.agg (enA e1),.nils]) []):=ar (cj (bi k c.b.length) (dA p (fl p c (fm c (cj (rf (k:Int)) (cj h0 (cj (af.2 k1) (cj (af.2 k4) (cj (af.2 k2) (cj (af.2 k3) (cj (af.2 k5) (cj (af.2 k7) (cj (aG.2 k9) (dA p (qb p c k (cj h1 (dA p (qa p c k (ve c k L (cj (rr L.length 1 fun i j=>aI (L.getD i 0)) (cj (rf ((c.b.getD k default).pc)) (cj h2 (vR e1 trivial)))))))))))))))))))))))
theorem tm(p:Pg)(c:Cf)(k:Nat)(hk:k<c.b.length)(h0:kO p c k)(e1:En)(L:List Int)(o:List Ob)(h1:Ae p c k L)(h2:pC_ 31 [.agg (pgA p),.agg (enA (c.b.getD k default).done),.agg (s8R ⟨0,0,0,0,[],L,(c.b.getD k default).pc⟩)] (.tup [.agg (enA e1),(obR o)]) [])(k1: ¬(enX p c k).kind=1)(k4: ¬(enX p c k).kind=4)(k2: ¬(enX p c k).kind=2)(k3: ¬(enX p c k).kind=3)(k5: ¬(enX p c k).kind=5)(k7: ¬(enX p c k).kind=7)(k9:(enX p c k).kind=9):Vc (vF_ 16 [.agg (pgA p),.agg (cfA c), aI k] [.fv,.fv,kQ p c k,.bd false,.bd false,.bd false,.bd false,.bd false,.bd false,.bd true,.cl [.agg (pgA p),lR c.s.st,enR c.b, aI k] (.tup [(lR L),.bool true]) [],.cl [.agg (pgA p),.agg (enA (c.b.getD k default).done),.agg (s8R ⟨0,0,0,0,[],L,(c.b.getD k default).pc⟩)] (.tup [.agg (enA e1),(obR o)]) []] [] (.tup [.agg (enA e1),(obR o)]) []):=ar (cj (bi k c.b.length) (dA p (fl p c (fm c (cj (rf (k:Int)) (cj h0 (cj (af.2 k1) (cj (af.2 k4) (cj (af.2 k2) (cj (af.2 k3) (cj (af.2 k5) (cj (af.2 k7) (cj (aG.2 k9) (dA p (qb p c k (cj h1 (dA p (qa p c k (ve c k L (cj (rr L.length 1 fun i j=>aI (L.getD i 0)) (cj (rf ((c.b.getD k default).pc)) (cj h2 (s3 e1 o (cj (rr o.length 2 fun i j=>au obC o i j) trivial))))))))))))))))))))))))
theorem yo(c:Cf)(k:Nat){Z:Prop}(z:Z):(RF true (RF ((c.b.getD k default).kn) (RF ((c.b.getD k default).ft) (RF (0:Int) (RF (0:Int) (RF (0:Int) (RF (0:Int) (RF (0:Nat) (RF (0:Nat) Z))))))))):=⟨rfl,rfl,rfl,rfl,rfl,rfl,rfl,rfl,rfl,z⟩
abbrev CK(p:Pg)(c:Cf)(k:Nat):Prop:=PureC Try.prog 32 [.agg (pgA p),lR c.s.st,enR c.b,.int .i64 k] (.tup [.nils,.bool false]) []
theorem tp(p:Pg)(c:Cf)(k:Nat)(hk:k<c.b.length)(h0:kO p c k)(e1:En)(h1:CK p c k)(h2:pC_ 31 [.agg (pgA p),.agg (enA (c.b.getD k default).done),.agg (s8R ⟨0,0,0,0,[],[],(c.b.getD k default).pc⟩)] (.tup [.agg (enA e1),.nils]) [])(k1: ¬(enX p c k).kind=1)(k4: ¬(enX p c k).kind=4)(k2: ¬(enX p c k).kind=2)(k3: ¬(enX p c k).kind=3)(k5: ¬(enX p c k).kind=5)(k7: ¬(enX p c k).kind=7)(k9:(enX p c k).kind=9):Vc (vF_ 16 [.agg (pgA p),.agg (cfA c), aI k] [.fv,.fv,kQ p c k,.bd false,.bd false,.bd false,.bd false,.bd false,.bd false,.bd true,.cl [.agg (pgA p),lR c.s.st,enR c.b, aI k] (.tup [.nils,.bool false]) [],.cl [.agg (pgA p),.agg (enA (c.b.getD k default).done),.agg (s8R ⟨0,0,0,0,[],[],(c.b.getD k default).pc⟩)] (.tup [.agg (enA e1),.nils]) []] [] (.tup [.agg (enA e1),.nils]) []):=ar (cj (bi k c.b.length) (dA p (fl p c (fm c (cj (rf (k:Int)) (cj h0 (cj (af.2 k1) (cj (af.2 k4) (cj (af.2 k2) (cj (af.2 k3) (cj (af.2 k5) (cj (af.2 k7) (cj (aG.2 k9) (dA p (qb p c k (cj h1 (dA p (qa p c k (yo c k (cj (rf ((c.b.getD k default).pc)) (cj h2 (vR e1 trivial))))))))))))))))))))))
def cK(p:Pg)(c:Cf)(k:Nat):En×List Ob:=((match (ouV p c k).2.1 with |none=>(ouV p c k).1 |some t=>(ouV p c k).1.to t),(ouV p c k).2.2)
theorem fS(p:Pg)(c:Cf)(k:Nat){n:Int}(h:0<=n∧n<4):(bO p c k).reg n=(b9 p c.s c.b k n).1:=by
 obtain rfl |rfl |rfl |rfl:=ki h.1 h.2<;>rfl
theorem fI(p:Pg)(c:Cf)(k:Nat)(v:Vl)(h:okV v):vlV p.W (bO p c k) v=(cd p c.s c.b k v).1:=by
 unfold vlV cd
 cases hv:v.reg with
 |true=>rw[ao rfl,ao rfl];exact fS p c k (h hv)
 |false=>rfl
theorem xm{e:En}(hv:e.val=0)(hf:e.frm= -1)(a:Int):(⟨e.pc,0,a, -1,e.nxt,true,true,true⟩:En)=(e.done.ad a).flt:=by
 cases e;cases hv;cases hf;rfl
theorem zA(p:Pg)(c:Cf)(k:Nat)(hP:OkP p)(hI:Inv p c)(hF:Frs p c)(hM:MOk p c)(hb:c.b.length<=90)(hk:k<c.b.length)(hd:(c.b.getD k default).dn=false)(hK:cnK p c k (enX p c k)=true)(k2:(enX p c k).kind=2):pC_ 16 [.agg (pgA p),.agg (cfA c),.int .i64 k] (.tup [.agg (enA (cK p c k).1),obR (cK p c k).2]) []:=by
 have hb':c.b.length<1000000:=by omega
 have hml:=hI.ml
 have h0:=kL p c k hk
 have hA:=tq p c k hk hb' hM.sm
 have ht:tAB p c k (enX p c k)=true:=by
  unfold cnK at hK
  rw[aj (by omega),aj (by omega),aj (by omega),ao k2,al] at hK
  exact hK.1
 rw[ht,ao rfl] at hA
 obtain⟨f1,f2⟩:=(hF _ (bZ hk)).d hd
 by_cases ho:(c.s.m.length:Int)<=adV p c k (enX p c k)
 ·have e:cK p c k=(((c.b.getD k default).done.ad (adV p c k (enX p c k))).flt,[]):=by unfold cK ouV;rw[aj (by omega),aj (by omega),aj (by omega),ao k2,ao ho]
  rw[e, <-xm (e:=(c.b.getD k default)) f1 f2]
  exact PureC.obs2 (o:=[]) (PureC.vc (wj p c k hk h0 _ (PureC.vc (zj p c k ⟨(c.b.getD k default).pc,(c.b.getD k default).val,adV p c k (enX p c k),(c.b.getD k default).frm,(c.b.getD k default).nxt,(c.b.getD k default).dn,true,true⟩ (PureC.vc (vk p c k hk _ _ (by omega) hA (sA p hP))))) (by omega) (by omega) k2))
 ·have e:cK p c k=(((c.b.getD k default).done.ad (adV p c k (enX p c k))).ld (ldV p c.s.m c.b k (adV p c k (enX p c k))).1 (ldV p c.s.m c.b k (adV p c k (enX p c k))).2.1,[⟨1,adV p c k (enX p c k)⟩]):=by unfold cK ouV;rw[aj (by omega),aj (by omega),aj (by omega),ao k2,aj ho]
  rw[e]
  exact PureC.vc (wi p c k hk h0 _ _ (PureC.vc (zi p c k ⟨(c.b.getD k default).pc,(c.b.getD k default).val,adV p c k (enX p c k),(c.b.getD k default).frm,(c.b.getD k default).nxt,(c.b.getD k default).dn,true,(c.b.getD k default).ft⟩ _ _ _ (PureC.vc (vj p c k hk _ _ (by omega) hA (sA p hP))) (A7 p c.s.m c.b k _ hb'))) (by omega) (by omega) k2)
theorem zz(p:Pg)(c:Cf)(k:Nat)(hP:OkP p)(hI:Inv p c)(hF:Frs p c)(hM:MOk p c)(hb:c.b.length<=90)(hk:k<c.b.length)(hd:(c.b.getD k default).dn=false)(hK:cnK p c k (enX p c k)=true)(k3:(enX p c k).kind=3):pC_ 16 [.agg (pgA p),.agg (cfA c),.int .i64 k] (.tup [.agg (enA (cK p c k).1),obR (cK p c k).2]) []:=by
 have hb':c.b.length<1000000:=by omega
 have hml:=hI.ml
 have h0:=kL p c k hk
 have k2: ¬(enX p c k).kind=2:=by omega
 have hR:=qk p c k hb'
 obtain⟨⟨hkd,hxa,hxb,hxd,htg⟩,hpc⟩:=fM hP c k
 have e:cK p c k=((c.b.getD k default).done.vl (tD p c k (enX p c k)).1,[]):=by unfold cK ouV;rw[aj (by omega),aj (by omega),ao k3]
 rw[e]
 have h2:=tk (bO p c k) (enX p c k).d hxd
 rw[fS p c k hxd] at h2
 exact PureC.obs2 (o:=[]) (PureC.vc (zr p c k hk h0 _ hR h2 (by omega) (by omega) k2 k3))
theorem zB(p:Pg)(c:Cf)(k:Nat)(hP:OkP p)(hI:Inv p c)(hF:Frs p c)(hM:MOk p c)(hb:c.b.length<=90)(hk:k<c.b.length)(hd:(c.b.getD k default).dn=false)(hK:cnK p c k (enX p c k)=true)(k1:(enX p c k).kind=1):pC_ 16 [.agg (pgA p),.agg (cfA c),.int .i64 k] (.tup [.agg (enA (cK p c k).1),obR (cK p c k).2]) []:=by
 have hb':c.b.length<1000000:=by omega
 have hml:=hI.ml
 have h0:=kL p c k hk
 have k2: ¬(enX p c k).kind=2:=by omega
 have k3: ¬(enX p c k).kind=3:=by omega
 have hR:=qk p c k hb'
 obtain⟨⟨hkd,hxa,hxb,hxd,htg⟩,hpc⟩:=fM hP c k
 have hpc0:=(hI.be _ (bZ hk)).pc
 have hrg:=fun j=>eS (p:=p) hI.reg (fun e he=>(hI.be e he).val) k j
 have hS:=qy p (bO p c k) hP ⟨⟨hrg 0,hrg 1,hrg 2,hrg 3⟩,fun h=>(h:(enX p c k).kind=2∨(enX p c k).kind=3).elim (fun h=>absurd h k2) fun h=>absurd h k3,⟨by show -1<=(c.b.getD k default).pc;omega,hpc0.2⟩,aY _⟩ (aY _)
 have va:=fI p c k (enX p c k).a hxa
 have vb:=fI p c k (enX p c k).b hxb
 have vd:=fS p c k hxd
 have rs: ∀v,((bO p c k).set (enX p c k).d v).reg (enX p c k).d=v:=fun v=>by
  obtain h |h |h |h:=ki hxd.1 hxd.2<;>rw[h]<;>rfl
 have hz: ∀(s2:S8) (o:List Ob) (n:Int),(aF p.W ((aQ p.ms:Nat):Int) p.is.length (enX p c k) (bO p c k))=(s2,o,n)->pC_ 27 [.agg (pgA p),.agg (s8R (bO p c k))] (.tup [.agg (s8R s2),obR o,.int .i64 n]) []:=fun s2 o n he=>by
  have:=hS
  rw[show(atI p (bO p c k).pc)=(enX p c k) from rfl,he] at this
  exact this
 have e:cK p c k=((c.b.getD k default).done.vl (Wd.doV p.W (enX p c k).op (tA p c k (enX p c k)).1 (tB p c k (enX p c k)).1),[]):=by unfold cK ouV;rw[ao k1]
 rw[e]
 have q:(aF p.W ((aQ p.ms:Nat):Int) p.is.length (enX p c k) (bO p c k))=(((bO p c k).set (enX p c k).d (Wd.doV p.W (enX p c k).op (tA p c k (enX p c k)).1 (tB p c k (enX p c k)).1)).go ((c.b.getD k default).pc+1),[],0):=by unfold aF;rw[ao k1,va,vb];rfl
 have h3:=tk (((bO p c k).set (enX p c k).d (Wd.doV p.W (enX p c k).op (tA p c k (enX p c k)).1 (tB p c k (enX p c k)).1)).go ((c.b.getD k default).pc+1)) (enX p c k).d hxd
 rw[n5,rs] at h3
 exact PureC.obs2 (o:=[]) (PureC.vc (zt p c k hk h0 _ _ _ _ hR (hz _ _ _ q) h3 k1))
theorem zy(p:Pg)(c:Cf)(k:Nat)(hP:OkP p)(hI:Inv p c)(hF:Frs p c)(hM:MOk p c)(hb:c.b.length<=90)(hk:k<c.b.length)(hd:(c.b.getD k default).dn=false)(hK:cnK p c k (enX p c k)=true)(k4:(enX p c k).kind=4):pC_ 16 [.agg (pgA p),.agg (cfA c),.int .i64 k] (.tup [.agg (enA (cK p c k).1),obR (cK p c k).2]) []:=by
 have hb':c.b.length<1000000:=by omega
 have hml:=hI.ml
 have h0:=kL p c k hk
 have k2: ¬(enX p c k).kind=2:=by omega
 have k3: ¬(enX p c k).kind=3:=by omega
 have k1: ¬(enX p c k).kind=1:=by omega
 have hR:=qk p c k hb'
 obtain⟨⟨hkd,hxa,hxb,hxd,htg⟩,hpc⟩:=fM hP c k
 have hpc0:=(hI.be _ (bZ hk)).pc
 have hrg:=fun j=>eS (p:=p) hI.reg (fun e he=>(hI.be e he).val) k j
 have hS:=qy p (bO p c k) hP ⟨⟨hrg 0,hrg 1,hrg 2,hrg 3⟩,fun h=>(h:(enX p c k).kind=2∨(enX p c k).kind=3).elim (fun h=>absurd h k2) fun h=>absurd h k3,⟨by show -1<=(c.b.getD k default).pc;omega,hpc0.2⟩,aY _⟩ (aY _)
 have va:=fI p c k (enX p c k).a hxa
 have vb:=fI p c k (enX p c k).b hxb
 have vd:=fS p c k hxd
 have rs: ∀v,((bO p c k).set (enX p c k).d v).reg (enX p c k).d=v:=fun v=>by
  obtain h |h |h |h:=ki hxd.1 hxd.2<;>rw[h]<;>rfl
 have hz: ∀(s2:S8) (o:List Ob) (n:Int),(aF p.W ((aQ p.ms:Nat):Int) p.is.length (enX p c k) (bO p c k))=(s2,o,n)->pC_ 27 [.agg (pgA p),.agg (s8R (bO p c k))] (.tup [.agg (s8R s2),obR o,.int .i64 n]) []:=fun s2 o n he=>by
  have:=hS
  rw[show(atI p (bO p c k).pc)=(enX p c k) from rfl,he] at this
  exact this
 have e:cK p c k=((c.b.getD k default).done.vl (if(tA p c k (enX p c k)).1=0 then(tD p c k (enX p c k)).1 else(tB p c k (enX p c k)).1),[]):=by unfold cK ouV;rw[aj k1,ao k4]
 rw[e]
 by_cases hz0:(tA p c k (enX p c k)).1=0
 ·rw[ao hz0]
  have q:(aF p.W ((aQ p.ms:Nat):Int) p.is.length (enX p c k) (bO p c k))=((bO p c k).go ((c.b.getD k default).pc+1),[],0):=by unfold aF;rw[aj k1,ao k4,va,ao (show(cd p c.s c.b k (enX p c k).a).1=0 from hz0)];rfl
  have h3:=tk ((bO p c k).go ((c.b.getD k default).pc+1)) (enX p c k).d hxd
  rw[n5,vd] at h3
  exact PureC.obs2 (o:=[]) (PureC.vc (vn p c k hk h0 _ _ _ _ hR (hz _ _ _ q) h3 k1 k4))
 ·rw[aj hz0]
  have q:(aF p.W ((aQ p.ms:Nat):Int) p.is.length (enX p c k) (bO p c k))=(((bO p c k).set (enX p c k).d (tB p c k (enX p c k)).1).go ((c.b.getD k default).pc+1),[],0):=by unfold aF;rw[aj k1,ao k4,va,aj (show ¬(cd p c.s c.b k (enX p c k).a).1=0 from hz0),vb];rfl
  have h3:=tk (((bO p c k).set (enX p c k).d (tB p c k (enX p c k)).1).go ((c.b.getD k default).pc+1)) (enX p c k).d hxd
  rw[n5,rs] at h3
  exact PureC.obs2 (o:=[]) (PureC.vc (vn p c k hk h0 _ _ _ _ hR (hz _ _ _ q) h3 k1 k4))
theorem zx(p:Pg)(c:Cf)(k:Nat)(hP:OkP p)(hI:Inv p c)(hF:Frs p c)(hM:MOk p c)(hb:c.b.length<=90)(hk:k<c.b.length)(hd:(c.b.getD k default).dn=false)(hK:cnK p c k (enX p c k)=true)(k5:(enX p c k).kind=5):pC_ 16 [.agg (pgA p),.agg (cfA c),.int .i64 k] (.tup [.agg (enA (cK p c k).1),obR (cK p c k).2]) []:=by
 have hb':c.b.length<1000000:=by omega
 have hml:=hI.ml
 have h0:=kL p c k hk
 have k2: ¬(enX p c k).kind=2:=by omega
 have k3: ¬(enX p c k).kind=3:=by omega
 have k1: ¬(enX p c k).kind=1:=by omega
 have k4: ¬(enX p c k).kind=4:=by omega
 have hR:=qk p c k hb'
 obtain⟨⟨hkd,hxa,hxb,hxd,htg⟩,hpc⟩:=fM hP c k
 have hpc0:=(hI.be _ (bZ hk)).pc
 have hrg:=fun j=>eS (p:=p) hI.reg (fun e he=>(hI.be e he).val) k j
 have hS:=qy p (bO p c k) hP ⟨⟨hrg 0,hrg 1,hrg 2,hrg 3⟩,fun h=>(h:(enX p c k).kind=2∨(enX p c k).kind=3).elim (fun h=>absurd h k2) fun h=>absurd h k3,⟨by show -1<=(c.b.getD k default).pc;omega,hpc0.2⟩,aY _⟩ (aY _)
 have va:=fI p c k (enX p c k).a hxa
 have vb:=fI p c k (enX p c k).b hxb
 have vd:=fS p c k hxd
 have rs: ∀v,((bO p c k).set (enX p c k).d v).reg (enX p c k).d=v:=fun v=>by
  obtain h |h |h |h:=ki hxd.1 hxd.2<;>rw[h]<;>rfl
 have hz: ∀(s2:S8) (o:List Ob) (n:Int),(aF p.W ((aQ p.ms:Nat):Int) p.is.length (enX p c k) (bO p c k))=(s2,o,n)->pC_ 27 [.agg (pgA p),.agg (s8R (bO p c k))] (.tup [.agg (s8R s2),obR o,.int .i64 n]) []:=fun s2 o n he=>by
  have:=hS
  rw[show(atI p (bO p c k).pc)=(enX p c k) from rfl,he] at this
  exact this
 have hgo:=fun(s2:S8) (o:List Ob) (q:(aF p.W ((aQ p.ms:Nat):Int) p.is.length (enX p c k) (bO p c k))=(s2,o,0))=>PureC.vc (ql p (c.b.getD k default).done (bO p c k) s2 o (hz _ _ _ q))
 have e:cK p c k=((c.b.getD k default).done.to (if Wd.doV p.W (enX p c k).op (tA p c k (enX p c k)).1 (tB p c k (enX p c k)).1=0 then(c.b.getD k default).pc+1 else(enX p c k).tg),[⟨3,if Wd.doV p.W (enX p c k).op (tA p c k (enX p c k)).1 (tB p c k (enX p c k)).1=0 then(c.b.getD k default).pc+1 else(enX p c k).tg⟩]):=by
  unfold cK ouV;rw[aj k1,aj k4,aj k3,aj k2,ao k5]
 have q:(aF p.W ((aQ p.ms:Nat):Int) p.is.length (enX p c k) (bO p c k))=((bO p c k).go (if Wd.doV p.W (enX p c k).op (tA p c k (enX p c k)).1 (tB p c k (enX p c k)).1=0 then(c.b.getD k default).pc+1 else(enX p c k).tg),[⟨3,if Wd.doV p.W (enX p c k).op (tA p c k (enX p c k)).1 (tB p c k (enX p c k)).1=0 then(c.b.getD k default).pc+1 else(enX p c k).tg⟩],0):=by
  unfold aF tA tB
  rw[aj k1,aj k4,aj k2,aj k3,ao k5,va,vb]
  split<;>rfl
 rw[e]
 exact PureC.vc (zq p c k hk h0 _ _ hR (hgo _ _ q) k1 k4 k2 k3 k5)
theorem zw(p:Pg)(c:Cf)(k:Nat)(hP:OkP p)(hI:Inv p c)(hF:Frs p c)(hM:MOk p c)(hb:c.b.length<=90)(hk:k<c.b.length)(hd:(c.b.getD k default).dn=false)(hK:cnK p c k (enX p c k)=true)(k7:(enX p c k).kind=7):pC_ 16 [.agg (pgA p),.agg (cfA c),.int .i64 k] (.tup [.agg (enA (cK p c k).1),obR (cK p c k).2]) []:=by
 have hb':c.b.length<1000000:=by omega
 have hml:=hI.ml
 have h0:=kL p c k hk
 have k2: ¬(enX p c k).kind=2:=by omega
 have k3: ¬(enX p c k).kind=3:=by omega
 have k1: ¬(enX p c k).kind=1:=by omega
 have k4: ¬(enX p c k).kind=4:=by omega
 have k5: ¬(enX p c k).kind=5:=by omega
 have hR:=qk p c k hb'
 obtain⟨⟨hkd,hxa,hxb,hxd,htg⟩,hpc⟩:=fM hP c k
 have hpc0:=(hI.be _ (bZ hk)).pc
 have hrg:=fun j=>eS (p:=p) hI.reg (fun e he=>(hI.be e he).val) k j
 have hS:=qy p (bO p c k) hP ⟨⟨hrg 0,hrg 1,hrg 2,hrg 3⟩,fun h=>(h:(enX p c k).kind=2∨(enX p c k).kind=3).elim (fun h=>absurd h k2) fun h=>absurd h k3,⟨by show -1<=(c.b.getD k default).pc;omega,hpc0.2⟩,aY _⟩ (aY _)
 have va:=fI p c k (enX p c k).a hxa
 have vb:=fI p c k (enX p c k).b hxb
 have vd:=fS p c k hxd
 have rs: ∀v,((bO p c k).set (enX p c k).d v).reg (enX p c k).d=v:=fun v=>by
  obtain h |h |h |h:=ki hxd.1 hxd.2<;>rw[h]<;>rfl
 have hz: ∀(s2:S8) (o:List Ob) (n:Int),(aF p.W ((aQ p.ms:Nat):Int) p.is.length (enX p c k) (bO p c k))=(s2,o,n)->pC_ 27 [.agg (pgA p),.agg (s8R (bO p c k))] (.tup [.agg (s8R s2),obR o,.int .i64 n]) []:=fun s2 o n he=>by
  have:=hS
  rw[show(atI p (bO p c k).pc)=(enX p c k) from rfl,he] at this
  exact this
 have hgo:=fun(s2:S8) (o:List Ob) (q:(aF p.W ((aQ p.ms:Nat):Int) p.is.length (enX p c k) (bO p c k))=(s2,o,0))=>PureC.vc (ql p (c.b.getD k default).done (bO p c k) s2 o (hz _ _ _ q))
 have e:cK p c k=((c.b.getD k default).done.to (jb p (tA p c k (enX p c k)).1),[⟨3,jb p (tA p c k (enX p c k)).1⟩]):=by
  unfold cK ouV;rw[aj k1,aj k4,aj k3,aj k2,aj k5,ao k7]
 have j:(if(p.is.length:Int)<(cd p c.s c.b k (enX p c k).a).1 then(p.is.length:Int) else(cd p c.s c.b k (enX p c k).a).1)=jb p (tA p c k (enX p c k)).1:=by unfold jb tA;omega
 have q:(aF p.W ((aQ p.ms:Nat):Int) p.is.length (enX p c k) (bO p c k))=((bO p c k).go (jb p (tA p c k (enX p c k)).1),[⟨3,jb p (tA p c k (enX p c k)).1⟩],0):=by
  unfold aF
  rw[aj k1,aj k4,aj k2,aj k3,aj k5,aj (by omega),ao k7,va,j]
 rw[e]
 exact PureC.vc (zp p c k hk h0 _ _ hR (hgo _ _ q) k1 k4 k2 k3 k5 k7)
theorem zu(p:Pg)(c:Cf)(k:Nat)(hP:OkP p)(hI:Inv p c)(hF:Frs p c)(hM:MOk p c)(hb:c.b.length<=90)(hk:k<c.b.length)(hd:(c.b.getD k default).dn=false)(hK:cnK p c k (enX p c k)=true)(k9:(enX p c k).kind=9):pC_ 16 [.agg (pgA p),.agg (cfA c),.int .i64 k] (.tup [.agg (enA (cK p c k).1),obR (cK p c k).2]) []:=by
 have hb':c.b.length<1000000:=by omega
 have hml:=hI.ml
 have h0:=kL p c k hk
 have k2: ¬(enX p c k).kind=2:=by omega
 have k3: ¬(enX p c k).kind=3:=by omega
 have k1: ¬(enX p c k).kind=1:=by omega
 have k4: ¬(enX p c k).kind=4:=by omega
 have k5: ¬(enX p c k).kind=5:=by omega
 have k7: ¬(enX p c k).kind=7:=by omega
 obtain⟨⟨hkd,hxa,hxb,hxd,htg⟩,hpc⟩:=fM hP c k
 have hpc0:=(hI.be _ (bZ hk)).pc
 have hst:=hI.st
 have hpcs: ∀e∈c.b, -1<=e.pc∧e.pc<=1000000:=fun e he=>by have:=(hI.be e he).pc;have:=hP.len;omega
 have hg9: ∀L:List Int,L.length<=4+k-> ∀(s2:S8) (o:List Ob) (n:Int),(aF p.W ((aQ p.ms:Nat):Int) p.is.length (enX p c k) ⟨0,0,0,0,[],L,(c.b.getD k default).pc⟩)=(s2,o,n)->pC_ 27 [.agg (pgA p),.agg (s8R ⟨0,0,0,0,[],L,(c.b.getD k default).pc⟩)] (.tup [.agg (s8R s2),obR o,.int .i64 n]) []:=fun L hL s2 o n he=>by
  have z:(0:Int)<=0∧(0:Int)<65536:=by decide
  have h:=qy p ⟨0,0,0,0,[],L,(c.b.getD k default).pc⟩ hP ⟨⟨z,z,z,z⟩,fun h=>(h:(enX p c k).kind=2∨(enX p c k).kind=3).elim (fun h=>absurd h k2) fun h=>absurd h k3,⟨by show -1<=(c.b.getD k default).pc;omega,hpc0.2⟩,by show L.length<=100;omega⟩ (aY _)
  rw[show(atI p (⟨0,0,0,0,[],L,(c.b.getD k default).pc⟩:S8).pc)=(enX p c k) from rfl,he] at h
  exact h
 have hflt: ∀L:List Int,L.length=0->(aF p.W ((aQ p.ms:Nat):Int) p.is.length (enX p c k) ⟨0,0,0,0,[],L,(c.b.getD k default).pc⟩)=(⟨0,0,0,0,[],L,(c.b.getD k default).pc⟩,[],2):=fun L h0=>by
  unfold aF
  rw[aj k1,aj k4,aj k2,aj k3,aj k5,aj (by omega),aj k7,aj (by omega),ao k9,ao h0]
 have e: ∀R:En×Option Int×List Ob,ouV p c k=R->cK p c k=(match R with | (e,none,o)=>(e,o)| (e,some t,o)=>(e.to t,o)):=by
  rintro⟨e,t,o⟩ h
  unfold cK
  rw[h]
  cases t<;>rfl
 have h9:ouV p c k=(match reV p c.s.st c.b k with |none=>((c.b.getD k default).done.flt,none,[])|some L=>if L.length=0 then((c.b.getD k default).done.flt,none,[]) else((c.b.getD k default).done,some (bo L),[⟨3,bo L⟩])):=by
  unfold ouV
  rw[aj k1,aj k4,aj k3,aj k2,aj k5,aj k7]
  all_goals (cases reV p c.s.st c.b k<;>rfl)
 cases hv:reV p c.s.st c.b k with
 |none=>
  rw[hv] at h9
  rw[e _ h9]
  exact PureC.obs2 (o:=[]) (PureC.vc (tp p c k hk h0 _ (rO p c.s.st c.b k hP (by omega) (by omega) hpcs hv) (PureC.vc (vm p (c.b.getD k default).done ⟨0,0,0,0,[],[],(c.b.getD k default).pc⟩ _ _ 2 (by decide) (hg9 [] (aY _) _ _ _ (hflt [] rfl)))) k1 k4 k2 k3 k5 k7 k9))
 |some L=>
  rw[hv] at h9
  have hr:=xb p c.s.st c.b k L hP (by omega) (by omega) hpcs hv
  have hL:L.length<=4+k:=by
   rw[jm p c.s.st c.b (Nat.le_of_lt hk)] at hv
   have:=jn p c.b k 0 _ L hv
   omega
  by_cases hz1:L.length=0
  ·rw[e _ (h9.trans (ao hz1))]
   exact PureC.obs2 (o:=[]) (PureC.vc (tn p c k hk h0 _ L hr (PureC.vc (vm p (c.b.getD k default).done ⟨0,0,0,0,[],L,(c.b.getD k default).pc⟩ _ _ 2 (by decide) (hg9 L hL _ _ _ (hflt L hz1)))) k1 k4 k2 k3 k5 k7 k9))
  ·rw[e _ (h9.trans (aj hz1))]
   have q:(aF p.W ((aQ p.ms:Nat):Int) p.is.length (enX p c k) ⟨0,0,0,0,[],L,(c.b.getD k default).pc⟩)=(⟨0,0,0,0,[],L.take (L.length-1),bo L⟩,[⟨3,bo L⟩],0):=by
    unfold aF bo
    rw[aj k1,aj k4,aj k2,aj k3,aj k5,aj (by omega),aj k7,aj (by omega),ao k9,aj hz1,show((L.length:Int)-1).toNat=L.length-1 by omega]
   exact PureC.vc (tm p c k hk h0 _ L _ hr (PureC.vc (ql p (c.b.getD k default).done ⟨0,0,0,0,[],L,(c.b.getD k default).pc⟩ _ _ (hg9 L hL _ _ _ q))) k1 k4 k2 k3 k5 k7 k9)
theorem Cu(p:Pg)(c:Cf)(k:Nat)(hP:OkP p)(hI:Inv p c)(hF:Frs p c)(hM:MOk p c)(hb:c.b.length<=90)(hk:k<c.b.length)(hd:(c.b.getD k default).dn=false)(hK:cnK p c k (enX p c k)=true):pC_ 16 [.agg (pgA p),.agg (cfA c),.int .i64 k] (.tup [.agg (enA (cK p c k).1),obR (cK p c k).2]) []:=by
 by_cases k2:(enX p c k).kind=2
 ·exact zA p c k hP hI hF hM hb hk hd hK k2
 by_cases k3:(enX p c k).kind=3
 ·exact zz p c k hP hI hF hM hb hk hd hK k3
 by_cases k1:(enX p c k).kind=1
 ·exact zB p c k hP hI hF hM hb hk hd hK k1
 by_cases k4:(enX p c k).kind=4
 ·exact zy p c k hP hI hF hM hb hk hd hK k4
 by_cases k5:(enX p c k).kind=5
 ·exact zx p c k hP hI hF hM hb hk hd hK k5
 by_cases k7:(enX p c k).kind=7
 ·exact zw p c k hP hI hF hM hb hk hd hK k7
 have k9:(enX p c k).kind=9:=by
  unfold cnK at hK
  rw[aj k1,aj k5,aj k4,aj k2,aj k3,aj k7] at hK
  exact aG.1 hK
 exact zu p c k hP hI hF hM hb hk hd hK k9
end
end Go.Proofs.Ytlfldlnohmobmaa.Px
