import Derived.Test.YtfjapapiappacaaMbD
set_option linter.unusedVariables false
set_option linter.unusedSimpArgs false
set_option maxRecDepth 100000
namespace Go.Proofs.Ytfjapapiappacaa.Px
section
open Go.RowKit Go.Proofs.Ytfjapapiappacaa.Rx
def pgP (p:Pg):AV:= .rptr 10 (fun q=>(pgA p).getD q .junk) 0
theorem ok_no {w:Int} (h: ¬(1≤w∧w≤16)):Wd.okB w=false:=by
 cases hb:Wd.okB w with
 |false=>rfl
 |true=>exact absurd (Wd.okB_iff.1 hb) h
theorem sizeV_no {w:Int} (h: ¬(1≤w∧w≤16)):Wd.sizeV w=0:=by simp [Wd.sizeV,ok_no h]
theorem maskV_no {w n:Int} (h: ¬(1≤w∧w≤16)):Wd.maskV w n=0:=by simp [Wd.maskV,ok_no h]
theorem ok_yes {w:Int} (h:1≤w∧w≤16):Wd.okB w=true:=Wd.okB_iff.2 h
theorem sz_eq {k:Nat} (h:1≤k∧k≤16):IntKind.i64.wrap (1*2^min (IntKind.u64.wrap (k:Int)).toNat IntKind.i64.bits)=Wd.sizeV (k:Int):=by
 rcases (by omega:k=1∨k=2∨k=3∨k=4∨k=5∨k=6∨k=7∨k=8∨k=9∨k=10∨k=11∨k=12∨k=13∨k=14∨k=15∨k=16) with rfl |rfl |rfl |rfl |rfl |rfl |rfl |rfl |rfl |rfl |rfl |rfl |rfl |rfl |rfl |rfl<;>decide
theorem tmod_pos2 {a s:Int} (h:0<s) (h1: -s<a):(a+s).tmod s=(a+s)%s:=Int.tmod_eq_emod_of_nonneg (by omega)
theorem size_y (k:Nat) (h:1≤k∧k≤16):Vc (vcFn Try.prog false 67 [.int .i64 k] [.bd false, .bd false] [] (.int .i64 (Wd.sizeV k)) []):=vc_by (cj (df ((k:Int)<1)) (cj (df ((k:Int)>16)) (cj (show (0:Int)≤IntKind.wrap IntKind.u64 (k:Int) from by rcases (by omega:k=1∨k=2∨k=3∨k=4∨k=5∨k=6∨k=7∨k=8∨k=9∨k=10∨k=11∨k=12∨k=13∨k=14∨k=15∨k=16) with rfl |rfl |rfl |rfl |rfl |rfl |rfl |rfl |rfl |rfl |rfl |rfl |rfl |rfl |rfl |rfl<;>decide) (cj (show IntKind.wrap IntKind.i64 ((1:Int)*2^Min.min (k%(18446744073709551616:Nat)) (64:Nat))=Wd.sizeV (k:Int) from (sz_eq h)) trivial)))) (by kernel_rfl)
theorem size_lo (w:Int) (h:w<1):Vc (vcFn Try.prog false 67 [.int .i64 w] [.bd true] [] (.int .i64 (Wd.sizeV w)) []):=vc_by (cj (dt (w<1)) (cj (show (0:Int)=Wd.sizeV w from (sizeV_no (by omega)).symm) trivial)) (by kernel_rfl)
theorem size_hi (w:Int) (h:16<w):Vc (vcFn Try.prog false 67 [.int .i64 w] [.bd false, .bd true] [] (.int .i64 (Wd.sizeV w)) []):=vc_by (cj (df (w<1)) (cj (dt (w>16)) (cj (show (0:Int)=Wd.sizeV w from (sizeV_no (by omega)).symm) trivial))) (by kernel_rfl)
theorem rsizeC (w:Int):PureC Try.prog 67 [.int .i64 w] (.int .i64 (Wd.sizeV w)) []:=by
 by_cases h1:w<1
 ·exact PureC.vc (size_lo w h1)
 ·by_cases h2:16<w
  ·exact PureC.vc (size_hi w h2)
  ·obtain ⟨k,rfl⟩: ∃ k:Nat,w=(k:Int):=⟨w.toNat,by omega⟩
   exact PureC.vc (size_y k (by omega))
theorem sB20 (w:Int) (h:1≤w∧w≤16):(Wd.sizeV w==(0:Int))=false:=by have:=Wd.sizeV_pos (ok_yes h);simp;omega
abbrev oB20 (w:Int):Orc:= .cl [.int .i64 w] (.int .i64 (Wd.sizeV w)) []
theorem mask_y (w n:Int) (h:1≤w∧w≤16):Vc (vcFn Try.prog false 50 [.int .i64 w, .int .i64 n] [oB20 w, .bd false] [] (.int .i64 (Wd.maskV w n)) []):=vc_by (cj (rf w) (cj (rsizeC w) (cj (sB20 w h) (cj (show Wd.sizeV w≠0 from by have:=Wd.sizeV_pos (ok_yes h);omega) (cj (show inK IntKind.i64 (Int.tmod n (Wd.sizeV w)+Wd.sizeV w) from by have h1:=Wd.tmod_mask (n:=n) (ok_yes h);have:=Wd.sizeV_bd w;exact in64 (by omega) (by omega)) (cj (show Wd.sizeV w≠0 from by have:=Wd.sizeV_pos (ok_yes h);omega) (cj (show Int.tmod (Int.tmod n (Wd.sizeV w)+Wd.sizeV w) (Wd.sizeV w)=Wd.maskV w n from by have h1:=Wd.tmod_mask (n:=n) (ok_yes h);have h2:=Wd.sizeV_pos (ok_yes h);rw [tmod_pos2 (by omega) h1.2.1];exact h1.1) trivial))))))) (by kernel_rfl)
theorem mask_n (w n:Int) (h: ¬(1≤w∧w≤16)):Vc (vcFn Try.prog false 50 [.int .i64 w, .int .i64 n] [oB20 w, .bd true] [] (.int .i64 (Wd.maskV w n)) []):=vc_by (cj (rf w) (cj (rsizeC w) (cj (show (Wd.sizeV w==(0:Int))=true from by rw [sizeV_no h];rfl) (cj (show (0:Int)=Wd.maskV w n from (maskV_no h).symm) trivial)))) (by kernel_rfl)
theorem rmaskC (w n:Int):PureC Try.prog 50 [.int .i64 w, .int .i64 n] (.int .i64 (Wd.maskV w n)) []:=by
 by_cases h:1≤w∧w≤16
 ·exact PureC.vc (mask_y w n h)
 ·exact PureC.vc (mask_n w n h)
theorem truth_true (b:Bool) (h:b=true):Vc (vcFn Try.prog false 79 [.bool b] [.b true] [] (.int .i64 (Wd.tI b)) []):=vc_by (cj h (cj (show (1:Int)=Wd.tI b from by rw [h];rfl) trivial)) (by kernel_rfl)
theorem truth_false (b:Bool) (h:b=false):Vc (vcFn Try.prog false 79 [.bool b] [.b false] [] (.int .i64 (Wd.tI b)) []):=vc_by (cj h (cj (show (0:Int)=Wd.tI b from by rw [h];rfl) trivial)) (by kernel_rfl)
theorem rtruthC (b:Bool):PureC Try.prog 79 [.bool b] (.int .i64 (Wd.tI b)) []:=by
 cases h:b with
 |true=>exact PureC.vc (truth_true true rfl)
 |false=>exact PureC.vc (truth_false false rfl)
abbrev oB22 (w:Int) (b:Int):Orc:= .cl [.int .i64 w, .int .i64 b] (.int .i64 (Wd.maskV w b)) []
abbrev oB21 (w:Int) (a:Int):Orc:= .cl [.int .i64 w, .int .i64 a] (.int .i64 (Wd.maskV w a)) []
theorem do_1 (w a b:Int) (h:1≤w∧w≤16):Vc (vcFn Try.prog false 70 [.int .i64 w, .int .i64 1, .int .i64 a, .int .i64 b] [oB20 w, .bd false,oB21 w a,oB22 w b, .bd true, .cl [.int .i64 w, .int .i64 ((Wd.maskV w a)+(Wd.maskV w b))] (.int .i64 (Wd.maskV w ((Wd.maskV w a)+(Wd.maskV w b)))) []] [] (.tup [.int .i64 (Wd.doV w 1 a b), .bool (Wd.doB w 1)]) []):=vc_by (cj (rf w) (cj (rsizeC w) (cj (sB20 w h) (cj (rf w) (cj (rf a) (cj (rmaskC w a) (cj (rf w) (cj (rf b) (cj (rmaskC w b) (cj (e1 (1:Int) 1) (cj (show inK IntKind.i64 (Wd.maskV w a+Wd.maskV w b) from by have h1:=Wd.maskV_bd w a;have h2:=Wd.maskV_bd w b;exact in64 (by omega) (by omega)) (cj (rf w) (cj (rf (Wd.maskV w a+Wd.maskV w b)) (cj (rmaskC w ((Wd.maskV w a)+(Wd.maskV w b))) (cj (rf (Wd.doV w (1:Int) a b)) (cj (show true=Wd.doB w (1:Int) from by simp [Wd.doB,ok_yes h,Wd.opB]) trivial)))))))))))))))) (by kernel_rfl)
theorem do_2 (w a b:Int) (h:1≤w∧w≤16):Vc (vcFn Try.prog false 70 [.int .i64 w, .int .i64 2, .int .i64 a, .int .i64 b] [oB20 w, .bd false,oB21 w a,oB22 w b, .bd false, .bd true, .cl [.int .i64 w, .int .i64 ((Wd.maskV w a)-(Wd.maskV w b))] (.int .i64 (Wd.maskV w ((Wd.maskV w a)-(Wd.maskV w b)))) []] [] (.tup [.int .i64 (Wd.doV w 2 a b), .bool (Wd.doB w 2)]) []):=vc_by (cj (rf w) (cj (rsizeC w) (cj (sB20 w h) (cj (rf w) (cj (rf a) (cj (rmaskC w a) (cj (rf w) (cj (rf b) (cj (rmaskC w b) (cj (e0 (2:Int) 1) (cj (e1 (2:Int) 2) (cj (show inK IntKind.i64 (Wd.maskV w a-Wd.maskV w b) from by have h1:=Wd.maskV_bd w a;have h2:=Wd.maskV_bd w b;exact in64 (by omega) (by omega)) (cj (rf w) (cj (rf (Wd.maskV w a-Wd.maskV w b)) (cj (rmaskC w ((Wd.maskV w a)-(Wd.maskV w b))) (cj (rf (Wd.doV w (2:Int) a b)) (cj (show true=Wd.doB w (2:Int) from by simp [Wd.doB,ok_yes h,Wd.opB]) trivial))))))))))))))))) (by kernel_rfl)
theorem do_3 (w a b:Int) (h:1≤w∧w≤16):Vc (vcFn Try.prog false 70 [.int .i64 w, .int .i64 3, .int .i64 a, .int .i64 b] [oB20 w, .bd false,oB21 w a,oB22 w b, .bd false, .bd false, .bd true] [] (.tup [.int .i64 (Wd.doV w 3 a b), .bool (Wd.doB w 3)]) []):=vc_by (cj (rf w) (cj (rsizeC w) (cj (sB20 w h) (cj (rf w) (cj (rf a) (cj (rmaskC w a) (cj (rf w) (cj (rf b) (cj (rmaskC w b) (cj (e0 (3:Int) 1) (cj (e0 (3:Int) 2) (cj (e1 (3:Int) 3) (cj (show Go.bits Go.BinOp.and IntKind.i64 (Wd.maskV w a) (Wd.maskV w b)=Wd.doV w (3:Int) a b from (Wd.ref3 (ok_yes h))) (cj (show true=Wd.doB w (3:Int) from by simp [Wd.doB,ok_yes h,Wd.opB]) trivial)))))))))))))) (by kernel_rfl)
theorem do_4 (w a b:Int) (h:1≤w∧w≤16):Vc (vcFn Try.prog false 70 [.int .i64 w, .int .i64 4, .int .i64 a, .int .i64 b] [oB20 w, .bd false,oB21 w a,oB22 w b, .bd false, .bd false, .bd false, .bd true] [] (.tup [.int .i64 (Wd.doV w 4 a b), .bool (Wd.doB w 4)]) []):=vc_by (cj (rf w) (cj (rsizeC w) (cj (sB20 w h) (cj (rf w) (cj (rf a) (cj (rmaskC w a) (cj (rf w) (cj (rf b) (cj (rmaskC w b) (cj (e0 (4:Int) 1) (cj (e0 (4:Int) 2) (cj (e0 (4:Int) 3) (cj (e1 (4:Int) 4) (cj (show Go.bits Go.BinOp.or IntKind.i64 (Wd.maskV w a) (Wd.maskV w b)=Wd.doV w (4:Int) a b from (Wd.ref4 (ok_yes h))) (cj (show true=Wd.doB w (4:Int) from by simp [Wd.doB,ok_yes h,Wd.opB]) trivial))))))))))))))) (by kernel_rfl)
theorem do_5 (w a b:Int) (h:1≤w∧w≤16):Vc (vcFn Try.prog false 70 [.int .i64 w, .int .i64 5, .int .i64 a, .int .i64 b] [oB20 w, .bd false,oB21 w a,oB22 w b, .bd false, .bd false, .bd false, .bd false, .bd true] [] (.tup [.int .i64 (Wd.doV w 5 a b), .bool (Wd.doB w 5)]) []):=vc_by (cj (rf w) (cj (rsizeC w) (cj (sB20 w h) (cj (rf w) (cj (rf a) (cj (rmaskC w a) (cj (rf w) (cj (rf b) (cj (rmaskC w b) (cj (e0 (5:Int) 1) (cj (e0 (5:Int) 2) (cj (e0 (5:Int) 3) (cj (e0 (5:Int) 4) (cj (e1 (5:Int) 5) (cj (show Go.bits Go.BinOp.xor IntKind.i64 (Wd.maskV w a) (Wd.maskV w b)=Wd.doV w (5:Int) a b from (Wd.ref5 (ok_yes h))) (cj (show true=Wd.doB w (5:Int) from by simp [Wd.doB,ok_yes h,Wd.opB]) trivial)))))))))))))))) (by kernel_rfl)
theorem u_wrap {x:Int} (h0:0≤x) (h1:x<65536):IntKind.u64.wrap x=x:=by
 rw [IntKind.wrap_u64];omega
theorem u_wrap_nn (x:Int):0≤IntKind.u64.wrap x:=by rw [IntKind.wrap_u64];omega
theorem do_6f (w a b:Int) (h:1≤w∧w≤16) (hf:w≤Wd.maskV w b):Vc (vcFn Try.prog false 70 [.int .i64 w, .int .i64 6, .int .i64 a, .int .i64 b] [oB20 w, .bd false,oB21 w a,oB22 w b, .bd false, .bd false, .bd false, .bd false, .bd false, .bd true, .bd true] [] (.tup [.int .i64 (Wd.doV w 6 a b), .bool (Wd.doB w 6)]) []):=vc_by (cj (rf w) (cj (rsizeC w) (cj (show (Wd.sizeV w==(0:Int))=false from by have:=Wd.sizeV_pos (ok_yes h);simp;omega) (cj (rf w) (cj (rf a) (cj (rmaskC w a) (cj (rf w) (cj (rf b) (cj (rmaskC w b) (cj (e0 (6:Int) 1) (cj (e0 (6:Int) 2) (cj (e0 (6:Int) 3) (cj (e0 (6:Int) 4) (cj (e0 (6:Int) 5) (cj (e1 (6:Int) 6) (cj (dt (Wd.maskV w b≥w)) (cj (show (0:Int)=Wd.doV w (6:Int) a b from (Wd.do6_far hf).symm) (cj (show true=Wd.doB w (6:Int) from by simp [Wd.doB,ok_yes h,Wd.opB]) trivial)))))))))))))))))) (by kernel_rfl)
theorem do_6 (w a b:Int) (h:1≤w∧w≤16) (hf: ¬w≤Wd.maskV w b):Vc (vcFn Try.prog false 70 [.int .i64 w, .int .i64 6, .int .i64 a, .int .i64 b] [oB20 w, .bd false,oB21 w a,oB22 w b, .bd false, .bd false, .bd false, .bd false, .bd false, .bd true, .bd false, .cl [.int .i64 w, .int .i64 (IntKind.i64.wrap ((Wd.maskV w a)*2^min (IntKind.u64.wrap (Wd.maskV w b)).toNat IntKind.i64.bits))] (.int .i64 (Wd.maskV w (IntKind.i64.wrap ((Wd.maskV w a)*2^min (IntKind.u64.wrap (Wd.maskV w b)).toNat IntKind.i64.bits)))) []] [] (.tup [.int .i64 (Wd.doV w 6 a b), .bool (Wd.doB w 6)]) []):=vc_by (cj (rf w) (cj (rsizeC w) (cj (show (Wd.sizeV w==(0:Int))=false from by have:=Wd.sizeV_pos (ok_yes h);simp;omega) (cj (rf w) (cj (rf a) (cj (rmaskC w a) (cj (rf w) (cj (rf b) (cj (rmaskC w b) (cj (e0 (6:Int) 1) (cj (e0 (6:Int) 2) (cj (e0 (6:Int) 3) (cj (e0 (6:Int) 4) (cj (e0 (6:Int) 5) (cj (e1 (6:Int) 6) (cj (df (Wd.maskV w b≥w)) (cj (show (0:Int)≤IntKind.wrap IntKind.u64 (Wd.maskV w b) from (u_wrap_nn _)) (cj (rf w) (cj (rf (IntKind.wrap IntKind.i64 (Wd.maskV w a*2^Min.min (Int.toNat (IntKind.wrap IntKind.u64 (Wd.maskV w b))) (64:Nat)))) (cj (rmaskC w (IntKind.i64.wrap ((Wd.maskV w a)*2^min (IntKind.u64.wrap (Wd.maskV w b)).toNat IntKind.i64.bits))) (cj (show Wd.maskV w (IntKind.wrap IntKind.i64 (Wd.maskV w a*2^Min.min (Int.toNat (IntKind.wrap IntKind.u64 (Wd.maskV w b))) (64:Nat)))=Wd.doV w (6:Int) a b from by have h1:=Wd.maskV_bd w a;have h2:=Wd.maskV_bd w b;rw [u_wrap h2.1 h2.2];have e:=Wd.ref6 (w:=w) (a:=a) (b:=b);rw [IntWalk.i64_left];exact e) (cj (show true=Wd.doB w (6:Int) from by simp [Wd.doB,ok_yes h,Wd.opB]) trivial)))))))))))))))))))))) (by kernel_rfl)
theorem do_7f (w a b:Int) (h:1≤w∧w≤16) (hf:w≤Wd.maskV w b):Vc (vcFn Try.prog false 70 [.int .i64 w, .int .i64 7, .int .i64 a, .int .i64 b] [oB20 w, .bd false,oB21 w a,oB22 w b, .bd false, .bd false, .bd false, .bd false, .bd false, .bd false, .bd true, .bd true] [] (.tup [.int .i64 (Wd.doV w 7 a b), .bool (Wd.doB w 7)]) []):=vc_by (cj (rf w) (cj (rsizeC w) (cj (show (Wd.sizeV w==(0:Int))=false from by have:=Wd.sizeV_pos (ok_yes h);simp;omega) (cj (rf w) (cj (rf a) (cj (rmaskC w a) (cj (rf w) (cj (rf b) (cj (rmaskC w b) (cj (e0 (7:Int) 1) (cj (e0 (7:Int) 2) (cj (e0 (7:Int) 3) (cj (e0 (7:Int) 4) (cj (e0 (7:Int) 5) (cj (e0 (7:Int) 6) (cj (e1 (7:Int) 7) (cj (dt (Wd.maskV w b≥w)) (cj (show (0:Int)=Wd.doV w (7:Int) a b from (Wd.do7_far (ok_yes h) hf).symm) (cj (show true=Wd.doB w (7:Int) from by simp [Wd.doB,ok_yes h,Wd.opB]) trivial))))))))))))))))))) (by kernel_rfl)
theorem do_7 (w a b:Int) (h:1≤w∧w≤16) (hf: ¬w≤Wd.maskV w b):Vc (vcFn Try.prog false 70 [.int .i64 w, .int .i64 7, .int .i64 a, .int .i64 b] [oB20 w, .bd false,oB21 w a,oB22 w b, .bd false, .bd false, .bd false, .bd false, .bd false, .bd false, .bd true, .bd false] [] (.tup [.int .i64 (Wd.doV w 7 a b), .bool (Wd.doB w 7)]) []):=vc_by (cj (rf w) (cj (rsizeC w) (cj (show (Wd.sizeV w==(0:Int))=false from by have:=Wd.sizeV_pos (ok_yes h);simp;omega) (cj (rf w) (cj (rf a) (cj (rmaskC w a) (cj (rf w) (cj (rf b) (cj (rmaskC w b) (cj (e0 (7:Int) 1) (cj (e0 (7:Int) 2) (cj (e0 (7:Int) 3) (cj (e0 (7:Int) 4) (cj (e0 (7:Int) 5) (cj (e0 (7:Int) 6) (cj (e1 (7:Int) 7) (cj (df (Wd.maskV w b≥w)) (cj (show (0:Int)≤IntKind.wrap IntKind.u64 (Wd.maskV w b) from (u_wrap_nn _)) (cj (show Int.fdiv (Wd.maskV w a) ((2:Int)^Min.min (Int.toNat (IntKind.wrap IntKind.u64 (Wd.maskV w b))) (64:Nat))=Wd.doV w (7:Int) a b from by have h1:=Wd.maskV_bd w a;have h2:=Wd.maskV_bd w b;rw [u_wrap h2.1 h2.2,Int.fdiv_eq_ediv_of_nonneg _ (by have:=Wd.pow_pos (min (Wd.maskV w b).toNat 64);omega)];exact Wd.ref7' (ok_yes h)) (cj (show true=Wd.doB w (7:Int) from by simp [Wd.doB,ok_yes h,Wd.opB]) trivial)))))))))))))))))))) (by kernel_rfl)
theorem do_8 (w a b:Int) (h:1≤w∧w≤16):Vc (vcFn Try.prog false 70 [.int .i64 w, .int .i64 8, .int .i64 a, .int .i64 b] [oB20 w, .bd false,oB21 w a,oB22 w b, .bd false, .bd false, .bd false, .bd false, .bd false, .bd false, .bd false, .bd true, .cl [.int .i64 w, .int .i64 ((Wd.maskV w a)*(Wd.maskV w b))] (.int .i64 (Wd.maskV w ((Wd.maskV w a)*(Wd.maskV w b)))) []] [] (.tup [.int .i64 (Wd.doV w 8 a b), .bool (Wd.doB w 8)]) []):=vc_by (cj (rf w) (cj (rsizeC w) (cj (sB20 w h) (cj (rf w) (cj (rf a) (cj (rmaskC w a) (cj (rf w) (cj (rf b) (cj (rmaskC w b) (cj (e0 (8:Int) 1) (cj (e0 (8:Int) 2) (cj (e0 (8:Int) 3) (cj (e0 (8:Int) 4) (cj (e0 (8:Int) 5) (cj (e0 (8:Int) 6) (cj (e0 (8:Int) 7) (cj (e1 (8:Int) 8) (cj (show inK IntKind.i64 (Wd.maskV w a*Wd.maskV w b) from by have h1:=Wd.maskV_bd w a;have h2:=Wd.maskV_bd w b;have h3:=Wd.mul_bd h1.1 h1.2 h2.1 h2.2;exact in64 (by omega) (by omega)) (cj (rf w) (cj (rf (Wd.maskV w a*Wd.maskV w b)) (cj (rmaskC w ((Wd.maskV w a)*(Wd.maskV w b))) (cj (rf (Wd.doV w (8:Int) a b)) (cj (show true=Wd.doB w (8:Int) from by simp [Wd.doB,ok_yes h,Wd.opB]) trivial))))))))))))))))))))))) (by kernel_rfl)
theorem do_9 (w a b:Int) (h:1≤w∧w≤16):Vc (vcFn Try.prog false 70 [.int .i64 w, .int .i64 9, .int .i64 a, .int .i64 b] [oB20 w, .bd false,oB21 w a,oB22 w b, .bd false, .bd false, .bd false, .bd false, .bd false, .bd false, .bd false, .bd false, .bd true, .cl [.bool (decide ((Wd.maskV w a)<(Wd.maskV w b)))] (.int .i64 (Wd.tI (decide ((Wd.maskV w a)<(Wd.maskV w b))))) []] [] (.tup [.int .i64 (Wd.doV w 9 a b), .bool (Wd.doB w 9)]) []):=vc_by (cj (rf w) (cj (rsizeC w) (cj (sB20 w h) (cj (rf w) (cj (rf a) (cj (rmaskC w a) (cj (rf w) (cj (rf b) (cj (rmaskC w b) (cj (e0 (9:Int) 1) (cj (e0 (9:Int) 2) (cj (e0 (9:Int) 3) (cj (e0 (9:Int) 4) (cj (e0 (9:Int) 5) (cj (e0 (9:Int) 6) (cj (e0 (9:Int) 7) (cj (e0 (9:Int) 8) (cj (e1 (9:Int) 9) (cj (rf (decide (Wd.maskV w a<Wd.maskV w b))) (cj (show PureC Try.prog 79 [.bool (decide ((Wd.maskV w a)<(Wd.maskV w b)))] (.int .i64 (Wd.tI (decide ((Wd.maskV w a)<(Wd.maskV w b))))) [] from rtruthC _) (cj (show Wd.tI (decide (Wd.maskV w a<Wd.maskV w b))=Wd.doV w (9:Int) a b from (Wd.ref9 (ok_yes h))) (cj (show true=Wd.doB w (9:Int) from by simp [Wd.doB,ok_yes h,Wd.opB]) trivial)))))))))))))))))))))) (by kernel_rfl)
theorem do_10 (w a b:Int) (h:1≤w∧w≤16):Vc (vcFn Try.prog false 70 [.int .i64 w, .int .i64 10, .int .i64 a, .int .i64 b] [oB20 w, .bd false,oB21 w a,oB22 w b, .bd false, .bd false, .bd false, .bd false, .bd false, .bd false, .bd false, .bd false, .bd false, .bd true, .cl [.bool ((Wd.maskV w a)==(Wd.maskV w b))] (.int .i64 (Wd.tI ((Wd.maskV w a)==(Wd.maskV w b)))) []] [] (.tup [.int .i64 (Wd.doV w 10 a b), .bool (Wd.doB w 10)]) []):=vc_by (cj (rf w) (cj (rsizeC w) (cj (sB20 w h) (cj (rf w) (cj (rf a) (cj (rmaskC w a) (cj (rf w) (cj (rf b) (cj (rmaskC w b) (cj (e0 (10:Int) 1) (cj (e0 (10:Int) 2) (cj (e0 (10:Int) 3) (cj (e0 (10:Int) 4) (cj (e0 (10:Int) 5) (cj (e0 (10:Int) 6) (cj (e0 (10:Int) 7) (cj (e0 (10:Int) 8) (cj (e0 (10:Int) 9) (cj (e1 (10:Int) 10) (cj (rf (Wd.maskV w a==Wd.maskV w b)) (cj (show PureC Try.prog 79 [.bool ((Wd.maskV w a)==(Wd.maskV w b))] (.int .i64 (Wd.tI ((Wd.maskV w a)==(Wd.maskV w b)))) [] from rtruthC _) (cj (show Wd.tI (Wd.maskV w a==Wd.maskV w b)=Wd.doV w (10:Int) a b from (Wd.ref10 (ok_yes h))) (cj (show true=Wd.doB w (10:Int) from by simp [Wd.doB,ok_yes h,Wd.opB]) trivial))))))))))))))))))))))) (by kernel_rfl)
theorem do_0 (w o a b:Int) (h:1≤w∧w≤16) (ho:o<1∨10<o):Vc (vcFn Try.prog false 70 [.int .i64 w, .int .i64 o, .int .i64 a, .int .i64 b] [oB20 w, .bd false,oB21 w a,oB22 w b, .bd false, .bd false, .bd false, .bd false, .bd false, .bd false, .bd false, .bd false, .bd false, .bd false] [] (.tup [.int .i64 (Wd.doV w o a b), .bool (Wd.doB w o)]) []):=vc_by (cj (rf w) (cj (rsizeC w) (cj (show (Wd.sizeV w==(0:Int))=false from by have:=Wd.sizeV_pos (ok_yes h);simp;omega) (cj (rf w) (cj (rf a) (cj (rmaskC w a) (cj (rf w) (cj (rf b) (cj (rmaskC w b) (cj (show (o==(1:Int))=false from (beq_eq_false_iff_ne.2 (by omega))) (cj (show (o==(2:Int))=false from (beq_eq_false_iff_ne.2 (by omega))) (cj (show (o==(3:Int))=false from (beq_eq_false_iff_ne.2 (by omega))) (cj (show (o==(4:Int))=false from (beq_eq_false_iff_ne.2 (by omega))) (cj (show (o==(5:Int))=false from (beq_eq_false_iff_ne.2 (by omega))) (cj (show (o==(6:Int))=false from (beq_eq_false_iff_ne.2 (by omega))) (cj (show (o==(7:Int))=false from (beq_eq_false_iff_ne.2 (by omega))) (cj (show (o==(8:Int))=false from (beq_eq_false_iff_ne.2 (by omega))) (cj (show (o==(9:Int))=false from (beq_eq_false_iff_ne.2 (by omega))) (cj (show (o==(10:Int))=false from (beq_eq_false_iff_ne.2 (by omega))) (cj (show (0:Int)=Wd.doV w o a b from (Wd.ref0 ho)) (cj (show false=Wd.doB w o from by simp [Wd.doB,Wd.opB_no ho]) trivial))))))))))))))))))))) (by kernel_rfl)
theorem do_n (w o a b:Int) (h: ¬(1≤w∧w≤16)):Vc (vcFn Try.prog false 70 [.int .i64 w, .int .i64 o, .int .i64 a, .int .i64 b] [oB20 w, .bd true] [] (.tup [.int .i64 (Wd.doV w o a b), .bool (Wd.doB w o)]) []):=vc_by (cj (rf w) (cj (rsizeC w) (cj (show (Wd.sizeV w==(0:Int))=true from by rw [sizeV_no h];rfl) (cj (show (0:Int)=Wd.doV w o a b from by simp [Wd.doV,Wd.maskV,ok_no h]) (cj (show false=Wd.doB w o from by simp [Wd.doB,ok_no h]) trivial))))) (by kernel_rfl)
theorem rdoC (w o a b:Int):PureC Try.prog 70 [.int .i64 w, .int .i64 o, .int .i64 a, .int .i64 b] (.tup [.int .i64 (Wd.doV w o a b), .bool (Wd.doB w o)]) []:=by
 by_cases h:1≤w∧w≤16
 ·rcases (by omega:o=1∨o=2∨o=3∨o=4∨o=5∨o=6∨o=7∨o=8∨o=9∨o=10∨(o<1∨10<o)) with rfl |rfl |rfl |rfl |rfl |rfl |rfl |rfl |rfl |rfl |ho
  ·exact PureC.vc (do_1 w a b h)
  ·exact PureC.vc (do_2 w a b h)
  ·exact PureC.vc (do_3 w a b h)
  ·exact PureC.vc (do_4 w a b h)
  ·exact PureC.vc (do_5 w a b h)
  ·by_cases hf:w≤Wd.maskV w b
   ·exact PureC.vc (do_6f w a b h hf)
   ·exact PureC.vc (do_6 w a b h hf)
  ·by_cases hf:w≤Wd.maskV w b
   ·exact PureC.vc (do_7f w a b h hf)
   ·exact PureC.vc (do_7 w a b h hf)
  ·exact PureC.vc (do_8 w a b h)
  ·exact PureC.vc (do_9 w a b h)
  ·exact PureC.vc (do_10 w a b h)
  ·exact PureC.vc (do_0 w o a b h ho)
 ·exact PureC.vc (do_n w o a b h)
theorem rat_in (p:Pg) (pc:Int) (h0:0≤pc) (h1:pc<p.is.length):Vc (vcFn Try.prog false 55 [.agg (pgA p), .int .i64 pc] [.fz, .bd false, .bd false] [] (.agg (inA (p.is.getD pc.toNat default))) []):=vc_by (cj (df (pc<0)) (cj (df (pc≥(↑p.is.length:Int))) (cj (bi pc (↑p.is.length:Int)) (cj (rf ((p.is.getD (Int.toNat pc) default).kind)) (cj (rf ((p.is.getD (Int.toNat pc) default).op)) (cj (rf ((p.is.getD (Int.toNat pc) default).d)) (cj (rf ((p.is.getD (Int.toNat pc) default).a.reg)) (cj (rf ((p.is.getD (Int.toNat pc) default).a.n)) (cj (rf ((p.is.getD (Int.toNat pc) default).b.reg)) (cj (rf ((p.is.getD (Int.toNat pc) default).b.n)) (cj (rf ((p.is.getD (Int.toNat pc) default).nm)) (cj (rf ((p.is.getD (Int.toNat pc) default).tg)) trivial)))))))))))) (by kernel_rfl)
theorem zB20 {Z:Prop} (z:Z):(RF (12:Int) (RF (0:Int) (RF (0:Int) (RF false (RF (0:Int) (RF false (RF (0:Int) (RF (ByteArray.mk (Array.mk [])) (RF (0:Int) Z))))))))):=⟨rfl,rfl,rfl,rfl,rfl,rfl,rfl,rfl,rfl,z⟩
theorem rat_neg (p:Pg) (pc:Int) (h0: ¬0≤pc):Vc (vcFn Try.prog false 55 [.agg (pgA p), .int .i64 pc] [.fz, .bd true] [] (.agg (inA {In0 with kind:=12})) []):=vc_by (cj (dt (pc<0)) (zB20 trivial)) (by kernel_rfl)
theorem rat_out (p:Pg) (pc:Int) (h0:0≤pc) (h1: ¬pc<p.is.length):Vc (vcFn Try.prog false 55 [.agg (pgA p), .int .i64 pc] [.fz, .bd false, .bd true] [] (.agg (inA {In0 with kind:=12})) []):=vc_by (cj (df (pc<0)) (cj (dt (pc≥(↑p.is.length:Int))) (zB20 trivial))) (by kernel_rfl)
theorem ratC (p:Pg) (pc:Int):PureC Try.prog 55 [.agg (pgA p), .int .i64 pc] (.agg (inA (atI p pc))) []:=by
 by_cases h0:0≤pc
 ·by_cases h1:pc<p.is.length
  ·rw [atI_in h0 h1];exact PureC.vc (rat_in p pc h0 h1)
  ·rw [atI_out fun h=>h1 h.2];exact PureC.vc (rat_out p pc h0 h1)
 ·rw [atI_out fun h=>h0 h.1];exact PureC.vc (rat_neg p pc h0)
end
end Go.Proofs.Ytfjapapiappacaa.Px
namespace Go.Proofs.Ytfjapapiappacaa.Px
section
open Go.RowKit Go.Proofs.Ytfjapapiappacaa.Rx
structure En where
 pc:Int
 val:Int
 adr:Int
 frm:Int
 nxt:Int
 dn:Bool
 kn:Bool
 ft:Bool
 deriving DecidableEq
def En0:En:=⟨0,0,0,0,0,false,false,false⟩
instance:Inhabited En:=⟨En0⟩
def enA (e:En):List AV:=[.int .i64 e.pc, .int .i64 e.val, .int .i64 e.adr, .int .i64 e.frm, .int .i64 e.nxt, .bool e.dn, .bool e.kn, .bool e.ft]
def enC (e:En) (j:Nat):AV:=(enA e).getD j .junk
def enR (l:List En):AV:= .row 8 l.length (rowL enC l)
def enB (l:List En):Blk:=⟨0,false,59, .rows 8 l.length (rowL enC l)⟩
def enO (l:List En):AV:= .own 0 0 8 0 l.length
end
end Go.Proofs.Ytfjapapiappacaa.Px
namespace Go.Proofs.Ytfjapapiappacaa.Px
section
open Go.RowKit Go.Proofs.Ytfjapapiappacaa.Rx
structure Cf where
 s:S8
 b:List En
 r:List Int
 e:Int
def rgA (s:S8):List AV:=[.int .i64 s.r0, .int .i64 s.r1, .int .i64 s.r2, .int .i64 s.r3]
def rgP (s:S8):AV:= .rptr 4 (fun q=>(rgA s).getD q .junk) 0
def dstB (i:In):Bool:=i.kind==1||i.kind==2||i.kind==4
def enI (p:Pg) (l:List En) (k:Nat):In:=atI p (l.getD k default).pc
def regF (p:Pg) (l:List En) (r:Int):Nat→Option (Int×Bool)
 |0=>none
 |k+1=>if dstB (enI p l k)=true∧(enI p l k).d=r then some (if (l.getD k default).dn then ((l.getD k default).val,true) else (0,false)) else regF p l r k
def cl0 (i:Int) (n:Nat):Nat:=(min (max i 0) (n:Int)).toNat
def regV (p:Pg) (s:S8) (l:List En) (i r:Int):Int×Bool:=if 0≤r∧r<4 then (match regF p l r (cl0 i l.length) with |some x=>x |none=>(s.reg r,true)) else (0,false)
def valF (p:Pg) (s:S8) (l:List En) (i:Int) (v:Vl):Int×Bool:=if v.reg then regV p s l i v.n else (Wd.maskV p.W v.n,true)
def blkG (p:Pg) (l:List En):Nat→Nat→Bool
 |_,0=>false
 |k,j+1=>((enI p l k).kind==10)||blkG p l (k+1) j
def blkV (p:Pg) (l:List En) (i:Int):Bool:=blkG p l 0 (cl0 i l.length)
def rgS (p:Pg) (s:S8) (l:List En) (r i:Int):Sm:=⟨[(5,pgP p),(6,rgP s),(2,enR l),(4, .int .i64 r),(12, .int .i64 i),(10, .int .i64 0),(11, .bool false)],[],0⟩
def vbS (a b:Nat) (x:Int×Bool):Sm:=⟨[(a, .int .i64 x.1),(b, .bool x.2)],[],0⟩
def bkS (p:Pg) (l:List En) (i:Int) (k:Nat):Sm:=⟨[(3,pgP p),(1,enR l),(2, .int .i64 i),(7, .int .i64 k),(6, .bool false)],[],0⟩
def bS (a:Nat) (x:Bool):Sm:=⟨[(a, .bool x)],[],0⟩
theorem dstB_1 {i:In} (h:i.kind=1):dstB i=true:=by simp [dstB,h]
theorem dstB_2 {i:In} (h:i.kind=2):dstB i=true:=by simp [dstB,h]
theorem dstB_4 {i:In} (h:i.kind=4):dstB i=true:=by simp [dstB,h]
theorem cl0_eq (i:Int) (n:Nat):(if (n:Int)<(if i<0 then 0 else i) then (n:Int) else (if i<0 then 0 else i))=(cl0 i n:Int):=by
 unfold cl0;rw [mx0,mnI];omega
theorem cl0_le (i:Int) (n:Nat):cl0 i n≤n:=by unfold cl0;omega
theorem natm1 (k:Nat):((k+1:Nat):Int)-1=(k:Int):=by omega
theorem dst_1 (i:In) (h:i.kind=1):Vc (vcFn Try.prog false 80 [.agg (inA i)] [.fz, .bd true] [] (.tup [.int .i64 i.d, .bool true]) []):=vc_by (cj (show (i.kind==(1:Int))=true from by rw [h];decide) (cj (rf i.d) (cj (rf true) trivial))) (by kernel_rfl)
theorem dst_2 (i:In) (h:i.kind=2):Vc (vcFn Try.prog false 80 [.agg (inA i)] [.fz, .bd false, .bd true] [] (.tup [.int .i64 i.d, .bool true]) []):=vc_by (cj (show (i.kind==(1:Int))=false from by rw [h];decide) (cj (show (i.kind==(2:Int))=true from by rw [h];decide) (cj (rf i.d) (cj (rf true) trivial)))) (by kernel_rfl)
theorem dst_4 (i:In) (h:i.kind=4):Vc (vcFn Try.prog false 80 [.agg (inA i)] [.fz, .bd false, .bd false, .bd true] [] (.tup [.int .i64 i.d, .bool true]) []):=vc_by (cj (show (i.kind==(1:Int))=false from by rw [h];decide) (cj (show (i.kind==(2:Int))=false from by rw [h];decide) (cj (show (i.kind==(4:Int))=true from by rw [h];decide) (cj (rf i.d) (cj (rf true) trivial))))) (by kernel_rfl)
theorem dst_0 (i:In) (h1:i.kind≠1) (h2:i.kind≠2) (h4:i.kind≠4):Vc (vcFn Try.prog false 80 [.agg (inA i)] [.fz, .bd false, .bd false, .bd false] [] (.tup [.int .i64 0, .bool false]) []):=vc_by (cj (beq_eq_false_iff_ne.2 h1) (cj (beq_eq_false_iff_ne.2 h2) (cj (beq_eq_false_iff_ne.2 h4) (cj (rf (0:Int)) (cj (rf false) trivial))))) (by kernel_rfl)
theorem dstC_t (i:In) (h:dstB i=true):PureC Try.prog 80 [.agg (inA i)] (.tup [.int .i64 i.d, .bool true]) []:=by
 by_cases h1:i.kind=1
 ·exact PureC.vc (dst_1 i h1)
 ·by_cases h2:i.kind=2
  ·exact PureC.vc (dst_2 i h2)
  ·by_cases h4:i.kind=4
   ·exact PureC.vc (dst_4 i h4)
   ·exfalso;simp [dstB,h1,h2,h4] at h
theorem dstC_f (i:In) (h:dstB i=false):PureC Try.prog 80 [.agg (inA i)] (.tup [.int .i64 0, .bool false]) []:=
 PureC.vc (dst_0 i (fun e=>by rw [dstB_1 e] at h;cases h) (fun e=>by rw [dstB_2 e] at h;cases h) (fun e=>by rw [dstB_4 e] at h;cases h))
theorem zM10 (l:List En) (r:Int) (k:Nat) {Z:Prop} (z:Z):(RR l.length 8 (fun i j=>rowL enC l i j) (RF r (RF ((k:Int)-1) (RF (0:Int) (RF false Z))))):=⟨fun _ _ _ _=>rfl,rfl,rfl,rfl,rfl,z⟩
theorem zM11 (p:Pg) (s:S8) (l:List En) {Z:Prop} (z:Z):(RF p.ls.length (RR p.ls.length 2 (fun i j=>rowL lbC p.ls i j) (RF p.is.length (RR p.is.length 9 (fun i j=>rowL inC p.is i j) (RF s.r0 (RF s.r1 (RF s.r2 (RF s.r3 (RF l.length Z))))))))):=⟨rfl,fun _ _ _ _=>rfl,rfl,fun _ _ _ _=>rfl,rfl,rfl,rfl,rfl,rfl,z⟩
theorem zM12 (p:Pg) {Z:Prop} (z:Z):(RF p.W (RF p.win (RF p.fuel (RF p.r0 (RF p.r1 (RF p.r2 (RF p.r3 (RF p.ms.length (RR p.ms.length 3 (fun i j=>rowL mmC p.ms i j) Z))))))))):=⟨rfl,rfl,rfl,rfl,rfl,rfl,rfl,rfl,fun _ _ _ _=>rfl,z⟩
theorem zM13 (p:Pg) (l:List En) (k:Nat) {Z:Prop} (z:Z):(RF ((enI p l k).kind) (RF ((enI p l k).op) (RF ((enI p l k).d) (RF ((enI p l k).a.reg) (RF ((enI p l k).a.n) (RF ((enI p l k).b.reg) (RF ((enI p l k).b.n) (RF ((enI p l k).nm) (RF ((enI p l k).tg) Z))))))))):=⟨rfl,rfl,rfl,rfl,rfl,rfl,rfl,rfl,rfl,z⟩
theorem zM14 (p:Pg) (l:List En) (k:Nat) {Z:Prop} (z:Z):(RF p.ls.length (RR p.ls.length 2 (fun i j=>rowL lbC p.ls i j) (RF p.is.length (RR p.is.length 9 (fun i j=>rowL inC p.is i j) (RF ((l.getD k default).pc) Z))))):=⟨rfl,fun _ _ _ _=>rfl,rfl,fun _ _ _ _=>rfl,rfl,z⟩
abbrev oM10 (p:Pg) (l:List En) (k:Nat):Orc:= .cl [.agg (pgA p), .int .i64 (l.getD k default).pc] (.agg (inA (enI p l k))) []
theorem rg_f (p:Pg) (s:S8) (l:List En) (r:Int) (k:Nat) (hk:k<l.length) (hb:l.length<1000000) (h:dstB (enI p l k)=false):Vc (vcC Try.prog false (ntOf Try.prog 76) (lpC Try.prog 76 0) (rgS p s l r k) [.bd true,oM10 p l k, .cl [.agg (inA (enI p l k))] (.tup [.int .i64 0, .bool false]) []] .nrm [] (rgS p s l r ((k:Int)-1))):=vc_by (cj (dt ((k:Int)≥0)) (cj (bi (k:Int) (l.length:Int)) (zM12 p (zM14 p l k (cj (ratC p (l.getD k default).pc) (zM13 p l k (cj (dstC_f (enI p l k) h) (cj (i6 ((k:Int)-1)) (zM12 p (zM11 p s l (zM10 l r k trivial))))))))))) (by kernel_rfl)
abbrev oM11 (p:Pg) (l:List En) (k:Nat):Orc:= .cl [.agg (inA (enI p l k))] (.tup [.int .i64 (enI p l k).d, .bool true]) []
theorem rg_o (p:Pg) (s:S8) (l:List En) (r:Int) (k:Nat) (hk:k<l.length) (hb:l.length<1000000) (h:dstB (enI p l k)=true) (hd: ¬(enI p l k).d=r):Vc (vcC Try.prog false (ntOf Try.prog 76) (lpC Try.prog 76 0) (rgS p s l r k) [.bd true,oM10 p l k,oM11 p l k, .bd false] .nrm [] (rgS p s l r ((k:Int)-1))):=vc_by (cj (dt ((k:Int)≥0)) (cj (bi (k:Int) (l.length:Int)) (zM12 p (zM14 p l k (cj (ratC p (l.getD k default).pc) (zM13 p l k (cj (dstC_t (enI p l k) h) (cj (beq_eq_false_iff_ne.2 hd) (cj (i6 ((k:Int)-1)) (zM12 p (zM11 p s l (zM10 l r k trivial)))))))))))) (by kernel_rfl)
theorem rg_d (p:Pg) (s:S8) (l:List En) (r:Int) (k:Nat) (hk:k<l.length) (hb:l.length<1000000) (h:dstB (enI p l k)=true) (hd:(enI p l k).d=r) (hn:(l.getD k default).dn=true):Vc (vcC Try.prog false (ntOf Try.prog 76) (lpC Try.prog 76 0) (rgS p s l r k) [.bd true,oM10 p l k,oM11 p l k, .bd true, .lv (.bool true)] .ret [] (vbS 10 11 ((l.getD k default).val,true))):=vc_by (cj (dt ((k:Int)≥0)) (cj (bi (k:Int) (l.length:Int)) (zM12 p (zM14 p l k (cj (ratC p (l.getD k default).pc) (zM13 p l k (cj (dstC_t (enI p l k) h) (cj (beq_iff_eq.2 hd) (cj (bi (k:Int) (l.length:Int)) (cj (congrArg (fun b=>some (AV.bool b)) hn) (cj (bi (k:Int) (l.length:Int)) (cj (rf ((l.getD k default).val)) (cj (rf true) trivial))))))))))))) (by kernel_rfl)
theorem rg_w (p:Pg) (s:S8) (l:List En) (r:Int) (k:Nat) (hk:k<l.length) (hb:l.length<1000000) (h:dstB (enI p l k)=true) (hd:(enI p l k).d=r) (hn:(l.getD k default).dn=false):Vc (vcC Try.prog false (ntOf Try.prog 76) (lpC Try.prog 76 0) (rgS p s l r k) [.bd true,oM10 p l k,oM11 p l k, .bd true, .lv (.bool false)] .ret [] (vbS 10 11 (0,false))):=vc_by (cj (dt ((k:Int)≥0)) (cj (bi (k:Int) (l.length:Int)) (zM12 p (zM14 p l k (cj (ratC p (l.getD k default).pc) (zM13 p l k (cj (dstC_t (enI p l k) h) (cj (beq_iff_eq.2 hd) (cj (bi (k:Int) (l.length:Int)) (cj (congrArg (fun b=>some (AV.bool b)) hn) (cj (rf (0:Int)) (cj (rf false) trivial)))))))))))) (by kernel_rfl)
theorem rg_end (p:Pg) (s:S8) (l:List En) (r:Int):Vc (vcC Try.prog false (ntOf Try.prog 76) (lpC Try.prog 76 0) (rgS p s l r (-1)) [.b false] (.ext 0) [] (rgS p s l r (-1))):=vc_by (cj (df ((-1:Int)≥0)) (zM12 p (zM11 p s l (cj (rr l.length 8 fun i j=>rowL enC l i j) (cj (rf r) (cj (rf (-1:Int)) (cj (rf (0:Int)) (cj (rf false) trivial)))))))) (by kernel_rfl)
theorem rg_find (p:Pg) (s:S8) (l:List En) (r:Int) (hb:l.length<1000000) (x:Int×Bool): ∀ k,k≤l.length→regF p l r k=some x→OkL Try.prog (ntOf Try.prog 76) (lpC Try.prog 76 0) (rgS p s l r ((k:Int)-1)).st .ret (vbS 10 11 x).st
 |0,_,h=>by cases h
 |k+1,hk,h=>by
  rw [natm1]
  unfold regF at h
  cases hd:dstB (enI p l k) with
  |false=>
   rw [if_neg (by rw [hd];simp)] at h
   exact OkL.step (Ok.vc (rg_f p s l r k (by omega) hb hd)) (rg_find p s l r hb x k (by omega) h)
  |true=>
   by_cases hr:(enI p l k).d=r
   ·rw [if_pos ⟨hd,hr⟩] at h
    cases hn:(l.getD k default).dn with
    |true=>
     rw [if_pos hn,Option.some.injEq] at h
     subst h
     exact OkL.exit (Ok.vc (rg_d p s l r k (by omega) hb hd hr hn)) (by simp)
    |false=>
     rw [if_neg (by rw [hn];simp),Option.some.injEq] at h
     subst h
     exact OkL.exit (Ok.vc (rg_w p s l r k (by omega) hb hd hr hn)) (by simp)
   ·rw [if_neg fun e=>hr e.2] at h
    exact OkL.step (Ok.vc (rg_o p s l r k (by omega) hb hd hr)) (rg_find p s l r hb x k (by omega) h)
theorem rg_none (p:Pg) (s:S8) (l:List En) (r:Int) (hb:l.length<1000000): ∀ k,k≤l.length→regF p l r k=none→OkL Try.prog (ntOf Try.prog 76) (lpC Try.prog 76 0) (rgS p s l r ((k:Int)-1)).st (.ext 0) (rgS p s l r (-1)).st
 |0,_,_=>OkL.exit (Ok.vc (rg_end p s l r)) (by simp)
 |k+1,hk,h=>by
  rw [natm1]
  unfold regF at h
  cases hd:dstB (enI p l k) with
  |false=>
   rw [if_neg (by rw [hd];simp)] at h
   exact OkL.step (Ok.vc (rg_f p s l r k (by omega) hb hd)) (rg_none p s l r hb k (by omega) h)
  |true=>
   by_cases hr:(enI p l k).d=r
   ·rw [if_pos ⟨hd,hr⟩] at h;cases h
   ·rw [if_neg fun e=>hr e.2] at h
    exact OkL.step (Ok.vc (rg_o p s l r k (by omega) hb hd hr)) (rg_none p s l r hb k (by omega) h)
theorem sM10 (l:List En) (i:Int) (n:Nat) (hE:(if (l.length:Int)<(if i<0 then 0 else i) then (l.length:Int) else (if i<0 then 0 else i))=(n:Int)):(if (l.length:Int)<if i<0 then (0:Int) else i then (l.length:Int) else if i<0 then (0:Int) else i)-1=(n:Int)-1:=by rw [hE]
theorem reg_y (p:Pg) (s:S8) (l:List En) (i r:Int) (n:Nat) (x:Int×Bool) (hE:(if (l.length:Int)<(if i<0 then 0 else i) then (l.length:Int) else (if i<0 then 0 else i))=(n:Int)) (hn:n<1000000) (h0:0≤r) (h3:r<4) (h:Ok Try.prog (ntOf Try.prog 76) (.loop (lpC Try.prog 76 0)) (rgS p s l r ((n:Int)-1)).st .ret (vbS 10 11 x).st):Vc (vcFn Try.prog false 76 [.agg (pgA p), .agg (rgA s),enR l, .int .i64 i, .int .i64 r] [.fz, .fz, .bd false, .bd false, .lp [] (rgS p s l r ((n:Int)-1)) .ret (vbS 10 11 x)] [] (.tup [.int .i64 x.1, .bool x.2]) []):=vc_by (cj (df (r<0)) (cj (df (r>3)) (cj (show inK IntKind.i64 ((if (l.length:Int)<if i<0 then (0:Int) else i then (l.length:Int) else if i<0 then (0:Int) else i)-1) from by rw [hE];exact in64 (by omega) (by omega)) (zM12 p (zM11 p s l (cj (rr l.length 8 fun i j=>rowL enC l i j) (cj (rf r) (cj (sM10 l i n hE) (cj (rf (0:Int)) (cj (rf false) (cj h (cj (rf (Prod.fst x)) (cj (rf (Prod.snd x)) trivial))))))))))))) (by kernel_rfl)
theorem sM11 (l:List En) (i:Int) (n:Nat) (hE:(if (l.length:Int)<(if i<0 then 0 else i) then (l.length:Int) else (if i<0 then 0 else i))=(n:Int)) (hn:n<1000000):inK IntKind.i64 ((if (l.length:Int)<if i<0 then (0:Int) else i then (l.length:Int) else if i<0 then (0:Int) else i)-1):=by rw [hE];exact in64 (by omega) (by omega)
theorem reg_n0 (p:Pg) (s:S8) (l:List En) (i:Int) (n:Nat) (hE:(if (l.length:Int)<(if i<0 then 0 else i) then (l.length:Int) else (if i<0 then 0 else i))=(n:Int)) (hn:n<1000000) (h:Ok Try.prog (ntOf Try.prog 76) (.loop (lpC Try.prog 76 0)) (rgS p s l 0 ((n:Int)-1)).st (.ext 0) (rgS p s l 0 (-1)).st):Vc (vcFn Try.prog false 76 [.agg (pgA p), .agg (rgA s),enR l, .int .i64 i, .int .i64 0] [.fz, .fz, .bd false, .bd false, .lp [] (rgS p s l 0 ((n:Int)-1)) (.ext 0) (rgS p s l 0 (-1))] [] (.tup [.int .i64 s.r0, .bool true]) []):=vc_by (cj (df ((0:Int)<0)) (cj (df ((0:Int)>3)) (cj (sM11 l i n hE hn) (zM12 p (zM11 p s l (cj (rr l.length 8 fun i j=>rowL enC l i j) (cj (rf (0:Int)) (cj (sM10 l i n hE) (cj (rf (0:Int)) (cj (rf false) (cj h (cj (rf s.r0) (cj (rf true) trivial))))))))))))) (by kernel_rfl)
theorem reg_n1 (p:Pg) (s:S8) (l:List En) (i:Int) (n:Nat) (hE:(if (l.length:Int)<(if i<0 then 0 else i) then (l.length:Int) else (if i<0 then 0 else i))=(n:Int)) (hn:n<1000000) (h:Ok Try.prog (ntOf Try.prog 76) (.loop (lpC Try.prog 76 0)) (rgS p s l 1 ((n:Int)-1)).st (.ext 0) (rgS p s l 1 (-1)).st):Vc (vcFn Try.prog false 76 [.agg (pgA p), .agg (rgA s),enR l, .int .i64 i, .int .i64 1] [.fz, .fz, .bd false, .bd false, .lp [] (rgS p s l 1 ((n:Int)-1)) (.ext 0) (rgS p s l 1 (-1))] [] (.tup [.int .i64 s.r1, .bool true]) []):=vc_by (cj (df ((1:Int)<0)) (cj (df ((1:Int)>3)) (cj (sM11 l i n hE hn) (zM12 p (zM11 p s l (cj (rr l.length 8 fun i j=>rowL enC l i j) (cj (rf (1:Int)) (cj (sM10 l i n hE) (cj (rf (0:Int)) (cj (rf false) (cj h (cj (rf s.r1) (cj (rf true) trivial))))))))))))) (by kernel_rfl)
theorem reg_n2 (p:Pg) (s:S8) (l:List En) (i:Int) (n:Nat) (hE:(if (l.length:Int)<(if i<0 then 0 else i) then (l.length:Int) else (if i<0 then 0 else i))=(n:Int)) (hn:n<1000000) (h:Ok Try.prog (ntOf Try.prog 76) (.loop (lpC Try.prog 76 0)) (rgS p s l 2 ((n:Int)-1)).st (.ext 0) (rgS p s l 2 (-1)).st):Vc (vcFn Try.prog false 76 [.agg (pgA p), .agg (rgA s),enR l, .int .i64 i, .int .i64 2] [.fz, .fz, .bd false, .bd false, .lp [] (rgS p s l 2 ((n:Int)-1)) (.ext 0) (rgS p s l 2 (-1))] [] (.tup [.int .i64 s.r2, .bool true]) []):=vc_by (cj (df ((2:Int)<0)) (cj (df ((2:Int)>3)) (cj (sM11 l i n hE hn) (zM12 p (zM11 p s l (cj (rr l.length 8 fun i j=>rowL enC l i j) (cj (rf (2:Int)) (cj (sM10 l i n hE) (cj (rf (0:Int)) (cj (rf false) (cj h (cj (rf s.r2) (cj (rf true) trivial))))))))))))) (by kernel_rfl)
theorem reg_n3 (p:Pg) (s:S8) (l:List En) (i:Int) (n:Nat) (hE:(if (l.length:Int)<(if i<0 then 0 else i) then (l.length:Int) else (if i<0 then 0 else i))=(n:Int)) (hn:n<1000000) (h:Ok Try.prog (ntOf Try.prog 76) (.loop (lpC Try.prog 76 0)) (rgS p s l 3 ((n:Int)-1)).st (.ext 0) (rgS p s l 3 (-1)).st):Vc (vcFn Try.prog false 76 [.agg (pgA p), .agg (rgA s),enR l, .int .i64 i, .int .i64 3] [.fz, .fz, .bd false, .bd false, .lp [] (rgS p s l 3 ((n:Int)-1)) (.ext 0) (rgS p s l 3 (-1))] [] (.tup [.int .i64 s.r3, .bool true]) []):=vc_by (cj (df ((3:Int)<0)) (cj (df ((3:Int)>3)) (cj (sM11 l i n hE hn) (zM12 p (zM11 p s l (cj (rr l.length 8 fun i j=>rowL enC l i j) (cj (rf (3:Int)) (cj (sM10 l i n hE) (cj (rf (0:Int)) (cj (rf false) (cj h (cj (rf s.r3) (cj (rf true) trivial))))))))))))) (by kernel_rfl)
theorem reg_lo (p:Pg) (s:S8) (l:List En) (i r:Int) (h:r<0):Vc (vcFn Try.prog false 76 [.agg (pgA p), .agg (rgA s),enR l, .int .i64 i, .int .i64 r] [.fz, .fz, .bd true] [] (.tup [.int .i64 0, .bool false]) []):=vc_by (cj (dt (r<0)) (cj (rf (0:Int)) (cj (rf false) trivial))) (by kernel_rfl)
theorem reg_hi (p:Pg) (s:S8) (l:List En) (i r:Int) (h:3<r):Vc (vcFn Try.prog false 76 [.agg (pgA p), .agg (rgA s),enR l, .int .i64 i, .int .i64 r] [.fz, .fz, .bd false, .bd true] [] (.tup [.int .i64 0, .bool false]) []):=vc_by (cj (df (r<0)) (cj (dt (r>3)) (cj (rf (0:Int)) (cj (rf false) trivial)))) (by kernel_rfl)
theorem rregC (p:Pg) (s:S8) (l:List En) (i r:Int) (hb:l.length<1000000):PureC Try.prog 76 [.agg (pgA p), .agg (rgA s),enR l, .int .i64 i, .int .i64 r] (.tup [.int .i64 (regV p s l i r).1, .bool (regV p s l i r).2]) []:=by
 have hE:=cl0_eq i l.length
 have hle:=cl0_le i l.length
 unfold regV
 by_cases hr:0≤r∧r<4
 ·rw [if_pos hr]
  cases h:regF p l r (cl0 i l.length) with
  |some x=>exact PureC.vc (reg_y p s l i r _ x hE (by omega) hr.1 hr.2 (rg_find p s l r hb x _ hle h).ok)
  |none=>
   have hl:=(rg_none p s l r hb _ hle h).ok
   obtain ⟨h0,h1⟩:=hr
   rcases four h0 h1 with rfl |rfl |rfl |rfl
   ·exact PureC.vc (reg_n0 p s l i _ hE (by omega) hl)
   ·exact PureC.vc (reg_n1 p s l i _ hE (by omega) hl)
   ·exact PureC.vc (reg_n2 p s l i _ hE (by omega) hl)
   ·exact PureC.vc (reg_n3 p s l i _ hE (by omega) hl)
 ·rw [if_neg hr]
  by_cases h0:r<0
  ·exact PureC.vc (reg_lo p s l i r h0)
  ·exact PureC.vc (reg_hi p s l i r (by omega))
theorem val_r (p:Pg) (s:S8) (l:List En) (i n:Int) (hb:l.length<1000000):Vc (vcFn Try.prog false 59 [.agg (pgA p), .agg (rgA s),enR l, .int .i64 i, .agg [.bool true, .int .i64 n]] [.fz, .fz, .fz, .cl [.agg (pgA p), .agg (rgA s),enR l, .int .i64 i, .int .i64 n] (.tup [.int .i64 (regV p s l i n).1, .bool (regV p s l i n).2]) []] [] (.tup [.int .i64 (regV p s l i n).1, .bool (regV p s l i n).2]) []):=vc_by (zM12 p (zM11 p s l (cj (rr l.length 8 fun i j=>rowL enC l i j) (cj (rf i) (cj (rf n) (cj (rregC p s l i n hb) (cj (rf (Prod.fst (regV p s l i n))) (cj (rf (Prod.snd (regV p s l i n))) trivial)))))))) (by kernel_rfl)
theorem val_n (p:Pg) (s:S8) (l:List En) (i n:Int):Vc (vcFn Try.prog false 59 [.agg (pgA p), .agg (rgA s),enR l, .int .i64 i, .agg [.bool false, .int .i64 n]] [.fz, .fz, .fz, .cl [.int .i64 p.W, .int .i64 n] (.int .i64 (Wd.maskV p.W n)) []] [] (.tup [.int .i64 (Wd.maskV p.W n), .bool true]) []):=vc_by (cj (rf p.W) (cj (rf n) (cj (rmaskC p.W n) (cj (rf (Wd.maskV p.W n)) (cj (rf true) trivial))))) (by kernel_rfl)
theorem rvalC (p:Pg) (s:S8) (l:List En) (i:Int) (v:Vl) (hb:l.length<1000000):PureC Try.prog 59 [.agg (pgA p), .agg (rgA s),enR l, .int .i64 i, .agg (vlA v)] (.tup [.int .i64 (valF p s l i v).1, .bool (valF p s l i v).2]) []:=by
 obtain ⟨b,n⟩:=v
 cases b with
 |true=>exact PureC.vc (val_r p s l i n hb)
 |false=>exact PureC.vc (val_n p s l i n)
theorem bk_go (p:Pg) (l:List En) (i:Int) (k:Nat) (hk:(k:Int)<i) (hl:k<l.length) (hb:l.length<1000000) (h:((enI p l k).kind==10)=false):Vc (vcC Try.prog false (ntOf Try.prog 75) (lpC Try.prog 75 0) (bkS p l i k) [.bd true, .bd true,oM10 p l k, .bd false] .nrm [] (bkS p l i (k+1))):=vc_by (cj (dt ((k:Int)<i)) (cj (dt ((k:Int)<(l.length:Int))) (cj (bi (k:Int) (l.length:Int)) (zM12 p (zM14 p l k (cj (ratC p (l.getD k default).pc) (cj h (cj (i6 ((k:Int)+1)) (zM12 p (cj (rf p.ls.length) (cj (rr p.ls.length 2 fun i j=>rowL lbC p.ls i j) (cj (rf p.is.length) (cj (rr p.is.length 9 fun i j=>rowL inC p.is i j) (cj (rf l.length) (cj (rr l.length 8 fun i j=>rowL enC l i j) (cj (rf i) (cj (rf ((k:Int)+1)) (cj (rf false) trivial)))))))))))))))))) (by kernel_rfl)
theorem bk_yes (p:Pg) (l:List En) (i:Int) (k:Nat) (hk:(k:Int)<i) (hl:k<l.length) (hb:l.length<1000000) (h:((enI p l k).kind==10)=true):Vc (vcC Try.prog false (ntOf Try.prog 75) (lpC Try.prog 75 0) (bkS p l i k) [.bd true, .bd true,oM10 p l k, .bd true] .ret [] (bS 6 true)):=vc_by (cj (dt ((k:Int)<i)) (cj (dt ((k:Int)<(l.length:Int))) (cj (bi (k:Int) (l.length:Int)) (zM12 p (zM14 p l k (cj (ratC p (l.getD k default).pc) (cj h (cj (rf true) trivial)))))))) (by kernel_rfl)
theorem zM15 (p:Pg) (l:List En) (i:Int) (k:Nat) {Z:Prop} (z:Z):(RF p.ls.length (RR p.ls.length 2 (fun i j=>rowL lbC p.ls i j) (RF p.is.length (RR p.is.length 9 (fun i j=>rowL inC p.is i j) (RF l.length (RR l.length 8 (fun i j=>rowL enC l i j) (RF i (RF (k:Int) (RF false Z))))))))):=⟨rfl,fun _ _ _ _=>rfl,rfl,fun _ _ _ _=>rfl,rfl,fun _ _ _ _=>rfl,rfl,rfl,rfl,z⟩
theorem bk_i (p:Pg) (l:List En) (i:Int) (k:Nat) (hk: ¬(k:Int)<i):Vc (vcC Try.prog false (ntOf Try.prog 75) (lpC Try.prog 75 0) (bkS p l i k) [.bd false] (.ext 0) [] (bkS p l i k)):=vc_by (cj (df ((k:Int)<i)) (zM12 p (zM15 p l i k trivial))) (by kernel_rfl)
theorem bk_l (p:Pg) (l:List En) (i:Int) (k:Nat) (hk:(k:Int)<i) (hl: ¬k<l.length):Vc (vcC Try.prog false (ntOf Try.prog 75) (lpC Try.prog 75 0) (bkS p l i k) [.bd true, .bd false] (.ext 0) [] (bkS p l i k)):=vc_by (cj (dt ((k:Int)<i)) (cj (df ((k:Int)<(l.length:Int))) (zM12 p (zM15 p l i k trivial)))) (by kernel_rfl)
theorem cl0_lt {i:Int} {n k:Nat} (h:k<cl0 i n):(k:Int)<i∧k<n:=by unfold cl0 at h;omega
theorem cl0_end (i:Int) (n:Nat): ¬((cl0 i n:Nat):Int)<i∨ ¬cl0 i n<n:=by unfold cl0;omega
theorem bk_t (p:Pg) (l:List En) (i:Int) (hb:l.length<1000000): ∀ j k,k+j=cl0 i l.length→blkG p l k j=true→OkL Try.prog (ntOf Try.prog 75) (lpC Try.prog 75 0) (bkS p l i k).st .ret (bS 6 true).st
 |0,k,_,h=>by cases h
 |j+1,k,hk,h=>by
  have hl:=cl0_lt (i:=i) (n:=l.length) (k:=k) (by omega)
  cases hc:((enI p l k).kind==10) with
  |true=>exact OkL.exit (Ok.vc (bk_yes p l i k hl.1 hl.2 hb hc)) (by simp)
  |false=>
   unfold blkG at h
   rw [hc,Bool.false_or] at h
   exact OkL.step (Ok.vc (bk_go p l i k hl.1 hl.2 hb hc)) (bk_t p l i hb j (k+1) (by omega) h)
theorem bk_f (p:Pg) (l:List En) (i:Int) (hb:l.length<1000000): ∀ j k,k+j=cl0 i l.length→blkG p l k j=false→OkL Try.prog (ntOf Try.prog 75) (lpC Try.prog 75 0) (bkS p l i k).st (.ext 0) (bkS p l i (cl0 i l.length)).st
 |0,k,hk,h=>by
  obtain rfl:k=cl0 i l.length:=by omega
  rcases cl0_end i l.length with h1 |h1
  ·exact OkL.exit (Ok.vc (bk_i p l i _ h1)) (by simp)
  ·by_cases h2:((cl0 i l.length:Nat):Int)<i
   ·exact OkL.exit (Ok.vc (bk_l p l i _ h2 h1)) (by simp)
   ·exact OkL.exit (Ok.vc (bk_i p l i _ h2)) (by simp)
 |j+1,k,hk,h=>by
  have hl:=cl0_lt (i:=i) (n:=l.length) (k:=k) (by omega)
  unfold blkG at h
  rw [Bool.or_eq_false_iff] at h
  exact OkL.step (Ok.vc (bk_go p l i k hl.1 hl.2 hb h.1)) (bk_f p l i hb j (k+1) (by omega) h.2)
theorem zM16 (p:Pg) (l:List En) (i:Int) {Z:Prop} (z:Z):(RF p.ls.length (RR p.ls.length 2 (fun i j=>rowL lbC p.ls i j) (RF p.is.length (RR p.is.length 9 (fun i j=>rowL inC p.is i j) (RF l.length (RR l.length 8 (fun i j=>rowL enC l i j) (RF i (RF (0:Int) (RF false Z))))))))):=⟨rfl,fun _ _ _ _=>rfl,rfl,fun _ _ _ _=>rfl,rfl,fun _ _ _ _=>rfl,rfl,rfl,rfl,z⟩
theorem blk_t (p:Pg) (l:List En) (i:Int) (h:Ok Try.prog (ntOf Try.prog 75) (.loop (lpC Try.prog 75 0)) (bkS p l i 0).st .ret (bS 6 true).st):Vc (vcFn Try.prog false 75 [.agg (pgA p),enR l, .int .i64 i] [.fz, .lp [] (bkS p l i 0) .ret (bS 6 true)] [] (.bool true) []):=vc_by (zM12 p (zM16 p l i (cj h (cj (rf true) trivial)))) (by kernel_rfl)
theorem blk_f (p:Pg) (l:List En) (i:Int) (n:Nat) (h:Ok Try.prog (ntOf Try.prog 75) (.loop (lpC Try.prog 75 0)) (bkS p l i 0).st (.ext 0) (bkS p l i n).st):Vc (vcFn Try.prog false 75 [.agg (pgA p),enR l, .int .i64 i] [.fz, .lp [] (bkS p l i 0) (.ext 0) (bkS p l i n)] [] (.bool false) []):=vc_by (zM12 p (zM16 p l i (cj h (cj (rf false) trivial)))) (by kernel_rfl)
theorem rblkC (p:Pg) (l:List En) (i:Int) (hb:l.length<1000000):PureC Try.prog 75 [.agg (pgA p),enR l, .int .i64 i] (.bool (blkV p l i)) []:=by
 unfold blkV
 cases h:blkG p l 0 (cl0 i l.length) with
 |true=>exact PureC.vc (blk_t p l i (bk_t p l i hb _ 0 (by omega) h).ok)
 |false=>exact PureC.vc (blk_f p l i _ (bk_f p l i hb _ 0 (by omega) h).ok)
end
end Go.Proofs.Ytfjapapiappacaa.Px
namespace Go.Proofs.Ytfjapapiappacaa.Px
section
open Go.RowKit Go.Proofs.Ytfjapapiappacaa.Rx
def ldF (p:Pg) (l:List En) (a:Int):Nat→Option (Int×Int×Bool)
 |0=>none
 |k+1=>if (enI p l k).kind=3∧(l.getD k default).kn=true∧(l.getD k default).adr=a then some (if (l.getD k default).dn then ((l.getD k default).val,(k:Int),true) else (0,0,false)) else ldF p l a k
def ldV (p:Pg) (m:List Int) (l:List En) (i a:Int):Int×Int×Bool:=match ldF p l a (cl0 i l.length) with
 |some x=>x
 |none=>if 0≤a∧a<m.length then (m.getD a.toNat 0, -1,true) else (0, -1,true)
def ldS (p:Pg) (m:List Int) (l:List En) (a i:Int):Sm:=⟨[(5,pgP p),(1,lR m),(2,enR l),(4, .int .i64 a),(13, .int .i64 i),(10, .int .i64 0),(11, .int .i64 0),(12, .bool false)],[],0⟩
def vvbS (a b c:Nat) (x:Int×Int×Bool):Sm:=⟨[(a, .int .i64 x.1),(b, .int .i64 x.2.1),(c, .bool x.2.2)],[],0⟩
def hzB (p:Pg) (l:List En) (i a:Int) (k:Nat):Prop:=(enI p l k).kind=2∧(l.getD k default).kn=true∧(l.getD k default).adr=a∧(l.getD k default).frm<i
instance (p:Pg) (l:List En) (i a:Int) (k:Nat):Decidable (hzB p l i a k):=inferInstanceAs (Decidable (_∧_))
def hzG (p:Pg) (l:List En) (i a:Int):Nat→Nat→Option Nat
 |_,0=>none
 |k,j+1=>if hzB p l i a k then some k else hzG p l i a (k+1) j
def hz0 (i:Int) (n:Nat):Nat:=(min (max i (-1)) (n:Int)+1).toNat
def hzV (p:Pg) (l:List En) (i a:Int):Int×Bool:=match hzG p l i a (hz0 i l.length) (l.length-hz0 i l.length) with
 |some k=>((k:Int),true)
 |none=>(0,false)
def hzS (p:Pg) (l:List En) (i a:Int) (k:Nat):Sm:=⟨[(4,pgP p),(1,enR l),(2, .int .i64 i),(3, .int .i64 a),(10, .int .i64 k),(8, .int .i64 0),(9, .bool false)],[],0⟩
theorem zM20 (k:Nat) {Z:Prop} (z:Z):(RF ((k:Int)-1) (RF (0:Int) (RF (0:Int) (RF false Z)))):=⟨rfl,rfl,rfl,rfl,z⟩
theorem zM21 (p:Pg) (m:List Int) (l:List En) (a:Int) {Z:Prop} (z:Z):(RF p.ls.length (RR p.ls.length 2 (fun i j=>rowL lbC p.ls i j) (RF p.is.length (RR p.is.length 9 (fun i j=>rowL inC p.is i j) (RF m.length (RR m.length 1 (fun i j=>aI (m.getD i 0)) (RF l.length (RR l.length 8 (fun i j=>rowL enC l i j) (RF a Z))))))))):=⟨rfl,fun _ _ _ _=>rfl,rfl,fun _ _ _ _=>rfl,rfl,fun _ _ _ _=>rfl,rfl,fun _ _ _ _=>rfl,rfl,z⟩
theorem zM22 (p:Pg) {Z:Prop} (z:Z):(RF p.W (RF p.win (RF p.fuel (RF p.r0 (RF p.r1 (RF p.r2 (RF p.r3 (RF p.ms.length (RR p.ms.length 3 (fun i j=>rowL mmC p.ms i j) Z))))))))):=⟨rfl,rfl,rfl,rfl,rfl,rfl,rfl,rfl,fun _ _ _ _=>rfl,z⟩
theorem zM23 (p:Pg) (l:List En) (k:Nat) {Z:Prop} (z:Z):(RF p.ls.length (RR p.ls.length 2 (fun i j=>rowL lbC p.ls i j) (RF p.is.length (RR p.is.length 9 (fun i j=>rowL inC p.is i j) (RF ((l.getD k default).pc) Z))))):=⟨rfl,fun _ _ _ _=>rfl,rfl,fun _ _ _ _=>rfl,rfl,z⟩
abbrev oM20 (p:Pg) (l:List En) (k:Nat):Orc:= .cl [.agg (pgA p), .int .i64 (l.getD k default).pc] (.agg (inA (enI p l k))) []
theorem ld_k (p:Pg) (m:List Int) (l:List En) (a:Int) (k:Nat) (hk:k<l.length) (hb:l.length<1000000) (hk3: ¬(enI p l k).kind=3):Vc (vcC Try.prog false (ntOf Try.prog 58) (lpC Try.prog 58 0) (ldS p m l a k) [.bd true,oM20 p l k, .bd false] .nrm [] (ldS p m l a ((k:Int)-1))):=vc_by (cj (dt ((k:Int)≥0)) (cj (bi (k:Int) (l.length:Int)) (zM22 p (zM23 p l k (cj (ratC p (l.getD k default).pc) (cj (beq_eq_false_iff_ne.2 hk3) (cj (i6 ((k:Int)-1)) (zM22 p (zM21 p m l a (zM20 k trivial)))))))))) (by kernel_rfl)
theorem ld_n (p:Pg) (m:List Int) (l:List En) (a:Int) (k:Nat) (hk:k<l.length) (hb:l.length<1000000) (hk3:(enI p l k).kind=3) (hn:(l.getD k default).kn=false):Vc (vcC Try.prog false (ntOf Try.prog 58) (lpC Try.prog 58 0) (ldS p m l a k) [.bd true,oM20 p l k, .bd true, .lv (.bool false)] .nrm [] (ldS p m l a ((k:Int)-1))):=vc_by (cj (dt ((k:Int)≥0)) (cj (bi (k:Int) (l.length:Int)) (zM22 p (zM23 p l k (cj (ratC p (l.getD k default).pc) (cj (beq_iff_eq.2 hk3) (cj (bi (k:Int) (l.length:Int)) (cj (congrArg (fun b=>some (AV.bool b)) hn) (cj (i6 ((k:Int)-1)) (zM22 p (zM21 p m l a (zM20 k trivial)))))))))))) (by kernel_rfl)
theorem ld_a (p:Pg) (m:List Int) (l:List En) (a:Int) (k:Nat) (hk:k<l.length) (hb:l.length<1000000) (hk3:(enI p l k).kind=3) (hn:(l.getD k default).kn=true) (ha: ¬(l.getD k default).adr=a):Vc (vcC Try.prog false (ntOf Try.prog 58) (lpC Try.prog 58 0) (ldS p m l a k) [.bd true,oM20 p l k, .bd true, .lv (.bool true), .bd false] .nrm [] (ldS p m l a ((k:Int)-1))):=vc_by (cj (dt ((k:Int)≥0)) (cj (bi (k:Int) (l.length:Int)) (zM22 p (zM23 p l k (cj (ratC p (l.getD k default).pc) (cj (beq_iff_eq.2 hk3) (cj (bi (k:Int) (l.length:Int)) (cj (congrArg (fun b=>some (AV.bool b)) hn) (cj (bi (k:Int) (l.length:Int)) (cj (beq_eq_false_iff_ne.2 ha) (cj (i6 ((k:Int)-1)) (zM22 p (zM21 p m l a (zM20 k trivial)))))))))))))) (by kernel_rfl)
theorem ld_d (p:Pg) (m:List Int) (l:List En) (a:Int) (k:Nat) (hk:k<l.length) (hb:l.length<1000000) (hk3:(enI p l k).kind=3) (hn:(l.getD k default).kn=true) (ha:(l.getD k default).adr=a) (hd:(l.getD k default).dn=true):Vc (vcC Try.prog false (ntOf Try.prog 58) (lpC Try.prog 58 0) (ldS p m l a k) [.bd true,oM20 p l k, .bd true, .lv (.bool true), .bd true, .lv (.bool true)] .ret [] (vvbS 10 11 12 ((l.getD k default).val,(k:Int),true))):=vc_by (cj (dt ((k:Int)≥0)) (cj (bi (k:Int) (l.length:Int)) (zM22 p (zM23 p l k (cj (ratC p (l.getD k default).pc) (cj (beq_iff_eq.2 hk3) (cj (bi (k:Int) (l.length:Int)) (cj (congrArg (fun b=>some (AV.bool b)) hn) (cj (bi (k:Int) (l.length:Int)) (cj (beq_iff_eq.2 ha) (cj (bi (k:Int) (l.length:Int)) (cj (congrArg (fun b=>some (AV.bool b)) hd) (cj (bi (k:Int) (l.length:Int)) (cj (rf ((l.getD k default).val)) (cj (rf (k:Int)) (cj (rf true) trivial)))))))))))))))) (by kernel_rfl)
theorem zM24 {Z:Prop} (z:Z):(RF (0:Int) (RF (0:Int) (RF false Z))):=⟨rfl,rfl,rfl,z⟩
theorem ld_w (p:Pg) (m:List Int) (l:List En) (a:Int) (k:Nat) (hk:k<l.length) (hb:l.length<1000000) (hk3:(enI p l k).kind=3) (hn:(l.getD k default).kn=true) (ha:(l.getD k default).adr=a) (hd:(l.getD k default).dn=false):Vc (vcC Try.prog false (ntOf Try.prog 58) (lpC Try.prog 58 0) (ldS p m l a k) [.bd true,oM20 p l k, .bd true, .lv (.bool true), .bd true, .lv (.bool false)] .ret [] (vvbS 10 11 12 (0,0,false))):=vc_by (cj (dt ((k:Int)≥0)) (cj (bi (k:Int) (l.length:Int)) (zM22 p (zM23 p l k (cj (ratC p (l.getD k default).pc) (cj (beq_iff_eq.2 hk3) (cj (bi (k:Int) (l.length:Int)) (cj (congrArg (fun b=>some (AV.bool b)) hn) (cj (bi (k:Int) (l.length:Int)) (cj (beq_iff_eq.2 ha) (cj (bi (k:Int) (l.length:Int)) (cj (congrArg (fun b=>some (AV.bool b)) hd) (zM24 trivial))))))))))))) (by kernel_rfl)
theorem ld_end (p:Pg) (m:List Int) (l:List En) (a:Int):Vc (vcC Try.prog false (ntOf Try.prog 58) (lpC Try.prog 58 0) (ldS p m l a (-1)) [.b false] (.ext 0) [] (ldS p m l a (-1))):=vc_by (cj (df ((-1:Int)≥0)) (zM22 p (zM21 p m l a (cj (rf (-1:Int)) (cj (rf (0:Int)) (cj (rf (0:Int)) (cj (rf false) trivial))))))) (by kernel_rfl)
theorem ld_find (p:Pg) (m:List Int) (l:List En) (a:Int) (hb:l.length<1000000) (x:Int×Int×Bool): ∀ k,k≤l.length→ldF p l a k=some x→OkL Try.prog (ntOf Try.prog 58) (lpC Try.prog 58 0) (ldS p m l a ((k:Int)-1)).st .ret (vvbS 10 11 12 x).st
 |0,_,h=>by cases h
 |k+1,hk,h=>by
  rw [natm1]
  unfold ldF at h
  by_cases hk3:(enI p l k).kind=3
  ·cases hn:(l.getD k default).kn with
   |false=>
    rw [if_neg (by rw [hn];simp)] at h
    exact OkL.step (Ok.vc (ld_n p m l a k (by omega) hb hk3 hn)) (ld_find p m l a hb x k (by omega) h)
   |true=>
    by_cases ha:(l.getD k default).adr=a
    ·rw [if_pos ⟨hk3,hn,ha⟩] at h
     cases hd:(l.getD k default).dn with
     |true=>
      rw [if_pos hd,Option.some.injEq] at h
      subst h
      exact OkL.exit (Ok.vc (ld_d p m l a k (by omega) hb hk3 hn ha hd)) (by simp)
     |false=>
      rw [if_neg (by rw [hd];simp),Option.some.injEq] at h
      subst h
      exact OkL.exit (Ok.vc (ld_w p m l a k (by omega) hb hk3 hn ha hd)) (by simp)
    ·rw [if_neg fun e=>ha e.2.2] at h
     exact OkL.step (Ok.vc (ld_a p m l a k (by omega) hb hk3 hn ha)) (ld_find p m l a hb x k (by omega) h)
  ·rw [if_neg fun e=>hk3 e.1] at h
   exact OkL.step (Ok.vc (ld_k p m l a k (by omega) hb hk3)) (ld_find p m l a hb x k (by omega) h)
theorem ld_none (p:Pg) (m:List Int) (l:List En) (a:Int) (hb:l.length<1000000): ∀ k,k≤l.length→ldF p l a k=none→OkL Try.prog (ntOf Try.prog 58) (lpC Try.prog 58 0) (ldS p m l a ((k:Int)-1)).st (.ext 0) (ldS p m l a (-1)).st
 |0,_,_=>OkL.exit (Ok.vc (ld_end p m l a)) (by simp)
 |k+1,hk,h=>by
  rw [natm1]
  unfold ldF at h
  by_cases hk3:(enI p l k).kind=3
  ·cases hn:(l.getD k default).kn with
   |false=>
    rw [if_neg (by rw [hn];simp)] at h
    exact OkL.step (Ok.vc (ld_n p m l a k (by omega) hb hk3 hn)) (ld_none p m l a hb k (by omega) h)
   |true=>
    by_cases ha:(l.getD k default).adr=a
    ·rw [if_pos ⟨hk3,hn,ha⟩] at h
     cases h
    ·rw [if_neg fun e=>ha e.2.2] at h
     exact OkL.step (Ok.vc (ld_a p m l a k (by omega) hb hk3 hn ha)) (ld_none p m l a hb k (by omega) h)
  ·rw [if_neg fun e=>hk3 e.1] at h
   exact OkL.step (Ok.vc (ld_k p m l a k (by omega) hb hk3)) (ld_none p m l a hb k (by omega) h)
theorem sM20 (l:List En) (i:Int) (n:Nat) (hE:(if (l.length:Int)<(if i<0 then 0 else i) then (l.length:Int) else (if i<0 then 0 else i))=(n:Int)):(if (l.length:Int)<if i<0 then (0:Int) else i then (l.length:Int) else if i<0 then (0:Int) else i)-1=(n:Int)-1:=by rw [hE]
theorem load_y (p:Pg) (m:List Int) (l:List En) (i a:Int) (n:Nat) (x:Int×Int×Bool) (hE:(if (l.length:Int)<(if i<0 then 0 else i) then (l.length:Int) else (if i<0 then 0 else i))=(n:Int)) (hn:n<1000000) (h:Ok Try.prog (ntOf Try.prog 58) (.loop (lpC Try.prog 58 0)) (ldS p m l a ((n:Int)-1)).st .ret (vvbS 10 11 12 x).st):Vc (vcFn Try.prog false 58 [.agg (pgA p),lR m,enR l, .int .i64 i, .int .i64 a] [.fz, .lp [] (ldS p m l a ((n:Int)-1)) .ret (vvbS 10 11 12 x)] [] (.tup [.int .i64 x.1, .int .i64 x.2.1, .bool x.2.2]) []):=vc_by (cj (show inK IntKind.i64 ((if (l.length:Int)<if i<0 then (0:Int) else i then (l.length:Int) else if i<0 then (0:Int) else i)-1) from by rw [hE];exact in64 (by omega) (by omega)) (zM22 p (zM21 p m l a (cj (sM20 l i n hE) (zM24 (cj h (cj (rf (Prod.fst x)) (cj (rf (Prod.fst (Prod.snd x))) (cj (rf (Prod.snd (Prod.snd x))) trivial))))))))) (by kernel_rfl)
theorem zM25 {Z:Prop} (z:Z):(RF (0:Int) (RF (-1:Int) (RF true Z))):=⟨rfl,rfl,rfl,z⟩
abbrev qM21 (p:Pg) (m:List Int) (l:List En) (a:Int) (n:Nat):Prop:=Ok Try.prog (ntOf Try.prog 58) (.loop (lpC Try.prog 58 0)) (ldS p m l a ((n:Int)-1)).st (.ext 0) (ldS p m l a (-1)).st
theorem load_neg (p:Pg) (m:List Int) (l:List En) (i a:Int) (n:Nat) (hE:(if (l.length:Int)<(if i<0 then 0 else i) then (l.length:Int) else (if i<0 then 0 else i))=(n:Int)) (hn:n<1000000) (h:qM21 p m l a n) (ha:a<0):Vc (vcFn Try.prog false 58 [.agg (pgA p),lR m,enR l, .int .i64 i, .int .i64 a] [.fz, .lp [] (ldS p m l a ((n:Int)-1)) (.ext 0) (ldS p m l a (-1)), .bd true] [] (.tup [.int .i64 0, .int .i64 (-1), .bool true]) []):=vc_by (cj (show inK IntKind.i64 ((if (l.length:Int)<if i<0 then (0:Int) else i then (l.length:Int) else if i<0 then (0:Int) else i)-1) from by rw [hE];exact in64 (by omega) (by omega)) (zM22 p (zM21 p m l a (cj (sM20 l i n hE) (zM24 (cj h (cj (dt (a<0)) (zM25 trivial)))))))) (by kernel_rfl)
theorem load_out (p:Pg) (m:List Int) (l:List En) (i a:Int) (n:Nat) (hE:(if (l.length:Int)<(if i<0 then 0 else i) then (l.length:Int) else (if i<0 then 0 else i))=(n:Int)) (hn:n<1000000) (h:qM21 p m l a n) (h0:0≤a) (ha: ¬a<m.length):Vc (vcFn Try.prog false 58 [.agg (pgA p),lR m,enR l, .int .i64 i, .int .i64 a] [.fz, .lp [] (ldS p m l a ((n:Int)-1)) (.ext 0) (ldS p m l a (-1)), .bd false, .bd true] [] (.tup [.int .i64 0, .int .i64 (-1), .bool true]) []):=vc_by (cj (show inK IntKind.i64 ((if (l.length:Int)<if i<0 then (0:Int) else i then (l.length:Int) else if i<0 then (0:Int) else i)-1) from by rw [hE];exact in64 (by omega) (by omega)) (zM22 p (zM21 p m l a (cj (sM20 l i n hE) (zM24 (cj h (cj (df (a<0)) (cj (dt (a≥(m.length:Int))) (zM25 trivial))))))))) (by kernel_rfl)
theorem load_in (p:Pg) (m:List Int) (l:List En) (i a:Int) (n:Nat) (hE:(if (l.length:Int)<(if i<0 then 0 else i) then (l.length:Int) else (if i<0 then 0 else i))=(n:Int)) (hn:n<1000000) (h:qM21 p m l a n) (h0:0≤a) (ha:a<m.length):Vc (vcFn Try.prog false 58 [.agg (pgA p),lR m,enR l, .int .i64 i, .int .i64 a] [.fz, .lp [] (ldS p m l a ((n:Int)-1)) (.ext 0) (ldS p m l a (-1)), .bd false, .bd false] [] (.tup [.int .i64 (m.getD a.toNat 0), .int .i64 (-1), .bool true]) []):=vc_by (cj (show inK IntKind.i64 ((if (l.length:Int)<if i<0 then (0:Int) else i then (l.length:Int) else if i<0 then (0:Int) else i)-1) from by rw [hE];exact in64 (by omega) (by omega)) (zM22 p (zM21 p m l a (cj (sM20 l i n hE) (zM24 (cj h (cj (df (a<0)) (cj (df (a≥(m.length:Int))) (cj (bi a (m.length:Int)) (cj (rf (m.getD (Int.toNat a) (0:Int))) (cj (rf (-1:Int)) (cj (rf true) trivial)))))))))))) (by kernel_rfl)
theorem rldC (p:Pg) (m:List Int) (l:List En) (i a:Int) (hb:l.length<1000000):PureC Try.prog 58 [.agg (pgA p),lR m,enR l, .int .i64 i, .int .i64 a] (.tup [.int .i64 (ldV p m l i a).1, .int .i64 (ldV p m l i a).2.1, .bool (ldV p m l i a).2.2]) []:=by
 have hE:=cl0_eq i l.length
 have hle:=cl0_le i l.length
 unfold ldV
 cases h:ldF p l a (cl0 i l.length) with
 |some x=>exact PureC.vc (load_y p m l i a _ x hE (by omega) (ld_find p m l a hb x _ hle h).ok)
 |none=>
  have hl:=(ld_none p m l a hb _ hle h).ok
  by_cases ha:0≤a∧a<m.length
  ·rw [if_pos ha]
   exact PureC.vc (load_in p m l i a _ hE (by omega) hl ha.1 ha.2)
  ·rw [if_neg ha]
   by_cases h0:a<0
   ·exact PureC.vc (load_neg p m l i a _ hE (by omega) hl h0)
   ·exact PureC.vc (load_out p m l i a _ hE (by omega) hl (by omega) (by omega))
theorem zM26 (p:Pg) (l:List En) (i:Int) (a:Int) (k:Nat) {Z:Prop} (z:Z):(RF p.ls.length (RR p.ls.length 2 (fun i j=>rowL lbC p.ls i j) (RF p.is.length (RR p.is.length 9 (fun i j=>rowL inC p.is i j) (RF l.length (RR l.length 8 (fun i j=>rowL enC l i j) (RF i (RF a (RF ((k:Int)+1) Z))))))))):=⟨rfl,fun _ _ _ _=>rfl,rfl,fun _ _ _ _=>rfl,rfl,fun _ _ _ _=>rfl,rfl,rfl,rfl,z⟩
theorem hz_k (p:Pg) (l:List En) (i a:Int) (k:Nat) (hk:k<l.length) (hb:l.length<1000000) (hk3: ¬(enI p l k).kind=2):Vc (vcC Try.prog false (ntOf Try.prog 73) (lpC Try.prog 73 0) (hzS p l i a k) [.bd true,oM20 p l k, .bd false] .nrm [] (hzS p l i a (k+1))):=vc_by (cj (dt ((k:Int)<(l.length:Int))) (cj (bi (k:Int) (l.length:Int)) (zM22 p (zM23 p l k (cj (ratC p (l.getD k default).pc) (cj (beq_eq_false_iff_ne.2 hk3) (cj (i6 ((k:Int)+1)) (zM22 p (zM26 p l i a k (cj (rf (0:Int)) (cj (rf false) trivial))))))))))) (by kernel_rfl)
theorem hz_n (p:Pg) (l:List En) (i a:Int) (k:Nat) (hk:k<l.length) (hb:l.length<1000000) (hk3:(enI p l k).kind=2) (hn:(l.getD k default).kn=false):Vc (vcC Try.prog false (ntOf Try.prog 73) (lpC Try.prog 73 0) (hzS p l i a k) [.bd true,oM20 p l k, .bd true, .lv (.bool false)] .nrm [] (hzS p l i a (k+1))):=vc_by (cj (dt ((k:Int)<(l.length:Int))) (cj (bi (k:Int) (l.length:Int)) (zM22 p (zM23 p l k (cj (ratC p (l.getD k default).pc) (cj (beq_iff_eq.2 hk3) (cj (bi (k:Int) (l.length:Int)) (cj (congrArg (fun b=>some (AV.bool b)) hn) (cj (i6 ((k:Int)+1)) (zM22 p (zM26 p l i a k (cj (rf (0:Int)) (cj (rf false) trivial))))))))))))) (by kernel_rfl)
theorem hz_a (p:Pg) (l:List En) (i a:Int) (k:Nat) (hk:k<l.length) (hb:l.length<1000000) (hk3:(enI p l k).kind=2) (hn:(l.getD k default).kn=true) (ha: ¬(l.getD k default).adr=a):Vc (vcC Try.prog false (ntOf Try.prog 73) (lpC Try.prog 73 0) (hzS p l i a k) [.bd true,oM20 p l k, .bd true, .lv (.bool true), .bd false] .nrm [] (hzS p l i a (k+1))):=vc_by (cj (dt ((k:Int)<(l.length:Int))) (cj (bi (k:Int) (l.length:Int)) (zM22 p (zM23 p l k (cj (ratC p (l.getD k default).pc) (cj (beq_iff_eq.2 hk3) (cj (bi (k:Int) (l.length:Int)) (cj (congrArg (fun b=>some (AV.bool b)) hn) (cj (bi (k:Int) (l.length:Int)) (cj (beq_eq_false_iff_ne.2 ha) (cj (i6 ((k:Int)+1)) (zM22 p (zM26 p l i a k (cj (rf (0:Int)) (cj (rf false) trivial))))))))))))))) (by kernel_rfl)
theorem hz_f (p:Pg) (l:List En) (i a:Int) (k:Nat) (hk:k<l.length) (hb:l.length<1000000) (hk3:(enI p l k).kind=2) (hn:(l.getD k default).kn=true) (ha:(l.getD k default).adr=a) (hf: ¬(l.getD k default).frm<i):Vc (vcC Try.prog false (ntOf Try.prog 73) (lpC Try.prog 73 0) (hzS p l i a k) [.bd true,oM20 p l k, .bd true, .lv (.bool true), .bd true, .bd false] .nrm [] (hzS p l i a (k+1))):=vc_by (cj (dt ((k:Int)<(l.length:Int))) (cj (bi (k:Int) (l.length:Int)) (zM22 p (zM23 p l k (cj (ratC p (l.getD k default).pc) (cj (beq_iff_eq.2 hk3) (cj (bi (k:Int) (l.length:Int)) (cj (congrArg (fun b=>some (AV.bool b)) hn) (cj (bi (k:Int) (l.length:Int)) (cj (beq_iff_eq.2 ha) (cj (bi (k:Int) (l.length:Int)) (cj (decide_eq_false hf) (cj (i6 ((k:Int)+1)) (zM22 p (zM26 p l i a k (cj (rf (0:Int)) (cj (rf false) trivial))))))))))))))))) (by kernel_rfl)
theorem hz_y (p:Pg) (l:List En) (i a:Int) (k:Nat) (hk:k<l.length) (hb:l.length<1000000) (hk3:(enI p l k).kind=2) (hn:(l.getD k default).kn=true) (ha:(l.getD k default).adr=a) (hf:(l.getD k default).frm<i):Vc (vcC Try.prog false (ntOf Try.prog 73) (lpC Try.prog 73 0) (hzS p l i a k) [.bd true,oM20 p l k, .bd true, .lv (.bool true), .bd true, .bd true] .ret [] (vbS 8 9 ((k:Int),true))):=vc_by (cj (dt ((k:Int)<(l.length:Int))) (cj (bi (k:Int) (l.length:Int)) (zM22 p (zM23 p l k (cj (ratC p (l.getD k default).pc) (cj (beq_iff_eq.2 hk3) (cj (bi (k:Int) (l.length:Int)) (cj (congrArg (fun b=>some (AV.bool b)) hn) (cj (bi (k:Int) (l.length:Int)) (cj (beq_iff_eq.2 ha) (cj (bi (k:Int) (l.length:Int)) (cj (decide_eq_true hf) (cj (rf (k:Int)) (cj (rf true) trivial)))))))))))))) (by kernel_rfl)
theorem hz_end (p:Pg) (l:List En) (i a:Int) (k:Nat) (hk: ¬k<l.length):Vc (vcC Try.prog false (ntOf Try.prog 73) (lpC Try.prog 73 0) (hzS p l i a k) [.b false] (.ext 0) [] (hzS p l i a k)):=vc_by (cj (df ((k:Int)<(l.length:Int))) (zM22 p (cj (rf p.ls.length) (cj (rr p.ls.length 2 fun i j=>rowL lbC p.ls i j) (cj (rf p.is.length) (cj (rr p.is.length 9 fun i j=>rowL inC p.is i j) (cj (rf l.length) (cj (rr l.length 8 fun i j=>rowL enC l i j) (cj (rf i) (cj (rf a) (cj (rf (k:Int)) (cj (rf (0:Int)) (cj (rf false) trivial))))))))))))) (by kernel_rfl)
theorem hz_find (p:Pg) (l:List En) (i a:Int) (hb:l.length<1000000) (q:Nat): ∀ j k,k+j=max k l.length→hzG p l i a k j=some q→OkL Try.prog (ntOf Try.prog 73) (lpC Try.prog 73 0) (hzS p l i a k).st .ret (vbS 8 9 ((q:Int),true)).st
 |0,k,_,h=>by cases h
 |j+1,k,hk,h=>by
  unfold hzG at h
  by_cases hz:hzB p l i a k
  ·rw [if_pos hz] at h
   obtain ⟨hk3,hn,ha,hf⟩:=hz
   rw [Option.some.injEq] at h
   subst h
   exact OkL.exit (Ok.vc (hz_y p l i a k (by omega) hb hk3 hn ha hf)) (by simp)
  ·rw [if_neg hz] at h
   refine OkL.step ?_ (hz_find p l i a hb q j (k+1) (by omega) h)
   by_cases hk3:(enI p l k).kind=2
   ·cases hn:(l.getD k default).kn with
    |false=>exact Ok.vc (hz_n p l i a k (by omega) hb hk3 hn)
    |true=>
     by_cases ha:(l.getD k default).adr=a
     ·exact Ok.vc (hz_f p l i a k (by omega) hb hk3 hn ha fun hf=>hz ⟨hk3,hn,ha,hf⟩)
     ·exact Ok.vc (hz_a p l i a k (by omega) hb hk3 hn ha)
   ·exact Ok.vc (hz_k p l i a k (by omega) hb hk3)
theorem hz_none (p:Pg) (l:List En) (i a:Int) (hb:l.length<1000000): ∀ j k,k+j=max k l.length→hzG p l i a k j=none→OkL Try.prog (ntOf Try.prog 73) (lpC Try.prog 73 0) (hzS p l i a k).st (.ext 0) (hzS p l i a (max k l.length)).st
 |0,k,hk,_=>by
  rw [show max k l.length=k by omega]
  exact OkL.exit (Ok.vc (hz_end p l i a k (by omega))) (by simp)
 |j+1,k,hk,h=>by
  rw [show max k l.length=max (k+1) l.length by omega]
  unfold hzG at h
  by_cases hz:hzB p l i a k
  ·rw [if_pos hz] at h
   obtain ⟨hk3,hn,ha,hf⟩:=hz
   cases h
  ·rw [if_neg hz] at h
   refine OkL.step ?_ (hz_none p l i a hb j (k+1) (by omega) h)
   by_cases hk3:(enI p l k).kind=2
   ·cases hn:(l.getD k default).kn with
    |false=>exact Ok.vc (hz_n p l i a k (by omega) hb hk3 hn)
    |true=>
     by_cases ha:(l.getD k default).adr=a
     ·exact Ok.vc (hz_f p l i a k (by omega) hb hk3 hn ha fun hf=>hz ⟨hk3,hn,ha,hf⟩)
     ·exact Ok.vc (hz_a p l i a k (by omega) hb hk3 hn ha)
   ·exact Ok.vc (hz_k p l i a k (by omega) hb hk3)
theorem mxI (a b:Int):(if a<b then b else a)=max a b:=by split<;>omega
theorem hz0_eq (i:Int) (n:Nat):(if (n:Int)<(if i< -1 then -1 else i) then (n:Int) else (if i< -1 then -1 else i))+1=(hz0 i n:Int):=by
 unfold hz0;rw [mxI,mnI];omega
theorem zM27 (p:Pg) (l:List En) (i:Int) (a:Int) {Z:Prop} (z:Z):(RF p.ls.length (RR p.ls.length 2 (fun i j=>rowL lbC p.ls i j) (RF p.is.length (RR p.is.length 9 (fun i j=>rowL inC p.is i j) (RF l.length (RR l.length 8 (fun i j=>rowL enC l i j) (RF i (RF a Z)))))))):=⟨rfl,fun _ _ _ _=>rfl,rfl,fun _ _ _ _=>rfl,rfl,fun _ _ _ _=>rfl,rfl,rfl,z⟩
theorem haz_y (p:Pg) (l:List En) (i a:Int) (n:Nat) (q:Nat) (hE:(if (l.length:Int)<(if i< -1 then -1 else i) then (l.length:Int) else (if i< -1 then -1 else i))+1=(n:Int)) (hn:n<1000001) (h:Ok Try.prog (ntOf Try.prog 73) (.loop (lpC Try.prog 73 0)) (hzS p l i a n).st .ret (vbS 8 9 ((q:Int),true)).st):Vc (vcFn Try.prog false 73 [.agg (pgA p),enR l, .int .i64 i, .int .i64 a] [.fz, .lp [] (hzS p l i a n) .ret (vbS 8 9 ((q:Int),true))] [] (.tup [.int .i64 q, .bool true]) []):=vc_by (cj (show inK IntKind.i64 ((if (l.length:Int)<if i<(-1:Int) then (-1:Int) else i then (l.length:Int) else if i<(-1:Int) then (-1:Int) else i)+1) from by rw [hE];exact in64 (by omega) (by omega)) (zM22 p (zM27 p l i a (cj (show (if (l.length:Int)<if i<(-1:Int) then (-1:Int) else i then (l.length:Int) else if i<(-1:Int) then (-1:Int) else i)+1=(n:Int) from by first |exact hE |rw [hE]) (cj (rf (0:Int)) (cj (rf false) (cj h (cj (rf (q:Int)) (cj (rf true) trivial))))))))) (by kernel_rfl)
theorem haz_n (p:Pg) (l:List En) (i a:Int) (n:Nat) (N:Nat) (hE:(if (l.length:Int)<(if i< -1 then -1 else i) then (l.length:Int) else (if i< -1 then -1 else i))+1=(n:Int)) (hn:n<1000001) (h:Ok Try.prog (ntOf Try.prog 73) (.loop (lpC Try.prog 73 0)) (hzS p l i a n).st (.ext 0) (hzS p l i a N).st):Vc (vcFn Try.prog false 73 [.agg (pgA p),enR l, .int .i64 i, .int .i64 a] [.fz, .lp [] (hzS p l i a n) (.ext 0) (hzS p l i a N)] [] (.tup [.int .i64 0, .bool false]) []):=vc_by (cj (show inK IntKind.i64 ((if (l.length:Int)<if i<(-1:Int) then (-1:Int) else i then (l.length:Int) else if i<(-1:Int) then (-1:Int) else i)+1) from by rw [hE];exact in64 (by omega) (by omega)) (zM22 p (zM27 p l i a (cj (show (if (l.length:Int)<if i<(-1:Int) then (-1:Int) else i then (l.length:Int) else if i<(-1:Int) then (-1:Int) else i)+1=(n:Int) from by first |exact hE |rw [hE]) (cj (rf (0:Int)) (cj (rf false) (cj h (cj (rf (0:Int)) (cj (rf false) trivial))))))))) (by kernel_rfl)
theorem rhzC (p:Pg) (l:List En) (i a:Int) (hb:l.length<1000000):PureC Try.prog 73 [.agg (pgA p),enR l, .int .i64 i, .int .i64 a] (.tup [.int .i64 (hzV p l i a).1, .bool (hzV p l i a).2]) []:=by
 have hE:=hz0_eq i l.length
 have hle:hz0 i l.length≤l.length+1:=by unfold hz0;omega
 unfold hzV
 cases h:hzG p l i a (hz0 i l.length) (l.length-hz0 i l.length) with
 |some q=>exact PureC.vc (haz_y p l i a _ q hE (by omega) (hz_find p l i a hb q _ _ (by omega) h).ok)
 |none=>exact PureC.vc (haz_n p l i a _ _ hE (by omega) (hz_none p l i a hb _ _ (by omega) h).ok)
end
end Go.Proofs.Ytfjapapiappacaa.Px
namespace Go.Proofs.Ytfjapapiappacaa.Px
section
open Go.RowKit Go.Proofs.Ytfjapapiappacaa.Rx
def pushL (l:List Int) (pc:Int):List Int:=(l++[pc]).drop (l.length-1)
def jmpV (p:Pg) (n:Int):Int:=min n (p.is.length:Int)
def reG (p:Pg) (l:List En):Nat→Nat→List Int→Option (List Int)
 |_,0,st=>some st
 |k,j+1,st=>if (enI p l k).kind=8 then (if 4≤st.length then none else reG p l (k+1) j (st++[(l.getD k default).pc+1]))
  else if (enI p l k).kind=9 then (if st.length=0 then none else reG p l (k+1) j (st.take (st.length-1))) else reG p l (k+1) j st
def reV (p:Pg) (st:List Int) (l:List En) (i:Int):Option (List Int):=reG p l 0 (cl0 i l.length) st
def reS (p:Pg) (l:List En) (i:Int) (L:List Int) (N:Nat) (g:Nat→Nat→AV) (k:Nat):Sm:=⟨[(4,pgP p),(2,enR l),(3, .int .i64 i),(10, .own 0 0 1 0 L.length),(11, .int .i64 k),(8, .nils),(9, .bool false)],[(0,⟨0,false,3, .rows 1 N g⟩)],1⟩
def nS:Sm:=⟨[(8, .nils),(9, .bool false)],[],0⟩
theorem push_ix (l:List Int):(if (((0+l.length+1:Nat)):Int)-2<0 then 0 else ((0+l.length+1:Nat):Int)-2)=((l.length-1:Nat):Int):=by split<;>omega
theorem push_ix2 (l:List Int):Int.toNat (if (((0+l.length+1:Nat)):Int)-2<0 then 0 else ((0+l.length+1:Nat):Int)-2)=l.length-1:=by rw [push_ix,Int.toNat_natCast]
theorem push_len (l:List Int) (pc:Int):(pushL l pc).length=l.length+1-(l.length-1):=by unfold pushL;rw [List.length_drop,List.length_append];rfl
theorem row_snoc {l:List Int} {x:Int} {g:Nat→Nat→AV} (hg:g 0 0= .int .i64 x) (i:Nat) (hi:i<l.length+1) (a:AV) (ha:i<l.length→a= .int .i64 (l.getD i 0)):(bif Nat.blt i l.length then a else g (i-l.length) 0)= .int .i64 ((l++[x]).getD i 0):=by
 refine row_if (fun h=> ?_) (fun h=> ?_)
 ·rw [ha h]
  simp [List.getD,List.getElem?_append_left h]
 ·obtain rfl:i=l.length:=by omega
  rw [Nat.sub_self,hg]
  simp [List.getD]
theorem getD_drop (l:List Int) (n i:Nat):(l.drop n).getD i 0=l.getD (i+n) 0:=by
 rw [List.getD_eq_getElem?_getD,List.getD_eq_getElem?_getD,List.getElem?_drop,Nat.add_comm]
theorem push_row (l:List Int) (pc:Int) {g:Nat→Nat→AV} (hg:g 0 0= .int .i64 pc) {E:Nat} (hE:E=l.length-1) {i:Nat} (hi:i+E<l.length+1):(bif Nat.blt (i+E) (0+l.length) then (bif Nat.blt (i+E) 0 then AV.junk else .int .i64 (l.getD (i+E-0) 0)) else g (i+E-(0+l.length)) 0)= .int .i64 ((pushL l pc).getD i 0):=by
 subst hE
 unfold pushL
 rw [getD_drop,Nat.zero_add]
 exact row_snoc hg _ hi _ fun _=>rfl
theorem push_vc (l:List Int) (pc:Int) (hb:l.length<1000000):Vc (vcFn Try.prog false 69 [lR l, .int .i64 pc] [] [] (lR (pushL l pc)) []):=vc_by (cj (ap 0 l.length 8) (cj (ap (0+l.length) 1 8) (cj (i6 ((↑((0:Nat)+l.length+1):Int)-2)) (cj (show ((0:Int)≤if (↑((0:Nat)+l.length+1):Int)-2<0 then (0:Int) else (↑((0:Nat)+l.length+1):Int)-2)∧(if (↑((0:Nat)+l.length+1):Int)-2<0 then (0:Int) else (↑((0:Nat)+l.length+1):Int)-2)<(↑((0:Nat)+l.length+1):Int)∧(↑((0:Nat)+l.length+1):Int)≤(↑((0:Nat)+l.length+1):Int) from by rw [push_ix];omega) (cj (show (0:Nat)+l.length+1-Int.toNat (if (↑((0:Nat)+l.length+1):Int)-2<0 then (0:Int) else (↑((0:Nat)+l.length+1):Int)-2)=(pushL l pc).length from by rw [push_ix2,push_len,Nat.zero_add]) (cj (show ∀ (i:Nat),i<0+l.length+1-Int.toNat (if (↑((0:Nat)+l.length+1):Int)-2<0 then (0:Int) else (↑((0:Nat)+l.length+1):Int)-2)→ ∀ (j:Nat),j<1→(bif Nat.blt (i+((0:Nat)+Int.toNat (if (↑((0:Nat)+l.length+1):Int)-2<0 then (0:Int) else (↑((0:Nat)+l.length+1):Int)-2))) ((0:Nat)+l.length) then aI (l.getD (i+((0:Nat)+Int.toNat (if (↑((0:Nat)+l.length+1):Int)-2<0 then (0:Int) else (↑((0:Nat)+l.length+1):Int)-2))-0) (0:Int)) else List.getD [aI pc] ((i+((0:Nat)+Int.toNat (if (↑((0:Nat)+l.length+1):Int)-2<0 then (0:Int) else (↑((0:Nat)+l.length+1):Int)-2))-((0:Nat)+l.length)+0)*1+j) AV.junk)=aI (List.getD (pushL l pc) i (0:Int)) from (fun i hi j hj=>by obtain rfl:j=0:=(by omega);exact push_row l pc (g:=fun a b=>[AV.int .i64 pc].getD ((a+0)*1+b) .junk) rfl (by rw [push_ix2,Nat.zero_add]) (by rw [push_ix2] at hi ⊢;omega))) trivial)))))) (by kernel_rfl)
theorem rpushC (l:List Int) (pc:Int) (hb:l.length<1000000):PureC Try.prog 69 [lR l, .int .i64 pc] (lR (pushL l pc)) []:=PureC.vc (push_vc l pc hb)
theorem zM30 (p:Pg) (l:List En) (i:Int) {Z:Prop} (z:Z):(RF p.ms.length (RR p.ms.length 3 (fun i j=>rowL mmC p.ms i j) (RF p.ls.length (RR p.ls.length 2 (fun i j=>rowL lbC p.ls i j) (RF p.is.length (RR p.is.length 9 (fun i j=>rowL inC p.is i j) (RF l.length (RR l.length 8 (fun i j=>rowL enC l i j) (RF i Z))))))))):=⟨rfl,fun _ _ _ _=>rfl,rfl,fun _ _ _ _=>rfl,rfl,fun _ _ _ _=>rfl,rfl,fun _ _ _ _=>rfl,rfl,z⟩
theorem zM31 (p:Pg) (N:Nat) (g:Nat→Nat→AV) {Z:Prop} (z:Z):(RF N (RR N 1 (fun i j=>g i j) (RF p.W (RF p.win (RF p.fuel (RF p.r0 (RF p.r1 (RF p.r2 (RF p.r3 Z))))))))):=⟨rfl,fun _ _ _ _=>rfl,rfl,rfl,rfl,rfl,rfl,rfl,rfl,z⟩
theorem zM32 (p:Pg) (l:List En) (k:Nat) {Z:Prop} (z:Z):(RF p.ls.length (RR p.ls.length 2 (fun i j=>rowL lbC p.ls i j) (RF p.is.length (RR p.is.length 9 (fun i j=>rowL inC p.is i j) (RF ((l.getD k default).pc) Z))))):=⟨rfl,fun _ _ _ _=>rfl,rfl,fun _ _ _ _=>rfl,rfl,z⟩
theorem zM33 (p:Pg) {Z:Prop} (z:Z):(RF p.W (RF p.win (RF p.fuel (RF p.r0 (RF p.r1 (RF p.r2 (RF p.r3 (RF p.ms.length (RR p.ms.length 3 (fun i j=>rowL mmC p.ms i j) Z))))))))):=⟨rfl,rfl,rfl,rfl,rfl,rfl,rfl,rfl,fun _ _ _ _=>rfl,z⟩
abbrev oM30 (p:Pg) (l:List En) (k:Nat):Orc:= .cl [.agg (pgA p), .int .i64 (l.getD k default).pc] (.agg (inA (enI p l k))) []
theorem re_o (p:Pg) (l:List En) (i:Int) (L:List Int) (N:Nat) (g:Nat→Nat→AV) (k:Nat) (hk:(k:Int)<i) (hl:k<l.length) (hb:l.length<1000000) (hL:L.length≤1000000) (hLN:L.length≤N) (h8: ¬(enI p l k).kind=8) (h9: ¬(enI p l k).kind=9):Vc (vcC Try.prog false (ntOf Try.prog 68) (lpC Try.prog 68 0) (reS p l i L N g k) [.bd true, .bd true,oM30 p l k, .bd false, .bd false] .nrm [(0,0)] (reS p l i L N g (k+1))):=vc_by (cj (dt ((k:Int)<i)) (cj (dt ((k:Int)<(l.length:Int))) (cj (bi (k:Int) (l.length:Int)) (zM33 p (zM32 p l k (cj (ratC p (l.getD k default).pc) (cj (beq_eq_false_iff_ne.2 h8) (cj (beq_eq_false_iff_ne.2 h9) (cj (i6 ((k:Int)+1)) (zM31 p N g (zM30 p l i (cj (rf (0:Nat)) (cj (rf L.length) (cj (rf ((k:Int)+1)) (cj (rf false) trivial))))))))))))))) (by kernel_rfl)
theorem re_8x (p:Pg) (l:List En) (i:Int) (L:List Int) (N:Nat) (g:Nat→Nat→AV) (k:Nat) (hk:(k:Int)<i) (hl:k<l.length) (hb:l.length<1000000) (hL:L.length≤1000000) (hLN:L.length≤N) (h8:(enI p l k).kind=8) (h4:4≤L.length):Vc (vcC Try.prog false (ntOf Try.prog 68) (lpC Try.prog 68 0) (reS p l i L N g k) [.bd true, .bd true,oM30 p l k, .bd true, .bd true] .ret [] nS):=vc_by (cj (dt ((k:Int)<i)) (cj (dt ((k:Int)<(l.length:Int))) (cj (bi (k:Int) (l.length:Int)) (zM33 p (zM32 p l k (cj (ratC p (l.getD k default).pc) (cj (beq_iff_eq.2 h8) (cj (dt ((L.length:Int)≥4)) (cj (rf false) trivial))))))))) (by kernel_rfl)
theorem re_8 (p:Pg) (l:List En) (i:Int) (L:List Int) (N:Nat) (g:Nat→Nat→AV) (k:Nat) (hk:(k:Int)<i) (hl:k<l.length) (hb:l.length<1000000) (hL:L.length≤1000000) (hLN:L.length≤N) (h8:(enI p l k).kind=8) (h4: ¬4≤L.length) (hp: -1≤(l.getD k default).pc∧(l.getD k default).pc≤1000000):Vc (vcC Try.prog false (ntOf Try.prog 68) (lpC Try.prog 68 0) (reS p l i L N g k) [.bd true, .bd true,oM30 p l k, .bd true, .bd false, .sh] .nrm [(0,0)] (reS p l i (L++[(l.getD k default).pc+1]) (L.length+1) (fun a b=>bif Nat.blt a L.length then g a b else [AV.int .i64 ((l.getD k default).pc+1)].getD ((a-L.length)*1+b) .junk) (k+1))):=vc_by (cj (dt ((k:Int)<i)) (cj (dt ((k:Int)<(l.length:Int))) (cj (bi (k:Int) (l.length:Int)) (zM33 p (zM32 p l k (cj (ratC p (l.getD k default).pc) (cj (beq_iff_eq.2 h8) (cj (df ((L.length:Int)≥4)) (cj (bi (k:Int) (l.length:Int)) (cj (i6 ((l.getD k default).pc+1)) (cj (ap L.length 1 8) (cj (i6 ((k:Int)+1)) (cj (rf (L.length+1)) (cj (rr (L.length+1) 1 fun i j=>bif Nat.blt i L.length then g i j else List.getD [aI ((l.getD k default).pc+1)] ((i-L.length)*1+j) AV.junk) (zM33 p (cj (rf p.ls.length) (cj (rr p.ls.length 2 fun i j=>rowL lbC p.ls i j) (cj (rf p.is.length) (cj (rr p.is.length 9 fun i j=>rowL inC p.is i j) (cj (rf l.length) (cj (rr l.length 8 fun i j=>rowL enC l i j) (cj (rf i) (cj (rf (0:Nat)) (cj (pv (L.length+1=(L++[(l.getD k default).pc+1]).length)) (cj (rf ((k:Int)+1)) (cj (rf false) trivial)))))))))))))))))))))))))) (by kernel_rfl)
theorem re_9x (p:Pg) (l:List En) (i:Int) (L:List Int) (N:Nat) (g:Nat→Nat→AV) (k:Nat) (hk:(k:Int)<i) (hl:k<l.length) (hb:l.length<1000000) (hL:L.length≤1000000) (hLN:L.length≤N) (h8: ¬(enI p l k).kind=8) (h9:(enI p l k).kind=9) (h4:L.length=0):Vc (vcC Try.prog false (ntOf Try.prog 68) (lpC Try.prog 68 0) (reS p l i L N g k) [.bd true, .bd true,oM30 p l k, .bd false, .bd true, .bd true] .ret [] nS):=vc_by (cj (dt ((k:Int)<i)) (cj (dt ((k:Int)<(l.length:Int))) (cj (bi (k:Int) (l.length:Int)) (zM33 p (zM32 p l k (cj (ratC p (l.getD k default).pc) (cj (beq_eq_false_iff_ne.2 h8) (cj (beq_iff_eq.2 h9) (cj (e1 (L.length:Int) 0) (cj (rf false) trivial)))))))))) (by kernel_rfl)
theorem re_9 (p:Pg) (l:List En) (i:Int) (L:List Int) (N:Nat) (g:Nat→Nat→AV) (k:Nat) (hk:(k:Int)<i) (hl:k<l.length) (hb:l.length<1000000) (hL:L.length≤1000000) (hLN:L.length≤N) (h8: ¬(enI p l k).kind=8) (h9:(enI p l k).kind=9) (h4: ¬L.length=0):Vc (vcC Try.prog false (ntOf Try.prog 68) (lpC Try.prog 68 0) (reS p l i L N g k) [.bd true, .bd true,oM30 p l k, .bd false, .bd true, .bd false] .nrm [(0,0)] (reS p l i (L.take (L.length-1)) N g (k+1))):=vc_by (cj (dt ((k:Int)<i)) (cj (dt ((k:Int)<(l.length:Int))) (cj (bi (k:Int) (l.length:Int)) (zM33 p (zM32 p l k (cj (ratC p (l.getD k default).pc) (cj (beq_eq_false_iff_ne.2 h8) (cj (beq_iff_eq.2 h9) (cj (e0 (L.length:Int) 0) (cj (i6 ((L.length:Int)-1)) (cj (pv ((0:Int)≤(L.length:Int)-1∧(L.length:Int)-1≤(L.length:Int))) (cj (i6 ((k:Int)+1)) (zM31 p N g (zM30 p l i (cj (rf (0:Nat)) (cj (pv (Int.toNat ((L.length:Int)-1)=(List.take (L.length-1) L).length)) (cj (rf ((k:Int)+1)) (cj (rf false) trivial)))))))))))))))))) (by kernel_rfl)
theorem zM34 (L:List Int) (k:Nat) {Z:Prop} (z:Z):(RF (0:Nat) (RF L.length (RF (k:Int) (RF false Z)))):=⟨rfl,rfl,rfl,rfl,z⟩
theorem re_i (p:Pg) (l:List En) (i:Int) (L:List Int) (N:Nat) (g:Nat→Nat→AV) (k:Nat) (hk: ¬(k:Int)<i):Vc (vcC Try.prog false (ntOf Try.prog 68) (lpC Try.prog 68 0) (reS p l i L N g k) [.bd false] (.ext 0) [(0,0)] (reS p l i L N g k)):=vc_by (cj (df ((k:Int)<i)) (zM31 p N g (zM30 p l i (zM34 L k trivial)))) (by kernel_rfl)
theorem re_l (p:Pg) (l:List En) (i:Int) (L:List Int) (N:Nat) (g:Nat→Nat→AV) (k:Nat) (hk:(k:Int)<i) (hl: ¬k<l.length):Vc (vcC Try.prog false (ntOf Try.prog 68) (lpC Try.prog 68 0) (reS p l i L N g k) [.bd true, .bd false] (.ext 0) [(0,0)] (reS p l i L N g k)):=vc_by (cj (dt ((k:Int)<i)) (cj (df ((k:Int)<(l.length:Int))) (zM31 p N g (zM30 p l i (zM34 L k trivial))))) (by kernel_rfl)
def gOk (L:List Int) (N:Nat) (g:Nat→Nat→AV):Prop:=L.length≤N∧ ∀ a,a<L.length→g a 0= .int .i64 (L.getD a 0)
theorem gOk_snoc {L:List Int} {N:Nat} {g:Nat→Nat→AV} (h:gOk L N g) (x:Int):gOk (L++[x]) (L.length+1) (fun a b=>bif Nat.blt a L.length then g a b else [AV.int .i64 x].getD ((a-L.length)*1+b) .junk):=by
 refine ⟨by simp,fun a ha=> ?_⟩
 rw [List.length_append] at ha
 exact row_snoc (g:=fun a b=>[AV.int .i64 x].getD (a*1+b) .junk) rfl a ha _ (h.2 a)
theorem gOk_take {L:List Int} {N:Nat} {g:Nat→Nat→AV} (h:gOk L N g) (n:Nat):gOk (L.take n) N g:=by
 refine ⟨by have:=h.1;rw [List.length_take];omega,fun a ha=> ?_⟩
 rw [List.length_take] at ha
 rw [h.2 a (by omega),List.getD_eq_getElem?_getD,List.getD_eq_getElem?_getD,List.getElem?_take,if_pos (by omega)]
theorem pc_bd {l:List En} (h: ∀ e∈l, -1≤e.pc∧e.pc≤1000000) {k:Nat} (hk:k<l.length): -1≤(l.getD k default).pc∧(l.getD k default).pc≤1000000:=h _ (by simp [List.getD,hk])
theorem re_none (p:Pg) (l:List En) (i:Int) (hb:l.length<1000000) (hpc: ∀ e∈l, -1≤e.pc∧e.pc≤1000000): ∀ j k L N g,k+j=cl0 i l.length→gOk L N g→L.length+j≤1000000→reG p l k j L=none→OkL Try.prog (ntOf Try.prog 68) (lpC Try.prog 68 0) (reS p l i L N g k).st .ret (nS).st
 |0,k,L,N,g,_,_,_,h=>by cases h
 |j+1,k,L,N,g,hk,hg,hL,h=>by
  have hl:=cl0_lt (i:=i) (n:=l.length) (k:=k) (by omega)
  unfold reG at h
  by_cases h8:(enI p l k).kind=8
  ·rw [if_pos h8] at h
   by_cases h4:4≤L.length
   ·exact OkL.exit (Ok.vc (re_8x p l i L N g k hl.1 hl.2 hb (by omega) hg.1 h8 h4)) (by simp)
   ·rw [if_neg h4] at h
    exact OkL.step (Ok.vc (re_8 p l i L N g k hl.1 hl.2 hb (by omega) hg.1 h8 h4 (pc_bd hpc hl.2))) (re_none p l i hb hpc j (k+1) _ _ _ (by omega) (gOk_snoc hg _) (by rw [List.length_append,List.length_singleton];omega) h)
  ·rw [if_neg h8] at h
   by_cases h9:(enI p l k).kind=9
   ·rw [if_pos h9] at h
    by_cases h4:L.length=0
    ·exact OkL.exit (Ok.vc (re_9x p l i L N g k hl.1 hl.2 hb (by omega) hg.1 h8 h9 h4)) (by simp)
    ·rw [if_neg h4] at h
     exact OkL.step (Ok.vc (re_9 p l i L N g k hl.1 hl.2 hb (by omega) hg.1 h8 h9 h4)) (re_none p l i hb hpc j (k+1) _ _ _ (by omega) (gOk_take hg _) (by rw [List.length_take];omega) h)
   ·rw [if_neg h9] at h
    exact OkL.step (Ok.vc (re_o p l i L N g k hl.1 hl.2 hb (by omega) hg.1 h8 h9)) (re_none p l i hb hpc j (k+1) _ _ _ (by omega) hg (by omega) h)
theorem re_some (p:Pg) (l:List En) (i:Int) (L':List Int) (hb:l.length<1000000) (hpc: ∀ e∈l, -1≤e.pc∧e.pc≤1000000): ∀ j k L N g,k+j=cl0 i l.length→gOk L N g→L.length+j≤1000000→reG p l k j L=some L'→ ∃ N' g',gOk L' N' g'∧L'.length≤1000000∧OkL Try.prog (ntOf Try.prog 68) (lpC Try.prog 68 0) (reS p l i L N g k).st (.ext 0) (reS p l i L' N' g' (cl0 i l.length)).st
 |0,k,L,N,g,hk,hg,hL,h=>by
  obtain rfl:L=L':=Option.some.inj h
  obtain rfl:k=cl0 i l.length:=by omega
  refine ⟨N,g,hg,by omega, ?_⟩
  rcases cl0_end i l.length with h1 |h1
  ·exact OkL.exit (Ok.vc (re_i p l i _ N g _ h1)) (by simp)
  ·by_cases h2:((cl0 i l.length:Nat):Int)<i
   ·exact OkL.exit (Ok.vc (re_l p l i _ N g _ h2 h1)) (by simp)
   ·exact OkL.exit (Ok.vc (re_i p l i _ N g _ h2)) (by simp)
 |j+1,k,L,N,g,hk,hg,hL,h=>by
  have hl:=cl0_lt (i:=i) (n:=l.length) (k:=k) (by omega)
  unfold reG at h
  by_cases h8:(enI p l k).kind=8
  ·rw [if_pos h8] at h
   by_cases h4:4≤L.length
   ·rw [if_pos h4] at h;cases h
   ·rw [if_neg h4] at h
    obtain ⟨N',g',q1,q2,q3⟩:=re_some p l i L' hb hpc j (k+1) _ _ _ (by omega) (gOk_snoc hg _) (by rw [List.length_append,List.length_singleton];omega) h
    exact ⟨N',g',q1,q2,OkL.step (Ok.vc (re_8 p l i L N g k hl.1 hl.2 hb (by omega) hg.1 h8 h4 (pc_bd hpc hl.2))) q3⟩
  ·rw [if_neg h8] at h
   by_cases h9:(enI p l k).kind=9
   ·rw [if_pos h9] at h
    by_cases h4:L.length=0
    ·rw [if_pos h4] at h;cases h
    ·rw [if_neg h4] at h
     obtain ⟨N',g',q1,q2,q3⟩:=re_some p l i L' hb hpc j (k+1) _ _ _ (by omega) (gOk_take hg _) (by rw [List.length_take];omega) h
     exact ⟨N',g',q1,q2,OkL.step (Ok.vc (re_9 p l i L N g k hl.1 hl.2 hb (by omega) hg.1 h8 h9 h4)) q3⟩
   ·rw [if_neg h9] at h
    obtain ⟨N',g',q1,q2,q3⟩:=re_some p l i L' hb hpc j (k+1) _ _ _ (by omega) hg (by omega) h
    exact ⟨N',g',q1,q2,OkL.step (Ok.vc (re_o p l i L N g k hl.1 hl.2 hb (by omega) hg.1 h8 h9)) q3⟩
theorem zM35 (p:Pg) (l:List En) (i:Int) {Z:Prop} (z:Z):(RR p.ms.length 3 (fun i j=>rowL mmC p.ms i j) (RF p.ls.length (RR p.ls.length 2 (fun i j=>rowL lbC p.ls i j) (RF p.is.length (RR p.is.length 9 (fun i j=>rowL inC p.is i j) (RF l.length (RR l.length 8 (fun i j=>rowL enC l i j) (RF i (RF (0:Nat) Z))))))))):=⟨fun _ _ _ _=>rfl,rfl,fun _ _ _ _=>rfl,rfl,fun _ _ _ _=>rfl,rfl,fun _ _ _ _=>rfl,rfl,rfl,z⟩
theorem zM36 (p:Pg) (st:List Int) {Z:Prop} (z:Z):(RR (0+st.length) 1 (fun i j=>aI (st.getD i 0)) (RF p.W (RF p.win (RF p.fuel (RF p.r0 (RF p.r1 (RF p.r2 (RF p.r3 (RF p.ms.length Z))))))))):=⟨fun _ _ _ _=>rfl,rfl,rfl,rfl,rfl,rfl,rfl,rfl,rfl,z⟩
theorem real_n (p:Pg) (st:List Int) (l:List En) (i:Int) (hst:st.length≤1000000) (h:Ok Try.prog (ntOf Try.prog 68) (.loop (lpC Try.prog 68 0)) (reS p l i st st.length (rowI st) 0).st .ret (nS).st):Vc (vcFn Try.prog false 68 [.agg (pgA p),lR st,enR l, .int .i64 i] [.fz, .lp [(0,1)] (reS p l i st st.length (rowI st) 0) .ret nS] [] (.tup [.nils, .bool false]) []):=vc_by (cj (ap 0 st.length 8) (cj (za st.length) (zM36 p st (zM35 p l i (cj (za st.length) (cj (rf (0:Int)) (cj (rf false) (cj h (cj (rf false) trivial))))))))) (by kernel_rfl)
theorem real_y (p:Pg) (st:List Int) (l:List En) (i:Int) (L:List Int) (N:Nat) (g:Nat→Nat→AV) (n:Nat) (hst:st.length≤1000000) (hg: ∀ a,a<L.length→g a 0= .int .i64 (L.getD a 0)) (h:Ok Try.prog (ntOf Try.prog 68) (.loop (lpC Try.prog 68 0)) (reS p l i st st.length (rowI st) 0).st (.ext 0) (reS p l i L N g n).st):Vc (vcFn Try.prog false 68 [.agg (pgA p),lR st,enR l, .int .i64 i] [.fz, .lp [(0,1)] (reS p l i st st.length (rowI st) 0) (.ext 0) (reS p l i L N g n)] [] (.tup [lR L, .bool true]) []):=vc_by (cj (ap 0 st.length 8) (cj (za st.length) (zM36 p st (zM35 p l i (cj (za st.length) (cj (rf (0:Int)) (cj (rf false) (cj h (cj (rf L.length) (cj (show ∀ (i:Nat),i<L.length→ ∀ (j:Nat),j<1→g (i+0) j=aI (L.getD i 0) from (fun i hi j hj=>by obtain rfl:j=0:=(by omega);exact hg i hi)) (cj (rf true) trivial))))))))))) (by kernel_rfl)
theorem rrealC (p:Pg) (st:List Int) (l:List En) (i:Int) (L:List Int) (hb:l.length<900000) (hst:st.length≤1000) (hpc: ∀ e∈l, -1≤e.pc∧e.pc≤1000000) (h:reV p st l i=some L):PureC Try.prog 68 [.agg (pgA p),lR st,enR l, .int .i64 i] (.tup [lR L, .bool true]) []:=by
 have hle:=cl0_le i l.length
 obtain ⟨N',g',q1,q2,q3⟩:=re_some p l i L (by omega) hpc _ 0 st st.length (rowI st) (by omega) ⟨Nat.le_refl _,fun a _=>rfl⟩ (by omega) h
 exact PureC.vc (real_y p st l i L N' g' _ (by omega) q1.2 q3.ok)
theorem rrealC_n (p:Pg) (st:List Int) (l:List En) (i:Int) (hb:l.length<900000) (hst:st.length≤1000) (hpc: ∀ e∈l, -1≤e.pc∧e.pc≤1000000) (h:reV p st l i=none):PureC Try.prog 68 [.agg (pgA p),lR st,enR l, .int .i64 i] (.tup [.nils, .bool false]) []:=by
 have hle:=cl0_le i l.length
 exact PureC.vc (real_n p st l i (by omega) (re_none p l i (by omega) hpc _ 0 st st.length (rowI st) (by omega) ⟨Nat.le_refl _,fun a _=>rfl⟩ (by omega) h).ok)
theorem jmp_vc (p:Pg) (n:Int):Vc (vcFn Try.prog false 72 [.agg (pgA p), .int .i64 n] [.fz] [] (.int .i64 (jmpV p n)) []):=vc_by (cj (show (if (↑p.is.length:Int)<n then (↑p.is.length:Int) else n)=jmpV p n from by unfold jmpV;rw [mnI]) trivial) (by kernel_rfl)
theorem rjmpC (p:Pg) (n:Int):PureC Try.prog 72 [.agg (pgA p), .int .i64 n] (.int .i64 (jmpV p n)) []:=PureC.vc (jmp_vc p n)
end
end Go.Proofs.Ytfjapapiappacaa.Px
namespace Go.Proofs.Ytfjapapiappacaa.Px
section
open Go.RowKit Go.Proofs.Ytfjapapiappacaa.Rx
def cfA (c:Cf):List AV:=s8R c.s++[enR c.b,lR c.r, .int .i64 c.e]
def Cf0:Cf:=⟨⟨0,0,0,0,[],[],0⟩,[],[],0⟩
def gsV (p:Pg) (c:Cf):Int:=
 if c.e≠0∨c.s.pc= -1∨p.win≤(c.b.length:Int) then 0
 else if (atI p c.s.pc).kind=5 then 2 else if (atI p c.s.pc).kind=7 then (p.is.length:Int)+1 else if (atI p c.s.pc).kind=9∧c.r.length=0 then (p.is.length:Int)+1 else 1
def S8.go (s:S8) (pc:Int):S8:={s with pc:=pc}
def lastI (l:List Int):Int:=l.getD ((l.length:Int)-1).toNat 0
def ftB (p:Pg) (c:Cf):Bool:=match reV p c.s.st c.b c.b.length with
 |none=>true
 |some L=>decide (4≤L.length)
def ftE (p:Pg) (c:Cf) (g:Int):En:=
 if (atI p c.s.pc).kind=5 then ⟨c.s.pc,0,0, -1,if g=1 then (atI p c.s.pc).tg else c.s.pc+1,false,false,false⟩
 else if (atI p c.s.pc).kind=6 then ⟨c.s.pc,0,0, -1,(atI p c.s.pc).tg,true,false,false⟩
 else if (atI p c.s.pc).kind=7 then ⟨c.s.pc,0,0, -1,g,false,false,false⟩
 else if (atI p c.s.pc).kind=9 then ⟨c.s.pc,0,0, -1,if c.r.length=0 then g else lastI c.r,false,false,false⟩
 else if (atI p c.s.pc).kind=8 then ⟨c.s.pc,0,0, -1,(atI p c.s.pc).tg,true,false,ftB p c⟩
 else if (atI p c.s.pc).kind=11∨(atI p c.s.pc).kind=12 then ⟨c.s.pc,0,0, -1, -1,true,false,false⟩
 else ⟨c.s.pc,0,0, -1,c.s.pc+1,false,false,false⟩
def ftR (p:Pg) (c:Cf):List Int:=if (atI p c.s.pc).kind=9 then c.r.take ((c.r.length:Int)-1).toNat else if (atI p c.s.pc).kind=8 then pushL c.r (c.s.pc+1) else c.r
def ftD (p:Pg) (c:Cf) (g:Int):Cf:=⟨c.s.go (ftE p c g).nxt,c.b++[ftE p c g],ftR p c,c.e⟩
def ocA (o:Option Cf):List AV:=match o with
 |some c=>[.agg (cfA c), .bool true]
 |none=>[.agg (cfA Cf0), .bool false]
theorem snoc8 (l:List En) (e:En) {g:Nat→Nat→AV} (hg: ∀ j,j<8→g 0 j=enC e j): ∀ i,i<l.length+1→ ∀ j,j<8→(bif Nat.blt i l.length then rowL enC l i j else g (i-l.length) j)=rowL enC (l++[e]) i j:=fun i hi j hj=>
 row_if (fun h=>(rowL_left h).symm) (fun h=>by
  obtain rfl:i=l.length:=by omega
  rw [rowL_last,Nat.sub_self,hg j hj])
theorem getD_take (l:List Int) (n i:Nat) (h:i<n):(l.take n).getD i 0=l.getD i 0:=by
 rw [List.getD_eq_getElem?_getD,List.getD_eq_getElem?_getD,List.getElem?_take,if_pos h]
theorem app8 (b:List En) (e:En) (L:List AV) (h: ∀ j,j<8→L.getD j .junk=enC e j): ∀ i,i<0+b.length+1→ ∀ j,j<8→(bif Nat.blt (i+0) (0+b.length) then bif Nat.blt (i+0) 0 then AV.junk else rowL enC b (i+0-0) j else L.getD ((i+0-(0+b.length)+0)*8+j) .junk)=rowL enC (b++[e]) i j:=by
 intro i hi j hj
 simp only [Nat.zero_add,Nat.add_zero,Nat.sub_zero] at hi ⊢
 exact snoc8 b e (g:=fun a j=>L.getD (a*8+j) .junk) (fun j hj=>by simp only [Nat.zero_mul,Nat.zero_add];exact h j hj) i hi j hj
theorem gs_e (p:Pg) (c:Cf) (hl:p.is.length<1000) (hb:c.b.length<1000000) (h0: ¬c.e=0):Vc (vcFn Try.prog false 35 [.agg (pgA p), .agg (cfA c)] [.fv, .fv, .bd true] [] (.int .i64 0) []):=vc_by (cj (bne_iff_ne.2 h0) (cj (rf (0:Int)) trivial)) (by kernel_rfl)
theorem gs_p (p:Pg) (c:Cf) (hl:p.is.length<1000) (hb:c.b.length<1000000) (h0:c.e=0) (h1:c.s.pc= -1):Vc (vcFn Try.prog false 35 [.agg (pgA p), .agg (cfA c)] [.fv, .fv, .bd false, .bd true] [] (.int .i64 0) []):=vc_by (cj (bne_eq_false_iff_eq.2 h0) (cj (beq_iff_eq.2 h1) (cj (rf (0:Int)) trivial))) (by kernel_rfl)
theorem gs_w (p:Pg) (c:Cf) (hl:p.is.length<1000) (hb:c.b.length<1000000) (h0:c.e=0) (h1: ¬c.s.pc= -1) (hw:p.win≤(c.b.length:Int)):Vc (vcFn Try.prog false 35 [.agg (pgA p), .agg (cfA c)] [.fv, .fv, .bd false, .bd false, .bd true] [] (.int .i64 0) []):=vc_by (cj (bne_eq_false_iff_eq.2 h0) (cj (beq_eq_false_iff_ne.2 h1) (cj (dt ((↑c.b.length:Int)≥p.win)) (cj (rf (0:Int)) trivial)))) (by kernel_rfl)
theorem zM40 (p:Pg) (c:Cf) {Z:Prop} (z:Z):(RF p.ls.length (RR p.ls.length 2 (fun i j=>rowL lbC p.ls i j) (RF p.is.length (RR p.is.length 9 (fun i j=>rowL inC p.is i j) (RF c.s.pc Z))))):=⟨rfl,fun _ _ _ _=>rfl,rfl,fun _ _ _ _=>rfl,rfl,z⟩
theorem zM41 (p:Pg) {Z:Prop} (z:Z):(RF p.W (RF p.win (RF p.fuel (RF p.r0 (RF p.r1 (RF p.r2 (RF p.r3 (RF p.ms.length (RR p.ms.length 3 (fun i j=>rowL mmC p.ms i j) Z))))))))):=⟨rfl,rfl,rfl,rfl,rfl,rfl,rfl,rfl,fun _ _ _ _=>rfl,z⟩
abbrev oM40 (p:Pg) (c:Cf):Orc:= .cl [.agg (pgA p), .int .i64 c.s.pc] (.agg (inA (atI p c.s.pc))) []
theorem gs_5 (p:Pg) (c:Cf) (hl:p.is.length<1000) (hb:c.b.length<1000000) (h0:c.e=0) (h1: ¬c.s.pc= -1) (hw: ¬p.win≤(c.b.length:Int)) (k5:(atI p c.s.pc).kind=5):Vc (vcFn Try.prog false 35 [.agg (pgA p), .agg (cfA c)] [.fv, .fv, .bd false, .bd false, .bd false,oM40 p c, .bd true] [] (.int .i64 2) []):=vc_by (cj (bne_eq_false_iff_eq.2 h0) (cj (beq_eq_false_iff_ne.2 h1) (cj (df ((↑c.b.length:Int)≥p.win)) (zM41 p (zM40 p c (cj (ratC p c.s.pc) (cj (beq_iff_eq.2 k5) (cj (rf (2:Int)) trivial)))))))) (by kernel_rfl)
theorem gs_7 (p:Pg) (c:Cf) (hl:p.is.length<1000) (hb:c.b.length<1000000) (h0:c.e=0) (h1: ¬c.s.pc= -1) (hw: ¬p.win≤(c.b.length:Int)) (k5: ¬(atI p c.s.pc).kind=5) (k7:(atI p c.s.pc).kind=7):Vc (vcFn Try.prog false 35 [.agg (pgA p), .agg (cfA c)] [.fv, .fv, .bd false, .bd false, .bd false,oM40 p c, .bd false, .bd true] [] (.int .i64 ((p.is.length:Int)+1)) []):=vc_by (cj (bne_eq_false_iff_eq.2 h0) (cj (beq_eq_false_iff_ne.2 h1) (cj (df ((↑c.b.length:Int)≥p.win)) (zM41 p (zM40 p c (cj (ratC p c.s.pc) (cj (beq_eq_false_iff_ne.2 k5) (cj (beq_iff_eq.2 k7) (cj (i6 ((↑p.is.length:Int)+1)) (cj (rf ((↑p.is.length:Int)+1)) trivial)))))))))) (by kernel_rfl)
theorem gs_9 (p:Pg) (c:Cf) (hl:p.is.length<1000) (hb:c.b.length<1000000) (h0:c.e=0) (h1: ¬c.s.pc= -1) (hw: ¬p.win≤(c.b.length:Int)) (k5: ¬(atI p c.s.pc).kind=5) (k7: ¬(atI p c.s.pc).kind=7) (k9:(atI p c.s.pc).kind=9) (hr:c.r.length=0):Vc (vcFn Try.prog false 35 [.agg (pgA p), .agg (cfA c)] [.fv, .fv, .bd false, .bd false, .bd false,oM40 p c, .bd false, .bd false, .bd true, .bd true] [] (.int .i64 ((p.is.length:Int)+1)) []):=vc_by (cj (bne_eq_false_iff_eq.2 h0) (cj (beq_eq_false_iff_ne.2 h1) (cj (df ((↑c.b.length:Int)≥p.win)) (zM41 p (zM40 p c (cj (ratC p c.s.pc) (cj (beq_eq_false_iff_ne.2 k5) (cj (beq_eq_false_iff_ne.2 k7) (cj (beq_iff_eq.2 k9) (cj (e1 (↑c.r.length:Int) 0) (cj (i6 ((↑p.is.length:Int)+1)) (cj (rf ((↑p.is.length:Int)+1)) trivial)))))))))))) (by kernel_rfl)
theorem gs_9n (p:Pg) (c:Cf) (hl:p.is.length<1000) (hb:c.b.length<1000000) (h0:c.e=0) (h1: ¬c.s.pc= -1) (hw: ¬p.win≤(c.b.length:Int)) (k5: ¬(atI p c.s.pc).kind=5) (k7: ¬(atI p c.s.pc).kind=7) (k9:(atI p c.s.pc).kind=9) (hr: ¬c.r.length=0):Vc (vcFn Try.prog false 35 [.agg (pgA p), .agg (cfA c)] [.fv, .fv, .bd false, .bd false, .bd false,oM40 p c, .bd false, .bd false, .bd true, .bd false] [] (.int .i64 1) []):=vc_by (cj (bne_eq_false_iff_eq.2 h0) (cj (beq_eq_false_iff_ne.2 h1) (cj (df ((↑c.b.length:Int)≥p.win)) (zM41 p (zM40 p c (cj (ratC p c.s.pc) (cj (beq_eq_false_iff_ne.2 k5) (cj (beq_eq_false_iff_ne.2 k7) (cj (beq_iff_eq.2 k9) (cj (e0 (↑c.r.length:Int) 0) (cj (rf (1:Int)) trivial))))))))))) (by kernel_rfl)
theorem gs_o (p:Pg) (c:Cf) (hl:p.is.length<1000) (hb:c.b.length<1000000) (h0:c.e=0) (h1: ¬c.s.pc= -1) (hw: ¬p.win≤(c.b.length:Int)) (k5: ¬(atI p c.s.pc).kind=5) (k7: ¬(atI p c.s.pc).kind=7) (k9: ¬(atI p c.s.pc).kind=9):Vc (vcFn Try.prog false 35 [.agg (pgA p), .agg (cfA c)] [.fv, .fv, .bd false, .bd false, .bd false,oM40 p c, .bd false, .bd false, .bd false] [] (.int .i64 1) []):=vc_by (cj (bne_eq_false_iff_eq.2 h0) (cj (beq_eq_false_iff_ne.2 h1) (cj (df ((↑c.b.length:Int)≥p.win)) (zM41 p (zM40 p c (cj (ratC p c.s.pc) (cj (beq_eq_false_iff_ne.2 k5) (cj (beq_eq_false_iff_ne.2 k7) (cj (beq_eq_false_iff_ne.2 k9) (cj (rf (1:Int)) trivial)))))))))) (by kernel_rfl)
theorem rgsC (p:Pg) (c:Cf) (hl:p.is.length<1000) (hb:c.b.length<1000000):PureC Try.prog 35 [.agg (pgA p), .agg (cfA c)] (.int .i64 (gsV p c)) []:=by
 unfold gsV
 by_cases h0:c.e=0
 ·by_cases h1:c.s.pc= -1
  ·rw [if_pos (.inr (.inl h1))];exact PureC.vc (gs_p p c hl hb h0 h1)
  ·by_cases hw:p.win≤(c.b.length:Int)
   ·rw [if_pos (.inr (.inr hw))];exact PureC.vc (gs_w p c hl hb h0 h1 hw)
   ·rw [if_neg (by rintro (h |h |h);exact h h0;exact h1 h;exact hw h)]
    by_cases k5:(atI p c.s.pc).kind=5
    ·rw [if_pos k5];exact PureC.vc (gs_5 p c hl hb h0 h1 hw k5)
    ·rw [if_neg k5]
     by_cases k7:(atI p c.s.pc).kind=7
     ·rw [if_pos k7];exact PureC.vc (gs_7 p c hl hb h0 h1 hw k5 k7)
     ·rw [if_neg k7]
      by_cases k9:(atI p c.s.pc).kind=9
      ·by_cases hr:c.r.length=0
       ·rw [if_pos ⟨k9,hr⟩];exact PureC.vc (gs_9 p c hl hb h0 h1 hw k5 k7 k9 hr)
       ·rw [if_neg fun e=>hr e.2];exact PureC.vc (gs_9n p c hl hb h0 h1 hw k5 k7 k9 hr)
      ·rw [if_neg fun e=>k9 e.1];exact PureC.vc (gs_o p c hl hb h0 h1 hw k5 k7 k9)
 ·rw [if_pos (.inl h0)];exact PureC.vc (gs_e p c hl hb h0)
theorem zM42 {Z:Prop} (z:Z):(RF (0:Int) (RF (0:Int) (RF (0:Int) (RF (0:Int) (RF (0:Nat) (RF (0:Nat) (RF (0:Int) (RF (0:Nat) (RF (0:Nat) Z))))))))):=⟨rfl,rfl,rfl,rfl,rfl,rfl,rfl,rfl,rfl,z⟩
theorem ft_neg (p:Pg) (c:Cf) (g:Int) (hl:p.is.length<1000) (hb:c.b.length<1000000) (hg:g<0):Vc (vcFn Try.prog false 51 [.agg (pgA p), .agg (cfA c), .int .i64 g] [.fv, .bd true] [] (.tup [.agg (cfA Cf0), .bool false]) []):=vc_by (cj (dt (g<0)) (zM42 (cj (rf (0:Int)) (cj (rf false) trivial)))) (by kernel_rfl)
theorem zM43 (c:Cf) {Z:Prop} (z:Z):(RR c.s.m.length 1 (fun i j=>aI (List.getD c.s.m i (0:Int))) (RF c.s.st.length (RR c.s.st.length 1 (fun i j=>aI (List.getD c.s.st i (0:Int))) (RF c.s.pc (RF c.b.length (RR c.b.length 8 (fun i j=>rowL enC c.b i j) (RF c.r.length (RR c.r.length 1 (fun i j=>aI (c.r.getD i 0)) (RF c.e Z))))))))):=⟨fun _ _ _ _=>rfl,rfl,fun _ _ _ _=>rfl,rfl,rfl,fun _ _ _ _=>rfl,rfl,fun _ _ _ _=>rfl,rfl,z⟩
theorem zM44 (p:Pg) (c:Cf) {Z:Prop} (z:Z):(RF p.ls.length (RR p.ls.length 2 (fun i j=>rowL lbC p.ls i j) (RF p.is.length (RR p.is.length 9 (fun i j=>rowL inC p.is i j) (RF c.s.r0 (RF c.s.r1 (RF c.s.r2 (RF c.s.r3 (RF c.s.m.length Z))))))))):=⟨rfl,fun _ _ _ _=>rfl,rfl,fun _ _ _ _=>rfl,rfl,rfl,rfl,rfl,rfl,z⟩
abbrev oM41 (p:Pg) (c:Cf):Orc:= .cl [.agg (pgA p), .agg (cfA c)] (.int .i64 (gsV p c)) []
theorem ft_out (p:Pg) (c:Cf) (g:Int) (hl:p.is.length<1000) (hb:c.b.length<1000000) (h0:0≤g) (hg:gsV p c≤g):Vc (vcFn Try.prog false 51 [.agg (pgA p), .agg (cfA c), .int .i64 g] [.fv, .bd false,oM41 p c, .bd true] [] (.tup [.agg (cfA Cf0), .bool false]) []):=vc_by (cj (df (g<0)) (zM41 p (zM44 p c (zM43 c (cj (rgsC p c hl hb) (cj (dt (g≥gsV p c)) (zM42 (cj (rf (0:Int)) (cj (rf false) trivial))))))))) (by kernel_rfl)
theorem zM45 (c:Cf) {Z:Prop} (z:Z):(RF c.r.length (RR c.r.length 1 (fun i j=>aI (c.r.getD i 0)) (RF c.e (RF true Z)))):=⟨rfl,fun _ _ _ _=>rfl,rfl,rfl,z⟩
theorem zM46 (p:Pg) (c:Cf) {Z:Prop} (z:Z):(RF c.s.r0 (RF c.s.r1 (RF c.s.r2 (RF c.s.r3 (RF c.s.m.length (RR c.s.m.length 1 (fun i j=>aI (List.getD c.s.m i (0:Int))) (RF c.s.st.length (RR c.s.st.length 1 (fun i j=>aI (List.getD c.s.st i (0:Int))) (RF ((atI p c.s.pc).tg) Z))))))))):=⟨rfl,rfl,rfl,rfl,rfl,fun _ _ _ _=>rfl,rfl,fun _ _ _ _=>rfl,rfl,z⟩
theorem ft_5t (p:Pg) (c:Cf) (g:Int) (hl:p.is.length<1000) (hb:c.b.length<1000000) (h0:0≤g) (hg: ¬gsV p c≤g) (hpc: -1≤c.s.pc∧c.s.pc≤1000) (hr:c.r.length<1000) (k5:(atI p c.s.pc).kind=5) (g1:g=1):Vc (vcFn Try.prog false 51 [.agg (pgA p), .agg (cfA c), .int .i64 g] [.fv, .bd false,oM41 p c, .bd false,oM40 p c, .bd true, .bd true] [] (.tup [.agg (cfA ⟨c.s.go (atI p c.s.pc).tg,c.b++[⟨c.s.pc,0,0, -1,(atI p c.s.pc).tg,false,false,false⟩],c.r,c.e⟩), .bool true]) []):=vc_by (cj (df (g<0)) (zM41 p (zM44 p c (zM43 c (cj (rgsC p c hl hb) (cj (df (g≥gsV p c)) (zM41 p (zM40 p c (cj (ratC p c.s.pc) (cj (i6 (c.s.pc+1)) (cj (beq_iff_eq.2 k5) (cj (e1 g 1) (cj (ap 0 c.b.length 48) (cj (ap (0+c.b.length) 1 48) (zM46 p c (cj (pv ((0:Nat)+c.b.length+1=(c.b++[En.mk c.s.pc (0:Int) (0:Int) (-1:Int) (atI p c.s.pc).tg false false false]).length)) (cj (show ∀ (i:Nat),i<0+c.b.length+1→ ∀ (j:Nat),j<8→(bif Nat.blt (i+0) ((0:Nat)+c.b.length) then bif Nat.blt (i+0) (0:Nat) then AV.junk else rowL enC c.b (i+0-0) j else List.getD [aI c.s.pc,aI (0:Int),aI (0:Int),aI (-1:Int),aI (atI p c.s.pc).tg,AV.bool false,AV.bool false,AV.bool false] ((i+0-((0:Nat)+c.b.length)+0)*8+j) AV.junk)=rowL enC (c.b++[En.mk c.s.pc (0:Int) (0:Int) (-1:Int) (atI p c.s.pc).tg false false false]) i j from (app8 c.b _ _ (fun j hj=>match j,hj with |0,_=>rfl |1,_=>rfl |2,_=>rfl |3,_=>rfl |4,_=>rfl |5,_=>rfl |6,_=>rfl |7,_=>rfl))) (zM45 c trivial)))))))))))))))))) (by kernel_rfl)
theorem sM40 (c:Cf): ∀ (i:Nat),i<0+c.b.length+1→ ∀ (j:Nat),j<8→(bif Nat.blt (i+0) ((0:Nat)+c.b.length) then bif Nat.blt (i+0) (0:Nat) then AV.junk else rowL enC c.b (i+0-0) j else List.getD [aI c.s.pc,aI (0:Int),aI (0:Int),aI (-1:Int),aI (c.s.pc+1),AV.bool false,AV.bool false,AV.bool false] ((i+0-((0:Nat)+c.b.length)+0)*8+j) AV.junk)=rowL enC (c.b++[En.mk c.s.pc (0:Int) (0:Int) (-1:Int) (c.s.pc+1) false false false]) i j:=(app8 c.b _ _ (fun j hj=>match j,hj with |0,_=>rfl |1,_=>rfl |2,_=>rfl |3,_=>rfl |4,_=>rfl |5,_=>rfl |6,_=>rfl |7,_=>rfl))
theorem zM47 (c:Cf) {Z:Prop} (z:Z):(RF c.s.r0 (RF c.s.r1 (RF c.s.r2 (RF c.s.r3 (RF c.s.m.length (RR c.s.m.length 1 (fun i j=>aI (List.getD c.s.m i (0:Int))) (RF c.s.st.length (RR c.s.st.length 1 (fun i j=>aI (List.getD c.s.st i (0:Int))) (RF (c.s.pc+1) Z))))))))):=⟨rfl,rfl,rfl,rfl,rfl,fun _ _ _ _=>rfl,rfl,fun _ _ _ _=>rfl,rfl,z⟩
theorem ft_5f (p:Pg) (c:Cf) (g:Int) (hl:p.is.length<1000) (hb:c.b.length<1000000) (h0:0≤g) (hg: ¬gsV p c≤g) (hpc: -1≤c.s.pc∧c.s.pc≤1000) (hr:c.r.length<1000) (k5:(atI p c.s.pc).kind=5) (g1: ¬g=1):Vc (vcFn Try.prog false 51 [.agg (pgA p), .agg (cfA c), .int .i64 g] [.fv, .bd false,oM41 p c, .bd false,oM40 p c, .bd true, .bd false] [] (.tup [.agg (cfA ⟨c.s.go (c.s.pc+1),c.b++[⟨c.s.pc,0,0, -1,(c.s.pc+1),false,false,false⟩],c.r,c.e⟩), .bool true]) []):=vc_by (cj (df (g<0)) (zM41 p (zM44 p c (zM43 c (cj (rgsC p c hl hb) (cj (df (g≥gsV p c)) (zM41 p (zM40 p c (cj (ratC p c.s.pc) (cj (i6 (c.s.pc+1)) (cj (beq_iff_eq.2 k5) (cj (e0 g 1) (cj (ap 0 c.b.length 48) (cj (ap (0+c.b.length) 1 48) (zM47 c (cj (pv ((0:Nat)+c.b.length+1=(c.b++[En.mk c.s.pc (0:Int) (0:Int) (-1:Int) (c.s.pc+1) false false false]).length)) (cj (sM40 c) (zM45 c trivial)))))))))))))))))) (by kernel_rfl)
theorem ft_6 (p:Pg) (c:Cf) (g:Int) (hl:p.is.length<1000) (hb:c.b.length<1000000) (h0:0≤g) (hg: ¬gsV p c≤g) (hpc: -1≤c.s.pc∧c.s.pc≤1000) (hr:c.r.length<1000) (k5: ¬(atI p c.s.pc).kind=5) (k6:(atI p c.s.pc).kind=6):Vc (vcFn Try.prog false 51 [.agg (pgA p), .agg (cfA c), .int .i64 g] [.fv, .bd false,oM41 p c, .bd false,oM40 p c, .bd false, .bd true] [] (.tup [.agg (cfA ⟨c.s.go (atI p c.s.pc).tg,c.b++[⟨c.s.pc,0,0, -1,(atI p c.s.pc).tg,true,false,false⟩],c.r,c.e⟩), .bool true]) []):=vc_by (cj (df (g<0)) (zM41 p (zM44 p c (zM43 c (cj (rgsC p c hl hb) (cj (df (g≥gsV p c)) (zM41 p (zM40 p c (cj (ratC p c.s.pc) (cj (i6 (c.s.pc+1)) (cj (beq_eq_false_iff_ne.2 k5) (cj (beq_iff_eq.2 k6) (cj (ap 0 c.b.length 48) (cj (ap (0+c.b.length) 1 48) (zM46 p c (cj (pv ((0:Nat)+c.b.length+1=(c.b++[En.mk c.s.pc (0:Int) (0:Int) (-1:Int) (atI p c.s.pc).tg true false false]).length)) (cj (show ∀ (i:Nat),i<0+c.b.length+1→ ∀ (j:Nat),j<8→(bif Nat.blt (i+0) ((0:Nat)+c.b.length) then bif Nat.blt (i+0) (0:Nat) then AV.junk else rowL enC c.b (i+0-0) j else List.getD [aI c.s.pc,aI (0:Int),aI (0:Int),aI (-1:Int),aI (atI p c.s.pc).tg,AV.bool true,AV.bool false,AV.bool false] ((i+0-((0:Nat)+c.b.length)+0)*8+j) AV.junk)=rowL enC (c.b++[En.mk c.s.pc (0:Int) (0:Int) (-1:Int) (atI p c.s.pc).tg true false false]) i j from (app8 c.b _ _ (fun j hj=>match j,hj with |0,_=>rfl |1,_=>rfl |2,_=>rfl |3,_=>rfl |4,_=>rfl |5,_=>rfl |6,_=>rfl |7,_=>rfl))) (zM45 c trivial)))))))))))))))))) (by kernel_rfl)
theorem sM41 (c:Cf) (g:Int): ∀ (i:Nat),i<0+c.b.length+1→ ∀ (j:Nat),j<8→(bif Nat.blt (i+0) ((0:Nat)+c.b.length) then bif Nat.blt (i+0) (0:Nat) then AV.junk else rowL enC c.b (i+0-0) j else List.getD [aI c.s.pc,aI (0:Int),aI (0:Int),aI (-1:Int),aI g,AV.bool false,AV.bool false,AV.bool false] ((i+0-((0:Nat)+c.b.length)+0)*8+j) AV.junk)=rowL enC (c.b++[En.mk c.s.pc (0:Int) (0:Int) (-1:Int) g false false false]) i j:=(app8 c.b _ _ (fun j hj=>match j,hj with |0,_=>rfl |1,_=>rfl |2,_=>rfl |3,_=>rfl |4,_=>rfl |5,_=>rfl |6,_=>rfl |7,_=>rfl))
theorem zM48 (c:Cf) (g:Int) {Z:Prop} (z:Z):(RF c.s.r0 (RF c.s.r1 (RF c.s.r2 (RF c.s.r3 (RF c.s.m.length (RR c.s.m.length 1 (fun i j=>aI (List.getD c.s.m i (0:Int))) (RF c.s.st.length (RR c.s.st.length 1 (fun i j=>aI (List.getD c.s.st i (0:Int))) (RF g Z))))))))):=⟨rfl,rfl,rfl,rfl,rfl,fun _ _ _ _=>rfl,rfl,fun _ _ _ _=>rfl,rfl,z⟩
theorem ft_7 (p:Pg) (c:Cf) (g:Int) (hl:p.is.length<1000) (hb:c.b.length<1000000) (h0:0≤g) (hg: ¬gsV p c≤g) (hpc: -1≤c.s.pc∧c.s.pc≤1000) (hr:c.r.length<1000) (k5: ¬(atI p c.s.pc).kind=5) (k6: ¬(atI p c.s.pc).kind=6) (k7:(atI p c.s.pc).kind=7):Vc (vcFn Try.prog false 51 [.agg (pgA p), .agg (cfA c), .int .i64 g] [.fv, .bd false,oM41 p c, .bd false,oM40 p c, .bd false, .bd false, .bd true] [] (.tup [.agg (cfA ⟨c.s.go g,c.b++[⟨c.s.pc,0,0, -1,g,false,false,false⟩],c.r,c.e⟩), .bool true]) []):=vc_by (cj (df (g<0)) (zM41 p (zM44 p c (zM43 c (cj (rgsC p c hl hb) (cj (df (g≥gsV p c)) (zM41 p (zM40 p c (cj (ratC p c.s.pc) (cj (i6 (c.s.pc+1)) (cj (beq_eq_false_iff_ne.2 k5) (cj (beq_eq_false_iff_ne.2 k6) (cj (beq_iff_eq.2 k7) (cj (ap 0 c.b.length 48) (cj (ap (0+c.b.length) 1 48) (zM48 c g (cj (pv ((0:Nat)+c.b.length+1=(c.b++[En.mk c.s.pc (0:Int) (0:Int) (-1:Int) g false false false]).length)) (cj (sM41 c g) (zM45 c trivial))))))))))))))))))) (by kernel_rfl)
theorem ft_9e (p:Pg) (c:Cf) (g:Int) (hl:p.is.length<1000) (hb:c.b.length<1000000) (h0:0≤g) (hg: ¬gsV p c≤g) (hpc: -1≤c.s.pc∧c.s.pc≤1000) (hr:c.r.length<1000) (k5: ¬(atI p c.s.pc).kind=5) (k6: ¬(atI p c.s.pc).kind=6) (k7: ¬(atI p c.s.pc).kind=7) (k9:(atI p c.s.pc).kind=9) (hz:c.r.length=0):Vc (vcFn Try.prog false 51 [.agg (pgA p), .agg (cfA c), .int .i64 g] [.fv, .bd false,oM41 p c, .bd false,oM40 p c, .bd false, .bd false, .bd false, .bd true, .bd false] [] (.tup [.agg (cfA ⟨c.s.go g,c.b++[⟨c.s.pc,0,0, -1,g,false,false,false⟩],c.r,c.e⟩), .bool true]) []):=vc_by (cj (df (g<0)) (zM41 p (zM44 p c (zM43 c (cj (rgsC p c hl hb) (cj (df (g≥gsV p c)) (zM41 p (zM40 p c (cj (ratC p c.s.pc) (cj (i6 (c.s.pc+1)) (cj (beq_eq_false_iff_ne.2 k5) (cj (beq_eq_false_iff_ne.2 k6) (cj (beq_eq_false_iff_ne.2 k7) (cj (beq_iff_eq.2 k9) (cj (df ((↑c.r.length:Int)>0)) (cj (ap 0 c.b.length 48) (cj (ap (0+c.b.length) 1 48) (zM48 c g (cj (pv ((0:Nat)+c.b.length+1=(c.b++[En.mk c.s.pc (0:Int) (0:Int) (-1:Int) g false false false]).length)) (cj (sM41 c g) (zM45 c trivial))))))))))))))))))))) (by kernel_rfl)
theorem ft_9 (p:Pg) (c:Cf) (g:Int) (hl:p.is.length<1000) (hb:c.b.length<1000000) (h0:0≤g) (hg: ¬gsV p c≤g) (hpc: -1≤c.s.pc∧c.s.pc≤1000) (hr:c.r.length<1000) (k5: ¬(atI p c.s.pc).kind=5) (k6: ¬(atI p c.s.pc).kind=6) (k7: ¬(atI p c.s.pc).kind=7) (k9:(atI p c.s.pc).kind=9) (hz: ¬c.r.length=0):Vc (vcFn Try.prog false 51 [.agg (pgA p), .agg (cfA c), .int .i64 g] [.fv, .bd false,oM41 p c, .bd false,oM40 p c, .bd false, .bd false, .bd false, .bd true, .bd true] [] (.tup [.agg (cfA ⟨c.s.go (lastI c.r),c.b++[⟨c.s.pc,0,0, -1,(lastI c.r),false,false,false⟩],(c.r.take ((c.r.length:Int)-1).toNat),c.e⟩), .bool true]) []):=vc_by (cj (df (g<0)) (zM41 p (zM44 p c (zM43 c (cj (rgsC p c hl hb) (cj (df (g≥gsV p c)) (zM41 p (zM40 p c (cj (ratC p c.s.pc) (cj (i6 (c.s.pc+1)) (cj (beq_eq_false_iff_ne.2 k5) (cj (beq_eq_false_iff_ne.2 k6) (cj (beq_eq_false_iff_ne.2 k7) (cj (beq_iff_eq.2 k9) (cj (dt ((↑c.r.length:Int)>0)) (cj (i6 ((↑c.r.length:Int)-1)) (cj (bi ((↑c.r.length:Int)-1) (↑c.r.length:Int)) (cj (i6 ((↑c.r.length:Int)-1)) (cj (pv ((0:Int)≤(↑c.r.length:Int)-1∧(↑c.r.length:Int)-1≤(↑c.r.length:Int))) (cj (ap 0 (Int.toNat ((↑c.r.length:Int)-1)) 8) (cj (ap 0 c.b.length 48) (cj (ap (0+c.b.length) 1 48) (cj (rf c.s.r0) (cj (rf c.s.r1) (cj (rf c.s.r2) (cj (rf c.s.r3) (cj (rf c.s.m.length) (cj (rr c.s.m.length 1 fun i j=>aI (List.getD c.s.m i (0:Int))) (cj (rf c.s.st.length) (cj (rr c.s.st.length 1 fun i j=>aI (List.getD c.s.st i (0:Int))) (cj (rf (lastI c.r)) (cj (pv ((0:Nat)+c.b.length+1=(c.b++[En.mk c.s.pc (0:Int) (0:Int) (-1:Int) (lastI c.r) false false false]).length)) (cj (show ∀ (i:Nat),i<0+c.b.length+1→ ∀ (j:Nat),j<8→(bif Nat.blt (i+0) ((0:Nat)+c.b.length) then bif Nat.blt (i+0) (0:Nat) then AV.junk else rowL enC c.b (i+0-0) j else List.getD [aI c.s.pc,aI (0:Int),aI (0:Int),aI (-1:Int),aI (c.r.getD (Int.toNat ((↑c.r.length:Int)-1)) (0:Int)),AV.bool false,AV.bool false,AV.bool false] ((i+0-((0:Nat)+c.b.length)+0)*8+j) AV.junk)=rowL enC (c.b++[En.mk c.s.pc (0:Int) (0:Int) (-1:Int) (lastI c.r) false false false]) i j from (app8 c.b _ _ (fun j hj=>match j,hj with |0,_=>rfl |1,_=>rfl |2,_=>rfl |3,_=>rfl |4,_=>rfl |5,_=>rfl |6,_=>rfl |7,_=>rfl))) (cj (pv ((0:Nat)+Int.toNat ((↑c.r.length:Int)-1)=(List.take (Int.toNat ((↑c.r.length:Int)-1)) c.r).length)) (cj (show ∀ (i:Nat),i<0+Int.toNat ((↑c.r.length:Int)-1)→ ∀ (j:Nat),j<1→aI (c.r.getD (i+0-0) (0:Int))=aI (List.getD (List.take (Int.toNat ((↑c.r.length:Int)-1)) c.r) i (0:Int)) from (fun i hi j hj=>by rw [getD_take _ _ _ (by omega)];rfl)) (cj (rf c.e) (cj (rf true) trivial))))))))))))))))))))))))))))))))))))) (by kernel_rfl)
theorem zM49 (c:Cf) {Z:Prop} (z:Z):(RF ((pushL c.r (c.s.pc+1)).length) (RR ((pushL c.r (c.s.pc+1)).length) 1 (fun i j=>aI (List.getD (pushL c.r (c.s.pc+1)) i (0:Int))) (RF c.e (RF true Z)))):=⟨rfl,fun _ _ _ _=>rfl,rfl,rfl,z⟩
theorem zM410 (c:Cf) {Z:Prop} (z:Z):(RF c.r.length (RR c.r.length 1 (fun i j=>aI (c.r.getD i 0)) (RF (c.s.pc+1) Z))):=⟨rfl,fun _ _ _ _=>rfl,rfl,z⟩
theorem zM411 (p:Pg) (c:Cf) {Z:Prop} (z:Z):(RF p.ls.length (RR p.ls.length 2 (fun i j=>rowL lbC p.ls i j) (RF p.is.length (RR p.is.length 9 (fun i j=>rowL inC p.is i j) (RF c.s.st.length (RR c.s.st.length 1 (fun i j=>aI (List.getD c.s.st i (0:Int))) (RF c.b.length (RR c.b.length 8 (fun i j=>rowL enC c.b i j) (RF (↑c.b.length:Int) Z))))))))):=⟨rfl,fun _ _ _ _=>rfl,rfl,fun _ _ _ _=>rfl,rfl,fun _ _ _ _=>rfl,rfl,fun _ _ _ _=>rfl,rfl,z⟩
abbrev oM42 (c:Cf):Orc:= .cl [lR c.r, .int .i64 (c.s.pc+1)] (lR (pushL c.r (c.s.pc+1))) []
theorem ft_8n (p:Pg) (c:Cf) (g:Int) (hl:p.is.length<1000) (hb:c.b.length<1000000) (h0:0≤g) (hg: ¬gsV p c≤g) (hpc: -1≤c.s.pc∧c.s.pc≤1000) (hr:c.r.length<1000) (k5: ¬(atI p c.s.pc).kind=5) (k6: ¬(atI p c.s.pc).kind=6) (k7: ¬(atI p c.s.pc).kind=7) (k9: ¬(atI p c.s.pc).kind=9) (k8:(atI p c.s.pc).kind=8) (hst:c.s.st.length≤1000) (hbp: ∀ e∈c.b, -1≤e.pc∧e.pc≤1000000) (hb9:c.b.length<900000) (hv:reV p c.s.st c.b c.b.length=none):Vc (vcFn Try.prog false 51 [.agg (pgA p), .agg (cfA c), .int .i64 g] [.fv, .bd false,oM41 p c, .bd false,oM40 p c, .bd false, .bd false, .bd false, .bd false, .bd true, .cl [.agg (pgA p),lR c.s.st,enR c.b, .int .i64 (c.b.length:Int)] (.tup [.nils, .bool false]) [],oM42 c] [] (.tup [.agg (cfA ⟨c.s.go (atI p c.s.pc).tg,c.b++[⟨c.s.pc,0,0, -1,(atI p c.s.pc).tg,true,false,true⟩],(pushL c.r (c.s.pc+1)),c.e⟩), .bool true]) []):=vc_by (cj (df (g<0)) (zM41 p (zM44 p c (zM43 c (cj (rgsC p c hl hb) (cj (df (g≥gsV p c)) (zM41 p (zM40 p c (cj (ratC p c.s.pc) (cj (i6 (c.s.pc+1)) (cj (beq_eq_false_iff_ne.2 k5) (cj (beq_eq_false_iff_ne.2 k6) (cj (beq_eq_false_iff_ne.2 k7) (cj (beq_eq_false_iff_ne.2 k9) (cj (beq_iff_eq.2 k8) (zM41 p (zM411 p c (cj (rrealC_n p c.s.st c.b c.b.length hb9 hst hbp hv) (cj (i6 (c.s.pc+1)) (zM410 c (cj (rpushC c.r (c.s.pc+1) (by omega)) (cj (ap 0 c.b.length 48) (cj (ap (0+c.b.length) 1 48) (zM46 p c (cj (pv ((0:Nat)+c.b.length+1=(c.b++[En.mk c.s.pc (0:Int) (0:Int) (-1:Int) (atI p c.s.pc).tg true false true]).length)) (cj (show ∀ (i:Nat),i<0+c.b.length+1→ ∀ (j:Nat),j<8→(bif Nat.blt (i+0) ((0:Nat)+c.b.length) then bif Nat.blt (i+0) (0:Nat) then AV.junk else rowL enC c.b (i+0-0) j else List.getD [aI c.s.pc,aI (0:Int),aI (0:Int),aI (-1:Int),aI (atI p c.s.pc).tg,AV.bool true,AV.bool false,AV.bool true] ((i+0-((0:Nat)+c.b.length)+0)*8+j) AV.junk)=rowL enC (c.b++[En.mk c.s.pc (0:Int) (0:Int) (-1:Int) (atI p c.s.pc).tg true false true]) i j from (app8 c.b _ _ (fun j hj=>match j,hj with |0,_=>rfl |1,_=>rfl |2,_=>rfl |3,_=>rfl |4,_=>rfl |5,_=>rfl |6,_=>rfl |7,_=>rfl))) (zM49 c trivial))))))))))))))))))))))))))) (by kernel_rfl)
theorem ft_84 (p:Pg) (c:Cf) (g:Int) (hl:p.is.length<1000) (hb:c.b.length<1000000) (h0:0≤g) (hg: ¬gsV p c≤g) (hpc: -1≤c.s.pc∧c.s.pc≤1000) (hr:c.r.length<1000) (L:List Int) (k5: ¬(atI p c.s.pc).kind=5) (k6: ¬(atI p c.s.pc).kind=6) (k7: ¬(atI p c.s.pc).kind=7) (k9: ¬(atI p c.s.pc).kind=9) (k8:(atI p c.s.pc).kind=8) (hst:c.s.st.length≤1000) (hbp: ∀ e∈c.b, -1≤e.pc∧e.pc≤1000000) (hb9:c.b.length<900000) (hv:reV p c.s.st c.b c.b.length=some L) (h4:4≤L.length):Vc (vcFn Try.prog false 51 [.agg (pgA p), .agg (cfA c), .int .i64 g] [.fv, .bd false,oM41 p c, .bd false,oM40 p c, .bd false, .bd false, .bd false, .bd false, .bd true, .cl [.agg (pgA p),lR c.s.st,enR c.b, .int .i64 (c.b.length:Int)] (.tup [lR L, .bool true]) [], .bd true,oM42 c] [] (.tup [.agg (cfA ⟨c.s.go (atI p c.s.pc).tg,c.b++[⟨c.s.pc,0,0, -1,(atI p c.s.pc).tg,true,false,true⟩],(pushL c.r (c.s.pc+1)),c.e⟩), .bool true]) []):=vc_by (cj (df (g<0)) (zM41 p (zM44 p c (zM43 c (cj (rgsC p c hl hb) (cj (df (g≥gsV p c)) (zM41 p (zM40 p c (cj (ratC p c.s.pc) (cj (i6 (c.s.pc+1)) (cj (beq_eq_false_iff_ne.2 k5) (cj (beq_eq_false_iff_ne.2 k6) (cj (beq_eq_false_iff_ne.2 k7) (cj (beq_eq_false_iff_ne.2 k9) (cj (beq_iff_eq.2 k8) (zM41 p (zM411 p c (cj (rrealC p c.s.st c.b c.b.length L hb9 hst hbp hv) (cj (dt ((L.length:Int)≥4)) (cj (i6 (c.s.pc+1)) (zM410 c (cj (rpushC c.r (c.s.pc+1) (by omega)) (cj (ap 0 c.b.length 48) (cj (ap (0+c.b.length) 1 48) (zM46 p c (cj (pv ((0:Nat)+c.b.length+1=(c.b++[En.mk c.s.pc (0:Int) (0:Int) (-1:Int) (atI p c.s.pc).tg true false true]).length)) (cj (show ∀ (i:Nat),i<0+c.b.length+1→ ∀ (j:Nat),j<8→(bif Nat.blt (i+0) ((0:Nat)+c.b.length) then bif Nat.blt (i+0) (0:Nat) then AV.junk else rowL enC c.b (i+0-0) j else List.getD [aI c.s.pc,aI (0:Int),aI (0:Int),aI (-1:Int),aI (atI p c.s.pc).tg,AV.bool true,AV.bool false,AV.bool (bif !true then true else true)] ((i+0-((0:Nat)+c.b.length)+0)*8+j) AV.junk)=rowL enC (c.b++[En.mk c.s.pc (0:Int) (0:Int) (-1:Int) (atI p c.s.pc).tg true false true]) i j from (app8 c.b _ _ (fun j hj=>match j,hj with |0,_=>rfl |1,_=>rfl |2,_=>rfl |3,_=>rfl |4,_=>rfl |5,_=>rfl |6,_=>rfl |7,_=>rfl))) (zM49 c trivial)))))))))))))))))))))))))))) (by kernel_rfl)
theorem ft_8s (p:Pg) (c:Cf) (g:Int) (hl:p.is.length<1000) (hb:c.b.length<1000000) (h0:0≤g) (hg: ¬gsV p c≤g) (hpc: -1≤c.s.pc∧c.s.pc≤1000) (hr:c.r.length<1000) (L:List Int) (k5: ¬(atI p c.s.pc).kind=5) (k6: ¬(atI p c.s.pc).kind=6) (k7: ¬(atI p c.s.pc).kind=7) (k9: ¬(atI p c.s.pc).kind=9) (k8:(atI p c.s.pc).kind=8) (hst:c.s.st.length≤1000) (hbp: ∀ e∈c.b, -1≤e.pc∧e.pc≤1000000) (hb9:c.b.length<900000) (hv:reV p c.s.st c.b c.b.length=some L) (h4: ¬4≤L.length):Vc (vcFn Try.prog false 51 [.agg (pgA p), .agg (cfA c), .int .i64 g] [.fv, .bd false,oM41 p c, .bd false,oM40 p c, .bd false, .bd false, .bd false, .bd false, .bd true, .cl [.agg (pgA p),lR c.s.st,enR c.b, .int .i64 (c.b.length:Int)] (.tup [lR L, .bool true]) [], .bd false,oM42 c] [] (.tup [.agg (cfA ⟨c.s.go (atI p c.s.pc).tg,c.b++[⟨c.s.pc,0,0, -1,(atI p c.s.pc).tg,true,false,false⟩],(pushL c.r (c.s.pc+1)),c.e⟩), .bool true]) []):=vc_by (cj (df (g<0)) (zM41 p (zM44 p c (zM43 c (cj (rgsC p c hl hb) (cj (df (g≥gsV p c)) (zM41 p (zM40 p c (cj (ratC p c.s.pc) (cj (i6 (c.s.pc+1)) (cj (beq_eq_false_iff_ne.2 k5) (cj (beq_eq_false_iff_ne.2 k6) (cj (beq_eq_false_iff_ne.2 k7) (cj (beq_eq_false_iff_ne.2 k9) (cj (beq_iff_eq.2 k8) (zM41 p (zM411 p c (cj (rrealC p c.s.st c.b c.b.length L hb9 hst hbp hv) (cj (df ((L.length:Int)≥4)) (cj (i6 (c.s.pc+1)) (zM410 c (cj (rpushC c.r (c.s.pc+1) (by omega)) (cj (ap 0 c.b.length 48) (cj (ap (0+c.b.length) 1 48) (zM46 p c (cj (pv ((0:Nat)+c.b.length+1=(c.b++[En.mk c.s.pc (0:Int) (0:Int) (-1:Int) (atI p c.s.pc).tg true false false]).length)) (cj (show ∀ (i:Nat),i<0+c.b.length+1→ ∀ (j:Nat),j<8→(bif Nat.blt (i+0) ((0:Nat)+c.b.length) then bif Nat.blt (i+0) (0:Nat) then AV.junk else rowL enC c.b (i+0-0) j else List.getD [aI c.s.pc,aI (0:Int),aI (0:Int),aI (-1:Int),aI (atI p c.s.pc).tg,AV.bool true,AV.bool false,AV.bool (bif !true then true else false)] ((i+0-((0:Nat)+c.b.length)+0)*8+j) AV.junk)=rowL enC (c.b++[En.mk c.s.pc (0:Int) (0:Int) (-1:Int) (atI p c.s.pc).tg true false false]) i j from (app8 c.b _ _ (fun j hj=>match j,hj with |0,_=>rfl |1,_=>rfl |2,_=>rfl |3,_=>rfl |4,_=>rfl |5,_=>rfl |6,_=>rfl |7,_=>rfl))) (zM49 c trivial)))))))))))))))))))))))))))) (by kernel_rfl)
theorem sM42 (c:Cf): ∀ (i:Nat),i<0+c.b.length+1→ ∀ (j:Nat),j<8→(bif Nat.blt (i+0) ((0:Nat)+c.b.length) then bif Nat.blt (i+0) (0:Nat) then AV.junk else rowL enC c.b (i+0-0) j else List.getD [aI c.s.pc,aI (0:Int),aI (0:Int),aI (-1:Int),aI (-1:Int),AV.bool true,AV.bool false,AV.bool false] ((i+0-((0:Nat)+c.b.length)+0)*8+j) AV.junk)=rowL enC (c.b++[En.mk c.s.pc (0:Int) (0:Int) (-1:Int) (-1:Int) true false false]) i j:=(app8 c.b _ _ (fun j hj=>match j,hj with |0,_=>rfl |1,_=>rfl |2,_=>rfl |3,_=>rfl |4,_=>rfl |5,_=>rfl |6,_=>rfl |7,_=>rfl))
theorem zM412 (c:Cf) {Z:Prop} (z:Z):(RF c.s.r0 (RF c.s.r1 (RF c.s.r2 (RF c.s.r3 (RF c.s.m.length (RR c.s.m.length 1 (fun i j=>aI (List.getD c.s.m i (0:Int))) (RF c.s.st.length (RR c.s.st.length 1 (fun i j=>aI (List.getD c.s.st i (0:Int))) (RF (-1:Int) Z))))))))):=⟨rfl,rfl,rfl,rfl,rfl,fun _ _ _ _=>rfl,rfl,fun _ _ _ _=>rfl,rfl,z⟩
theorem ft_11 (p:Pg) (c:Cf) (g:Int) (hl:p.is.length<1000) (hb:c.b.length<1000000) (h0:0≤g) (hg: ¬gsV p c≤g) (hpc: -1≤c.s.pc∧c.s.pc≤1000) (hr:c.r.length<1000) (k5: ¬(atI p c.s.pc).kind=5) (k6: ¬(atI p c.s.pc).kind=6) (k7: ¬(atI p c.s.pc).kind=7) (k9: ¬(atI p c.s.pc).kind=9) (k8: ¬(atI p c.s.pc).kind=8) (k11:(atI p c.s.pc).kind=11):Vc (vcFn Try.prog false 51 [.agg (pgA p), .agg (cfA c), .int .i64 g] [.fv, .bd false,oM41 p c, .bd false,oM40 p c, .bd false, .bd false, .bd false, .bd false, .bd false, .bd true] [] (.tup [.agg (cfA ⟨c.s.go (-1),c.b++[⟨c.s.pc,0,0, -1,(-1),true,false,false⟩],c.r,c.e⟩), .bool true]) []):=vc_by (cj (df (g<0)) (zM41 p (zM44 p c (zM43 c (cj (rgsC p c hl hb) (cj (df (g≥gsV p c)) (zM41 p (zM40 p c (cj (ratC p c.s.pc) (cj (i6 (c.s.pc+1)) (cj (beq_eq_false_iff_ne.2 k5) (cj (beq_eq_false_iff_ne.2 k6) (cj (beq_eq_false_iff_ne.2 k7) (cj (beq_eq_false_iff_ne.2 k9) (cj (beq_eq_false_iff_ne.2 k8) (cj (beq_iff_eq.2 k11) (cj (ap 0 c.b.length 48) (cj (ap (0+c.b.length) 1 48) (zM412 c (cj (pv ((0:Nat)+c.b.length+1=(c.b++[En.mk c.s.pc (0:Int) (0:Int) (-1:Int) (-1:Int) true false false]).length)) (cj (sM42 c) (zM45 c trivial)))))))))))))))))))))) (by kernel_rfl)
theorem ft_12 (p:Pg) (c:Cf) (g:Int) (hl:p.is.length<1000) (hb:c.b.length<1000000) (h0:0≤g) (hg: ¬gsV p c≤g) (hpc: -1≤c.s.pc∧c.s.pc≤1000) (hr:c.r.length<1000) (k5: ¬(atI p c.s.pc).kind=5) (k6: ¬(atI p c.s.pc).kind=6) (k7: ¬(atI p c.s.pc).kind=7) (k9: ¬(atI p c.s.pc).kind=9) (k8: ¬(atI p c.s.pc).kind=8) (k11: ¬(atI p c.s.pc).kind=11) (k12:(atI p c.s.pc).kind=12):Vc (vcFn Try.prog false 51 [.agg (pgA p), .agg (cfA c), .int .i64 g] [.fv, .bd false,oM41 p c, .bd false,oM40 p c, .bd false, .bd false, .bd false, .bd false, .bd false, .bd false, .bd true] [] (.tup [.agg (cfA ⟨c.s.go (-1),c.b++[⟨c.s.pc,0,0, -1,(-1),true,false,false⟩],c.r,c.e⟩), .bool true]) []):=vc_by (cj (df (g<0)) (zM41 p (zM44 p c (zM43 c (cj (rgsC p c hl hb) (cj (df (g≥gsV p c)) (zM41 p (zM40 p c (cj (ratC p c.s.pc) (cj (i6 (c.s.pc+1)) (cj (beq_eq_false_iff_ne.2 k5) (cj (beq_eq_false_iff_ne.2 k6) (cj (beq_eq_false_iff_ne.2 k7) (cj (beq_eq_false_iff_ne.2 k9) (cj (beq_eq_false_iff_ne.2 k8) (cj (beq_eq_false_iff_ne.2 k11) (cj (beq_iff_eq.2 k12) (cj (ap 0 c.b.length 48) (cj (ap (0+c.b.length) 1 48) (zM412 c (cj (pv ((0:Nat)+c.b.length+1=(c.b++[En.mk c.s.pc (0:Int) (0:Int) (-1:Int) (-1:Int) true false false]).length)) (cj (sM42 c) (zM45 c trivial))))))))))))))))))))))) (by kernel_rfl)
theorem ft_o (p:Pg) (c:Cf) (g:Int) (hl:p.is.length<1000) (hb:c.b.length<1000000) (h0:0≤g) (hg: ¬gsV p c≤g) (hpc: -1≤c.s.pc∧c.s.pc≤1000) (hr:c.r.length<1000) (k5: ¬(atI p c.s.pc).kind=5) (k6: ¬(atI p c.s.pc).kind=6) (k7: ¬(atI p c.s.pc).kind=7) (k9: ¬(atI p c.s.pc).kind=9) (k8: ¬(atI p c.s.pc).kind=8) (k11: ¬(atI p c.s.pc).kind=11) (k12: ¬(atI p c.s.pc).kind=12):Vc (vcFn Try.prog false 51 [.agg (pgA p), .agg (cfA c), .int .i64 g] [.fv, .bd false,oM41 p c, .bd false,oM40 p c, .bd false, .bd false, .bd false, .bd false, .bd false, .bd false, .bd false] [] (.tup [.agg (cfA ⟨c.s.go (c.s.pc+1),c.b++[⟨c.s.pc,0,0, -1,(c.s.pc+1),false,false,false⟩],c.r,c.e⟩), .bool true]) []):=vc_by (cj (df (g<0)) (zM41 p (zM44 p c (zM43 c (cj (rgsC p c hl hb) (cj (df (g≥gsV p c)) (zM41 p (zM40 p c (cj (ratC p c.s.pc) (cj (i6 (c.s.pc+1)) (cj (beq_eq_false_iff_ne.2 k5) (cj (beq_eq_false_iff_ne.2 k6) (cj (beq_eq_false_iff_ne.2 k7) (cj (beq_eq_false_iff_ne.2 k9) (cj (beq_eq_false_iff_ne.2 k8) (cj (beq_eq_false_iff_ne.2 k11) (cj (beq_eq_false_iff_ne.2 k12) (cj (ap 0 c.b.length 48) (cj (ap (0+c.b.length) 1 48) (zM47 c (cj (pv ((0:Nat)+c.b.length+1=(c.b++[En.mk c.s.pc (0:Int) (0:Int) (-1:Int) (c.s.pc+1) false false false]).length)) (cj (sM40 c) (zM45 c trivial))))))))))))))))))))))) (by kernel_rfl)
def ftO (p:Pg) (c:Cf) (g:Int):Option Cf:=if 0≤g∧g<gsV p c then some (ftD p c g) else none
theorem rftC (p:Pg) (c:Cf) (g:Int) (hl:p.is.length<1000) (hb:c.b.length<900000) (hpc: -1≤c.s.pc∧c.s.pc≤1000) (hr:c.r.length<1000) (hst:c.s.st.length≤1000) (hbp: ∀ e∈c.b, -1≤e.pc∧e.pc≤1000000):PureC Try.prog 51 [.agg (pgA p), .agg (cfA c), .int .i64 g] (.tup (ocA (ftO p c g))) []:=by
 have hb9:=hb
 replace hb:c.b.length<1000000:=by omega
 unfold ftO
 by_cases hn:g<0
 ·rw [if_neg (by omega)];exact PureC.vc (ft_neg p c g hl hb hn)
 replace hn:0≤g:=by omega
 by_cases hg:gsV p c≤g
 ·rw [if_neg (by omega)];exact PureC.vc (ft_out p c g hl hb hn hg)
 rw [if_pos ⟨hn,by omega⟩]
 by_cases k5:(atI p c.s.pc).kind=5
 ·by_cases g1:g=1
  ·have e:ftD p c g=⟨c.s.go (atI p c.s.pc).tg,c.b++[⟨c.s.pc,0,0, -1,(atI p c.s.pc).tg,false,false,false⟩],c.r,c.e⟩:=by simp [ftD,ftE,ftR,k5,g1]
   rw [e];exact PureC.vc (ft_5t p c g hl hb hn hg hpc hr k5 g1)
  ·have e:ftD p c g=⟨c.s.go (c.s.pc+1),c.b++[⟨c.s.pc,0,0, -1,(c.s.pc+1),false,false,false⟩],c.r,c.e⟩:=by simp [ftD,ftE,ftR,k5,g1]
   rw [e];exact PureC.vc (ft_5f p c g hl hb hn hg hpc hr k5 g1)
 by_cases k6:(atI p c.s.pc).kind=6
 ·have e:ftD p c g=⟨c.s.go (atI p c.s.pc).tg,c.b++[⟨c.s.pc,0,0, -1,(atI p c.s.pc).tg,true,false,false⟩],c.r,c.e⟩:=by simp [ftD,ftE,ftR,k6]
  rw [e];exact PureC.vc (ft_6 p c g hl hb hn hg hpc hr k5 k6)
 by_cases k7:(atI p c.s.pc).kind=7
 ·have e:ftD p c g=⟨c.s.go g,c.b++[⟨c.s.pc,0,0, -1,g,false,false,false⟩],c.r,c.e⟩:=by simp [ftD,ftE,ftR,k7]
  rw [e];exact PureC.vc (ft_7 p c g hl hb hn hg hpc hr k5 k6 k7)
 by_cases k9:(atI p c.s.pc).kind=9
 ·by_cases hz:c.r.length=0
  ·have hz0:c.r=[]:=List.eq_nil_of_length_eq_zero hz
   have e:ftD p c g=⟨c.s.go g,c.b++[⟨c.s.pc,0,0, -1,g,false,false,false⟩],c.r,c.e⟩:=by simp [ftD,ftE,ftR,k9,hz0]
   rw [e];exact PureC.vc (ft_9e p c g hl hb hn hg hpc hr k5 k6 k7 k9 hz)
  ·have hz0: ¬c.r=[]:=fun e=>hz (by rw [e];rfl)
   have e:ftD p c g=⟨c.s.go (lastI c.r),c.b++[⟨c.s.pc,0,0, -1,(lastI c.r),false,false,false⟩],(c.r.take ((c.r.length:Int)-1).toNat),c.e⟩:=by simp [ftD,ftE,ftR,k9,hz0]
   rw [e];exact PureC.vc (ft_9 p c g hl hb hn hg hpc hr k5 k6 k7 k9 hz)
 by_cases k8:(atI p c.s.pc).kind=8
 ·cases hv:reV p c.s.st c.b c.b.length with
  |none=>
   have e:ftD p c g=⟨c.s.go (atI p c.s.pc).tg,c.b++[⟨c.s.pc,0,0, -1,(atI p c.s.pc).tg,true,false,true⟩],(pushL c.r (c.s.pc+1)),c.e⟩:=by simp [ftD,ftE,ftR,k8,ftB,hv]
   rw [e];exact PureC.vc (ft_8n p c g hl hb hn hg hpc hr k5 k6 k7 k9 k8 hst hbp hb9 hv)
  |some L=>
   by_cases h4:4≤L.length
   ·have e:ftD p c g=⟨c.s.go (atI p c.s.pc).tg,c.b++[⟨c.s.pc,0,0, -1,(atI p c.s.pc).tg,true,false,true⟩],(pushL c.r (c.s.pc+1)),c.e⟩:=by simp [ftD,ftE,ftR,k8,ftB,hv,h4]
    rw [e];exact PureC.vc (ft_84 p c g hl hb hn hg hpc hr L k5 k6 k7 k9 k8 hst hbp hb9 hv h4)
   ·have e:ftD p c g=⟨c.s.go (atI p c.s.pc).tg,c.b++[⟨c.s.pc,0,0, -1,(atI p c.s.pc).tg,true,false,false⟩],(pushL c.r (c.s.pc+1)),c.e⟩:=by simp [ftD,ftE,ftR,k8,ftB,hv,h4]
    rw [e];exact PureC.vc (ft_8s p c g hl hb hn hg hpc hr L k5 k6 k7 k9 k8 hst hbp hb9 hv h4)
 by_cases k11:(atI p c.s.pc).kind=11
 ·have e:ftD p c g=⟨c.s.go (-1),c.b++[⟨c.s.pc,0,0, -1,(-1),true,false,false⟩],c.r,c.e⟩:=by simp [ftD,ftE,ftR,k11]
  rw [e];exact PureC.vc (ft_11 p c g hl hb hn hg hpc hr k5 k6 k7 k9 k8 k11)
 by_cases k12:(atI p c.s.pc).kind=12
 ·have e:ftD p c g=⟨c.s.go (-1),c.b++[⟨c.s.pc,0,0, -1,(-1),true,false,false⟩],c.r,c.e⟩:=by simp [ftD,ftE,ftR,k12]
  rw [e];exact PureC.vc (ft_12 p c g hl hb hn hg hpc hr k5 k6 k7 k9 k8 k11 k12)
 have e:ftD p c g=⟨c.s.go (c.s.pc+1),c.b++[⟨c.s.pc,0,0, -1,(c.s.pc+1),false,false,false⟩],c.r,c.e⟩:=by simp [ftD,ftE,ftR,k5,k6,k7,k9,k8,k11,k12]
 rw [e];exact PureC.vc (ft_o p c g hl hb hn hg hpc hr k5 k6 k7 k9 k8 k11 k12)
end
end Go.Proofs.Ytfjapapiappacaa.Px
namespace Go.Proofs.Ytfjapapiappacaa.Px
section
open Go.RowKit Go.Proofs.Ytfjapapiappacaa.Rx
def opV (p:Pg) (c:Cf) (i:Int):Bool:=if c.e=0∧0≤i∧i<c.b.length then !blkV p c.b i else false
def tA (p:Pg) (c:Cf) (i:Int) (x:In):Int×Bool:=valF p c.s c.b i x.a
def tB (p:Pg) (c:Cf) (i:Int) (x:In):Int×Bool:=valF p c.s c.b i x.b
def tD (p:Pg) (c:Cf) (i:Int) (x:In):Int×Bool:=regV p c.s c.b i x.d
def tAB (p:Pg) (c:Cf) (i:Int) (x:In):Bool:=(tA p c i x).2&&(tB p c i x).2
def enX (p:Pg) (c:Cf) (k:Nat):In:=atI p (c.b.getD k default).pc
def adV (p:Pg) (c:Cf) (i:Int) (x:In):Int:=Wd.maskV p.W ((tA p c i x).1+(tB p c i x).1)
def cnK (p:Pg) (c:Cf) (i:Int) (x:In):Bool:=
 if x.kind=1 then tAB p c i x else if x.kind=5 then tAB p c i x else if x.kind=4 then tAB p c i x&&(tD p c i x).2
 else if x.kind=2 then tAB p c i x&&(decide ((c.s.m.length:Int)≤adV p c i x)||(ldV p c.s.m c.b i (adV p c i x)).2.2)
 else if x.kind=3 then (tD p c i x).2 else if x.kind=7 then (tA p c i x).2 else x.kind==9
def cnV (p:Pg) (c:Cf) (i:Int):Bool:=opV p c i&&(!(c.b.getD i.toNat default).dn&&cnK p c i (enX p c i.toNat))
def caV (p:Pg) (c:Cf) (i:Int):Bool:=opV p c i&&(!(c.b.getD i.toNat default).kn&&((enX p c i.toNat).kind==3&&tAB p c i (enX p c i.toNat)))
def crE (p:Pg) (e:En) (l:List En):Bool:=(e.dn||(atI p e.pc).kind==10)&&((atI p e.pc).kind !=3||e.kn)
def crV (p:Pg) (c:Cf):Bool:=if c.e=0 then (match c.b with
 | []=>false
 |e::l=>crE p e l) else false
theorem op_e (p:Pg) (c:Cf) (i:Int) (h0: ¬c.e=0):Vc (vcFn Try.prog false 56 [.agg (pgA p), .agg (cfA c), .int .i64 i] [.fv, .fv, .bd false] [] (.bool false) []):=vc_by (cj (beq_eq_false_iff_ne.2 h0) (cj (rf false) trivial)) (by kernel_rfl)
theorem op_n (p:Pg) (c:Cf) (i:Int) (h0:c.e=0) (hi: ¬0≤i):Vc (vcFn Try.prog false 56 [.agg (pgA p), .agg (cfA c), .int .i64 i] [.fv, .fv, .bd true, .bd false] [] (.bool false) []):=vc_by (cj (beq_iff_eq.2 h0) (cj (df (i≥0)) (cj (rf false) trivial))) (by kernel_rfl)
theorem op_l (p:Pg) (c:Cf) (i:Int) (h0:c.e=0) (hi:0≤i) (hl: ¬i<c.b.length):Vc (vcFn Try.prog false 56 [.agg (pgA p), .agg (cfA c), .int .i64 i] [.fv, .fv, .bd true, .bd true, .bd false] [] (.bool false) []):=vc_by (cj (beq_iff_eq.2 h0) (cj (dt (i≥0)) (cj (df (i<(↑c.b.length:Int))) (cj (rf false) trivial)))) (by kernel_rfl)
theorem zM50 (p:Pg) {Z:Prop} (z:Z):(RF p.W (RF p.win (RF p.fuel (RF p.r0 (RF p.r1 (RF p.r2 (RF p.r3 (RF p.ms.length (RR p.ms.length 3 (fun i j=>rowL mmC p.ms i j) Z))))))))):=⟨rfl,rfl,rfl,rfl,rfl,rfl,rfl,rfl,fun _ _ _ _=>rfl,z⟩
theorem op_y (p:Pg) (c:Cf) (i:Int) (h0:c.e=0) (hi:0≤i) (hl:i<c.b.length) (hb:c.b.length<1000000):Vc (vcFn Try.prog false 56 [.agg (pgA p), .agg (cfA c), .int .i64 i] [.fv, .fv, .bd true, .bd true, .bd true, .cl [.agg (pgA p),enR c.b, .int .i64 i] (.bool (blkV p c.b i)) []] [] (.bool (!blkV p c.b i)) []):=vc_by (cj (beq_iff_eq.2 h0) (cj (dt (i≥0)) (cj (dt (i<(↑c.b.length:Int))) (zM50 p (cj (rf p.ls.length) (cj (rr p.ls.length 2 fun i j=>rowL lbC p.ls i j) (cj (rf p.is.length) (cj (rr p.is.length 9 fun i j=>rowL inC p.is i j) (cj (rf c.b.length) (cj (rr c.b.length 8 fun i j=>rowL enC c.b i j) (cj (rf i) (cj (rblkC p c.b i hb) (cj (rf (!blkV p c.b i)) trivial))))))))))))) (by kernel_rfl)
theorem ropC (p:Pg) (c:Cf) (i:Int) (hb:c.b.length<1000000):PureC Try.prog 56 [.agg (pgA p), .agg (cfA c), .int .i64 i] (.bool (opV p c i)) []:=by
 unfold opV
 by_cases h0:c.e=0
 ·by_cases hi:0≤i
  ·by_cases hl:i<c.b.length
   ·rw [if_pos ⟨h0,hi,hl⟩];exact PureC.vc (op_y p c i h0 hi hl hb)
   ·rw [if_neg fun e=>hl e.2.2];exact PureC.vc (op_l p c i h0 hi hl)
  ·rw [if_neg fun e=>hi e.2.1];exact PureC.vc (op_n p c i h0 hi)
 ·rw [if_neg fun e=>h0 e.1];exact PureC.vc (op_e p c i h0)
theorem zM51 (c:Cf) (i:Int) (x:In) {Z:Prop} (z:Z):(RR c.b.length 8 (fun i j=>rowL enC c.b i j) (RF i (RF x.d Z))):=⟨fun _ _ _ _=>rfl,rfl,rfl,z⟩
theorem zM52 (p:Pg) (c:Cf) {Z:Prop} (z:Z):(RF p.ls.length (RR p.ls.length 2 (fun i j=>rowL lbC p.ls i j) (RF p.is.length (RR p.is.length 9 (fun i j=>rowL inC p.is i j) (RF c.s.r0 (RF c.s.r1 (RF c.s.r2 (RF c.s.r3 (RF c.b.length Z))))))))):=⟨rfl,fun _ _ _ _=>rfl,rfl,fun _ _ _ _=>rfl,rfl,rfl,rfl,rfl,rfl,z⟩
theorem zM53 (c:Cf) (i:Int) (x:In) {Z:Prop} (z:Z):(RR c.b.length 8 (fun i j=>rowL enC c.b i j) (RF i (RF x.b.reg (RF x.b.n Z)))):=⟨fun _ _ _ _=>rfl,rfl,rfl,rfl,z⟩
theorem zM54 (c:Cf) (i:Int) (x:In) {Z:Prop} (z:Z):(RR c.b.length 8 (fun i j=>rowL enC c.b i j) (RF i (RF x.a.reg (RF x.a.n Z)))):=⟨fun _ _ _ _=>rfl,rfl,rfl,rfl,z⟩
abbrev oM50 (p:Pg) (c:Cf) (i:Int) (x:In):Orc:= .cl [.agg (pgA p), .agg (rgA c.s),enR c.b, .int .i64 i, .agg (vlA x.a)] (.tup [.int .i64 (valF p c.s c.b i x.a).1, .bool (valF p c.s c.b i x.a).2]) []
abbrev oM51 (p:Pg) (c:Cf) (i:Int) (x:In):Orc:= .cl [.agg (pgA p), .agg (rgA c.s),enR c.b, .int .i64 i, .agg (vlA x.b)] (.tup [.int .i64 (valF p c.s c.b i x.b).1, .bool (valF p c.s c.b i x.b).2]) []
abbrev oM52 (p:Pg) (c:Cf) (i:Int) (x:In):Orc:= .cl [.agg (pgA p), .agg (rgA c.s),enR c.b, .int .i64 i, .int .i64 x.d] (.tup [.int .i64 (regV p c.s c.b i x.d).1, .bool (regV p c.s c.b i x.d).2]) []
theorem td_t (p:Pg) (c:Cf) (i:Int) (x:In) (hb:c.b.length<1000000) (h:(tA p c i x).2=true):Vc (vcFn Try.prog false 57 [.agg (pgA p), .agg (cfA c), .int .i64 i, .agg (inA x)] [.fv, .fv, .fv,oM50 p c i x,oM51 p c i x,oM52 p c i x, .b true, .b true] [] (.tup [.int .i64 (tA p c i x).1, .int .i64 (tB p c i x).1, .int .i64 (tD p c i x).1, .bool (tB p c i x).2, .bool (tD p c i x).2]) []):=vc_by (zM50 p (zM52 p c (zM54 c i x (cj (rvalC p c.s c.b i x.a hb) (zM50 p (zM52 p c (zM53 c i x (cj (rvalC p c.s c.b i x.b hb) (zM50 p (zM52 p c (zM51 c i x (cj (rregC p c.s c.b i x.d hb) (cj h (cj h (cj (rf (Prod.fst (tA p c i x))) (cj (rf (Prod.fst (tB p c i x))) (cj (rf (Prod.fst (tD p c i x))) (cj (rf (Prod.snd (tB p c i x))) (cj (rf (Prod.snd (tD p c i x))) trivial))))))))))))))))))) (by kernel_rfl)
theorem td_f (p:Pg) (c:Cf) (i:Int) (x:In) (hb:c.b.length<1000000) (h:(tA p c i x).2=false):Vc (vcFn Try.prog false 57 [.agg (pgA p), .agg (cfA c), .int .i64 i, .agg (inA x)] [.fv, .fv, .fv,oM50 p c i x,oM51 p c i x,oM52 p c i x, .b false, .b false] [] (.tup [.int .i64 (tA p c i x).1, .int .i64 (tB p c i x).1, .int .i64 (tD p c i x).1, .bool false, .bool (tD p c i x).2]) []):=vc_by (zM50 p (zM52 p c (zM54 c i x (cj (rvalC p c.s c.b i x.a hb) (zM50 p (zM52 p c (zM53 c i x (cj (rvalC p c.s c.b i x.b hb) (zM50 p (zM52 p c (zM51 c i x (cj (rregC p c.s c.b i x.d hb) (cj h (cj h (cj (rf (Prod.fst (tA p c i x))) (cj (rf (Prod.fst (tB p c i x))) (cj (rf (Prod.fst (tD p c i x))) (cj (rf false) (cj (rf (Prod.snd (tD p c i x))) trivial))))))))))))))))))) (by kernel_rfl)
theorem rtdC (p:Pg) (c:Cf) (i:Int) (x:In) (hb:c.b.length<1000000):PureC Try.prog 57 [.agg (pgA p), .agg (cfA c), .int .i64 i, .agg (inA x)] (.tup [.int .i64 (tA p c i x).1, .int .i64 (tB p c i x).1, .int .i64 (tD p c i x).1, .bool (tAB p c i x), .bool (tD p c i x).2]) []:=by
 unfold tAB
 cases h:(tA p c i x).2 with
 |true=>rw [Bool.true_and];exact PureC.vc (td_t p c i x hb h)
 |false=>exact PureC.vc (td_f p c i x hb h)
theorem zM55 (c:Cf) {Z:Prop} (z:Z):(RR c.s.m.length 1 (fun i j=>aI (List.getD c.s.m i (0:Int))) (RF c.s.st.length (RR c.s.st.length 1 (fun i j=>aI (List.getD c.s.st i (0:Int))) (RF c.s.pc (RF c.b.length (RR c.b.length 8 (fun i j=>rowL enC c.b i j) (RF c.r.length (RR c.r.length 1 (fun i j=>aI (c.r.getD i 0)) (RF c.e Z))))))))):=⟨fun _ _ _ _=>rfl,rfl,fun _ _ _ _=>rfl,rfl,rfl,fun _ _ _ _=>rfl,rfl,fun _ _ _ _=>rfl,rfl,z⟩
theorem zM56 (p:Pg) (c:Cf) {Z:Prop} (z:Z):(RF p.ls.length (RR p.ls.length 2 (fun i j=>rowL lbC p.ls i j) (RF p.is.length (RR p.is.length 9 (fun i j=>rowL inC p.is i j) (RF c.s.r0 (RF c.s.r1 (RF c.s.r2 (RF c.s.r3 (RF c.s.m.length Z))))))))):=⟨rfl,fun _ _ _ _=>rfl,rfl,fun _ _ _ _=>rfl,rfl,rfl,rfl,rfl,rfl,z⟩
abbrev qM53 (p:Pg) (c:Cf) (i:Int):Prop:=PureC Try.prog 56 [.agg (pgA p), .agg (cfA c), .int .i64 i] (.bool false) []
theorem cn_x (p:Pg) (c:Cf) (i:Int) (hO:qM53 p c i):Vc (vcFn Try.prog false 36 [.agg (pgA p), .agg (cfA c), .int .i64 i] [.fv, .fv, .cl [.agg (pgA p), .agg (cfA c), .int .i64 i] (.bool false) []] [] (.bool false) []):=vc_by (zM50 p (zM56 p c (zM55 c (cj (rf i) (cj hO (cj (rf false) trivial)))))) (by kernel_rfl)
theorem zM57 {Z:Prop} (z:Z):(RF false (RF false (RF false Z))):=⟨rfl,rfl,rfl,z⟩
theorem zM58 {Z:Prop} (z:Z):(RF false (RF false (RF false (RF false Z)))):=⟨rfl,rfl,rfl,rfl,z⟩
abbrev qM54 (p:Pg) (c:Cf) (k:Nat):Prop:=PureC Try.prog 56 [.agg (pgA p), .agg (cfA c), .int .i64 k] (.bool true) []
abbrev oM55 (p:Pg) (c:Cf) (k:Nat):Orc:= .cl [.agg (pgA p), .agg (cfA c), .int .i64 k] (.bool true) []
theorem cn_d (p:Pg) (c:Cf) (k:Nat) (hk:k<c.b.length) (hb:c.b.length<1000000) (hO:qM54 p c k) (hd:(c.b.getD k default).dn=true):Vc (vcFn Try.prog false 36 [.agg (pgA p), .agg (cfA c), .int .i64 k] [.fv, .fv,oM55 p c k, .b false, .b false, .b false, .b false, .b false, .b false, .b false, .b true] [] (.bool false) []):=vc_by (zM50 p (zM56 p c (zM55 c (cj (rf (k:Int)) (cj hO (zM58 (cj (bi (k:Int) (↑c.b.length:Int)) (zM57 (cj hd (cj (rf false) trivial)))))))))) (by kernel_rfl)
theorem zM59 (p:Pg) (c:Cf) (k:Nat) (a:Int) (b:Int) (d:Int) {Z:Prop} (z:Z):(RF (k:Int) (RF ((enX p c k).kind) (RF ((enX p c k).op) (RF ((enX p c k).d) (RF ((enX p c k).a.reg) (RF ((enX p c k).a.n) (RF ((enX p c k).b.reg) (RF ((enX p c k).b.n) (RF ((enX p c k).nm) Z))))))))):=⟨rfl,rfl,rfl,rfl,rfl,rfl,rfl,rfl,rfl,z⟩
theorem zM510 (p:Pg) (c:Cf) (k:Nat) (b:Int) {Z:Prop} (z:Z):(RF p.ls.length (RR p.ls.length 2 (fun i j=>rowL lbC p.ls i j) (RF p.is.length (RR p.is.length 9 (fun i j=>rowL inC p.is i j) (RF ((c.b.getD k default).pc) Z))))):=⟨rfl,fun _ _ _ _=>rfl,rfl,fun _ _ _ _=>rfl,rfl,z⟩
abbrev qM56 (p:Pg) (c:Cf) (k:Nat) (a:Int) (b:Int) (d:Int) (ab:Bool) (so:Bool):Prop:=PureC Try.prog 57 [.agg (pgA p), .agg (cfA c), .int .i64 k, .agg (inA (enX p c k))] (.tup [.int .i64 a, .int .i64 b, .int .i64 d, .bool ab, .bool so]) []
abbrev oM58 (p:Pg) (c:Cf) (k:Nat) (a:Int) (b:Int) (d:Int) (ab:Bool) (so:Bool):Orc:= .cl [.agg (pgA p), .agg (cfA c), .int .i64 k, .agg (inA (enX p c k))] (.tup [.int .i64 a, .int .i64 b, .int .i64 d, .bool ab, .bool so]) []
abbrev oM57 (p:Pg) (c:Cf) (k:Nat):Orc:= .cl [.agg (pgA p), .int .i64 (c.b.getD k default).pc] (.agg (inA (enX p c k))) []
theorem cn_1 (p:Pg) (c:Cf) (k:Nat) (hk:k<c.b.length) (hb:c.b.length<1000000) (hO:qM54 p c k) (hd:(c.b.getD k default).dn=false) (a b d:Int) (ab:Bool) (so:Bool) (hT:qM56 p c k a b d ab so) (k1:(enX p c k).kind=1):Vc (vcFn Try.prog false 36 [.agg (pgA p), .agg (cfA c), .int .i64 k] [.fv, .fv,oM55 p c k, .b false, .b false, .b false, .b false, .b false, .b false, .b false, .b false,oM57 p c k,oM58 p c k a b d ab so, .bd true] [] (.bool ab) []):=vc_by (zM50 p (zM56 p c (zM55 c (cj (rf (k:Int)) (cj hO (zM58 (cj (bi (k:Int) (↑c.b.length:Int)) (zM57 (cj hd (cj (bi (k:Int) (↑c.b.length:Int)) (zM50 p (zM510 p c k b (cj (ratC p (c.b.getD k default).pc) (zM50 p (zM56 p c (zM55 c (zM59 p c k a b d (cj (rf ((enX p c k).tg)) (cj hT (cj (beq_iff_eq.2 k1) (cj (rf ab) trivial))))))))))))))))))))) (by kernel_rfl)
theorem cn_5 (p:Pg) (c:Cf) (k:Nat) (hk:k<c.b.length) (hb:c.b.length<1000000) (hO:qM54 p c k) (hd:(c.b.getD k default).dn=false) (a b d:Int) (ab:Bool) (so:Bool) (hT:qM56 p c k a b d ab so) (k1: ¬(enX p c k).kind=1) (k5:(enX p c k).kind=5):Vc (vcFn Try.prog false 36 [.agg (pgA p), .agg (cfA c), .int .i64 k] [.fv, .fv,oM55 p c k, .b false, .b false, .b false, .b false, .b false, .b false, .b false, .b false,oM57 p c k,oM58 p c k a b d ab so, .bd false, .bd true] [] (.bool ab) []):=vc_by (zM50 p (zM56 p c (zM55 c (cj (rf (k:Int)) (cj hO (zM58 (cj (bi (k:Int) (↑c.b.length:Int)) (zM57 (cj hd (cj (bi (k:Int) (↑c.b.length:Int)) (zM50 p (zM510 p c k b (cj (ratC p (c.b.getD k default).pc) (zM50 p (zM56 p c (zM55 c (zM59 p c k a b d (cj (rf ((enX p c k).tg)) (cj hT (cj (beq_eq_false_iff_ne.2 k1) (cj (beq_iff_eq.2 k5) (cj (rf ab) trivial)))))))))))))))))))))) (by kernel_rfl)
abbrev qM59 (p:Pg) (c:Cf) (k:Nat) (a:Int) (b:Int) (d:Int) (so:Bool):Prop:=PureC Try.prog 57 [.agg (pgA p), .agg (cfA c), .int .i64 k, .agg (inA (enX p c k))] (.tup [.int .i64 a, .int .i64 b, .int .i64 d, .bool true, .bool so]) []
abbrev oM510 (p:Pg) (c:Cf) (k:Nat) (a:Int) (b:Int) (d:Int) (so:Bool):Orc:= .cl [.agg (pgA p), .agg (cfA c), .int .i64 k, .agg (inA (enX p c k))] (.tup [.int .i64 a, .int .i64 b, .int .i64 d, .bool true, .bool so]) []
theorem cn_4t (p:Pg) (c:Cf) (k:Nat) (hk:k<c.b.length) (hb:c.b.length<1000000) (hO:qM54 p c k) (hd:(c.b.getD k default).dn=false) (a b d:Int) (so:Bool) (hT:qM59 p c k a b d so) (k1: ¬(enX p c k).kind=1) (k5: ¬(enX p c k).kind=5) (k4:(enX p c k).kind=4):Vc (vcFn Try.prog false 36 [.agg (pgA p), .agg (cfA c), .int .i64 k] [.fv, .fv,oM55 p c k, .b false, .b false, .b false, .b false, .b false, .b false, .b false, .b false,oM57 p c k,oM510 p c k a b d so, .bd false, .bd false, .bd true] [] (.bool so) []):=vc_by (zM50 p (zM56 p c (zM55 c (cj (rf (k:Int)) (cj hO (zM58 (cj (bi (k:Int) (↑c.b.length:Int)) (zM57 (cj hd (cj (bi (k:Int) (↑c.b.length:Int)) (zM50 p (zM510 p c k b (cj (ratC p (c.b.getD k default).pc) (zM50 p (zM56 p c (zM55 c (zM59 p c k a b d (cj (rf ((enX p c k).tg)) (cj hT (cj (beq_eq_false_iff_ne.2 k1) (cj (beq_eq_false_iff_ne.2 k5) (cj (beq_iff_eq.2 k4) (cj (rf so) trivial))))))))))))))))))))))) (by kernel_rfl)
abbrev qM511 (p:Pg) (c:Cf) (k:Nat) (a:Int) (b:Int) (d:Int) (so:Bool):Prop:=PureC Try.prog 57 [.agg (pgA p), .agg (cfA c), .int .i64 k, .agg (inA (enX p c k))] (.tup [.int .i64 a, .int .i64 b, .int .i64 d, .bool false, .bool so]) []
theorem cn_4f (p:Pg) (c:Cf) (k:Nat) (hk:k<c.b.length) (hb:c.b.length<1000000) (hO:qM54 p c k) (hd:(c.b.getD k default).dn=false) (a b d:Int) (so:Bool) (hT:qM511 p c k a b d so) (k1: ¬(enX p c k).kind=1) (k5: ¬(enX p c k).kind=5) (k4:(enX p c k).kind=4):Vc (vcFn Try.prog false 36 [.agg (pgA p), .agg (cfA c), .int .i64 k] [.fv, .fv,oM55 p c k, .b false, .b false, .b false, .b false, .b false, .b false, .b false, .b false,oM57 p c k, .cl [.agg (pgA p), .agg (cfA c), .int .i64 k, .agg (inA (enX p c k))] (.tup [.int .i64 a, .int .i64 b, .int .i64 d, .bool false, .bool so]) [], .bd false, .bd false, .bd true] [] (.bool false) []):=vc_by (zM50 p (zM56 p c (zM55 c (cj (rf (k:Int)) (cj hO (zM58 (cj (bi (k:Int) (↑c.b.length:Int)) (zM57 (cj hd (cj (bi (k:Int) (↑c.b.length:Int)) (zM50 p (zM510 p c k b (cj (ratC p (c.b.getD k default).pc) (zM50 p (zM56 p c (zM55 c (zM59 p c k a b d (cj (rf ((enX p c k).tg)) (cj hT (cj (beq_eq_false_iff_ne.2 k1) (cj (beq_eq_false_iff_ne.2 k5) (cj (beq_iff_eq.2 k4) (cj (rf false) trivial))))))))))))))))))))))) (by kernel_rfl)
theorem zM511 (p:Pg) (c:Cf) (k:Nat) (b:Int) {Z:Prop} (z:Z):(RF p.ls.length (RR p.ls.length 2 (fun i j=>rowL lbC p.ls i j) (RF p.is.length (RR p.is.length 9 (fun i j=>rowL inC p.is i j) (RF c.s.m.length (RR c.s.m.length 1 (fun i j=>aI (List.getD c.s.m i (0:Int))) (RF c.b.length (RR c.b.length 8 (fun i j=>rowL enC c.b i j) (RF (k:Int) Z))))))))):=⟨rfl,fun _ _ _ _=>rfl,rfl,fun _ _ _ _=>rfl,rfl,fun _ _ _ _=>rfl,rfl,fun _ _ _ _=>rfl,rfl,z⟩
abbrev oM513 (p:Pg) (c:Cf) (k:Nat) (a:Int) (b:Int):Orc:= .cl [.agg (pgA p),lR c.s.m,enR c.b, .int .i64 k, .int .i64 (Wd.maskV p.W (a+b))] (.tup [.int .i64 (ldV p c.s.m c.b k (Wd.maskV p.W (a+b))).1, .int .i64 (ldV p c.s.m c.b k (Wd.maskV p.W (a+b))).2.1, .bool (ldV p c.s.m c.b k (Wd.maskV p.W (a+b))).2.2]) []
abbrev oM512 (p:Pg) (a:Int) (b:Int):Orc:= .cl [.int .i64 p.W, .int .i64 (a+b)] (.int .i64 (Wd.maskV p.W (a+b))) []
theorem cn_2f (p:Pg) (c:Cf) (k:Nat) (hk:k<c.b.length) (hb:c.b.length<1000000) (hO:qM54 p c k) (hd:(c.b.getD k default).dn=false) (a b d:Int) (so:Bool) (hT:qM511 p c k a b d so) (k1: ¬(enX p c k).kind=1) (k5: ¬(enX p c k).kind=5) (k4: ¬(enX p c k).kind=4) (k2:(enX p c k).kind=2) (hab: -1000000≤a+b∧a+b≤1000000) (hm:c.s.m.length<1000000):Vc (vcFn Try.prog false 36 [.agg (pgA p), .agg (cfA c), .int .i64 k] [.fv, .fv,oM55 p c k, .b false, .b false, .b false, .b false, .b false, .b false, .b false, .b false,oM57 p c k, .cl [.agg (pgA p), .agg (cfA c), .int .i64 k, .agg (inA (enX p c k))] (.tup [.int .i64 a, .int .i64 b, .int .i64 d, .bool false, .bool so]) [], .bd false, .bd false, .bd false, .bd true,oM512 p a b,oM513 p c k a b] [] (.bool false) []):=vc_by (zM50 p (zM56 p c (zM55 c (cj (rf (k:Int)) (cj hO (zM58 (cj (bi (k:Int) (↑c.b.length:Int)) (zM57 (cj hd (cj (bi (k:Int) (↑c.b.length:Int)) (zM50 p (zM510 p c k b (cj (ratC p (c.b.getD k default).pc) (zM50 p (zM56 p c (zM55 c (zM59 p c k a b d (cj (rf ((enX p c k).tg)) (cj hT (cj (beq_eq_false_iff_ne.2 k1) (cj (beq_eq_false_iff_ne.2 k5) (cj (beq_eq_false_iff_ne.2 k4) (cj (beq_iff_eq.2 k2) (cj (i6 (a+b)) (cj (rf p.W) (cj (rf (a+b)) (cj (rmaskC p.W (a+b)) (zM50 p (zM511 p c k b (cj (rf (Wd.maskV p.W (a+b))) (cj (rldC p c.s.m c.b k (Wd.maskV p.W (a+b)) hb) (cj (rf false) trivial)))))))))))))))))))))))))))))))) (by kernel_rfl)
theorem cn_2o (p:Pg) (c:Cf) (k:Nat) (hk:k<c.b.length) (hb:c.b.length<1000000) (hO:qM54 p c k) (hd:(c.b.getD k default).dn=false) (a b d:Int) (so:Bool) (hT:qM59 p c k a b d so) (k1: ¬(enX p c k).kind=1) (k5: ¬(enX p c k).kind=5) (k4: ¬(enX p c k).kind=4) (k2:(enX p c k).kind=2) (hab: -1000000≤a+b∧a+b≤1000000) (hm:c.s.m.length<1000000) (ho:(c.s.m.length:Int)≤(Wd.maskV p.W (a+b))):Vc (vcFn Try.prog false 36 [.agg (pgA p), .agg (cfA c), .int .i64 k] [.fv, .fv,oM55 p c k, .b false, .b false, .b false, .b false, .b false, .b false, .b false, .b false,oM57 p c k,oM510 p c k a b d so, .bd false, .bd false, .bd false, .bd true,oM512 p a b,oM513 p c k a b, .bd true] [] (.bool true) []):=vc_by (zM50 p (zM56 p c (zM55 c (cj (rf (k:Int)) (cj hO (zM58 (cj (bi (k:Int) (↑c.b.length:Int)) (zM57 (cj hd (cj (bi (k:Int) (↑c.b.length:Int)) (zM50 p (zM510 p c k b (cj (ratC p (c.b.getD k default).pc) (zM50 p (zM56 p c (zM55 c (zM59 p c k a b d (cj (rf ((enX p c k).tg)) (cj hT (cj (beq_eq_false_iff_ne.2 k1) (cj (beq_eq_false_iff_ne.2 k5) (cj (beq_eq_false_iff_ne.2 k4) (cj (beq_iff_eq.2 k2) (cj (i6 (a+b)) (cj (rf p.W) (cj (rf (a+b)) (cj (rmaskC p.W (a+b)) (zM50 p (zM511 p c k b (cj (rf (Wd.maskV p.W (a+b))) (cj (rldC p c.s.m c.b k (Wd.maskV p.W (a+b)) hb) (cj (dt (Wd.maskV p.W (a+b)≥(↑(c.s.m.length):Int))) (cj (rf true) trivial))))))))))))))))))))))))))))))))) (by kernel_rfl)
theorem cn_2i (p:Pg) (c:Cf) (k:Nat) (hk:k<c.b.length) (hb:c.b.length<1000000) (hO:qM54 p c k) (hd:(c.b.getD k default).dn=false) (a b d:Int) (so:Bool) (hT:qM59 p c k a b d so) (k1: ¬(enX p c k).kind=1) (k5: ¬(enX p c k).kind=5) (k4: ¬(enX p c k).kind=4) (k2:(enX p c k).kind=2) (hab: -1000000≤a+b∧a+b≤1000000) (hm:c.s.m.length<1000000) (ho: ¬(c.s.m.length:Int)≤(Wd.maskV p.W (a+b))):Vc (vcFn Try.prog false 36 [.agg (pgA p), .agg (cfA c), .int .i64 k] [.fv, .fv,oM55 p c k, .b false, .b false, .b false, .b false, .b false, .b false, .b false, .b false,oM57 p c k,oM510 p c k a b d so, .bd false, .bd false, .bd false, .bd true,oM512 p a b,oM513 p c k a b, .bd false] [] (.bool (ldV p c.s.m c.b k (Wd.maskV p.W (a+b))).2.2) []):=vc_by (zM50 p (zM56 p c (zM55 c (cj (rf (k:Int)) (cj hO (zM58 (cj (bi (k:Int) (↑c.b.length:Int)) (zM57 (cj hd (cj (bi (k:Int) (↑c.b.length:Int)) (zM50 p (zM510 p c k b (cj (ratC p (c.b.getD k default).pc) (zM50 p (zM56 p c (zM55 c (zM59 p c k a b d (cj (rf ((enX p c k).tg)) (cj hT (cj (beq_eq_false_iff_ne.2 k1) (cj (beq_eq_false_iff_ne.2 k5) (cj (beq_eq_false_iff_ne.2 k4) (cj (beq_iff_eq.2 k2) (cj (i6 (a+b)) (cj (rf p.W) (cj (rf (a+b)) (cj (rmaskC p.W (a+b)) (zM50 p (zM511 p c k b (cj (rf (Wd.maskV p.W (a+b))) (cj (rldC p c.s.m c.b k (Wd.maskV p.W (a+b)) hb) (cj (df (Wd.maskV p.W (a+b)≥(↑(c.s.m.length):Int))) (cj (rf (Prod.snd (Prod.snd (ldV p c.s.m c.b (k:Int) (Wd.maskV p.W (a+b)))))) trivial))))))))))))))))))))))))))))))))) (by kernel_rfl)
theorem cn_3 (p:Pg) (c:Cf) (k:Nat) (hk:k<c.b.length) (hb:c.b.length<1000000) (hO:qM54 p c k) (hd:(c.b.getD k default).dn=false) (a b d:Int) (ab:Bool) (so:Bool) (hT:qM56 p c k a b d ab so) (k1: ¬(enX p c k).kind=1) (k5: ¬(enX p c k).kind=5) (k4: ¬(enX p c k).kind=4) (k2: ¬(enX p c k).kind=2) (k3:(enX p c k).kind=3):Vc (vcFn Try.prog false 36 [.agg (pgA p), .agg (cfA c), .int .i64 k] [.fv, .fv,oM55 p c k, .b false, .b false, .b false, .b false, .b false, .b false, .b false, .b false,oM57 p c k,oM58 p c k a b d ab so, .bd false, .bd false, .bd false, .bd false, .bd true] [] (.bool so) []):=vc_by (zM50 p (zM56 p c (zM55 c (cj (rf (k:Int)) (cj hO (zM58 (cj (bi (k:Int) (↑c.b.length:Int)) (zM57 (cj hd (cj (bi (k:Int) (↑c.b.length:Int)) (zM50 p (zM510 p c k b (cj (ratC p (c.b.getD k default).pc) (zM50 p (zM56 p c (zM55 c (zM59 p c k a b d (cj (rf ((enX p c k).tg)) (cj hT (cj (beq_eq_false_iff_ne.2 k1) (cj (beq_eq_false_iff_ne.2 k5) (cj (beq_eq_false_iff_ne.2 k4) (cj (beq_eq_false_iff_ne.2 k2) (cj (beq_iff_eq.2 k3) (cj (rf so) trivial))))))))))))))))))))))))) (by kernel_rfl)
theorem cn_7 (p:Pg) (c:Cf) (k:Nat) (hk:k<c.b.length) (hb:c.b.length<1000000) (hO:qM54 p c k) (hd:(c.b.getD k default).dn=false) (a b d:Int) (ab:Bool) (so:Bool) (hT:qM56 p c k a b d ab so) (k1: ¬(enX p c k).kind=1) (k5: ¬(enX p c k).kind=5) (k4: ¬(enX p c k).kind=4) (k2: ¬(enX p c k).kind=2) (k3: ¬(enX p c k).kind=3) (k7:(enX p c k).kind=7):Vc (vcFn Try.prog false 36 [.agg (pgA p), .agg (cfA c), .int .i64 k] [.fv, .fv,oM55 p c k, .b false, .b false, .b false, .b false, .b false, .b false, .b false, .b false,oM57 p c k,oM58 p c k a b d ab so, .bd false, .bd false, .bd false, .bd false, .bd false, .bd true, .cl [.agg (pgA p), .agg (rgA c.s),enR c.b, .int .i64 k, .agg (vlA (enX p c k).a)] (.tup [.int .i64 (valF p c.s c.b k (enX p c k).a).1, .bool (valF p c.s c.b k (enX p c k).a).2]) []] [] (.bool (valF p c.s c.b k (enX p c k).a).2) []):=vc_by (zM50 p (zM56 p c (zM55 c (cj (rf (k:Int)) (cj hO (zM58 (cj (bi (k:Int) (↑c.b.length:Int)) (zM57 (cj hd (cj (bi (k:Int) (↑c.b.length:Int)) (zM50 p (zM510 p c k b (cj (ratC p (c.b.getD k default).pc) (zM50 p (zM56 p c (zM55 c (zM59 p c k a b d (cj (rf ((enX p c k).tg)) (cj hT (cj (beq_eq_false_iff_ne.2 k1) (cj (beq_eq_false_iff_ne.2 k5) (cj (beq_eq_false_iff_ne.2 k4) (cj (beq_eq_false_iff_ne.2 k2) (cj (beq_eq_false_iff_ne.2 k3) (cj (beq_iff_eq.2 k7) (zM50 p (zM52 p c (cj (rr c.b.length 8 fun i j=>rowL enC c.b i j) (cj (rf (k:Int)) (cj (rf ((enX p c k).a.reg)) (cj (rf ((enX p c k).a.n)) (cj (rvalC p c.s c.b k (enX p c k).a hb) (cj (rf (Prod.snd (valF p c.s c.b (k:Int) (enX p c k).a))) trivial))))))))))))))))))))))))))))))))) (by kernel_rfl)
theorem cn_o (p:Pg) (c:Cf) (k:Nat) (hk:k<c.b.length) (hb:c.b.length<1000000) (hO:qM54 p c k) (hd:(c.b.getD k default).dn=false) (a b d:Int) (ab:Bool) (so:Bool) (hT:qM56 p c k a b d ab so) (k1: ¬(enX p c k).kind=1) (k5: ¬(enX p c k).kind=5) (k4: ¬(enX p c k).kind=4) (k2: ¬(enX p c k).kind=2) (k3: ¬(enX p c k).kind=3) (k7: ¬(enX p c k).kind=7):Vc (vcFn Try.prog false 36 [.agg (pgA p), .agg (cfA c), .int .i64 k] [.fv, .fv,oM55 p c k, .b false, .b false, .b false, .b false, .b false, .b false, .b false, .b false,oM57 p c k,oM58 p c k a b d ab so, .bd false, .bd false, .bd false, .bd false, .bd false, .bd false] [] (.bool ((enX p c k).kind==9)) []):=vc_by (zM50 p (zM56 p c (zM55 c (cj (rf (k:Int)) (cj hO (zM58 (cj (bi (k:Int) (↑c.b.length:Int)) (zM57 (cj hd (cj (bi (k:Int) (↑c.b.length:Int)) (zM50 p (zM510 p c k b (cj (ratC p (c.b.getD k default).pc) (zM50 p (zM56 p c (zM55 c (zM59 p c k a b d (cj (rf ((enX p c k).tg)) (cj hT (cj (beq_eq_false_iff_ne.2 k1) (cj (beq_eq_false_iff_ne.2 k5) (cj (beq_eq_false_iff_ne.2 k4) (cj (beq_eq_false_iff_ne.2 k2) (cj (beq_eq_false_iff_ne.2 k3) (cj (beq_eq_false_iff_ne.2 k7) (cj (rf ((enX p c k).kind==(9:Int))) trivial)))))))))))))))))))))))))) (by kernel_rfl)
theorem opV_in {p:Pg} {c:Cf} {i:Int} (h:opV p c i=true): ∃ k:Nat,i=(k:Int)∧k<c.b.length:=by
 unfold opV at h
 split at h
 ·exact ⟨i.toNat,by omega,by omega⟩
 ·cases h
def Sml (p:Pg) (c:Cf):Prop:= ∀ i x,0≤(tA p c i x).1∧(tA p c i x).1≤65535∧0≤(tB p c i x).1∧(tB p c i x).1≤65535
theorem Sml.add {p:Pg} {c:Cf} (h:Sml p c) (i:Int) (x:In): -1000000≤(tA p c i x).1+(tB p c i x).1∧(tA p c i x).1+(tB p c i x).1≤1000000:=by
 have:=h i x;omega
theorem rcanC (p:Pg) (c:Cf) (i:Int) (hb:c.b.length<1000000) (hm:c.s.m.length<1000000) (hv:Sml p c):PureC Try.prog 36 [.agg (pgA p), .agg (cfA c), .int .i64 i] (.bool (cnV p c i)) []:=by
 unfold cnV
 have hO:=ropC p c i hb
 cases ho:opV p c i with
 |false=>rw [ho] at hO;exact PureC.vc (cn_x p c i hO)
 |true=>
  rw [ho] at hO
  obtain ⟨k,rfl,hk⟩:=opV_in ho
  rw [Bool.true_and,Int.toNat_natCast]
  cases hd:(c.b.getD k default).dn with
  |true=>exact PureC.vc (cn_d p c k hk hb hO hd)
  |false=>
   rw [Bool.not_false,Bool.true_and]
   have hT:=rtdC p c k (enX p c k) hb
   have ha:=hv.add k (enX p c k)
   unfold cnK
   by_cases k1:(enX p c k).kind=1
   ·rw [if_pos k1];exact PureC.vc (cn_1 p c k hk hb hO hd _ _ _ _ _ hT k1)
   rw [if_neg k1]
   by_cases k5:(enX p c k).kind=5
   ·rw [if_pos k5];exact PureC.vc (cn_5 p c k hk hb hO hd _ _ _ _ _ hT k1 k5)
   rw [if_neg k5]
   by_cases k4:(enX p c k).kind=4
   ·rw [if_pos k4]
    cases hab:tAB p c k (enX p c k) with
    |false=>rw [hab] at hT;exact PureC.vc (cn_4f p c k hk hb hO hd _ _ _ _ hT k1 k5 k4)
    |true=>rw [hab] at hT;rw [Bool.true_and];exact PureC.vc (cn_4t p c k hk hb hO hd _ _ _ _ hT k1 k5 k4)
   rw [if_neg k4]
   by_cases k2:(enX p c k).kind=2
   ·rw [if_pos k2]
    cases hab:tAB p c k (enX p c k) with
    |false=>rw [hab] at hT;exact PureC.vc (cn_2f p c k hk hb hO hd _ _ _ _ hT k1 k5 k4 k2 ha hm)
    |true=>
     rw [hab] at hT;rw [Bool.true_and]
     by_cases ho:(c.s.m.length:Int)≤adV p c k (enX p c k)
     ·rw [decide_eq_true ho,Bool.true_or];exact PureC.vc (cn_2o p c k hk hb hO hd _ _ _ _ hT k1 k5 k4 k2 ha hm ho)
     ·rw [decide_eq_false ho,Bool.false_or];exact PureC.vc (cn_2i p c k hk hb hO hd _ _ _ _ hT k1 k5 k4 k2 ha hm ho)
   rw [if_neg k2]
   by_cases k3:(enX p c k).kind=3
   ·rw [if_pos k3];exact PureC.vc (cn_3 p c k hk hb hO hd _ _ _ _ _ hT k1 k5 k4 k2 k3)
   rw [if_neg k3]
   by_cases k7:(enX p c k).kind=7
   ·rw [if_pos k7];exact PureC.vc (cn_7 p c k hk hb hO hd _ _ _ _ _ hT k1 k5 k4 k2 k3 k7)
   rw [if_neg k7];exact PureC.vc (cn_o p c k hk hb hO hd _ _ _ _ _ hT k1 k5 k4 k2 k3 k7)
theorem ca_x (p:Pg) (c:Cf) (i:Int) (hO:qM53 p c i):Vc (vcFn Try.prog false 37 [.agg (pgA p), .agg (cfA c), .int .i64 i] [.fv, .fv, .cl [.agg (pgA p), .agg (cfA c), .int .i64 i] (.bool false) []] [] (.bool false) []):=vc_by (zM50 p (zM56 p c (zM55 c (cj (rf i) (cj hO (cj (rf false) trivial)))))) (by kernel_rfl)
theorem ca_d (p:Pg) (c:Cf) (k:Nat) (hk:k<c.b.length) (hb:c.b.length<1000000) (hO:qM54 p c k) (hd:(c.b.getD k default).kn=true):Vc (vcFn Try.prog false 37 [.agg (pgA p), .agg (cfA c), .int .i64 k] [.fv, .fv,oM55 p c k, .b false, .b false, .b false, .b false, .b false, .b false, .b false, .b true] [] (.bool false) []):=vc_by (zM50 p (zM56 p c (zM55 c (cj (rf (k:Int)) (cj hO (zM58 (cj (bi (k:Int) (↑c.b.length:Int)) (zM57 (cj hd (cj (rf false) trivial)))))))))) (by kernel_rfl)
theorem ca_n (p:Pg) (c:Cf) (k:Nat) (hk:k<c.b.length) (hb:c.b.length<1000000) (hO:qM54 p c k) (hd:(c.b.getD k default).kn=false) (a b d:Int) (ab so:Bool) (hT:qM56 p c k a b d ab so) (k3: ¬(enX p c k).kind=3):Vc (vcFn Try.prog false 37 [.agg (pgA p), .agg (cfA c), .int .i64 k] [.fv, .fv,oM55 p c k, .b false, .b false, .b false, .b false, .b false, .b false, .b false, .b false,oM57 p c k,oM58 p c k a b d ab so, .bd false] [] (.bool false) []):=vc_by (zM50 p (zM56 p c (zM55 c (cj (rf (k:Int)) (cj hO (zM58 (cj (bi (k:Int) (↑c.b.length:Int)) (zM57 (cj hd (cj (bi (k:Int) (↑c.b.length:Int)) (zM50 p (zM510 p c k b (cj (ratC p (c.b.getD k default).pc) (zM50 p (zM56 p c (zM55 c (zM59 p c k a b d (cj (rf ((enX p c k).tg)) (cj hT (cj (beq_eq_false_iff_ne.2 k3) (cj (rf false) trivial))))))))))))))))))))) (by kernel_rfl)
theorem ca_y (p:Pg) (c:Cf) (k:Nat) (hk:k<c.b.length) (hb:c.b.length<1000000) (hO:qM54 p c k) (hd:(c.b.getD k default).kn=false) (a b d:Int) (ab so:Bool) (hT:qM56 p c k a b d ab so) (k3:(enX p c k).kind=3):Vc (vcFn Try.prog false 37 [.agg (pgA p), .agg (cfA c), .int .i64 k] [.fv, .fv,oM55 p c k, .b false, .b false, .b false, .b false, .b false, .b false, .b false, .b false,oM57 p c k,oM58 p c k a b d ab so, .bd true] [] (.bool ab) []):=vc_by (zM50 p (zM56 p c (zM55 c (cj (rf (k:Int)) (cj hO (zM58 (cj (bi (k:Int) (↑c.b.length:Int)) (zM57 (cj hd (cj (bi (k:Int) (↑c.b.length:Int)) (zM50 p (zM510 p c k b (cj (ratC p (c.b.getD k default).pc) (zM50 p (zM56 p c (zM55 c (zM59 p c k a b d (cj (rf ((enX p c k).tg)) (cj hT (cj (beq_iff_eq.2 k3) (cj (rf ab) trivial))))))))))))))))))))) (by kernel_rfl)
theorem rcaC (p:Pg) (c:Cf) (i:Int) (hb:c.b.length<1000000):PureC Try.prog 37 [.agg (pgA p), .agg (cfA c), .int .i64 i] (.bool (caV p c i)) []:=by
 unfold caV
 have hO:=ropC p c i hb
 cases ho:opV p c i with
 |false=>rw [ho] at hO;exact PureC.vc (ca_x p c i hO)
 |true=>
  rw [ho] at hO
  obtain ⟨k,rfl,hk⟩:=opV_in ho
  rw [Bool.true_and,Int.toNat_natCast]
  cases hd:(c.b.getD k default).kn with
  |true=>exact PureC.vc (ca_d p c k hk hb hO hd)
  |false=>
   rw [Bool.not_false,Bool.true_and]
   have hT:=rtdC p c k (enX p c k) hb
   by_cases k3:(enX p c k).kind=3
   ·rw [beq_iff_eq.2 k3,Bool.true_and];exact PureC.vc (ca_y p c k hk hb hO hd _ _ _ _ _ hT k3)
   ·rw [beq_eq_false_iff_ne.2 k3,Bool.false_and];exact PureC.vc (ca_n p c k hk hb hO hd _ _ _ _ _ hT k3)
theorem cr_e (p:Pg) (c:Cf) (h0: ¬c.e=0):Vc (vcFn Try.prog false 38 [.agg (pgA p), .agg (cfA c)] [.fv, .fv, .bd true] [] (.bool false) []):=vc_by (cj (bne_iff_ne.2 h0) (cj (rf false) trivial)) (by kernel_rfl)
theorem cr_n (p:Pg) (c:Cf) (h0:c.e=0) (hl:c.b.length=0):Vc (vcFn Try.prog false 38 [.agg (pgA p), .agg (cfA c)] [.fv, .fv, .bd false, .bd true] [] (.bool false) []):=vc_by (cj (bne_eq_false_iff_eq.2 h0) (cj (e1 (↑c.b.length:Int) 0) (cj (rf false) trivial))) (by kernel_rfl)
theorem zM512 (p:Pg) (c:Cf) {Z:Prop} (z:Z):(RF p.ls.length (RR p.ls.length 2 (fun i j=>rowL lbC p.ls i j) (RF p.is.length (RR p.is.length 9 (fun i j=>rowL inC p.is i j) (RF ((c.b.getD 0 default).pc) Z))))):=⟨rfl,fun _ _ _ _=>rfl,rfl,fun _ _ _ _=>rfl,rfl,z⟩
abbrev oM514 (p:Pg) (c:Cf):Orc:= .cl [.agg (pgA p), .int .i64 (c.b.getD 0 default).pc] (.agg (inA (enX p c 0))) []
theorem cr_t3 (p:Pg) (c:Cf) (h0:c.e=0) (hl: ¬c.b.length=0) (hd:(c.b.getD 0 default).dn=true) (k3:(enX p c 0).kind=3):Vc (vcFn Try.prog false 38 [.agg (pgA p), .agg (cfA c)] [.fv, .fv, .bd false, .bd false,oM514 p c, .b true, .b true, .b true, .bd false] [] (.bool (c.b.getD 0 default).kn) []):=vc_by (cj (bne_eq_false_iff_eq.2 h0) (cj (e0 (↑c.b.length:Int) 0) (cj (pv ((0:Int)≤0∧(0:Int)<(↑c.b.length:Int))) (zM50 p (zM512 p c (cj (ratC p (c.b.getD 0 default).pc) (cj hd (cj hd (cj hd (cj (bne_eq_false_iff_eq.2 k3) (cj (rf ((c.b.getD 0 default).kn)) trivial))))))))))) (by kernel_rfl)
theorem cr_tn (p:Pg) (c:Cf) (h0:c.e=0) (hl: ¬c.b.length=0) (hd:(c.b.getD 0 default).dn=true) (k3: ¬(enX p c 0).kind=3):Vc (vcFn Try.prog false 38 [.agg (pgA p), .agg (cfA c)] [.fv, .fv, .bd false, .bd false,oM514 p c, .b true, .b true, .b true, .bd true] [] (.bool true) []):=vc_by (cj (bne_eq_false_iff_eq.2 h0) (cj (e0 (↑c.b.length:Int) 0) (cj (pv ((0:Int)≤0∧(0:Int)<(↑c.b.length:Int))) (zM50 p (zM512 p c (cj (ratC p (c.b.getD 0 default).pc) (cj hd (cj hd (cj hd (cj (bne_iff_ne.2 k3) (cj (rf true) trivial))))))))))) (by kernel_rfl)
theorem cr_f10 (p:Pg) (c:Cf) (h0:c.e=0) (hl: ¬c.b.length=0) (hd:(c.b.getD 0 default).dn=false) (k10:(enX p c 0).kind=10) (k3: ¬(enX p c 0).kind=3):Vc (vcFn Try.prog false 38 [.agg (pgA p), .agg (cfA c)] [.fv, .fv, .bd false, .bd false,oM514 p c, .b false, .b false, .bd true, .b false, .bd true] [] (.bool true) []):=vc_by (cj (bne_eq_false_iff_eq.2 h0) (cj (e0 (↑c.b.length:Int) 0) (cj (pv ((0:Int)≤0∧(0:Int)<(↑c.b.length:Int))) (zM50 p (zM512 p c (cj (ratC p (c.b.getD 0 default).pc) (cj hd (cj hd (cj (e1 ((enX p c 0).kind) 10) (cj hd (cj (bne_iff_ne.2 k3) (cj (rf true) trivial)))))))))))) (by kernel_rfl)
theorem cr_fn (p:Pg) (c:Cf) (h0:c.e=0) (hl: ¬c.b.length=0) (hd:(c.b.getD 0 default).dn=false) (k10: ¬(enX p c 0).kind=10):Vc (vcFn Try.prog false 38 [.agg (pgA p), .agg (cfA c)] [.fv, .fv, .bd false, .bd false,oM514 p c, .b false, .b false, .bd false, .b false] [] (.bool false) []):=vc_by (cj (bne_eq_false_iff_eq.2 h0) (cj (e0 (↑c.b.length:Int) 0) (cj (pv ((0:Int)≤0∧(0:Int)<(↑c.b.length:Int))) (zM50 p (zM512 p c (cj (ratC p (c.b.getD 0 default).pc) (cj hd (cj hd (cj (e0 ((enX p c 0).kind) 10) (cj hd (cj (rf false) trivial))))))))))) (by kernel_rfl)
theorem rcrC (p:Pg) (c:Cf):PureC Try.prog 38 [.agg (pgA p), .agg (cfA c)] (.bool (crV p c)) []:=by
 by_cases h0:c.e=0
 ·by_cases hl:c.b.length=0
  ·have e:crV p c=false:=by unfold crV;rw [if_pos h0,List.eq_nil_of_length_eq_zero hl]
   rw [e];exact PureC.vc (cr_n p c h0 hl)
  ·have e:crV p c=crE p (c.b.getD 0 default) []:=by
    unfold crV;rw [if_pos h0]
    cases h:c.b with
    |nil=>exact absurd (by rw [h];rfl) hl
    |cons a l=>rfl
   rw [e]
   unfold crE
   show PureC _ _ _ (.bool (((c.b.getD 0 default).dn||(enX p c 0).kind==10)&&((enX p c 0).kind !=3||(c.b.getD 0 default).kn))) _
   cases hd:(c.b.getD 0 default).dn with
   |true=>
    rw [Bool.true_or,Bool.true_and]
    by_cases k3:(enX p c 0).kind=3
    ·rw [bne_eq_false_iff_eq.2 k3,Bool.false_or];exact PureC.vc (cr_t3 p c h0 hl hd k3)
    ·rw [bne_iff_ne.2 k3,Bool.true_or];exact PureC.vc (cr_tn p c h0 hl hd k3)
   |false=>
    rw [Bool.false_or]
    by_cases k10:(enX p c 0).kind=10
    ·have k3: ¬(enX p c 0).kind=3:=by omega
     rw [beq_iff_eq.2 k10,Bool.true_and,bne_iff_ne.2 k3,Bool.true_or];exact PureC.vc (cr_f10 p c h0 hl hd k10 k3)
    ·rw [beq_eq_false_iff_ne.2 k10,Bool.false_and];exact PureC.vc (cr_fn p c h0 hl hd k10)
 ·have e:crV p c=false:=by unfold crV;rw [if_neg h0]
  rw [e];exact PureC.vc (cr_e p c h0)
end
end Go.Proofs.Ytfjapapiappacaa.Px
namespace Go.Proofs.Ytfjapapiappacaa.Px
section
open Go.RowKit Go.Proofs.Ytfjapapiappacaa.Rx
theorem zM6a0 (p:Pg) {Z:Prop} (z:Z):(RF p.W (RF p.win (RF p.fuel (RF p.r0 (RF p.r1 (RF p.r2 (RF p.r3 (RF p.ms.length (RR p.ms.length 3 (fun i j=>rowL mmC p.ms i j) Z))))))))):=⟨rfl,rfl,rfl,rfl,rfl,rfl,rfl,rfl,fun _ _ _ _=>rfl,z⟩
theorem re_shr (p:Pg) (l:List En) (i:Int) (L:List Int) (N:Nat) (g:Nat→Nat→AV) (n:Nat) (hg: ∀ a,a<L.length→g a 0= .int .i64 (L.getD a 0)) (hN:L.length≤N):Vc ((vcShr 0 L.length (reS p l i L N g n) [(0,0)] (reS p l i L L.length (rowI L) n))):=vc_by (cj (pv (L.length≤N)) (cj (pv ((0:Nat)+L.length≤L.length)) (cj (rf L.length) (cj (show ∀ (i:Nat),i<L.length→ ∀ (j:Nat),j<1→g i j=aI (L.getD i 0) from (fun i hi j hj=>by obtain rfl:j=0:=(by omega);exact hg i hi)) (zM6a0 p (cj (rf p.ls.length) (cj (rr p.ls.length 2 fun i j=>rowL lbC p.ls i j) (cj (rf p.is.length) (cj (rr p.is.length 9 fun i j=>rowL inC p.is i j) (cj (rf l.length) (cj (rr l.length 8 fun i j=>rowL enC l i j) (cj (rf i) (cj (rf (0:Nat)) (cj (rf L.length) (cj (rf (n:Int)) (cj (rf false) trivial)))))))))))))))) (by kernel_rfl)
theorem real_o (p:Pg) (st:List Int) (l:List En) (i:Int) (L:List Int) (n:Nat) (hst:st.length≤1000000) (h:Ok Try.prog (ntOf Try.prog 68) (.loop (lpC Try.prog 68 0)) (reS p l i st st.length (rowI st) 0).st (.ext 0) (reS p l i L L.length (rowI L) n).st):Vc (vcFn Try.prog false 68 [.agg (pgA p),lR st,enR l, .int .i64 i] [.fz, .lp [(0,1)] (reS p l i st st.length (rowI st) 0) (.ext 0) (reS p l i L L.length (rowI L) n)] [(0,0)] (.tup [.own 0 0 1 0 L.length, .bool true]) (intB [(3,L)])):=vc_by (cj (ap 0 st.length 8) (cj (za st.length) (cj (rr (0+st.length) 1 fun i j=>aI (st.getD i 0)) (zM6a0 p (cj (rf p.ls.length) (cj (rr p.ls.length 2 fun i j=>rowL lbC p.ls i j) (cj (rf p.is.length) (cj (rr p.is.length 9 fun i j=>rowL inC p.is i j) (cj (rf l.length) (cj (rr l.length 8 fun i j=>rowL enC l i j) (cj (rf i) (cj (rf (0:Nat)) (cj (za st.length) (cj (rf (0:Int)) (cj (rf false) (cj h (cj (rf L.length) (cj (rr L.length 1 fun i j=>aI (L.getD i 0)) (cj (rf (0:Nat)) (cj (rf L.length) (cj (rf true) trivial))))))))))))))))))))) (by kernel_rfl)
theorem rrealO (p:Pg) (st:List Int) (l:List En) (i:Int) (L:List Int) (hb:l.length<900000) (hst:st.length≤1000) (hpc: ∀ e∈l, -1≤e.pc∧e.pc≤1000000) (h:reV p st l i=some L):PureC Try.prog 68 [.agg (pgA p),lR st,enR l, .int .i64 i] (.tup [.own 0 0 1 0 L.length, .bool true]) (intB [(3,L)]):=by
 have hle:=cl0_le i l.length
 obtain ⟨N',g',q1,q2,q3⟩:=re_some p l i L (by omega) hpc _ 0 st st.length (rowI st) (by omega) ⟨Nat.le_refl _,fun a _=>rfl⟩ (by omega) h
 exact PureC.vc (real_o p st l i L _ (by omega) (Ok.shr q3.ok (re_shr p l i L N' g' _ q1.2 q1.1)))
end
end Go.Proofs.Ytfjapapiappacaa.Px
