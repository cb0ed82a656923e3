/- Merged: M6b, M6c, M7, M8, M9, M10, M11, I1, I2, I3, M12. -/
import Derived.Test.YtgcedepjlgfcjaaMbE
import Derived.Test.YtgcedepjlgfcjaaMbD
set_option linter.unusedVariables false
set_option linter.unusedSimpArgs false
set_option maxRecDepth 100000
namespace Go.Proofs.Ytgcedepjlgfcjaa.Px
section
open Go.RowKit Go.Proofs.Ytgcedepjlgfcjaa.Rx
theorem sM6b0 (c : Cf) (k : Nat) (hk : k < c.b.length) : ∀ (i : Nat), i < 0 + c.b.length → ∀ (j : Nat), j < 8 → (bif Nat.ble (5 : Nat) j && Nat.blt j (6 : Nat) && Nat.beq (i + 0) (k + 0) then List.getD [AV.bool true] (j - 5) AV.junk else bif Nat.blt (i + 0) (0 : Nat) then AV.junk else rowL enC c.b (i + 0 - 0) j) = rowL enC (List.set c.b k (En.done (c.b.getD k default))) i j := (fun i hi j hj => by cases hq : Nat.beq (i + 0) (k + 0) with | true => obtain rfl := beq0 hq; rw [rs_same hk]; exact (match j, hj with | 0, _ => rfl | 1, _ => rfl | 2, _ => rfl | 3, _ => rfl | 4, _ => rfl | 5, _ => rfl | 6, _ => rfl | 7, _ => rfl) | false => rw [rs_ne hq]; exact (match j, hj with | 0, _ => rfl | 1, _ => rfl | 2, _ => rfl | 3, _ => rfl | 4, _ => rfl | 5, _ => rfl | 6, _ => rfl | 7, _ => rfl))
theorem sM6b1 (c : Cf) (k : Nat) (hk : k < c.b.length) : ∀ (i : Nat), i < 0 + c.b.length → ∀ (j : Nat), j < 8 → (bif Nat.ble (5 : Nat) j && Nat.blt j (6 : Nat) && Nat.beq i (k + 0) then List.getD [AV.bool true] (j - 5) AV.junk else bif Nat.blt i (0 : Nat) then AV.junk else rowL enC c.b (i - 0) j) = rowL enC (List.set c.b k (En.done (c.b.getD k default))) i j := (fun i hi j hj => by cases hq : Nat.beq i (k + 0) with | true => obtain rfl := beq0 (i := i) hq; rw [rs_same hk]; exact (match j, hj with | 0, _ => rfl | 1, _ => rfl | 2, _ => rfl | 3, _ => rfl | 4, _ => rfl | 5, _ => rfl | 6, _ => rfl | 7, _ => rfl) | false => rw [rs_ne (i := i) hq]; exact (match j, hj with | 0, _ => rfl | 1, _ => rfl | 2, _ => rfl | 3, _ => rfl | 4, _ => rfl | 5, _ => rfl | 6, _ => rfl | 7, _ => rfl))
theorem zM6b0 (c : Cf) {Z : Prop} (z : Z) : (RF c.s.r0 (RF c.s.r1 (RF c.s.r2 (RF c.s.r3 (RF c.s.m.length (RR c.s.m.length 1 (fun i j => aI (List.getD c.s.m i (0 : Int))) (RF c.s.st.length (RR c.s.st.length 1 (fun i j => aI (List.getD c.s.st i (0 : Int))) (RF c.s.pc Z))))))))) := ⟨rfl, rfl, rfl, rfl, rfl, fun _ _ _ _ => rfl, rfl, fun _ _ _ _ => rfl, rfl, z⟩
theorem zM6b1 (p : Pg) (c : Cf) (k : Nat) (a : Int) (b : Int) {Z : Prop} (z : Z) : (RF p.W (RF ((enX p c k).op) (RF a (RF b Z)))) := ⟨rfl, rfl, rfl, rfl, z⟩
theorem zM6b2 (p : Pg) (c : Cf) (k : Nat) (b : Int) {Z : Prop} (z : Z) : (RF ((enX p c k).b.reg) (RF ((enX p c k).b.n) (RF ((enX p c k).nm) (RF ((enX p c k).tg) Z)))) := ⟨rfl, rfl, rfl, rfl, z⟩
theorem zM6b3 (p : Pg) (c : Cf) (k : Nat) (a : Int) (d : Int) {Z : Prop} (z : Z) : (RF c.r.length (RR c.r.length 1 (fun i j => aI (c.r.getD i 0)) (RF c.e (RF (k : Int) (RF ((enX p c k).kind) (RF ((enX p c k).op) (RF ((enX p c k).d) (RF ((enX p c k).a.reg) (RF ((enX p c k).a.n) Z))))))))) := ⟨rfl, fun _ _ _ _ => rfl, rfl, rfl, rfl, rfl, rfl, rfl, rfl, z⟩
theorem zM6b4 (c : Cf) {Z : Prop} (z : Z) : (RR c.s.m.length 1 (fun i j => aI (List.getD c.s.m i (0 : Int))) (RF c.s.st.length (RR c.s.st.length 1 (fun i j => aI (List.getD c.s.st i (0 : Int))) (RF c.s.pc Z)))) := ⟨fun _ _ _ _ => rfl, rfl, fun _ _ _ _ => rfl, rfl, z⟩
theorem zM6b5 (p : Pg) (c : Cf) {Z : Prop} (z : Z) : (RF p.ls.length (RR p.ls.length 2 (fun i j => rowL lbC p.ls i j) (RF p.is.length (RR p.is.length 9 (fun i j => rowL inC p.is i j) (RF c.s.r0 (RF c.s.r1 (RF c.s.r2 (RF c.s.r3 (RF c.s.m.length Z))))))))) := ⟨rfl, fun _ _ _ _ => rfl, rfl, fun _ _ _ _ => rfl, rfl, rfl, rfl, rfl, rfl, z⟩
theorem zM6b6 (p : Pg) {Z : Prop} (z : Z) : (RF p.W (RF p.win (RF p.fuel (RF p.r0 (RF p.r1 (RF p.r2 (RF p.r3 (RF p.ms.length (RR p.ms.length 3 (fun i j => rowL mmC p.ms i j) Z))))))))) := ⟨rfl, rfl, rfl, rfl, rfl, rfl, rfl, rfl, fun _ _ _ _ => rfl, z⟩
theorem zM6b7 (p : Pg) (c : Cf) (k : Nat) (b : Int) {Z : Prop} (z : Z) : (RF p.ls.length (RR p.ls.length 2 (fun i j => rowL lbC p.ls i j) (RF p.is.length (RR p.is.length 9 (fun i j => rowL inC p.is i j) (RF ((c.b.getD k default).pc) Z))))) := ⟨rfl, fun _ _ _ _ => rfl, rfl, fun _ _ _ _ => rfl, rfl, z⟩
theorem zM6b8 (c : Cf) (b : Int) {Z : Prop} (z : Z) : (RR c.s.m.length 1 (fun i j => aI (List.getD c.s.m i (0 : Int))) (RF c.s.st.length (RR c.s.st.length 1 (fun i j => aI (List.getD c.s.st i (0 : Int))) (RF c.s.pc (RF c.b.length (RR c.b.length 8 (fun i j => rowL enC c.b i j) (RF c.r.length (RR c.r.length 1 (fun i j => aI (c.r.getD i 0)) (RF c.e Z))))))))) := ⟨fun _ _ _ _ => rfl, rfl, fun _ _ _ _ => rfl, rfl, rfl, fun _ _ _ _ => rfl, rfl, fun _ _ _ _ => rfl, rfl, z⟩
abbrev qM6b1 (p : Pg) (c : Cf) (k : Nat) (a : Int) (b : Int) (d : Int) (ab : Bool) (so : Bool) : Prop := PureC Try.prog 48 [.agg (pgA p), .agg (cfA (upE c k En.done)), .int .i64 k, .agg (inA (enX p c k))] (.tup [.int .i64 a, .int .i64 b, .int .i64 d, .bool ab, .bool so]) []
abbrev qM6b0 (p : Pg) (c : Cf) (k : Nat) : Prop := PureC Try.prog 38 [.agg (pgA p), .agg (cfA c), .int .i64 k] (.bool true) []
abbrev oM6b5 (p : Pg) (c : Cf) (k : Nat) (a : Int) (b : Int) : Orc := .cl [.int .i64 p.W, .int .i64 (enX p c k).op, .int .i64 a, .int .i64 b] (.tup [.int .i64 (Wd.doV p.W (enX p c k).op a b), .bool (Wd.doB p.W (enX p c k).op)]) []
abbrev oM6b4 (p : Pg) (c : Cf) (k : Nat) (a : Int) (b : Int) (d : Int) (ab : Bool) (so : Bool) : Orc := .cp [.agg (pgA p), .agg (cfA (upE c k En.done)), .int .i64 k, .agg (inA (enX p c k))] (.tup [.int .i64 a, .int .i64 b, .int .i64 d, .bool ab, .bool so])
abbrev oM6b3 (p : Pg) (c : Cf) (k : Nat) : Orc := .cl [.agg (pgA p), .int .i64 (c.b.getD k default).pc] (.agg (inA (enX p c k))) []
abbrev oM6b2 (p : Pg) (c : Cf) (k : Nat) : Orc := .cl [.agg (pgA p), .agg (cfA c), .int .i64 k] (.bool true) []
theorem dm_5t (p : Pg) (c : Cf) (k : Nat) (hk : k < c.b.length) (hb : c.b.length < 900000) (a b d : Int) (ab so : Bool) (hC : qM6b0 p c k) (hT : qM6b1 p c k a b d ab so) (hp : -1 ≤ (c.b.getD k default).pc ∧ (c.b.getD k default).pc ≤ 1000000) (hz : (Wd.doV p.W (enX p c k).op a b) ≠ 0) (k1 : ¬ (enX p c k).kind = 1) (k4 : ¬ (enX p c k).kind = 4) (k3 : ¬ (enX p c k).kind = 3) (k2 : ¬ (enX p c k).kind = 2) (k5 : (enX p c k).kind = 5) : Vc (vcFn Try.prog false 42 [.agg (pgA p), .agg (cfA c), .int .i64 k] [.fv, oM6b2 p c k, oM6b3 p c k, oM6b4 p c k a b d ab so, .bd false, .bd false, .bd false, .bd false, .bd true, oM6b5 p c k a b, .bd true, .cm [.agg (cfO (upE c k En.done) (enO (c.b.set k (c.b.getD k default).done))), .int .i64 k, .int .i64 (enX p c k).tg] [enB (c.b.set k (c.b.getD k default).done)] [(0, 2)] (.tup [.agg (cfA (goV (upE c k En.done) k (enX p c k).tg)), (obR [⟨3, (enX p c k).tg⟩])]) []] [] (.tup [.agg (cfA (goV (upE c k En.done) k (enX p c k).tg)), (obR [⟨3, (enX p c k).tg⟩]), .bool true]) []) := vc_by (zM6b6 p (zM6b5 p c (zM6b8 c b (cj (rf (k : Int)) (cj hC (cj (ap 0 c.b.length 48) (cj (bi (k : Int) (↑((0 : Nat) + c.b.length) : Int)) (cj (lz k c.b.length) (cj (lz k c.b.length) (zM6b6 p (zM6b7 p c k b (cj (ratC p (c.b.getD k default).pc) (zM6b6 p (zM6b5 p c (zM6b4 c (cj (pv ((0 : Nat) + c.b.length = (List.set c.b k (En.done (c.b.getD k default))).length)) (cj (sM6b0 c k hk) (zM6b3 p c k a d (zM6b2 p c k b (cj hT (cj (beq_eq_false_iff_ne.2 k1) (cj (beq_eq_false_iff_ne.2 k4) (cj (beq_eq_false_iff_ne.2 k3) (cj (beq_eq_false_iff_ne.2 k2) (cj (beq_iff_eq.2 k5) (cj (lz k c.b.length) (cj (show inK IntKind.i64 ((c.b.getD (k + 0 - 0) default).pc + 1) from by simp only [Nat.add_zero, Nat.sub_zero]; exact in64 (by omega) (by omega)) (zM6b1 p c k a b (cj (rdoC p.W (enX p c k).op a b) (cj (bne_iff_ne.2 hz) (cj (pv ((0 : Nat) + c.b.length = (List.set c.b k (En.done (c.b.getD k default))).length)) (cj (sM6b1 c k hk) (zM6b0 c (cj (rf (0 : Nat)) (cj (pv ((0 : Nat) + c.b.length = (List.set c.b k (En.done (c.b.getD k default))).length)) (cj (rf c.r.length) (cj (rr c.r.length 1 fun i j => aI (c.r.getD i 0)) (cj (rf c.e) (cj (rf (k : Int)) (cj (rf ((enX p c k).tg)) (cj (show MutC Try.prog 52 [.agg (cfO (upE c k En.done) (enO (c.b.set k (c.b.getD k default).done))), .int .i64 k, .int .i64 (enX p c k).tg] [enB (c.b.set k (c.b.getD k default).done)] (.tup [.agg (cfA (goV (upE c k En.done) k (enX p c k).tg)), (obR [⟨3, (enX p c k).tg⟩])]) [] from goesC (upE c k En.done) k (enX p c k).tg (by show k < (List.set _ _ _).length; rw [List.length_set]; exact hk) (by show (List.set _ _ _).length < _; rw [List.length_set]; omega)) (cj (rf (((goV (upE c k En.done) k (enX p c k).tg).s).r0)) (cj (rf (((goV (upE c k En.done) k (enX p c k).tg).s).r1)) (cj (rf (((goV (upE c k En.done) k (enX p c k).tg).s).r2)) (cj (rf (((goV (upE c k En.done) k (enX p c k).tg).s).r3)) (cj (rf ((((goV (upE c k En.done) k (enX p c k).tg).s).m).length)) (cj (rr ((((goV (upE c k En.done) k (enX p c k).tg).s).m).length) 1 fun i j => aI (List.getD (((goV (upE c k En.done) k (enX p c k).tg).s).m) i (0 : Int))) (cj (rf ((((goV (upE c k En.done) k (enX p c k).tg).s).st).length)) (cj (rr ((((goV (upE c k En.done) k (enX p c k).tg).s).st).length) 1 fun i j => aI (List.getD (((goV (upE c k En.done) k (enX p c k).tg).s).st) i (0 : Int))) (cj (rf (((goV (upE c k En.done) k (enX p c k).tg).s).pc)) (cj (rf (((goV (upE c k En.done) k (enX p c k).tg).b).length)) (cj (rr (((goV (upE c k En.done) k (enX p c k).tg).b).length) 8 fun i j => rowL enC ((goV (upE c k En.done) k (enX p c k).tg).b) i j) (cj (rf (((goV (upE c k En.done) k (enX p c k).tg).r).length)) (cj (rr (((goV (upE c k En.done) k (enX p c k).tg).r).length) 1 fun i j => aI (List.getD ((goV (upE c k En.done) k (enX p c k).tg).r) i (0 : Int))) (cj (rf ((goV (upE c k En.done) k (enX p c k).tg).e)) (cj (rf (1 : Nat)) (cj (rr 1 2 fun i j => rowL obC [Ob.mk (3 : Int) (enX p c k).tg] i j) (cj (rf true) trivial)))))))))))))))))))))))))))))))))))))))))))))))))))))))))) (by kernel_rfl)
theorem zM6b9 (c : Cf) (k : Nat) {Z : Prop} (z : Z) : (RF c.r.length (RR c.r.length 1 (fun i j => aI (c.r.getD i 0)) (RF c.e (RF (k : Int) Z)))) := ⟨rfl, fun _ _ _ _ => rfl, rfl, rfl, z⟩
theorem dm_5f (p : Pg) (c : Cf) (k : Nat) (hk : k < c.b.length) (hb : c.b.length < 900000) (a b d : Int) (ab so : Bool) (hC : qM6b0 p c k) (hT : qM6b1 p c k a b d ab so) (hp : -1 ≤ (c.b.getD k default).pc ∧ (c.b.getD k default).pc ≤ 1000000) (hz : (Wd.doV p.W (enX p c k).op a b) = 0) (k1 : ¬ (enX p c k).kind = 1) (k4 : ¬ (enX p c k).kind = 4) (k3 : ¬ (enX p c k).kind = 3) (k2 : ¬ (enX p c k).kind = 2) (k5 : (enX p c k).kind = 5) : Vc (vcFn Try.prog false 42 [.agg (pgA p), .agg (cfA c), .int .i64 k] [.fv, oM6b2 p c k, oM6b3 p c k, oM6b4 p c k a b d ab so, .bd false, .bd false, .bd false, .bd false, .bd true, oM6b5 p c k a b, .bd false, .cm [.agg (cfO (upE c k En.done) (enO (c.b.set k (c.b.getD k default).done))), .int .i64 k, .int .i64 ((c.b.getD k default).pc + 1)] [enB (c.b.set k (c.b.getD k default).done)] [(0, 2)] (.tup [.agg (cfA (goV (upE c k En.done) k ((c.b.getD k default).pc + 1))), (obR [⟨3, ((c.b.getD k default).pc + 1)⟩])]) []] [] (.tup [.agg (cfA (goV (upE c k En.done) k ((c.b.getD k default).pc + 1))), (obR [⟨3, ((c.b.getD k default).pc + 1)⟩]), .bool true]) []) := vc_by (zM6b6 p (zM6b5 p c (zM6b8 c b (cj (rf (k : Int)) (cj hC (cj (ap 0 c.b.length 48) (cj (bi (k : Int) (↑((0 : Nat) + c.b.length) : Int)) (cj (lz k c.b.length) (cj (lz k c.b.length) (zM6b6 p (zM6b7 p c k b (cj (ratC p (c.b.getD k default).pc) (zM6b6 p (zM6b5 p c (zM6b4 c (cj (pv ((0 : Nat) + c.b.length = (List.set c.b k (En.done (c.b.getD k default))).length)) (cj (sM6b0 c k hk) (zM6b3 p c k a d (zM6b2 p c k b (cj hT (cj (beq_eq_false_iff_ne.2 k1) (cj (beq_eq_false_iff_ne.2 k4) (cj (beq_eq_false_iff_ne.2 k3) (cj (beq_eq_false_iff_ne.2 k2) (cj (beq_iff_eq.2 k5) (cj (lz k c.b.length) (cj (show inK IntKind.i64 ((c.b.getD (k + 0 - 0) default).pc + 1) from by simp only [Nat.add_zero, Nat.sub_zero]; exact in64 (by omega) (by omega)) (zM6b1 p c k a b (cj (rdoC p.W (enX p c k).op a b) (cj (bne_eq_false_iff_eq.2 hz) (cj (pv ((0 : Nat) + c.b.length = (List.set c.b k (En.done (c.b.getD k default))).length)) (cj (sM6b1 c k hk) (zM6b0 c (cj (rf (0 : Nat)) (cj (pv ((0 : Nat) + c.b.length = (List.set c.b k (En.done (c.b.getD k default))).length)) (zM6b9 c k (cj (rf ((c.b.getD k default).pc + 1)) (cj (show MutC Try.prog 52 [.agg (cfO (upE c k En.done) (enO (c.b.set k (c.b.getD k default).done))), .int .i64 k, .int .i64 ((c.b.getD k default).pc + 1)] [enB (c.b.set k (c.b.getD k default).done)] (.tup [.agg (cfA (goV (upE c k En.done) k ((c.b.getD k default).pc + 1))), (obR [⟨3, ((c.b.getD k default).pc + 1)⟩])]) [] from goesC (upE c k En.done) k ((c.b.getD k default).pc + 1) (by show k < (List.set _ _ _).length; rw [List.length_set]; exact hk) (by show (List.set _ _ _).length < _; rw [List.length_set]; omega)) (cj (rf (((goV (upE c k En.done) k ((c.b.getD k default).pc + 1)).s).r0)) (cj (rf (((goV (upE c k En.done) k ((c.b.getD k default).pc + 1)).s).r1)) (cj (rf (((goV (upE c k En.done) k ((c.b.getD k default).pc + 1)).s).r2)) (cj (rf (((goV (upE c k En.done) k ((c.b.getD k default).pc + 1)).s).r3)) (cj (rf ((((goV (upE c k En.done) k ((c.b.getD k default).pc + 1)).s).m).length)) (cj (rr ((((goV (upE c k En.done) k ((c.b.getD k default).pc + 1)).s).m).length) 1 fun i j => aI (List.getD (((goV (upE c k En.done) k ((c.b.getD k default).pc + 1)).s).m) i (0 : Int))) (cj (rf ((((goV (upE c k En.done) k ((c.b.getD k default).pc + 1)).s).st).length)) (cj (rr ((((goV (upE c k En.done) k ((c.b.getD k default).pc + 1)).s).st).length) 1 fun i j => aI (List.getD (((goV (upE c k En.done) k ((c.b.getD k default).pc + 1)).s).st) i (0 : Int))) (cj (rf (((goV (upE c k En.done) k ((c.b.getD k default).pc + 1)).s).pc)) (cj (rf (((goV (upE c k En.done) k ((c.b.getD k default).pc + 1)).b).length)) (cj (rr (((goV (upE c k En.done) k ((c.b.getD k default).pc + 1)).b).length) 8 fun i j => rowL enC ((goV (upE c k En.done) k ((c.b.getD k default).pc + 1)).b) i j) (cj (rf (((goV (upE c k En.done) k ((c.b.getD k default).pc + 1)).r).length)) (cj (rr (((goV (upE c k En.done) k ((c.b.getD k default).pc + 1)).r).length) 1 fun i j => aI (List.getD ((goV (upE c k En.done) k ((c.b.getD k default).pc + 1)).r) i (0 : Int))) (cj (rf ((goV (upE c k En.done) k ((c.b.getD k default).pc + 1)).e)) (cj (rf (1 : Nat)) (cj (rr 1 2 fun i j => rowL obC [Ob.mk (3 : Int) ((c.b.getD k default).pc + 1)] i j) (cj (rf true) trivial))))))))))))))))))))))))))))))))))))))))))))))))))))))) (by kernel_rfl)
theorem dm_7 (p : Pg) (c : Cf) (k : Nat) (hk : k < c.b.length) (hb : c.b.length < 900000) (a b d : Int) (ab so : Bool) (hC : qM6b0 p c k) (hT : qM6b1 p c k a b d ab so) (k1 : ¬ (enX p c k).kind = 1) (k4 : ¬ (enX p c k).kind = 4) (k3 : ¬ (enX p c k).kind = 3) (k2 : ¬ (enX p c k).kind = 2) (k5 : ¬ (enX p c k).kind = 5) (k7 : (enX p c k).kind = 7) : Vc (vcFn Try.prog false 42 [.agg (pgA p), .agg (cfA c), .int .i64 k] [.fv, oM6b2 p c k, oM6b3 p c k, oM6b4 p c k a b d ab so, .bd false, .bd false, .bd false, .bd false, .bd false, .bd true, .cl [.agg (pgA p), .int .i64 a] (.int .i64 (jmpV p a)) [], .cm [.agg (cfO (upE c k En.done) (enO (c.b.set k (c.b.getD k default).done))), .int .i64 k, .int .i64 (jmpV p a)] [enB (c.b.set k (c.b.getD k default).done)] [(0, 2)] (.tup [.agg (cfA (goV (upE c k En.done) k (jmpV p a))), (obR [⟨3, (jmpV p a)⟩])]) []] [] (.tup [.agg (cfA (goV (upE c k En.done) k (jmpV p a))), (obR [⟨3, (jmpV p a)⟩]), .bool true]) []) := vc_by (zM6b6 p (zM6b5 p c (zM6b8 c b (cj (rf (k : Int)) (cj hC (cj (ap 0 c.b.length 48) (cj (bi (k : Int) (↑((0 : Nat) + c.b.length) : Int)) (cj (lz k c.b.length) (cj (lz k c.b.length) (zM6b6 p (zM6b7 p c k b (cj (ratC p (c.b.getD k default).pc) (zM6b6 p (zM6b5 p c (zM6b4 c (cj (pv ((0 : Nat) + c.b.length = (List.set c.b k (En.done (c.b.getD k default))).length)) (cj (sM6b0 c k hk) (zM6b3 p c k a d (zM6b2 p c k b (cj hT (cj (beq_eq_false_iff_ne.2 k1) (cj (beq_eq_false_iff_ne.2 k4) (cj (beq_eq_false_iff_ne.2 k3) (cj (beq_eq_false_iff_ne.2 k2) (cj (beq_eq_false_iff_ne.2 k5) (cj (beq_iff_eq.2 k7) (zM6b6 p (cj (rf p.ls.length) (cj (rr p.ls.length 2 fun i j => rowL lbC p.ls i j) (cj (rf p.is.length) (cj (rr p.is.length 9 fun i j => rowL inC p.is i j) (cj (rf a) (cj (rjmpC p a) (cj (pv ((0 : Nat) + c.b.length = (List.set c.b k (En.done (c.b.getD k default))).length)) (cj (sM6b1 c k hk) (zM6b0 c (cj (rf (0 : Nat)) (cj (pv ((0 : Nat) + c.b.length = (List.set c.b k (En.done (c.b.getD k default))).length)) (zM6b9 c k (cj (rf (jmpV p a)) (cj (show MutC Try.prog 52 [.agg (cfO (upE c k En.done) (enO (c.b.set k (c.b.getD k default).done))), .int .i64 k, .int .i64 (jmpV p a)] [enB (c.b.set k (c.b.getD k default).done)] (.tup [.agg (cfA (goV (upE c k En.done) k (jmpV p a))), (obR [⟨3, (jmpV p a)⟩])]) [] from goesC (upE c k En.done) k (jmpV p a) (by show k < (List.set _ _ _).length; rw [List.length_set]; exact hk) (by show (List.set _ _ _).length < _; rw [List.length_set]; omega)) (cj (rf ((goV (upE c k En.done) k (jmpV p a)).s.r0)) (cj (rf ((goV (upE c k En.done) k (jmpV p a)).s.r1)) (cj (rf ((goV (upE c k En.done) k (jmpV p a)).s.r2)) (cj (rf ((goV (upE c k En.done) k (jmpV p a)).s.r3)) (cj (rf (((goV (upE c k En.done) k (jmpV p a)).s.m).length)) (cj (rr (((goV (upE c k En.done) k (jmpV p a)).s.m).length) 1 fun i j => aI (List.getD ((goV (upE c k En.done) k (jmpV p a)).s.m) i (0 : Int))) (cj (rf (((goV (upE c k En.done) k (jmpV p a)).s.st).length)) (cj (rr (((goV (upE c k En.done) k (jmpV p a)).s.st).length) 1 fun i j => aI (List.getD ((goV (upE c k En.done) k (jmpV p a)).s.st) i (0 : Int))) (cj (rf ((goV (upE c k En.done) k (jmpV p a)).s.pc)) (cj (rf ((goV (upE c k En.done) k (jmpV p a)).b.length)) (cj (rr ((goV (upE c k En.done) k (jmpV p a)).b.length) 8 fun i j => rowL enC (goV (upE c k En.done) k (jmpV p a)).b i j) (cj (rf ((goV (upE c k En.done) k (jmpV p a)).r.length)) (cj (rr ((goV (upE c k En.done) k (jmpV p a)).r.length) 1 fun i j => aI (List.getD (goV (upE c k En.done) k (jmpV p a)).r i (0 : Int))) (cj (rf ((goV (upE c k En.done) k (jmpV p a)).e)) (cj (rf (1 : Nat)) (cj (rr 1 2 fun i j => rowL obC [Ob.mk (3 : Int) (jmpV p a)] i j) (cj (rf true) trivial)))))))))))))))))))))))))))))))))))))))))))))))))))))))))) (by kernel_rfl)
theorem sM6b2 (c : Cf) (k : Nat) (hk : k < c.b.length) : ∀ (i : Nat), i < 0 + c.b.length → ∀ (j : Nat), j < 8 → (bif Nat.ble (7 : Nat) j && Nat.blt j (8 : Nat) && Nat.beq (i + 0) (k + 0) then List.getD [AV.bool true] (j - 7) AV.junk else bif Nat.ble (5 : Nat) j && Nat.blt j (6 : Nat) && Nat.beq (i + 0) (k + 0) then List.getD [AV.bool true] (j - 5) AV.junk else bif Nat.blt (i + 0) (0 : Nat) then AV.junk else rowL enC c.b (i + 0 - 0) j) = rowL enC (List.set c.b k (En.flt (En.done (c.b.getD k default)))) i j := (fun i hi j hj => by cases hq : Nat.beq (i + 0) (k + 0) with | true => obtain rfl := beq0 hq; rw [rs_same hk]; exact (match j, hj with | 0, _ => rfl | 1, _ => rfl | 2, _ => rfl | 3, _ => rfl | 4, _ => rfl | 5, _ => rfl | 6, _ => rfl | 7, _ => rfl) | false => rw [rs_ne hq]; exact (match j, hj with | 0, _ => rfl | 1, _ => rfl | 2, _ => rfl | 3, _ => rfl | 4, _ => rfl | 5, _ => rfl | 6, _ => rfl | 7, _ => rfl))
theorem zM6b10 (c : Cf) {Z : Prop} (z : Z) : (RF c.r.length (RR c.r.length 1 (fun i j => aI (c.r.getD i 0)) (RF c.e (RF true Z)))) := ⟨rfl, fun _ _ _ _ => rfl, rfl, rfl, z⟩
theorem zM6b11 (p : Pg) (c : Cf) {Z : Prop} (z : Z) : (RF p.ls.length (RR p.ls.length 2 (fun i j => rowL lbC p.ls i j) (RF p.is.length (RR p.is.length 9 (fun i j => rowL inC p.is i j) (RF c.s.st.length (RR c.s.st.length 1 (fun i j => aI (List.getD c.s.st i (0 : Int))) Z)))))) := ⟨rfl, fun _ _ _ _ => rfl, rfl, fun _ _ _ _ => rfl, rfl, fun _ _ _ _ => rfl, z⟩
theorem dm_9n (p : Pg) (c : Cf) (k : Nat) (hk : k < c.b.length) (hb : c.b.length < 900000) (a b d : Int) (ab so : Bool) (hC : qM6b0 p c k) (hT : qM6b1 p c k a b d ab so) (hst : c.s.st.length ≤ 1000) (hbp : ∀ e ∈ (c.b.set k (c.b.getD k default).done), -1 ≤ e.pc ∧ e.pc ≤ 1000000) (hv : reV p c.s.st (c.b.set k (c.b.getD k default).done) k = none) (k1 : ¬ (enX p c k).kind = 1) (k4 : ¬ (enX p c k).kind = 4) (k3 : ¬ (enX p c k).kind = 3) (k2 : ¬ (enX p c k).kind = 2) (k5 : ¬ (enX p c k).kind = 5) (k7 : ¬ (enX p c k).kind = 7) (k9 : (enX p c k).kind = 9) : Vc (vcFn Try.prog false 42 [.agg (pgA p), .agg (cfA c), .int .i64 k] [.fv, oM6b2 p c k, oM6b3 p c k, oM6b4 p c k a b d ab so, .bd false, .bd false, .bd false, .bd false, .bd false, .bd false, .bd true, .cp [.agg (pgA p), lR c.s.st, enR (c.b.set k (c.b.getD k default).done), .int .i64 k] (.tup [.nils, .bool false])] [] (.tup [.agg (cfA (upE c k fun e => e.done.flt)), .nils, .bool true]) []) := vc_by (zM6b6 p (zM6b5 p c (zM6b8 c b (cj (rf (k : Int)) (cj hC (cj (ap 0 c.b.length 48) (cj (bi (k : Int) (↑((0 : Nat) + c.b.length) : Int)) (cj (lz k c.b.length) (cj (lz k c.b.length) (zM6b6 p (zM6b7 p c k b (cj (ratC p (c.b.getD k default).pc) (zM6b6 p (zM6b5 p c (zM6b4 c (cj (pv ((0 : Nat) + c.b.length = (List.set c.b k (En.done (c.b.getD k default))).length)) (cj (sM6b0 c k hk) (zM6b3 p c k a d (zM6b2 p c k b (cj hT (cj (beq_eq_false_iff_ne.2 k1) (cj (beq_eq_false_iff_ne.2 k4) (cj (beq_eq_false_iff_ne.2 k3) (cj (beq_eq_false_iff_ne.2 k2) (cj (beq_eq_false_iff_ne.2 k5) (cj (beq_eq_false_iff_ne.2 k7) (cj (beq_iff_eq.2 k9) (zM6b6 p (zM6b11 p c (cj (pv ((0 : Nat) + c.b.length = (List.set c.b k (En.done (c.b.getD k default))).length)) (cj (sM6b0 c k hk) (cj (rf (k : Int)) (cj (rrealC_n p c.s.st (c.b.set k (c.b.getD k default).done) k (by rw [List.length_set]; omega) hst hbp hv) (cj (lz k c.b.length) (zM6b0 c (cj (pv ((0 : Nat) + c.b.length = (List.set c.b k (En.flt (En.done (c.b.getD k default)))).length)) (cj (sM6b2 c k hk) (zM6b10 c trivial)))))))))))))))))))))))))))))))))))))) (by kernel_rfl)
abbrev oM6b6 (p : Pg) (c : Cf) (k : Nat) (L : List Int) : Orc := .cq [.agg (pgA p), lR c.s.st, enR (c.b.set k (c.b.getD k default).done), .int .i64 k] (.tup [.own 0 0 1 0 L.length, .bool true]) [(3, L)]
theorem dm_9z (p : Pg) (c : Cf) (k : Nat) (hk : k < c.b.length) (hb : c.b.length < 900000) (a b d : Int) (ab so : Bool) (hC : qM6b0 p c k) (hT : qM6b1 p c k a b d ab so) (L : List Int) (hst : c.s.st.length ≤ 1000) (hbp : ∀ e ∈ (c.b.set k (c.b.getD k default).done), -1 ≤ e.pc ∧ e.pc ≤ 1000000) (hv : reV p c.s.st (c.b.set k (c.b.getD k default).done) k = some L) (hL : L.length = 0) (k1 : ¬ (enX p c k).kind = 1) (k4 : ¬ (enX p c k).kind = 4) (k3 : ¬ (enX p c k).kind = 3) (k2 : ¬ (enX p c k).kind = 2) (k5 : ¬ (enX p c k).kind = 5) (k7 : ¬ (enX p c k).kind = 7) (k9 : (enX p c k).kind = 9) : Vc (vcFn Try.prog false 42 [.agg (pgA p), .agg (cfA c), .int .i64 k] [.fv, oM6b2 p c k, oM6b3 p c k, oM6b4 p c k a b d ab so, .bd false, .bd false, .bd false, .bd false, .bd false, .bd false, .bd true, oM6b6 p c k L, .bd true] [] (.tup [.agg (cfA (upE c k fun e => e.done.flt)), .nils, .bool true]) []) := vc_by (zM6b6 p (zM6b5 p c (zM6b8 c b (cj (rf (k : Int)) (cj hC (cj (ap 0 c.b.length 48) (cj (bi (k : Int) (↑((0 : Nat) + c.b.length) : Int)) (cj (lz k c.b.length) (cj (lz k c.b.length) (zM6b6 p (zM6b7 p c k b (cj (ratC p (c.b.getD k default).pc) (zM6b6 p (zM6b5 p c (zM6b4 c (cj (pv ((0 : Nat) + c.b.length = (List.set c.b k (En.done (c.b.getD k default))).length)) (cj (sM6b0 c k hk) (zM6b3 p c k a d (zM6b2 p c k b (cj hT (cj (beq_eq_false_iff_ne.2 k1) (cj (beq_eq_false_iff_ne.2 k4) (cj (beq_eq_false_iff_ne.2 k3) (cj (beq_eq_false_iff_ne.2 k2) (cj (beq_eq_false_iff_ne.2 k5) (cj (beq_eq_false_iff_ne.2 k7) (cj (beq_iff_eq.2 k9) (zM6b6 p (zM6b11 p c (cj (pv ((0 : Nat) + c.b.length = (List.set c.b k (En.done (c.b.getD k default))).length)) (cj (sM6b0 c k hk) (cj (rf (k : Int)) (cj (rrealO p c.s.st (c.b.set k (c.b.getD k default).done) k L (by rw [List.length_set]; omega) hst hbp hv) (cj (e1 (L.length : Int) 0) (cj (lz k c.b.length) (zM6b0 c (cj (pv ((0 : Nat) + c.b.length = (List.set c.b k (En.flt (En.done (c.b.getD k default)))).length)) (cj (sM6b2 c k hk) (zM6b10 c trivial))))))))))))))))))))))))))))))))))))))) (by kernel_rfl)
theorem dm_9 (p : Pg) (c : Cf) (k : Nat) (hk : k < c.b.length) (hb : c.b.length < 900000) (a b d : Int) (ab so : Bool) (hC : qM6b0 p c k) (hT : qM6b1 p c k a b d ab so) (L : List Int) (hst : c.s.st.length ≤ 1000) (hbp : ∀ e ∈ (c.b.set k (c.b.getD k default).done), -1 ≤ e.pc ∧ e.pc ≤ 1000000) (hv : reV p c.s.st (c.b.set k (c.b.getD k default).done) k = some L) (hL : ¬ L.length = 0) (hl6 : L.length < 1000000) (k1 : ¬ (enX p c k).kind = 1) (k4 : ¬ (enX p c k).kind = 4) (k3 : ¬ (enX p c k).kind = 3) (k2 : ¬ (enX p c k).kind = 2) (k5 : ¬ (enX p c k).kind = 5) (k7 : ¬ (enX p c k).kind = 7) (k9 : (enX p c k).kind = 9) : Vc (vcFn Try.prog false 42 [.agg (pgA p), .agg (cfA c), .int .i64 k] [.fv, oM6b2 p c k, oM6b3 p c k, oM6b4 p c k a b d ab so, .bd false, .bd false, .bd false, .bd false, .bd false, .bd false, .bd true, oM6b6 p c k L, .bd false, .cm [.agg (cfO (upE c k En.done) (enO (c.b.set k (c.b.getD k default).done))), .int .i64 k, .int .i64 (lastI L)] [enB (c.b.set k (c.b.getD k default).done)] [(0, 2)] (.tup [.agg (cfA (goV (upE c k En.done) k (lastI L))), (obR [⟨3, (lastI L)⟩])]) []] [] (.tup [.agg (cfA (goV (upE c k En.done) k (lastI L))), (obR [⟨3, (lastI L)⟩]), .bool true]) []) := vc_by (zM6b6 p (zM6b5 p c (zM6b8 c b (cj (rf (k : Int)) (cj hC (cj (ap 0 c.b.length 48) (cj (bi (k : Int) (↑((0 : Nat) + c.b.length) : Int)) (cj (lz k c.b.length) (cj (lz k c.b.length) (zM6b6 p (zM6b7 p c k b (cj (ratC p (c.b.getD k default).pc) (zM6b6 p (zM6b5 p c (zM6b4 c (cj (pv ((0 : Nat) + c.b.length = (List.set c.b k (En.done (c.b.getD k default))).length)) (cj (sM6b0 c k hk) (zM6b3 p c k a d (zM6b2 p c k b (cj hT (cj (beq_eq_false_iff_ne.2 k1) (cj (beq_eq_false_iff_ne.2 k4) (cj (beq_eq_false_iff_ne.2 k3) (cj (beq_eq_false_iff_ne.2 k2) (cj (beq_eq_false_iff_ne.2 k5) (cj (beq_eq_false_iff_ne.2 k7) (cj (beq_iff_eq.2 k9) (zM6b6 p (zM6b11 p c (cj (pv ((0 : Nat) + c.b.length = (List.set c.b k (En.done (c.b.getD k default))).length)) (cj (sM6b0 c k hk) (cj (rf (k : Int)) (cj (rrealO p c.s.st (c.b.set k (c.b.getD k default).done) k L (by rw [List.length_set]; omega) hst hbp hv) (cj (e0 (L.length : Int) 0) (cj (i6 ((L.length : Int) - 1)) (cj (bi ((L.length : Int) - 1) (L.length : Int)) (cj (pv (Int.toNat ((L.length : Int) - 1) + 0 < L.length)) (cj (pv ((0 : Nat) + c.b.length = (List.set c.b k (En.done (c.b.getD k default))).length)) (cj (sM6b1 c k hk) (zM6b0 c (cj (rf (0 : Nat)) (cj (pv ((0 : Nat) + c.b.length = (List.set c.b k (En.done (c.b.getD k default))).length)) (zM6b9 c k (cj (rf (lastI L)) (cj (show MutC Try.prog 52 [.agg (cfO (upE c k En.done) (enO (c.b.set k (c.b.getD k default).done))), .int .i64 k, .int .i64 (lastI L)] [enB (c.b.set k (c.b.getD k default).done)] (.tup [.agg (cfA (goV (upE c k En.done) k (lastI L))), (obR [⟨3, (lastI L)⟩])]) [] from goesC (upE c k En.done) k (lastI L) (by show k < (List.set _ _ _).length; rw [List.length_set]; exact hk) (by show (List.set _ _ _).length < _; rw [List.length_set]; omega)) (cj (rf ((goV (upE c k En.done) k (lastI L)).s.r0)) (cj (rf ((goV (upE c k En.done) k (lastI L)).s.r1)) (cj (rf ((goV (upE c k En.done) k (lastI L)).s.r2)) (cj (rf ((goV (upE c k En.done) k (lastI L)).s.r3)) (cj (rf (((goV (upE c k En.done) k (lastI L)).s.m).length)) (cj (rr (((goV (upE c k En.done) k (lastI L)).s.m).length) 1 fun i j => aI (List.getD ((goV (upE c k En.done) k (lastI L)).s.m) i (0 : Int))) (cj (rf (((goV (upE c k En.done) k (lastI L)).s.st).length)) (cj (rr (((goV (upE c k En.done) k (lastI L)).s.st).length) 1 fun i j => aI (List.getD ((goV (upE c k En.done) k (lastI L)).s.st) i (0 : Int))) (cj (rf ((goV (upE c k En.done) k (lastI L)).s.pc)) (cj (rf ((goV (upE c k En.done) k (lastI L)).b.length)) (cj (rr ((goV (upE c k En.done) k (lastI L)).b.length) 8 fun i j => rowL enC (goV (upE c k En.done) k (lastI L)).b i j) (cj (rf ((goV (upE c k En.done) k (lastI L)).r.length)) (cj (rr ((goV (upE c k En.done) k (lastI L)).r.length) 1 fun i j => aI (List.getD (goV (upE c k En.done) k (lastI L)).r i (0 : Int))) (cj (rf ((goV (upE c k En.done) k (lastI L)).e)) (cj (rf (1 : Nat)) (cj (rr 1 2 fun i j => rowL obC [Ob.mk (3 : Int) (lastI L)] i j) (cj (rf true) trivial)))))))))))))))))))))))))))))))))))))))))))))))))))))))))))))) (by kernel_rfl)
end
end Go.Proofs.Ytgcedepjlgfcjaa.Px
namespace Go.Proofs.Ytgcedepjlgfcjaa.Px
section
open Go.RowKit Go.Proofs.Ytgcedepjlgfcjaa.Rx
def obX (l : List Ob) : AV := match l with
  | [] => .nils
  | o :: r => obR (o :: r)
/-- what comes of an Ent that is done -/
def dmV (p : Pg) (c : Cf) (k : Nat) : Cf × List Ob :=
  if (enX p c k).kind = 1 then (upE c k fun e => e.done.vl (Wd.doV p.W (enX p c k).op (tA p (upE c k En.done) k (enX p c k)).1 (tB p (upE c k En.done) k (enX p c k)).1), [])
  else if (enX p c k).kind = 4 then (upE c k fun e => e.done.vl (if (tA p (upE c k En.done) k (enX p c k)).1 = 0 then (tD p (upE c k En.done) k (enX p c k)).1 else (tB p (upE c k En.done) k (enX p c k)).1), [])
  else if (enX p c k).kind = 3 then (upE c k fun e => e.done.vl (tD p (upE c k En.done) k (enX p c k)).1, [])
  else if (enX p c k).kind = 2 then (if (c.s.m.length : Int) ≤ adV p (upE c k En.done) k (enX p c k) then (upE c k fun e => (e.done.ad (adV p (upE c k En.done) k (enX p c k))).flt, [])
    else (upE c k fun e => (e.done.ad (adV p (upE c k En.done) k (enX p c k))).ld (ldV p c.s.m (upE c k fun e => e.done.ad (adV p (upE c k En.done) k (enX p c k))).b k (adV p (upE c k En.done) k (enX p c k))).1 (ldV p c.s.m (upE c k fun e => e.done.ad (adV p (upE c k En.done) k (enX p c k))).b k (adV p (upE c k En.done) k (enX p c k))).2.1, [⟨1, adV p (upE c k En.done) k (enX p c k)⟩]))
  else if (enX p c k).kind = 5 then (goV (upE c k En.done) k (if Wd.doV p.W (enX p c k).op (tA p (upE c k En.done) k (enX p c k)).1 (tB p (upE c k En.done) k (enX p c k)).1 = 0 then (c.b.getD k default).pc + 1 else (enX p c k).tg), [⟨3, if Wd.doV p.W (enX p c k).op (tA p (upE c k En.done) k (enX p c k)).1 (tB p (upE c k En.done) k (enX p c k)).1 = 0 then (c.b.getD k default).pc + 1 else (enX p c k).tg⟩])
  else if (enX p c k).kind = 7 then (goV (upE c k En.done) k (jmpV p (tA p (upE c k En.done) k (enX p c k)).1), [⟨3, jmpV p (tA p (upE c k En.done) k (enX p c k)).1⟩])
  else match reV p c.s.st (upE c k En.done).b k with
    | none => (upE c k fun e => e.done.flt, [])
    | some L => if L.length = 0 then (upE c k fun e => e.done.flt, []) else (goV (upE c k En.done) k (lastI L), [⟨3, lastI L⟩])
def doO (p : Pg) (c : Cf) (i : Int) : Option (Cf × List Ob) := if cnV p c i = true then some (dmV p c i.toNat) else none
def dmA (o : Option (Cf × List Ob)) : AV := match o with
  | some q => .tup [.agg (cfA q.1), obX q.2, .bool true]
  | none => .tup [.agg (cfA Cf0), .nils, .bool false]
theorem reG_len (p : Pg) (l : List En) : ∀ j k st L, reG p l k j st = some L → L.length ≤ st.length + j
  | 0, k, st, L, h => by cases h; omega
  | j + 1, k, st, L, h => by
    unfold reG at h
    split at h
    · split at h
      · cases h
      · have := reG_len p l j _ _ _ h; rw [List.length_append, List.length_singleton] at this; omega
    · split at h
      · split at h
        · cases h
        · have := reG_len p l j _ _ _ h; rw [List.length_take] at this; omega
      · have := reG_len p l j _ _ _ h; omega
theorem set_pc {l : List En} {k : Nat} {g : En → En} (hg : ∀ e, (g e).pc = e.pc) (hk : k < l.length) (h : ∀ e ∈ l, -1 ≤ e.pc ∧ e.pc ≤ 1000000) : ∀ e ∈ l.set k (g (l.getD k default)), -1 ≤ e.pc ∧ e.pc ≤ 1000000 := fun e he => by
  rcases List.mem_or_eq_of_mem_set he with h1 | h1
  · exact h e h1
  · rw [h1, hg]; exact h _ (by simp [List.getD, hk])
theorem cnV_in {p : Pg} {c : Cf} {i : Int} (h : cnV p c i = true) : ∃ k : Nat, i = (k : Int) ∧ k < c.b.length ∧ (c.b.getD k default).dn = false ∧ cnK p c k (enX p c k) = true := by
  unfold cnV at h
  rw [Bool.and_eq_true] at h
  obtain ⟨k, rfl, hk⟩ := opV_in h.1
  rw [Int.toNat_natCast, Bool.and_eq_true] at h
  exact ⟨k, rfl, hk, by simpa using h.2.1, h.2.2⟩
theorem rdmC (p : Pg) (c : Cf) (i : Int) (hb : c.b.length < 900000) (hm : c.s.m.length < 1000000) (hv : Sml p c) (hv' : ∀ k, Sml p (upE c k En.done)) (hst : c.s.st.length ≤ 1000) (hbp : ∀ e ∈ c.b, -1 ≤ e.pc ∧ e.pc ≤ 1000000) : PureC Try.prog 42 [.agg (pgA p), .agg (cfA c), .int .i64 i] (dmA (doO p c i)) [] := by
  have hC := rcanC p c i (by omega) hm hv
  unfold doO
  cases hc : cnV p c i with
  | false =>
    rw [hc] at hC
    exact PureC.vc (dm_n p c i hC)
  | true =>
    rw [hc] at hC
    obtain ⟨k, rfl, hk, hd, hK⟩ := cnV_in hc
    rw [if_pos rfl, Int.toNat_natCast]
    have hT := rtdC p (upE c k En.done) k (enX p c k) (by show (List.set _ _ _).length < _; rw [List.length_set]; omega)
    have ha := (hv' k).add k (enX p c k)
    have hp : -1 ≤ (c.b.getD k default).pc ∧ (c.b.getD k default).pc ≤ 1000000 := hbp _ (by simp [List.getD, hk])
    have hbs := set_pc (g := En.done) (fun e => rfl) hk hbp
    unfold dmV
    by_cases k1 : (enX p c k).kind = 1
    · rw [if_pos k1]; exact PureC.vc (dm_1 p c k hk hb _ _ _ _ _ hC hT k1)
    rw [if_neg k1]
    by_cases k4 : (enX p c k).kind = 4
    · rw [if_pos k4]
      by_cases h0 : (tA p (upE c k En.done) k (enX p c k)).1 = 0
      · rw [if_pos h0]; exact PureC.vc (dm_4f p c k hk hb _ _ _ _ _ hC hT h0 k1 k4)
      · rw [if_neg h0]; exact PureC.vc (dm_4t p c k hk hb _ _ _ _ _ hC hT h0 k1 k4)
    rw [if_neg k4]
    by_cases k3 : (enX p c k).kind = 3
    · rw [if_pos k3]; exact PureC.vc (dm_3 p c k hk hb _ _ _ _ _ hC hT k1 k4 k3)
    rw [if_neg k3]
    by_cases k2 : (enX p c k).kind = 2
    · rw [if_pos k2]
      by_cases ho : (c.s.m.length : Int) ≤ adV p (upE c k En.done) k (enX p c k)
      · rw [if_pos ho]; exact PureC.vc (dm_2o p c k hk hb _ _ _ _ _ hC hT ha hm ho k1 k4 k3 k2)
      · rw [if_neg ho]; exact PureC.vc (dm_2i p c k hk hb _ _ _ _ _ hC hT ha hm ho k1 k4 k3 k2)
    rw [if_neg k2]
    by_cases k5 : (enX p c k).kind = 5
    · rw [if_pos k5]
      by_cases h0 : Wd.doV p.W (enX p c k).op (tA p (upE c k En.done) k (enX p c k)).1 (tB p (upE c k En.done) k (enX p c k)).1 = 0
      · rw [if_pos h0]; exact PureC.vc (dm_5f p c k hk hb _ _ _ _ _ hC hT hp h0 k1 k4 k3 k2 k5)
      · rw [if_neg h0]; exact PureC.vc (dm_5t p c k hk hb _ _ _ _ _ hC hT hp h0 k1 k4 k3 k2 k5)
    rw [if_neg k5]
    by_cases k7 : (enX p c k).kind = 7
    · rw [if_pos k7]; exact PureC.vc (dm_7 p c k hk hb _ _ _ _ _ hC hT k1 k4 k3 k2 k5 k7)
    rw [if_neg k7]
    have k9 : (enX p c k).kind = 9 := by
      unfold cnK at hK
      rw [if_neg k1, if_neg k5, if_neg k4, if_neg k2, if_neg k3, if_neg k7] at hK
      exact beq_iff_eq.1 hK
    cases hv : reV p c.s.st (upE c k En.done).b k with
    | none => exact PureC.vc (dm_9n p c k hk hb _ _ _ _ _ hC hT hst hbs hv k1 k4 k3 k2 k5 k7 k9)
    | some L =>
      have h6 := reG_len _ _ _ _ _ _ hv
      have h7 := cl0_le k (upE c k En.done).b.length
      have h8 : (upE c k En.done).b.length = c.b.length := List.length_set
      by_cases h0 : L.length = 0
      · show PureC _ _ _ (dmA (some (if _ then _ else _))) _
        rw [if_pos h0]; exact PureC.vc (dm_9z p c k hk hb _ _ _ _ _ hC hT L hst hbs hv h0 k1 k4 k3 k2 k5 k7 k9)
      · show PureC _ _ _ (dmA (some (if _ then _ else _))) _
        rw [if_neg h0]; exact PureC.vc (dm_9 p c k hk hb _ _ _ _ _ hC hT L hst hbs hv h0 (by omega) k1 k4 k3 k2 k5 k7 k9)
end
end Go.Proofs.Ytgcedepjlgfcjaa.Px
namespace Go.Proofs.Ytgcedepjlgfcjaa.Px
section
open Go.RowKit Go.Proofs.Ytgcedepjlgfcjaa.Rx
theorem pc_set {l : List En} {k : Nat} {g : En → En} (hg : ∀ e, (g e).pc = e.pc) (h : Nat) : ((l.set k (g (l.getD k default))).getD h default).pc = (l.getD h default).pc := by
  by_cases hq : k = h
  · subst hq
    by_cases hk : k < l.length
    · simp [List.getD, hk, hg]
    · simp [List.getD, hk]
  · simp [List.getD, List.getElem?_set, hq]
def adrV (p : Pg) (c : Cf) (k : Nat) : Cf × List Ob :=
  if (c.s.m.length : Int) ≤ adV p c k (enX p c k) then (upE c k fun e => (e.ad (adV p c k (enX p c k))).flt, [])
  else match hzV p (upE c k fun e => e.ad (adV p c k (enX p c k))).b k (adV p c k (enX p c k)) with
    | (h, true) => (⟨c.s.go ((upE c k fun e => e.ad (adV p c k (enX p c k))).b.getD h.toNat default).pc, (upE c k fun e => e.ad (adV p c k (enX p c k))).b.take h.toNat, c.r, c.e⟩, [⟨2, adV p c k (enX p c k)⟩])
    | (_, false) => (upE c k fun e => e.ad (adV p c k (enX p c k)), [⟨2, adV p c k (enX p c k)⟩])
def adrO (p : Pg) (c : Cf) (i : Int) : Option (Cf × List Ob) := if caV p c i = true then some (adrV p c i.toNat) else none
theorem zM70 (c : Cf) {Z : Prop} (z : Z) : (RR c.s.m.length 1 (fun i j => aI (List.getD c.s.m i (0 : Int))) (RF c.s.st.length (RR c.s.st.length 1 (fun i j => aI (List.getD c.s.st i (0 : Int))) (RF c.s.pc (RF c.b.length (RR c.b.length 8 (fun i j => rowL enC c.b i j) (RF c.r.length (RR c.r.length 1 (fun i j => aI (c.r.getD i 0)) (RF c.e Z))))))))) := ⟨fun _ _ _ _ => rfl, rfl, fun _ _ _ _ => rfl, rfl, rfl, fun _ _ _ _ => rfl, rfl, fun _ _ _ _ => rfl, rfl, z⟩
theorem zM71 (p : Pg) (c : Cf) {Z : Prop} (z : Z) : (RF p.ls.length (RR p.ls.length 2 (fun i j => rowL lbC p.ls i j) (RF p.is.length (RR p.is.length 9 (fun i j => rowL inC p.is i j) (RF c.s.r0 (RF c.s.r1 (RF c.s.r2 (RF c.s.r3 (RF c.s.m.length Z))))))))) := ⟨rfl, fun _ _ _ _ => rfl, rfl, fun _ _ _ _ => rfl, rfl, rfl, rfl, rfl, rfl, z⟩
theorem zM72 (p : Pg) {Z : Prop} (z : Z) : (RF p.W (RF p.win (RF p.fuel (RF p.r0 (RF p.r1 (RF p.r2 (RF p.r3 (RF p.ms.length (RR p.ms.length 3 (fun i j => rowL mmC p.ms i j) Z))))))))) := ⟨rfl, rfl, rfl, rfl, rfl, rfl, rfl, rfl, fun _ _ _ _ => rfl, z⟩
theorem ad_x (p : Pg) (c : Cf) (i : Int) (hC : PureC Try.prog 39 [.agg (pgA p), .agg (cfA c), .int .i64 i] (.bool false) []) : Vc (vcFn Try.prog false 43 [.agg (pgA p), .agg (cfA c), .int .i64 i] [.fv, .cl [.agg (pgA p), .agg (cfA c), .int .i64 i] (.bool false) []] [] (.tup [.agg (cfA Cf0), .nils, .bool false]) []) := vc_by (zM72 p (zM71 p c (zM70 c (cj (rf i) (cj hC (cj (rf (0 : Int)) (cj (rf (0 : Int)) (cj (rf (0 : Int)) (cj (rf (0 : Int)) (cj (rf (0 : Nat)) (cj (rf (0 : Nat)) (cj (rf (0 : Int)) (cj (rf (0 : Nat)) (cj (rf (0 : Nat)) (cj (rf (0 : Int)) (cj (rf false) trivial)))))))))))))))) (by kernel_rfl)
theorem sM70 (p : Pg) (c : Cf) (k : Nat) (a : Int) (b : Int) : Option.some (bif Nat.ble (6 : Nat) (2 : Nat) && Nat.blt (2 : Nat) (7 : Nat) && Nat.beq (k + 0) (k + 0) then AV.bool true else bif Nat.ble (2 : Nat) (2 : Nat) && Nat.blt (2 : Nat) (3 : Nat) && Nat.beq (k + 0) (k + 0) then aI (Wd.maskV p.W (a + b)) else aI (c.b.getD (k + 0 - 0) default).adr) = Option.some (aI (Wd.maskV p.W (a + b))) := by rw [Nat.beq_refl]; rfl
theorem zM73 (c : Cf) {Z : Prop} (z : Z) : (RF c.s.r0 (RF c.s.r1 (RF c.s.r2 (RF c.s.r3 (RF c.s.m.length (RR c.s.m.length 1 (fun i j => aI (List.getD c.s.m i (0 : Int))) (RF c.s.st.length (RR c.s.st.length 1 (fun i j => aI (List.getD c.s.st i (0 : Int))) (RF c.s.pc Z))))))))) := ⟨rfl, rfl, rfl, rfl, rfl, fun _ _ _ _ => rfl, rfl, fun _ _ _ _ => rfl, rfl, z⟩
theorem zM74 (p : Pg) (c : Cf) (k : Nat) (a : Int) (b : Int) {Z : Prop} (z : Z) : (RF ((enX p c k).a.n) (RF ((enX p c k).b.reg) (RF ((enX p c k).b.n) (RF ((enX p c k).nm) (RF ((enX p c k).tg) Z))))) := ⟨rfl, rfl, rfl, rfl, rfl, z⟩
theorem zM75 (p : Pg) (c : Cf) (k : Nat) (a : Int) (b : Int) (d : Int) {Z : Prop} (z : Z) : (RR (0 + c.b.length) 8 (fun i j => rowL enC c.b i j) (RF c.r.length (RR c.r.length 1 (fun i j => aI (c.r.getD i 0)) (RF c.e (RF (k : Int) (RF ((enX p c k).kind) (RF ((enX p c k).op) (RF ((enX p c k).d) (RF ((enX p c k).a.reg) Z))))))))) := ⟨fun _ _ _ _ => rfl, rfl, fun _ _ _ _ => rfl, rfl, rfl, rfl, rfl, rfl, rfl, z⟩
theorem zM76 (c : Cf) {Z : Prop} (z : Z) : (RR c.s.m.length 1 (fun i j => aI (List.getD c.s.m i (0 : Int))) (RF c.s.st.length (RR c.s.st.length 1 (fun i j => aI (List.getD c.s.st i (0 : Int))) (RF c.s.pc Z)))) := ⟨fun _ _ _ _ => rfl, rfl, fun _ _ _ _ => rfl, rfl, z⟩
theorem zM77 (p : Pg) (c : Cf) (k : Nat) (b : Int) {Z : Prop} (z : Z) : (RF p.ls.length (RR p.ls.length 2 (fun i j => rowL lbC p.ls i j) (RF p.is.length (RR p.is.length 9 (fun i j => rowL inC p.is i j) (RF ((c.b.getD k default).pc) Z))))) := ⟨rfl, fun _ _ _ _ => rfl, rfl, fun _ _ _ _ => rfl, rfl, z⟩
abbrev qM71 (p : Pg) (c : Cf) (k : Nat) (a : Int) (b : Int) (d : Int) (ab : Bool) (so : Bool) : Prop := PureC Try.prog 48 [.agg (pgA p), .agg (cfA c), .int .i64 k, .agg (inA (enX p c k))] (.tup [.int .i64 a, .int .i64 b, .int .i64 d, .bool ab, .bool so]) []
abbrev qM70 (p : Pg) (c : Cf) (k : Nat) : Prop := PureC Try.prog 39 [.agg (pgA p), .agg (cfA c), .int .i64 k] (.bool true) []
abbrev oM74 (p : Pg) (c : Cf) (k : Nat) (a : Int) (b : Int) (d : Int) (ab : Bool) (so : Bool) : Orc := .cp [.agg (pgA p), .agg (cfA c), .int .i64 k, .agg (inA (enX p c k))] (.tup [.int .i64 a, .int .i64 b, .int .i64 d, .bool ab, .bool so])
abbrev oM73 (p : Pg) (c : Cf) (k : Nat) : Orc := .cl [.agg (pgA p), .int .i64 (c.b.getD k default).pc] (.agg (inA (enX p c k))) []
abbrev oM75 (p : Pg) (a : Int) (b : Int) : Orc := .cl [.int .i64 p.W, .int .i64 (a + b)] (.int .i64 (Wd.maskV p.W (a + b))) []
abbrev oM72 (p : Pg) (c : Cf) (k : Nat) : Orc := .cl [.agg (pgA p), .agg (cfA c), .int .i64 k] (.bool true) []
theorem ad_o (p : Pg) (c : Cf) (k : Nat) (hk : k < c.b.length) (hb : c.b.length < 900000) (a b d : Int) (ab so : Bool) (hC : qM70 p c k) (hT : qM71 p c k a b d ab so) (hab : -1000000 ≤ a + b ∧ a + b ≤ 1000000) (hm : c.s.m.length < 1000000) (ho : (c.s.m.length : Int) ≤ (Wd.maskV p.W (a + b))) : Vc (vcFn Try.prog false 43 [.agg (pgA p), .agg (cfA c), .int .i64 k] [.fv, oM72 p c k, oM73 p c k, oM74 p c k a b d ab so, oM75 p a b, .lv (.int .i64 (Wd.maskV p.W (a + b))), .bd true] [] (.tup [.agg (cfA (upE c k fun e => (e.ad (Wd.maskV p.W (a + b))).flt)), .nils, .bool true]) []) := vc_by (zM72 p (zM71 p c (zM70 c (cj (rf (k : Int)) (cj hC (cj (ap 0 c.b.length 48) (cj (bi (k : Int) (↑((0 : Nat) + c.b.length) : Int)) (cj (lz k c.b.length) (zM72 p (zM77 p c k b (cj (ratC p (c.b.getD k default).pc) (zM72 p (zM71 p c (zM76 c (cj (za c.b.length) (zM75 p c k a b d (zM74 p c k a b (cj hT (cj (i6 (a + b)) (cj (rf p.W) (cj (rf (a + b)) (cj (rmaskC p.W (a + b)) (cj (lz k c.b.length) (cj (lz k c.b.length) (cj (sM70 p c k a b) (cj (lz k c.b.length) (cj (dt (Wd.maskV p.W (a + b) ≥ (↑(c.s.m.length) : Int))) (cj (lz k c.b.length) (zM73 c (cj (pv ((0 : Nat) + c.b.length = (List.set c.b k (En.flt (En.ad (Wd.maskV p.W (a + b)) (c.b.getD k default)))).length)) (cj (show ∀ (i : Nat), i < 0 + c.b.length → ∀ (j : Nat), j < 8 → (bif Nat.ble (7 : Nat) j && Nat.blt j (8 : Nat) && Nat.beq (i + 0) (k + 0) then List.getD [AV.bool true] (j - 7) AV.junk else bif Nat.ble (6 : Nat) j && Nat.blt j (7 : Nat) && Nat.beq (i + 0) (k + 0) then List.getD [AV.bool true] (j - 6) AV.junk else bif Nat.ble (2 : Nat) j && Nat.blt j (3 : Nat) && Nat.beq (i + 0) (k + 0) then List.getD [aI (Wd.maskV p.W (a + b))] (j - 2) AV.junk else bif Nat.blt (i + 0) (0 : Nat) then AV.junk else rowL enC c.b (i + 0 - 0) j) = rowL enC (List.set c.b k (En.flt (En.ad (Wd.maskV p.W (a + b)) (c.b.getD k default)))) i j from (fun i hi j hj => by cases hq : Nat.beq (i + 0) (k + 0) with | true => obtain rfl := beq0 (i := i) hq; rw [rs_same hk]; exact (match j, hj with | 0, _ => rfl | 1, _ => rfl | 2, _ => rfl | 3, _ => rfl | 4, _ => rfl | 5, _ => rfl | 6, _ => rfl | 7, _ => rfl) | false => rw [rs_ne (i := i) hq]; exact (match j, hj with | 0, _ => rfl | 1, _ => rfl | 2, _ => rfl | 3, _ => rfl | 4, _ => rfl | 5, _ => rfl | 6, _ => rfl | 7, _ => rfl))) (cj (rf c.r.length) (cj (rr c.r.length 1 fun i j => aI (c.r.getD i 0)) (cj (rf c.e) (cj (rf true) trivial))))))))))))))))))))))))))))))))))) (by kernel_rfl)
theorem sM71 (p : Pg) (c : Cf) (k : Nat) (hk : k < c.b.length) (a : Int) (b : Int) : ∀ (i : Nat), i < 0 + c.b.length → ∀ (j : Nat), j < 8 → (bif Nat.ble (6 : Nat) j && Nat.blt j (7 : Nat) && Nat.beq (i + 0) (k + 0) then List.getD [AV.bool true] (j - 6) AV.junk else bif Nat.ble (2 : Nat) j && Nat.blt j (3 : Nat) && Nat.beq (i + 0) (k + 0) then List.getD [aI (Wd.maskV p.W (a + b))] (j - 2) AV.junk else bif Nat.blt (i + 0) (0 : Nat) then AV.junk else rowL enC c.b (i + 0 - 0) j) = rowL enC (List.set c.b k (En.ad (Wd.maskV p.W (a + b)) (c.b.getD k default))) i j := (fun i hi j hj => by cases hq : Nat.beq (i + 0) (k + 0) with | true => obtain rfl := beq0 (i := i) hq; rw [rs_same hk]; exact (match j, hj with | 0, _ => rfl | 1, _ => rfl | 2, _ => rfl | 3, _ => rfl | 4, _ => rfl | 5, _ => rfl | 6, _ => rfl | 7, _ => rfl) | false => rw [rs_ne (i := i) hq]; exact (match j, hj with | 0, _ => rfl | 1, _ => rfl | 2, _ => rfl | 3, _ => rfl | 4, _ => rfl | 5, _ => rfl | 6, _ => rfl | 7, _ => rfl))
theorem sM72 (p : Pg) (a : Int) (b : Int) : ∀ (i : Nat), i < 1 → ∀ (j : Nat), j < 2 → List.getD [aI (2 : Int), aI (Wd.maskV p.W (a + b))] ((i + 0) * 2 + j) AV.junk = rowL obC [Ob.mk (2 : Int) (Wd.maskV p.W (a + b))] i j := (fun i hi j hj => match i, hi, j, hj with | 0, _, 0, _ => rfl | 0, _, 1, _ => rfl)
theorem zM78 (c : Cf) {Z : Prop} (z : Z) : (RF c.r.length (RR c.r.length 1 (fun i j => aI (c.r.getD i 0)) (RF c.e (RF (1 : Nat) Z)))) := ⟨rfl, fun _ _ _ _ => rfl, rfl, rfl, z⟩
theorem zM79 (p : Pg) {Z : Prop} (z : Z) : (RF p.ls.length (RR p.ls.length 2 (fun i j => rowL lbC p.ls i j) (RF p.is.length (RR p.is.length 9 (fun i j => rowL inC p.is i j) Z)))) := ⟨rfl, fun _ _ _ _ => rfl, rfl, fun _ _ _ _ => rfl, z⟩
theorem ad_n (p : Pg) (c : Cf) (k : Nat) (hk : k < c.b.length) (hb : c.b.length < 900000) (a b d : Int) (ab so : Bool) (hC : qM70 p c k) (hT : qM71 p c k a b d ab so) (hab : -1000000 ≤ a + b ∧ a + b ≤ 1000000) (hm : c.s.m.length < 1000000) (ho : ¬ (c.s.m.length : Int) ≤ (Wd.maskV p.W (a + b))) (q1 : Int) (hH : PureC Try.prog 54 [.agg (pgA p), enR (c.b.set k ((c.b.getD k default).ad (Wd.maskV p.W (a + b)))), .int .i64 k, .int .i64 (Wd.maskV p.W (a + b))] (.tup [.int .i64 q1, .bool false]) []) : Vc (vcFn Try.prog false 43 [.agg (pgA p), .agg (cfA c), .int .i64 k] [.fv, oM72 p c k, oM73 p c k, oM74 p c k a b d ab so, oM75 p a b, .lv (.int .i64 (Wd.maskV p.W (a + b))), .bd false, .cp [.agg (pgA p), enR (c.b.set k ((c.b.getD k default).ad (Wd.maskV p.W (a + b)))), .int .i64 k, .int .i64 (Wd.maskV p.W (a + b))] (.tup [.int .i64 q1, .bool false])] [] (.tup [.agg (cfA (upE c k fun e => e.ad (Wd.maskV p.W (a + b)))), (obR [⟨2, (Wd.maskV p.W (a + b))⟩]), .bool true]) []) := vc_by (zM72 p (zM71 p c (zM70 c (cj (rf (k : Int)) (cj hC (cj (ap 0 c.b.length 48) (cj (bi (k : Int) (↑((0 : Nat) + c.b.length) : Int)) (cj (lz k c.b.length) (zM72 p (zM77 p c k b (cj (ratC p (c.b.getD k default).pc) (zM72 p (zM71 p c (zM76 c (cj (za c.b.length) (zM75 p c k a b d (zM74 p c k a b (cj hT (cj (i6 (a + b)) (cj (rf p.W) (cj (rf (a + b)) (cj (rmaskC p.W (a + b)) (cj (lz k c.b.length) (cj (lz k c.b.length) (cj (sM70 p c k a b) (cj (lz k c.b.length) (cj (df (Wd.maskV p.W (a + b) ≥ (↑(c.s.m.length) : Int))) (zM72 p (zM79 p (cj (pv ((0 : Nat) + c.b.length = (List.set c.b k (En.ad (Wd.maskV p.W (a + b)) (c.b.getD k default))).length)) (cj (sM71 p c k hk a b) (cj (rf (k : Int)) (cj (rf (Wd.maskV p.W (a + b))) (cj hH (zM73 c (cj (pv ((0 : Nat) + c.b.length = (List.set c.b k (En.ad (Wd.maskV p.W (a + b)) (c.b.getD k default))).length)) (cj (sM71 p c k hk a b) (zM78 c (cj (sM72 p a b) (cj (rf true) trivial)))))))))))))))))))))))))))))))))))))))) (by kernel_rfl)
theorem ad_y (p : Pg) (c : Cf) (k : Nat) (hk : k < c.b.length) (hb : c.b.length < 900000) (a b d : Int) (ab so : Bool) (hC : qM70 p c k) (hT : qM71 p c k a b d ab so) (hab : -1000000 ≤ a + b ∧ a + b ≤ 1000000) (hm : c.s.m.length < 1000000) (ho : ¬ (c.s.m.length : Int) ≤ (Wd.maskV p.W (a + b))) (h : Nat) (hh : h < c.b.length) (hH : PureC Try.prog 54 [.agg (pgA p), enR (c.b.set k ((c.b.getD k default).ad (Wd.maskV p.W (a + b)))), .int .i64 k, .int .i64 (Wd.maskV p.W (a + b))] (.tup [.int .i64 h, .bool true]) []) : Vc (vcFn Try.prog false 43 [.agg (pgA p), .agg (cfA c), .int .i64 k] [.fv, oM72 p c k, oM73 p c k, oM74 p c k a b d ab so, oM75 p a b, .lv (.int .i64 (Wd.maskV p.W (a + b))), .bd false, .cp [.agg (pgA p), enR (c.b.set k ((c.b.getD k default).ad (Wd.maskV p.W (a + b)))), .int .i64 k, .int .i64 (Wd.maskV p.W (a + b))] (.tup [.int .i64 h, .bool true]), .lv (.own 2 1 8 0 (0 + c.b.length)), .lv (.int .i64 ((c.b.set k ((c.b.getD k default).ad (Wd.maskV p.W (a + b)))).getD h default).pc)] [] (.tup [.agg (cfA ⟨c.s.go ((c.b.set k ((c.b.getD k default).ad (Wd.maskV p.W (a + b)))).getD h default).pc, (c.b.set k ((c.b.getD k default).ad (Wd.maskV p.W (a + b)))).take h, c.r, c.e⟩), (obR [⟨2, (Wd.maskV p.W (a + b))⟩]), .bool true]) []) := vc_by (zM72 p (zM71 p c (zM70 c (cj (rf (k : Int)) (cj hC (cj (ap 0 c.b.length 48) (cj (bi (k : Int) (↑((0 : Nat) + c.b.length) : Int)) (cj (lz k c.b.length) (zM72 p (zM77 p c k b (cj (ratC p (c.b.getD k default).pc) (zM72 p (zM71 p c (zM76 c (cj (za c.b.length) (zM75 p c k a b d (zM74 p c k a b (cj hT (cj (i6 (a + b)) (cj (rf p.W) (cj (rf (a + b)) (cj (rmaskC p.W (a + b)) (cj (lz k c.b.length) (cj (lz k c.b.length) (cj (sM70 p c k a b) (cj (lz k c.b.length) (cj (df (Wd.maskV p.W (a + b) ≥ (↑(c.s.m.length) : Int))) (zM72 p (zM79 p (cj (pv ((0 : Nat) + c.b.length = (List.set c.b k (En.ad (Wd.maskV p.W (a + b)) (c.b.getD k default))).length)) (cj (sM71 p c k hk a b) (cj (rf (k : Int)) (cj (rf (Wd.maskV p.W (a + b))) (cj hH (cj (rf (Option.some (AV.own (2 : Nat) (1 : Nat) (8 : Nat) (0 : Nat) ((0 : Nat) + c.b.length)))) (cj (bi (h : Int) (↑((0 : Nat) + c.b.length) : Int)) (cj (show Option.some (aI (c.b.getD (h + 0 - 0) default).pc) = Option.some (aI ((List.getD (List.set c.b k (En.ad (Wd.maskV p.W (a + b)) (c.b.getD k default))) h default).pc)) from by rw [Nat.add_zero, Nat.sub_zero, pc_set (g := En.ad (Wd.maskV p.W (a + b))) (fun e => rfl) h]) (cj (lz h c.b.length) (cj (pv ((0 : Int) ≤ (h : Int) ∧ (h : Int) ≤ (↑((0 : Nat) + c.b.length) : Int))) (cj (rf c.s.r0) (cj (rf c.s.r1) (cj (rf c.s.r2) (cj (rf c.s.r3) (cj (rf c.s.m.length) (cj (rr c.s.m.length 1 fun i j => aI (List.getD c.s.m i (0 : Int))) (cj (rf c.s.st.length) (cj (rr c.s.st.length 1 fun i j => aI (List.getD c.s.st i (0 : Int))) (cj (rf ((List.getD (List.set c.b k (En.ad (Wd.maskV p.W (a + b)) (c.b.getD k default))) h default).pc)) (cj (show h = (List.take h (List.set c.b k (En.ad (Wd.maskV p.W (a + b)) (c.b.getD k default)))).length from by rw [List.length_take, List.length_set]; omega) (cj (show ∀ (i : Nat), i < h → ∀ (j : Nat), j < 8 → (bif Nat.ble (6 : Nat) j && Nat.blt j (7 : Nat) && Nat.beq (i + 0) (k + 0) then List.getD [AV.bool true] (j - 6) AV.junk else bif Nat.ble (2 : Nat) j && Nat.blt j (3 : Nat) && Nat.beq (i + 0) (k + 0) then List.getD [aI (Wd.maskV p.W (a + b))] (j - 2) AV.junk else bif Nat.blt (i + 0) (0 : Nat) then AV.junk else rowL enC c.b (i + 0 - 0) j) = rowL enC (List.take h (List.set c.b k (En.ad (Wd.maskV p.W (a + b)) (c.b.getD k default)))) i j from (fun i hi j hj => by rw [rt_take (show i < h from hi)]; cases hq : Nat.beq (i + 0) (k + 0) with | true => obtain rfl := beq0 (i := i) hq; rw [rs_same hk]; exact (match j, hj with | 0, _ => rfl | 1, _ => rfl | 2, _ => rfl | 3, _ => rfl | 4, _ => rfl | 5, _ => rfl | 6, _ => rfl | 7, _ => rfl) | false => rw [rs_ne (i := i) hq]; exact (match j, hj with | 0, _ => rfl | 1, _ => rfl | 2, _ => rfl | 3, _ => rfl | 4, _ => rfl | 5, _ => rfl | 6, _ => rfl | 7, _ => rfl))) (zM78 c (cj (sM72 p a b) (cj (rf true) trivial))))))))))))))))))))))))))))))))))))))))))))))))))))) (by kernel_rfl)
theorem hzG_lt (p : Pg) (l : List En) (i a : Int) : ∀ j k q, hzG p l i a k j = some q → k ≤ q ∧ q < k + j
  | 0, k, q, h => by cases h
  | j + 1, k, q, h => by
    unfold hzG at h
    split at h
    · cases h; omega
    · have := hzG_lt p l i a j (k + 1) q h; omega
theorem hzV_lt {p : Pg} {l : List En} {i a h : Int} (e : hzV p l i a = (h, true)) : ∃ q : Nat, h = (q : Int) ∧ q < l.length := by
  unfold hzV at e
  split at e
  · rename_i q hq
    cases e
    have := hzG_lt p l i a _ _ _ hq
    exact ⟨q, rfl, by omega⟩
  · cases e
theorem caV_in {p : Pg} {c : Cf} {i : Int} (h : caV p c i = true) : ∃ k : Nat, i = (k : Int) ∧ k < c.b.length ∧ (c.b.getD k default).kn = false ∧ (enX p c k).kind = 3 := by
  unfold caV at h
  rw [Bool.and_eq_true] at h
  obtain ⟨k, rfl, hk⟩ := opV_in h.1
  rw [Int.toNat_natCast, Bool.and_eq_true, Bool.and_eq_true] at h
  exact ⟨k, rfl, hk, by simpa using h.2.1, by simpa using h.2.2.1⟩
theorem radC (p : Pg) (c : Cf) (i : Int) (hb : c.b.length < 900000) (hm : c.s.m.length < 1000000) (hv : Sml p c) : PureC Try.prog 43 [.agg (pgA p), .agg (cfA c), .int .i64 i] (dmA (adrO p c i)) [] := by
  have hC := rcaC p c i (by omega)
  unfold adrO
  cases hc : caV p c i with
  | false =>
    rw [hc] at hC
    exact PureC.vc (ad_x p c i hC)
  | true =>
    rw [hc] at hC
    obtain ⟨k, rfl, hk, hd, hK⟩ := caV_in hc
    rw [if_pos rfl, Int.toNat_natCast]
    have hT := rtdC p c k (enX p c k) (by omega)
    have ha := hv.add k (enX p c k)
    unfold adrV
    by_cases ho : (c.s.m.length : Int) ≤ adV p c k (enX p c k)
    · rw [if_pos ho]; exact PureC.vc (ad_o p c k hk hb _ _ _ _ _ hC hT ha hm ho)
    · rw [if_neg ho]
      have hH := rhzC p (upE c k fun e => e.ad (adV p c k (enX p c k))).b k (adV p c k (enX p c k)) (by show (List.set _ _ _).length < _; rw [List.length_set]; omega)
      cases hz : hzV p (upE c k fun e => e.ad (adV p c k (enX p c k))).b k (adV p c k (enX p c k)) with
      | mk r y =>
        rw [hz] at hH
        cases y with
        | false => exact PureC.vc (ad_n p c k hk hb _ _ _ _ _ hC hT ha hm ho r hH)
        | true =>
          obtain ⟨h, rfl, hl⟩ := hzV_lt hz
          have hl' : h < c.b.length := by
            have : (upE c k fun e => e.ad (adV p c k (enX p c k))).b.length = c.b.length := List.length_set
            omega
          exact PureC.vc (ad_y p c k hk hb _ _ _ _ _ hC hT ha hm ho h hl' hH)
end
end Go.Proofs.Ytgcedepjlgfcjaa.Px
namespace Go.Proofs.Ytgcedepjlgfcjaa.Px
section
open Go.RowKit Go.Proofs.Ytgcedepjlgfcjaa.Rx
def En.pop (e : En) : En := { e with frm := if 0 ≤ e.frm then e.frm - 1 else e.frm }
def popN (l : List En) : Nat → List En
  | 0 => []
  | k + 1 => popN l k ++ [(l.getD (k + 1) default).pop]
def popL (l : List En) : List En := popN l (l.length - 1)
def ppS (l : List En) (k : Nat) : Sm := ⟨[(0, enR l), (3, enO (popN l k)), (4, .int .i64 ((k : Int) + 1))], [(0, enB (popN l k))], 1⟩
/-- what is committed -/
def rtV (p : Pg) (c : Cf) : Cf :=
  if (c.b.getD 0 default).ft = true ∨ (enX p c 0).kind = 12 then ⟨c.s.go (c.b.getD 0 default).pc, [], [], 2⟩
  else if (enX p c 0).kind = 11 then ⟨c.s.go (c.b.getD 0 default).pc, [], [], 1⟩
  else if dstB (enX p c 0) = true then ⟨c.s.set (enX p c 0).d (c.b.getD 0 default).val, popL c.b, c.r, c.e⟩
  else if (enX p c 0).kind = 3 then ⟨{ c.s with m := c.s.m.set (c.b.getD 0 default).adr.toNat (c.b.getD 0 default).val }, popL c.b, c.r, c.e⟩
  else if (enX p c 0).kind = 8 then ⟨{ c.s with st := c.s.st ++ [(c.b.getD 0 default).pc + 1] }, popL c.b, c.r, c.e⟩
  else if (enX p c 0).kind = 9 then ⟨{ c.s with st := c.s.st.take (c.s.st.length - 1) }, popL c.b, c.r, c.e⟩
  else ⟨c.s, popL c.b, c.r, c.e⟩
def rtO (p : Pg) (c : Cf) : Option Cf := if crV p c = true then some (rtV p c) else none
/-- what must hold that nothing is committed wrongly -/
structure RtOk (p : Pg) (c : Cf) : Prop where
  d : dstB (enX p c 0) = true → 0 ≤ (enX p c 0).d ∧ (enX p c 0).d < 4
  m : (enX p c 0).kind = 3 → (c.b.getD 0 default).ft = false → (c.b.getD 0 default).kn = true → 0 ≤ (c.b.getD 0 default).adr ∧ (c.b.getD 0 default).adr < c.s.m.length
  st : (enX p c 0).kind = 9 → (c.b.getD 0 default).ft = false → (c.b.getD 0 default).dn = true → c.s.st.length ≠ 0
  sl : c.s.st.length ≤ 1000
  ml : c.s.m.length ≤ 1000000
  bl : c.b.length < 900000
  pc : 0 ≤ (c.b.getD 0 default).pc ∧ (c.b.getD 0 default).pc ≤ 1000000
theorem popN_len (l : List En) : ∀ k, (popN l k).length = k
  | 0 => rfl
  | k + 1 => by rw [popN, List.length_append, popN_len l k]; rfl
theorem popL_len (l : List En) : (popL l).length = l.length - 1 := popN_len _ _
theorem popN_get (l : List En) : ∀ k i, i < k → (popN l k).getD i default = (l.getD (i + 1) default).pop
  | k + 1, i, h => by
    unfold popN
    by_cases hi : i < k
    · rw [← popN_get l k i hi]
      simp [List.getD, List.getElem?_append_left (show i < (popN l k).length by rw [popN_len]; exact hi)]
    · obtain rfl : i = k := by omega
      simp [List.getD, List.getElem?_append_right, popN_len]
theorem popL_get (l : List En) {i : Nat} (h : i + 1 < l.length) : (popL l).getD i default = (l.getD (i + 1) default).pop := popN_get l _ i (by omega)
theorem pop_y {e : En} (h : 0 ≤ e.frm) : e.pop = { e with frm := e.frm - 1 } := by unfold En.pop; rw [if_pos h]
theorem pop_n {e : En} (h : ¬ 0 ≤ e.frm) : e.pop = e := by unfold En.pop; rw [if_neg h]
theorem sM80 (l : List En) (k : Nat) : (popN l k).length + 1 = (popN l (k + 1)).length := by rw [popN, List.length_append]; rfl
theorem zM80 (l : List En) {Z : Prop} (z : Z) : (RF l.length (RR l.length 8 (fun i j => rowL enC l i j) (RF (0 : Nat) Z))) := ⟨rfl, fun _ _ _ _ => rfl, rfl, z⟩
theorem pp_y (l : List En) (k : Nat) (hk : k + 1 < l.length) (hb : l.length < 1000000) (hf : -1000000 ≤ (l.getD (k + 1) default).frm ∧ (l.getD (k + 1) default).frm ≤ 1000000) (h : 0 ≤ (l.getD (k + 1) default).frm) : Vc (vcC Try.prog false (ntOf Try.prog 55) (lpC Try.prog 55 0) (ppS l k) [.bd true, .bd true] .nrm [(0, 0)] (ppS l (k + 1))) := vc_by (cj (dt ((k : Int) + 1 < (l.length : Int))) (cj (bi ((k : Int) + 1) (l.length : Int)) (cj (dt ((l.getD (k + nat_lit 1) default).frm ≥ 0)) (cj (show inK IntKind.i64 ((l.getD (k + nat_lit 1) default).frm - 1) from (in64 (show -9223372036854775808 ≤ (l.getD (k + 1) default).frm - 1 by omega) (show (l.getD (k + 1) default).frm - 1 ≤ 9223372036854775807 by omega))) (cj (show (0 : Nat) = 0 ∧ (popN l k).length = (popN l k).length ∧ ((popN l k).length + 1) * 48 ≤ 140737488355328 ∧ (popN l k).length + 1 ≤ 140737488355328 from by rw [popN_len]; omega) (cj (i6 ((k : Int) + 1 + 1)) (cj (sM80 l k) (cj (show ∀ (i : Nat), i < (popN l k).length + 1 → ∀ (j : Nat), j < 8 → (bif Nat.blt i (popN l k).length then rowL enC (popN l k) i j else List.getD [aI (l.getD (k + nat_lit 1) default).pc, aI (l.getD (k + nat_lit 1) default).val, aI (l.getD (k + nat_lit 1) default).adr, aI ((l.getD (k + nat_lit 1) default).frm - 1), aI (l.getD (k + nat_lit 1) default).nxt, AV.bool (l.getD (k + nat_lit 1) default).dn, AV.bool (l.getD (k + nat_lit 1) default).kn, AV.bool (l.getD (k + nat_lit 1) default).ft] ((i - (popN l k).length + 0) * 8 + j) AV.junk) = rowL enC (popN l (k + 1)) i j from (fun i hi j hj => row_if (fun h => (rowL_left h).symm) (fun h2 => by obtain rfl : i = _ := Nat.le_antisymm (Nat.lt_succ_iff.mp hi) (Nat.not_lt.mp h2); rw [popN, rowL_last, Nat.sub_self, pop_y h]; (match j, hj with | 0, _ => rfl | 1, _ => rfl | 2, _ => rfl | 3, _ => rfl | 4, _ => rfl | 5, _ => rfl | 6, _ => rfl | 7, _ => rfl)))) (zM80 l (cj (sM80 l k) (cj (rf ((k : Int) + 1 + 1)) trivial))))))))))) (by kernel_rfl)
theorem pp_n (l : List En) (k : Nat) (hk : k + 1 < l.length) (hb : l.length < 1000000) (hf : -1000000 ≤ (l.getD (k + 1) default).frm ∧ (l.getD (k + 1) default).frm ≤ 1000000) (h : ¬ 0 ≤ (l.getD (k + 1) default).frm) : Vc (vcC Try.prog false (ntOf Try.prog 55) (lpC Try.prog 55 0) (ppS l k) [.bd true, .bd false] .nrm [(0, 0)] (ppS l (k + 1))) := vc_by (cj (dt ((k : Int) + 1 < (l.length : Int))) (cj (bi ((k : Int) + 1) (l.length : Int)) (cj (df ((l.getD (k + nat_lit 1) default).frm ≥ 0)) (cj (show (0 : Nat) = 0 ∧ (popN l k).length = (popN l k).length ∧ ((popN l k).length + 1) * 48 ≤ 140737488355328 ∧ (popN l k).length + 1 ≤ 140737488355328 from by rw [popN_len]; omega) (cj (i6 ((k : Int) + 1 + 1)) (cj (sM80 l k) (cj (show ∀ (i : Nat), i < (popN l k).length + 1 → ∀ (j : Nat), j < 8 → (bif Nat.blt i (popN l k).length then rowL enC (popN l k) i j else List.getD [aI (l.getD (k + nat_lit 1) default).pc, aI (l.getD (k + nat_lit 1) default).val, aI (l.getD (k + nat_lit 1) default).adr, aI (l.getD (k + nat_lit 1) default).frm, aI (l.getD (k + nat_lit 1) default).nxt, AV.bool (l.getD (k + nat_lit 1) default).dn, AV.bool (l.getD (k + nat_lit 1) default).kn, AV.bool (l.getD (k + nat_lit 1) default).ft] ((i - (popN l k).length + 0) * 8 + j) AV.junk) = rowL enC (popN l (k + 1)) i j from (fun i hi j hj => row_if (fun h => (rowL_left h).symm) (fun h2 => by obtain rfl : i = _ := Nat.le_antisymm (Nat.lt_succ_iff.mp hi) (Nat.not_lt.mp h2); rw [popN, rowL_last, Nat.sub_self, pop_n h]; (match j, hj with | 0, _ => rfl | 1, _ => rfl | 2, _ => rfl | 3, _ => rfl | 4, _ => rfl | 5, _ => rfl | 6, _ => rfl | 7, _ => rfl)))) (zM80 l (cj (sM80 l k) (cj (rf ((k : Int) + 1 + 1)) trivial)))))))))) (by kernel_rfl)
theorem pp_end (l : List En) (k : Nat) (hk : ¬ k + 1 < l.length) : Vc (vcC Try.prog false (ntOf Try.prog 55) (lpC Try.prog 55 0) (ppS l k) [.bd false] (.ext 0) [(0, 0)] (ppS l k)) := vc_by (cj (df ((k : Int) + 1 < (l.length : Int))) (cj (rf ((popN l k).length)) (cj (rr ((popN l k).length) 8 fun i j => rowL enC (popN l k) i j) (cj (rf l.length) (cj (rr l.length 8 fun i j => rowL enC l i j) (cj (rf (0 : Nat)) (cj (rf ((popN l k).length)) (cj (rf ((k : Int) + 1)) trivial)))))))) (by kernel_rfl)
theorem pp_loop (l : List En) (hb : l.length < 1000000) (hf : ∀ e ∈ l, -1000000 ≤ e.frm ∧ e.frm ≤ 1000000) : Ok Try.prog (ntOf Try.prog 55) (.loop (lpC Try.prog 55 0)) (ppS l 0).st (.ext 0) (ppS l (l.length - 1)).st :=
  Ok.loop (P := Try.prog) (nt := ntOf Try.prog 55) (c := lpC Try.prog 55 0) (F := fun k => ppS l k) (m := l.length - 1) (x := .ext 0) (J := ppS l (l.length - 1)) (fun k hk => by
    have hfk := hf (l.getD (k + 1) default) (by simp [List.getD, show k + 1 < l.length by omega])
    by_cases h : 0 ≤ (l.getD (k + 1) default).frm
    · exact Ok.vc (pp_y l k (by omega) hb hfk h)
    · exact Ok.vc (pp_n l k (by omega) hb hfk h)) (Ok.vc (pp_end l _ (by omega))) (by simp)
theorem pop_vc (l : List En) (n : Nat) (h : Ok Try.prog (ntOf Try.prog 55) (.loop (lpC Try.prog 55 0)) (ppS l 0).st (.ext 0) (ppS l n).st) : Vc (vcFn Try.prog false 55 [enR l] [.lp [] (ppS l 0) (.ext 0) (ppS l n)] [] (enR (popN l n)) []) := vc_by (cj (rf (0 : Nat)) (cj (rf l.length) (cj (rr l.length 8 fun i j => rowL enC l i j) (cj (rf (0 : Nat)) (cj (rf (0 : Nat)) (cj (rf (1 : Int)) (cj h (cj (rf ((popN l n).length)) (cj (rr ((popN l n).length) 8 fun i j => rowL enC (popN l n) i j) trivial))))))))) (by kernel_rfl)
theorem rpopC (l : List En) (hb : l.length < 1000000) (hf : ∀ e ∈ l, -1000000 ≤ e.frm ∧ e.frm ≤ 1000000) : PureC Try.prog 55 [enR l] (enR (popL l)) [] := PureC.vc (pop_vc l _ (pp_loop l hb hf))
end
end Go.Proofs.Ytgcedepjlgfcjaa.Px
namespace Go.Proofs.Ytgcedepjlgfcjaa.Px
section
open Go.RowKit Go.Proofs.Ytgcedepjlgfcjaa.Rx
theorem set_row0 {m : List Int} {n : Nat} {v : Int} : ∀ i, i < 0 + m.length → ∀ j, j < 1 → (bif Nat.ble 0 j && Nat.blt j 1 && Nat.beq (i + 0) (n + 0) then [AV.int .i64 v].getD (j - 0) .junk else AV.int .i64 (m.getD (i + 0 - 0) 0)) = .int .i64 ((m.set n v).getD i 0) := fun i hi j hj =>
  set_row (m := m) (n := n) (v := v) i (by omega) j hj
theorem snoc_row0 {l : List Int} {x : Int} : ∀ i, i < 0 + l.length + 1 → ∀ j, j < 1 → (bif Nat.blt (i + 0) (0 + l.length) then AV.int .i64 (l.getD (i + 0 - 0) 0) else [AV.int .i64 x].getD ((i + 0 - (0 + l.length) + 0) * 1 + j) .junk) = .int .i64 ((l ++ [x]).getD i 0) := fun i hi j hj => by
  obtain rfl : j = 0 := by omega
  simp only [Nat.zero_add, Nat.add_zero, Nat.sub_zero] at hi ⊢
  exact row_snoc (l := l) (x := x) (g := fun a b => [AV.int .i64 x].getD (a * 1 + b) .junk) rfl i hi _ fun _ => rfl
theorem take_row0 {l : List Int} : ∀ i, i < Int.toNat (((0 + l.length : Nat) : Int) - 1) → ∀ j, j < 1 → AV.int .i64 (l.getD (i + 0 - 0) 0) = .int .i64 ((l.take (l.length - 1)).getD i 0) := fun i hi j hj => by
  rw [getD_take l (l.length - 1) i (by omega)]
  rfl
theorem zM90 (c : Cf) {Z : Prop} (z : Z) : (RR c.s.m.length 1 (fun i j => aI (List.getD c.s.m i (0 : Int))) (RF c.s.st.length (RR c.s.st.length 1 (fun i j => aI (List.getD c.s.st i (0 : Int))) (RF c.s.pc (RF c.b.length (RR c.b.length 8 (fun i j => rowL enC c.b i j) (RF c.r.length (RR c.r.length 1 (fun i j => aI (c.r.getD i 0)) (RF c.e Z))))))))) := ⟨fun _ _ _ _ => rfl, rfl, fun _ _ _ _ => rfl, rfl, rfl, fun _ _ _ _ => rfl, rfl, fun _ _ _ _ => rfl, rfl, z⟩
theorem zM91 (p : Pg) (c : Cf) {Z : Prop} (z : Z) : (RF p.ls.length (RR p.ls.length 2 (fun i j => rowL lbC p.ls i j) (RF p.is.length (RR p.is.length 9 (fun i j => rowL inC p.is i j) (RF c.s.r0 (RF c.s.r1 (RF c.s.r2 (RF c.s.r3 (RF c.s.m.length Z))))))))) := ⟨rfl, fun _ _ _ _ => rfl, rfl, fun _ _ _ _ => rfl, rfl, rfl, rfl, rfl, rfl, z⟩
theorem zM92 (p : Pg) {Z : Prop} (z : Z) : (RF p.W (RF p.win (RF p.fuel (RF p.r0 (RF p.r1 (RF p.r2 (RF p.r3 (RF p.ms.length (RR p.ms.length 3 (fun i j => rowL mmC p.ms i j) Z))))))))) := ⟨rfl, rfl, rfl, rfl, rfl, rfl, rfl, rfl, fun _ _ _ _ => rfl, z⟩
theorem rt_x (p : Pg) (c : Cf) (hC : PureC Try.prog 40 [.agg (pgA p), .agg (cfA c)] (.bool false) []) : Vc (vcFn Try.prog false 44 [.agg (pgA p), .agg (cfA c)] [.fv, .cl [.agg (pgA p), .agg (cfA c)] (.bool false) []] [] (.tup (ocA none)) []) := vc_by (zM92 p (zM91 p c (zM90 c (cj hC (cj (rf (0 : Int)) (cj (rf (0 : Int)) (cj (rf (0 : Int)) (cj (rf (0 : Int)) (cj (rf (0 : Nat)) (cj (rf (0 : Nat)) (cj (rf (0 : Int)) (cj (rf (0 : Nat)) (cj (rf (0 : Nat)) (cj (rf (0 : Int)) (cj (rf false) trivial))))))))))))))) (by kernel_rfl)
theorem zM93 (c : Cf) {Z : Prop} (z : Z) : (RR (0 + c.s.st.length) 1 (fun i j => aI (List.getD c.s.st i (0 : Int))) (RF ((c.b.getD 0 default).pc) (RF (0 : Nat) (RF (0 : Nat) (RF (2 : Int) (RF true Z)))))) := ⟨fun _ _ _ _ => rfl, rfl, rfl, rfl, rfl, rfl, z⟩
theorem zM94 (c : Cf) {Z : Prop} (z : Z) : (RF c.s.r0 (RF c.s.r1 (RF c.s.r2 (RF c.s.r3 Z)))) := ⟨rfl, rfl, rfl, rfl, z⟩
theorem zM95 (p : Pg) (c : Cf) {Z : Prop} (z : Z) : (RF p.ls.length (RR p.ls.length 2 (fun i j => rowL lbC p.ls i j) (RF p.is.length (RR p.is.length 9 (fun i j => rowL inC p.is i j) (RF ((c.b.getD 0 default).pc) Z))))) := ⟨rfl, fun _ _ _ _ => rfl, rfl, fun _ _ _ _ => rfl, rfl, z⟩
abbrev qM90 (p : Pg) (c : Cf) : Prop := PureC Try.prog 40 [.agg (pgA p), .agg (cfA c)] (.bool true) []
abbrev qM91 (c : Cf) : Prop := PureC Try.prog 55 [enR c.b] (enR (popL c.b)) []
abbrev oM93 (p : Pg) (c : Cf) : Orc := .cl [.agg (pgA p), .int .i64 (c.b.getD 0 default).pc] (.agg (inA (enX p c 0))) []
abbrev oM92 (p : Pg) (c : Cf) : Orc := .cl [.agg (pgA p), .agg (cfA c)] (.bool true) []
abbrev oM94 (c : Cf) : Orc := .cl [enR c.b] (enR (popL c.b)) []
theorem rt_f (p : Pg) (c : Cf) (hC : qM90 p c) (hP : qM91 c) (h0 : c.e = 0) (hl : 0 < c.b.length) (hb : c.b.length < 900000) (hs : c.s.st.length ≤ 1000) (hm : c.s.m.length ≤ 1000000) (hf : (c.b.getD 0 default).ft = true) : Vc (vcFn Try.prog false 44 [.agg (pgA p), .agg (cfA c)] [.fv, oM92 p c, oM93 p c, oM94 c, .b true, .b true, .b true, .b true, .bd true] [] (.tup [.agg (cfA ⟨c.s.go (c.b.getD 0 default).pc, [], [], 2⟩), .bool true]) []) := vc_by (zM92 p (zM91 p c (zM90 c (cj hC (cj (pv ((0 : Int) ≤ 0 ∧ (0 : Int) < (↑c.b.length : Int))) (zM92 p (zM95 p c (cj (ratC p (c.b.getD 0 default).pc) (cj (rf c.b.length) (cj (rr c.b.length 8 fun i j => rowL enC c.b i j) (cj hP (cj (ap 0 c.s.m.length 8) (cj (ap 0 c.s.st.length 8) (cj hf (cj hf (cj hf (cj hf (cj (n1 (2 : Int) 0) (zM94 c (cj (za c.s.m.length) (cj (rr (0 + c.s.m.length) 1 fun i j => aI (List.getD c.s.m i (0 : Int))) (cj (za c.s.st.length) (zM93 c trivial))))))))))))))))))))))) (by kernel_rfl)
theorem rt_12 (p : Pg) (c : Cf) (hC : qM90 p c) (hP : qM91 c) (h0 : c.e = 0) (hl : 0 < c.b.length) (hb : c.b.length < 900000) (hs : c.s.st.length ≤ 1000) (hm : c.s.m.length ≤ 1000000) (k12 : (enX p c 0).kind = 12) (hf : (c.b.getD 0 default).ft = false) : Vc (vcFn Try.prog false 44 [.agg (pgA p), .agg (cfA c)] [.fv, oM92 p c, oM93 p c, oM94 c, .b false, .b false, .b false, .bd true, .b false, .bd true] [] (.tup [.agg (cfA ⟨c.s.go (c.b.getD 0 default).pc, [], [], 2⟩), .bool true]) []) := vc_by (zM92 p (zM91 p c (zM90 c (cj hC (cj (pv ((0 : Int) ≤ 0 ∧ (0 : Int) < (↑c.b.length : Int))) (zM92 p (zM95 p c (cj (ratC p (c.b.getD 0 default).pc) (cj (rf c.b.length) (cj (rr c.b.length 8 fun i j => rowL enC c.b i j) (cj hP (cj (ap 0 c.s.m.length 8) (cj (ap 0 c.s.st.length 8) (cj hf (cj hf (cj hf (cj (e1 ((enX p c 0).kind) 12) (cj hf (cj (n1 (2 : Int) 0) (zM94 c (cj (za c.s.m.length) (cj (rr (0 + c.s.m.length) 1 fun i j => aI (List.getD c.s.m i (0 : Int))) (cj (za c.s.st.length) (zM93 c trivial)))))))))))))))))))))))) (by kernel_rfl)
theorem rt_11 (p : Pg) (c : Cf) (hC : qM90 p c) (hP : qM91 c) (h0 : c.e = 0) (hl : 0 < c.b.length) (hb : c.b.length < 900000) (hs : c.s.st.length ≤ 1000) (hm : c.s.m.length ≤ 1000000) (k12 : ¬ (enX p c 0).kind = 12) (k11 : (enX p c 0).kind = 11) (hf : (c.b.getD 0 default).ft = false) : Vc (vcFn Try.prog false 44 [.agg (pgA p), .agg (cfA c)] [.fv, oM92 p c, oM93 p c, oM94 c, .b false, .b false, .b false, .bd false, .b false, .bd true, .bd true] [] (.tup [.agg (cfA ⟨c.s.go (c.b.getD 0 default).pc, [], [], 1⟩), .bool true]) []) := vc_by (zM92 p (zM91 p c (zM90 c (cj hC (cj (pv ((0 : Int) ≤ 0 ∧ (0 : Int) < (↑c.b.length : Int))) (zM92 p (zM95 p c (cj (ratC p (c.b.getD 0 default).pc) (cj (rf c.b.length) (cj (rr c.b.length 8 fun i j => rowL enC c.b i j) (cj hP (cj (ap 0 c.s.m.length 8) (cj (ap 0 c.s.st.length 8) (cj hf (cj hf (cj hf (cj (e0 ((enX p c 0).kind) 12) (cj hf (cj (e1 ((enX p c 0).kind) 11) (cj (n1 (1 : Int) 0) (zM94 c (cj (za c.s.m.length) (cj (rr (0 + c.s.m.length) 1 fun i j => aI (List.getD c.s.m i (0 : Int))) (cj (za c.s.st.length) (cj (rr (0 + c.s.st.length) 1 fun i j => aI (List.getD c.s.st i (0 : Int))) (cj (rf ((c.b.getD 0 default).pc)) (cj (rf (0 : Nat)) (cj (rf (0 : Nat)) (cj (rf (1 : Int)) (cj (rf true) trivial)))))))))))))))))))))))))))))) (by kernel_rfl)
theorem sM90 (p : Pg) (c : Cf) (hd : (enX p c 0).d = 0) : Go.bits Go.BinOp.and IntKind.i64 (enX p c 0).d (3 : Int) = ((0 : Nat) : Int) := by rw [hd]; decide
theorem zM96 (c : Cf) {Z : Prop} (z : Z) : (RR (0 + c.s.st.length) 1 (fun i j => aI (List.getD c.s.st i (0 : Int))) (RF c.s.pc (RF ((popL c.b).length) (RR ((popL c.b).length) 8 (fun i j => rowL enC (popL c.b) i j) (RF c.r.length (RR c.r.length 1 (fun i j => aI (c.r.getD i 0)) (RF c.e (RF true Z)))))))) := ⟨fun _ _ _ _ => rfl, rfl, rfl, fun _ _ _ _ => rfl, rfl, fun _ _ _ _ => rfl, rfl, rfl, z⟩
theorem zM97 (c : Cf) {Z : Prop} (z : Z) : (RF ((c.b.getD 0 default).val) (RF c.s.r1 (RF c.s.r2 (RF c.s.r3 Z)))) := ⟨rfl, rfl, rfl, rfl, z⟩
theorem rt_1_0 (p : Pg) (c : Cf) (hC : qM90 p c) (hP : qM91 c) (h0 : c.e = 0) (hl : 0 < c.b.length) (hb : c.b.length < 900000) (hs : c.s.st.length ≤ 1000) (hm : c.s.m.length ≤ 1000000) (k12 : ¬ (enX p c 0).kind = 12) (k11 : ¬ (enX p c 0).kind = 11) (k1 : (enX p c 0).kind = 1) (hf : (c.b.getD 0 default).ft = false) (hd : (enX p c 0).d = 0) : Vc (vcFn Try.prog false 44 [.agg (pgA p), .agg (cfA c)] [.fv, oM92 p c, oM93 p c, oM94 c, .b false, .b false, .b false, .bd false, .b false, .bd false, .bd true, .ix 0, .bd false] [] (.tup [.agg (cfA ⟨c.s.set 0 (c.b.getD 0 default).val, popL c.b, c.r, c.e⟩), .bool true]) []) := vc_by (zM92 p (zM91 p c (zM90 c (cj hC (cj (pv ((0 : Int) ≤ 0 ∧ (0 : Int) < (↑c.b.length : Int))) (zM92 p (zM95 p c (cj (ratC p (c.b.getD 0 default).pc) (cj (rf c.b.length) (cj (rr c.b.length 8 fun i j => rowL enC c.b i j) (cj hP (cj (ap 0 c.s.m.length 8) (cj (ap 0 c.s.st.length 8) (cj hf (cj hf (cj hf (cj (e0 ((enX p c 0).kind) 12) (cj hf (cj (e0 ((enX p c 0).kind) 11) (cj (e1 ((enX p c 0).kind) 1) (cj (sM90 p c hd) (cj (bne_eq_false_iff_eq.2 h0) (zM97 c (cj (za c.s.m.length) (cj (rr (0 + c.s.m.length) 1 fun i j => aI (List.getD c.s.m i (0 : Int))) (cj (za c.s.st.length) (zM96 c trivial))))))))))))))))))))))))))) (by kernel_rfl)
theorem sM91 (p : Pg) (c : Cf) (hd : (enX p c 0).d = 1) : Go.bits Go.BinOp.and IntKind.i64 (enX p c 0).d (3 : Int) = ((1 : Nat) : Int) := by rw [hd]; decide
theorem zM98 (c : Cf) {Z : Prop} (z : Z) : (RF c.s.r0 (RF ((c.b.getD 0 default).val) (RF c.s.r2 (RF c.s.r3 Z)))) := ⟨rfl, rfl, rfl, rfl, z⟩
theorem rt_1_1 (p : Pg) (c : Cf) (hC : qM90 p c) (hP : qM91 c) (h0 : c.e = 0) (hl : 0 < c.b.length) (hb : c.b.length < 900000) (hs : c.s.st.length ≤ 1000) (hm : c.s.m.length ≤ 1000000) (k12 : ¬ (enX p c 0).kind = 12) (k11 : ¬ (enX p c 0).kind = 11) (k1 : (enX p c 0).kind = 1) (hf : (c.b.getD 0 default).ft = false) (hd : (enX p c 0).d = 1) : Vc (vcFn Try.prog false 44 [.agg (pgA p), .agg (cfA c)] [.fv, oM92 p c, oM93 p c, oM94 c, .b false, .b false, .b false, .bd false, .b false, .bd false, .bd true, .ix 1, .bd false] [] (.tup [.agg (cfA ⟨c.s.set 1 (c.b.getD 0 default).val, popL c.b, c.r, c.e⟩), .bool true]) []) := vc_by (zM92 p (zM91 p c (zM90 c (cj hC (cj (pv ((0 : Int) ≤ 0 ∧ (0 : Int) < (↑c.b.length : Int))) (zM92 p (zM95 p c (cj (ratC p (c.b.getD 0 default).pc) (cj (rf c.b.length) (cj (rr c.b.length 8 fun i j => rowL enC c.b i j) (cj hP (cj (ap 0 c.s.m.length 8) (cj (ap 0 c.s.st.length 8) (cj hf (cj hf (cj hf (cj (e0 ((enX p c 0).kind) 12) (cj hf (cj (e0 ((enX p c 0).kind) 11) (cj (e1 ((enX p c 0).kind) 1) (cj (sM91 p c hd) (cj (bne_eq_false_iff_eq.2 h0) (zM98 c (cj (za c.s.m.length) (cj (rr (0 + c.s.m.length) 1 fun i j => aI (List.getD c.s.m i (0 : Int))) (cj (za c.s.st.length) (zM96 c trivial))))))))))))))))))))))))))) (by kernel_rfl)
theorem sM92 (p : Pg) (c : Cf) (hd : (enX p c 0).d = 2) : Go.bits Go.BinOp.and IntKind.i64 (enX p c 0).d (3 : Int) = ((2 : Nat) : Int) := by rw [hd]; decide
theorem zM99 (c : Cf) {Z : Prop} (z : Z) : (RF c.s.r0 (RF c.s.r1 (RF ((c.b.getD 0 default).val) (RF c.s.r3 Z)))) := ⟨rfl, rfl, rfl, rfl, z⟩
theorem rt_1_2 (p : Pg) (c : Cf) (hC : qM90 p c) (hP : qM91 c) (h0 : c.e = 0) (hl : 0 < c.b.length) (hb : c.b.length < 900000) (hs : c.s.st.length ≤ 1000) (hm : c.s.m.length ≤ 1000000) (k12 : ¬ (enX p c 0).kind = 12) (k11 : ¬ (enX p c 0).kind = 11) (k1 : (enX p c 0).kind = 1) (hf : (c.b.getD 0 default).ft = false) (hd : (enX p c 0).d = 2) : Vc (vcFn Try.prog false 44 [.agg (pgA p), .agg (cfA c)] [.fv, oM92 p c, oM93 p c, oM94 c, .b false, .b false, .b false, .bd false, .b false, .bd false, .bd true, .ix 2, .bd false] [] (.tup [.agg (cfA ⟨c.s.set 2 (c.b.getD 0 default).val, popL c.b, c.r, c.e⟩), .bool true]) []) := vc_by (zM92 p (zM91 p c (zM90 c (cj hC (cj (pv ((0 : Int) ≤ 0 ∧ (0 : Int) < (↑c.b.length : Int))) (zM92 p (zM95 p c (cj (ratC p (c.b.getD 0 default).pc) (cj (rf c.b.length) (cj (rr c.b.length 8 fun i j => rowL enC c.b i j) (cj hP (cj (ap 0 c.s.m.length 8) (cj (ap 0 c.s.st.length 8) (cj hf (cj hf (cj hf (cj (e0 ((enX p c 0).kind) 12) (cj hf (cj (e0 ((enX p c 0).kind) 11) (cj (e1 ((enX p c 0).kind) 1) (cj (sM92 p c hd) (cj (bne_eq_false_iff_eq.2 h0) (zM99 c (cj (za c.s.m.length) (cj (rr (0 + c.s.m.length) 1 fun i j => aI (List.getD c.s.m i (0 : Int))) (cj (za c.s.st.length) (zM96 c trivial))))))))))))))))))))))))))) (by kernel_rfl)
theorem sM93 (p : Pg) (c : Cf) (hd : (enX p c 0).d = 3) : Go.bits Go.BinOp.and IntKind.i64 (enX p c 0).d (3 : Int) = ((3 : Nat) : Int) := by rw [hd]; decide
theorem zM910 (c : Cf) {Z : Prop} (z : Z) : (RF c.s.r0 (RF c.s.r1 (RF c.s.r2 (RF ((c.b.getD 0 default).val) Z)))) := ⟨rfl, rfl, rfl, rfl, z⟩
theorem rt_1_3 (p : Pg) (c : Cf) (hC : qM90 p c) (hP : qM91 c) (h0 : c.e = 0) (hl : 0 < c.b.length) (hb : c.b.length < 900000) (hs : c.s.st.length ≤ 1000) (hm : c.s.m.length ≤ 1000000) (k12 : ¬ (enX p c 0).kind = 12) (k11 : ¬ (enX p c 0).kind = 11) (k1 : (enX p c 0).kind = 1) (hf : (c.b.getD 0 default).ft = false) (hd : (enX p c 0).d = 3) : Vc (vcFn Try.prog false 44 [.agg (pgA p), .agg (cfA c)] [.fv, oM92 p c, oM93 p c, oM94 c, .b false, .b false, .b false, .bd false, .b false, .bd false, .bd true, .ix 3, .bd false] [] (.tup [.agg (cfA ⟨c.s.set 3 (c.b.getD 0 default).val, popL c.b, c.r, c.e⟩), .bool true]) []) := vc_by (zM92 p (zM91 p c (zM90 c (cj hC (cj (pv ((0 : Int) ≤ 0 ∧ (0 : Int) < (↑c.b.length : Int))) (zM92 p (zM95 p c (cj (ratC p (c.b.getD 0 default).pc) (cj (rf c.b.length) (cj (rr c.b.length 8 fun i j => rowL enC c.b i j) (cj hP (cj (ap 0 c.s.m.length 8) (cj (ap 0 c.s.st.length 8) (cj hf (cj hf (cj hf (cj (e0 ((enX p c 0).kind) 12) (cj hf (cj (e0 ((enX p c 0).kind) 11) (cj (e1 ((enX p c 0).kind) 1) (cj (sM93 p c hd) (cj (bne_eq_false_iff_eq.2 h0) (zM910 c (cj (za c.s.m.length) (cj (rr (0 + c.s.m.length) 1 fun i j => aI (List.getD c.s.m i (0 : Int))) (cj (za c.s.st.length) (zM96 c trivial))))))))))))))))))))))))))) (by kernel_rfl)
theorem rt_2_0 (p : Pg) (c : Cf) (hC : qM90 p c) (hP : qM91 c) (h0 : c.e = 0) (hl : 0 < c.b.length) (hb : c.b.length < 900000) (hs : c.s.st.length ≤ 1000) (hm : c.s.m.length ≤ 1000000) (k12 : ¬ (enX p c 0).kind = 12) (k11 : ¬ (enX p c 0).kind = 11) (k1 : ¬ (enX p c 0).kind = 1) (k2 : (enX p c 0).kind = 2) (hf : (c.b.getD 0 default).ft = false) (hd : (enX p c 0).d = 0) : Vc (vcFn Try.prog false 44 [.agg (pgA p), .agg (cfA c)] [.fv, oM92 p c, oM93 p c, oM94 c, .b false, .b false, .b false, .bd false, .b false, .bd false, .bd false, .bd true, .ix 0, .bd false] [] (.tup [.agg (cfA ⟨c.s.set 0 (c.b.getD 0 default).val, popL c.b, c.r, c.e⟩), .bool true]) []) := vc_by (zM92 p (zM91 p c (zM90 c (cj hC (cj (pv ((0 : Int) ≤ 0 ∧ (0 : Int) < (↑c.b.length : Int))) (zM92 p (zM95 p c (cj (ratC p (c.b.getD 0 default).pc) (cj (rf c.b.length) (cj (rr c.b.length 8 fun i j => rowL enC c.b i j) (cj hP (cj (ap 0 c.s.m.length 8) (cj (ap 0 c.s.st.length 8) (cj hf (cj hf (cj hf (cj (e0 ((enX p c 0).kind) 12) (cj hf (cj (e0 ((enX p c 0).kind) 11) (cj (e0 ((enX p c 0).kind) 1) (cj (e1 ((enX p c 0).kind) 2) (cj (sM90 p c hd) (cj (bne_eq_false_iff_eq.2 h0) (zM97 c (cj (za c.s.m.length) (cj (rr (0 + c.s.m.length) 1 fun i j => aI (List.getD c.s.m i (0 : Int))) (cj (za c.s.st.length) (zM96 c trivial)))))))))))))))))))))))))))) (by kernel_rfl)
theorem rt_2_1 (p : Pg) (c : Cf) (hC : qM90 p c) (hP : qM91 c) (h0 : c.e = 0) (hl : 0 < c.b.length) (hb : c.b.length < 900000) (hs : c.s.st.length ≤ 1000) (hm : c.s.m.length ≤ 1000000) (k12 : ¬ (enX p c 0).kind = 12) (k11 : ¬ (enX p c 0).kind = 11) (k1 : ¬ (enX p c 0).kind = 1) (k2 : (enX p c 0).kind = 2) (hf : (c.b.getD 0 default).ft = false) (hd : (enX p c 0).d = 1) : Vc (vcFn Try.prog false 44 [.agg (pgA p), .agg (cfA c)] [.fv, oM92 p c, oM93 p c, oM94 c, .b false, .b false, .b false, .bd false, .b false, .bd false, .bd false, .bd true, .ix 1, .bd false] [] (.tup [.agg (cfA ⟨c.s.set 1 (c.b.getD 0 default).val, popL c.b, c.r, c.e⟩), .bool true]) []) := vc_by (zM92 p (zM91 p c (zM90 c (cj hC (cj (pv ((0 : Int) ≤ 0 ∧ (0 : Int) < (↑c.b.length : Int))) (zM92 p (zM95 p c (cj (ratC p (c.b.getD 0 default).pc) (cj (rf c.b.length) (cj (rr c.b.length 8 fun i j => rowL enC c.b i j) (cj hP (cj (ap 0 c.s.m.length 8) (cj (ap 0 c.s.st.length 8) (cj hf (cj hf (cj hf (cj (e0 ((enX p c 0).kind) 12) (cj hf (cj (e0 ((enX p c 0).kind) 11) (cj (e0 ((enX p c 0).kind) 1) (cj (e1 ((enX p c 0).kind) 2) (cj (sM91 p c hd) (cj (bne_eq_false_iff_eq.2 h0) (zM98 c (cj (za c.s.m.length) (cj (rr (0 + c.s.m.length) 1 fun i j => aI (List.getD c.s.m i (0 : Int))) (cj (za c.s.st.length) (zM96 c trivial)))))))))))))))))))))))))))) (by kernel_rfl)
theorem rt_2_2 (p : Pg) (c : Cf) (hC : qM90 p c) (hP : qM91 c) (h0 : c.e = 0) (hl : 0 < c.b.length) (hb : c.b.length < 900000) (hs : c.s.st.length ≤ 1000) (hm : c.s.m.length ≤ 1000000) (k12 : ¬ (enX p c 0).kind = 12) (k11 : ¬ (enX p c 0).kind = 11) (k1 : ¬ (enX p c 0).kind = 1) (k2 : (enX p c 0).kind = 2) (hf : (c.b.getD 0 default).ft = false) (hd : (enX p c 0).d = 2) : Vc (vcFn Try.prog false 44 [.agg (pgA p), .agg (cfA c)] [.fv, oM92 p c, oM93 p c, oM94 c, .b false, .b false, .b false, .bd false, .b false, .bd false, .bd false, .bd true, .ix 2, .bd false] [] (.tup [.agg (cfA ⟨c.s.set 2 (c.b.getD 0 default).val, popL c.b, c.r, c.e⟩), .bool true]) []) := vc_by (zM92 p (zM91 p c (zM90 c (cj hC (cj (pv ((0 : Int) ≤ 0 ∧ (0 : Int) < (↑c.b.length : Int))) (zM92 p (zM95 p c (cj (ratC p (c.b.getD 0 default).pc) (cj (rf c.b.length) (cj (rr c.b.length 8 fun i j => rowL enC c.b i j) (cj hP (cj (ap 0 c.s.m.length 8) (cj (ap 0 c.s.st.length 8) (cj hf (cj hf (cj hf (cj (e0 ((enX p c 0).kind) 12) (cj hf (cj (e0 ((enX p c 0).kind) 11) (cj (e0 ((enX p c 0).kind) 1) (cj (e1 ((enX p c 0).kind) 2) (cj (sM92 p c hd) (cj (bne_eq_false_iff_eq.2 h0) (zM99 c (cj (za c.s.m.length) (cj (rr (0 + c.s.m.length) 1 fun i j => aI (List.getD c.s.m i (0 : Int))) (cj (za c.s.st.length) (zM96 c trivial)))))))))))))))))))))))))))) (by kernel_rfl)
theorem rt_2_3 (p : Pg) (c : Cf) (hC : qM90 p c) (hP : qM91 c) (h0 : c.e = 0) (hl : 0 < c.b.length) (hb : c.b.length < 900000) (hs : c.s.st.length ≤ 1000) (hm : c.s.m.length ≤ 1000000) (k12 : ¬ (enX p c 0).kind = 12) (k11 : ¬ (enX p c 0).kind = 11) (k1 : ¬ (enX p c 0).kind = 1) (k2 : (enX p c 0).kind = 2) (hf : (c.b.getD 0 default).ft = false) (hd : (enX p c 0).d = 3) : Vc (vcFn Try.prog false 44 [.agg (pgA p), .agg (cfA c)] [.fv, oM92 p c, oM93 p c, oM94 c, .b false, .b false, .b false, .bd false, .b false, .bd false, .bd false, .bd true, .ix 3, .bd false] [] (.tup [.agg (cfA ⟨c.s.set 3 (c.b.getD 0 default).val, popL c.b, c.r, c.e⟩), .bool true]) []) := vc_by (zM92 p (zM91 p c (zM90 c (cj hC (cj (pv ((0 : Int) ≤ 0 ∧ (0 : Int) < (↑c.b.length : Int))) (zM92 p (zM95 p c (cj (ratC p (c.b.getD 0 default).pc) (cj (rf c.b.length) (cj (rr c.b.length 8 fun i j => rowL enC c.b i j) (cj hP (cj (ap 0 c.s.m.length 8) (cj (ap 0 c.s.st.length 8) (cj hf (cj hf (cj hf (cj (e0 ((enX p c 0).kind) 12) (cj hf (cj (e0 ((enX p c 0).kind) 11) (cj (e0 ((enX p c 0).kind) 1) (cj (e1 ((enX p c 0).kind) 2) (cj (sM93 p c hd) (cj (bne_eq_false_iff_eq.2 h0) (zM910 c (cj (za c.s.m.length) (cj (rr (0 + c.s.m.length) 1 fun i j => aI (List.getD c.s.m i (0 : Int))) (cj (za c.s.st.length) (zM96 c trivial)))))))))))))))))))))))))))) (by kernel_rfl)
theorem rt_4_0 (p : Pg) (c : Cf) (hC : qM90 p c) (hP : qM91 c) (h0 : c.e = 0) (hl : 0 < c.b.length) (hb : c.b.length < 900000) (hs : c.s.st.length ≤ 1000) (hm : c.s.m.length ≤ 1000000) (k12 : ¬ (enX p c 0).kind = 12) (k11 : ¬ (enX p c 0).kind = 11) (k1 : ¬ (enX p c 0).kind = 1) (k2 : ¬ (enX p c 0).kind = 2) (k4 : (enX p c 0).kind = 4) (hf : (c.b.getD 0 default).ft = false) (hd : (enX p c 0).d = 0) : Vc (vcFn Try.prog false 44 [.agg (pgA p), .agg (cfA c)] [.fv, oM92 p c, oM93 p c, oM94 c, .b false, .b false, .b false, .bd false, .b false, .bd false, .bd false, .bd false, .bd true, .ix 0, .bd false] [] (.tup [.agg (cfA ⟨c.s.set 0 (c.b.getD 0 default).val, popL c.b, c.r, c.e⟩), .bool true]) []) := vc_by (zM92 p (zM91 p c (zM90 c (cj hC (cj (pv ((0 : Int) ≤ 0 ∧ (0 : Int) < (↑c.b.length : Int))) (zM92 p (zM95 p c (cj (ratC p (c.b.getD 0 default).pc) (cj (rf c.b.length) (cj (rr c.b.length 8 fun i j => rowL enC c.b i j) (cj hP (cj (ap 0 c.s.m.length 8) (cj (ap 0 c.s.st.length 8) (cj hf (cj hf (cj hf (cj (e0 ((enX p c 0).kind) 12) (cj hf (cj (e0 ((enX p c 0).kind) 11) (cj (e0 ((enX p c 0).kind) 1) (cj (e0 ((enX p c 0).kind) 2) (cj (e1 ((enX p c 0).kind) 4) (cj (sM90 p c hd) (cj (bne_eq_false_iff_eq.2 h0) (zM97 c (cj (za c.s.m.length) (cj (rr (0 + c.s.m.length) 1 fun i j => aI (List.getD c.s.m i (0 : Int))) (cj (za c.s.st.length) (zM96 c trivial))))))))))))))))))))))))))))) (by kernel_rfl)
theorem rt_4_1 (p : Pg) (c : Cf) (hC : qM90 p c) (hP : qM91 c) (h0 : c.e = 0) (hl : 0 < c.b.length) (hb : c.b.length < 900000) (hs : c.s.st.length ≤ 1000) (hm : c.s.m.length ≤ 1000000) (k12 : ¬ (enX p c 0).kind = 12) (k11 : ¬ (enX p c 0).kind = 11) (k1 : ¬ (enX p c 0).kind = 1) (k2 : ¬ (enX p c 0).kind = 2) (k4 : (enX p c 0).kind = 4) (hf : (c.b.getD 0 default).ft = false) (hd : (enX p c 0).d = 1) : Vc (vcFn Try.prog false 44 [.agg (pgA p), .agg (cfA c)] [.fv, oM92 p c, oM93 p c, oM94 c, .b false, .b false, .b false, .bd false, .b false, .bd false, .bd false, .bd false, .bd true, .ix 1, .bd false] [] (.tup [.agg (cfA ⟨c.s.set 1 (c.b.getD 0 default).val, popL c.b, c.r, c.e⟩), .bool true]) []) := vc_by (zM92 p (zM91 p c (zM90 c (cj hC (cj (pv ((0 : Int) ≤ 0 ∧ (0 : Int) < (↑c.b.length : Int))) (zM92 p (zM95 p c (cj (ratC p (c.b.getD 0 default).pc) (cj (rf c.b.length) (cj (rr c.b.length 8 fun i j => rowL enC c.b i j) (cj hP (cj (ap 0 c.s.m.length 8) (cj (ap 0 c.s.st.length 8) (cj hf (cj hf (cj hf (cj (e0 ((enX p c 0).kind) 12) (cj hf (cj (e0 ((enX p c 0).kind) 11) (cj (e0 ((enX p c 0).kind) 1) (cj (e0 ((enX p c 0).kind) 2) (cj (e1 ((enX p c 0).kind) 4) (cj (sM91 p c hd) (cj (bne_eq_false_iff_eq.2 h0) (zM98 c (cj (za c.s.m.length) (cj (rr (0 + c.s.m.length) 1 fun i j => aI (List.getD c.s.m i (0 : Int))) (cj (za c.s.st.length) (zM96 c trivial))))))))))))))))))))))))))))) (by kernel_rfl)
theorem rt_4_2 (p : Pg) (c : Cf) (hC : qM90 p c) (hP : qM91 c) (h0 : c.e = 0) (hl : 0 < c.b.length) (hb : c.b.length < 900000) (hs : c.s.st.length ≤ 1000) (hm : c.s.m.length ≤ 1000000) (k12 : ¬ (enX p c 0).kind = 12) (k11 : ¬ (enX p c 0).kind = 11) (k1 : ¬ (enX p c 0).kind = 1) (k2 : ¬ (enX p c 0).kind = 2) (k4 : (enX p c 0).kind = 4) (hf : (c.b.getD 0 default).ft = false) (hd : (enX p c 0).d = 2) : Vc (vcFn Try.prog false 44 [.agg (pgA p), .agg (cfA c)] [.fv, oM92 p c, oM93 p c, oM94 c, .b false, .b false, .b false, .bd false, .b false, .bd false, .bd false, .bd false, .bd true, .ix 2, .bd false] [] (.tup [.agg (cfA ⟨c.s.set 2 (c.b.getD 0 default).val, popL c.b, c.r, c.e⟩), .bool true]) []) := vc_by (zM92 p (zM91 p c (zM90 c (cj hC (cj (pv ((0 : Int) ≤ 0 ∧ (0 : Int) < (↑c.b.length : Int))) (zM92 p (zM95 p c (cj (ratC p (c.b.getD 0 default).pc) (cj (rf c.b.length) (cj (rr c.b.length 8 fun i j => rowL enC c.b i j) (cj hP (cj (ap 0 c.s.m.length 8) (cj (ap 0 c.s.st.length 8) (cj hf (cj hf (cj hf (cj (e0 ((enX p c 0).kind) 12) (cj hf (cj (e0 ((enX p c 0).kind) 11) (cj (e0 ((enX p c 0).kind) 1) (cj (e0 ((enX p c 0).kind) 2) (cj (e1 ((enX p c 0).kind) 4) (cj (sM92 p c hd) (cj (bne_eq_false_iff_eq.2 h0) (zM99 c (cj (za c.s.m.length) (cj (rr (0 + c.s.m.length) 1 fun i j => aI (List.getD c.s.m i (0 : Int))) (cj (za c.s.st.length) (zM96 c trivial))))))))))))))))))))))))))))) (by kernel_rfl)
theorem rt_4_3 (p : Pg) (c : Cf) (hC : qM90 p c) (hP : qM91 c) (h0 : c.e = 0) (hl : 0 < c.b.length) (hb : c.b.length < 900000) (hs : c.s.st.length ≤ 1000) (hm : c.s.m.length ≤ 1000000) (k12 : ¬ (enX p c 0).kind = 12) (k11 : ¬ (enX p c 0).kind = 11) (k1 : ¬ (enX p c 0).kind = 1) (k2 : ¬ (enX p c 0).kind = 2) (k4 : (enX p c 0).kind = 4) (hf : (c.b.getD 0 default).ft = false) (hd : (enX p c 0).d = 3) : Vc (vcFn Try.prog false 44 [.agg (pgA p), .agg (cfA c)] [.fv, oM92 p c, oM93 p c, oM94 c, .b false, .b false, .b false, .bd false, .b false, .bd false, .bd false, .bd false, .bd true, .ix 3, .bd false] [] (.tup [.agg (cfA ⟨c.s.set 3 (c.b.getD 0 default).val, popL c.b, c.r, c.e⟩), .bool true]) []) := vc_by (zM92 p (zM91 p c (zM90 c (cj hC (cj (pv ((0 : Int) ≤ 0 ∧ (0 : Int) < (↑c.b.length : Int))) (zM92 p (zM95 p c (cj (ratC p (c.b.getD 0 default).pc) (cj (rf c.b.length) (cj (rr c.b.length 8 fun i j => rowL enC c.b i j) (cj hP (cj (ap 0 c.s.m.length 8) (cj (ap 0 c.s.st.length 8) (cj hf (cj hf (cj hf (cj (e0 ((enX p c 0).kind) 12) (cj hf (cj (e0 ((enX p c 0).kind) 11) (cj (e0 ((enX p c 0).kind) 1) (cj (e0 ((enX p c 0).kind) 2) (cj (e1 ((enX p c 0).kind) 4) (cj (sM93 p c hd) (cj (bne_eq_false_iff_eq.2 h0) (zM910 c (cj (za c.s.m.length) (cj (rr (0 + c.s.m.length) 1 fun i j => aI (List.getD c.s.m i (0 : Int))) (cj (za c.s.st.length) (zM96 c trivial))))))))))))))))))))))))))))) (by kernel_rfl)
theorem rt_3 (p : Pg) (c : Cf) (hC : qM90 p c) (hP : qM91 c) (h0 : c.e = 0) (hl : 0 < c.b.length) (hb : c.b.length < 900000) (hs : c.s.st.length ≤ 1000) (hm : c.s.m.length ≤ 1000000) (k12 : ¬ (enX p c 0).kind = 12) (k11 : ¬ (enX p c 0).kind = 11) (k1 : ¬ (enX p c 0).kind = 1) (k2 : ¬ (enX p c 0).kind = 2) (k4 : ¬ (enX p c 0).kind = 4) (k3 : (enX p c 0).kind = 3) (hf : (c.b.getD 0 default).ft = false) (ha : 0 ≤ (c.b.getD 0 default).adr) (ha1 : (c.b.getD 0 default).adr < c.s.m.length) : Vc (vcFn Try.prog false 44 [.agg (pgA p), .agg (cfA c)] [.fv, oM92 p c, oM93 p c, oM94 c, .b false, .b false, .b false, .bd false, .b false, .bd false, .bd false, .bd false, .bd false, .bd true, .bd false] [] (.tup [.agg (cfA ⟨{ c.s with m := c.s.m.set (c.b.getD 0 default).adr.toNat (c.b.getD 0 default).val }, popL c.b, c.r, c.e⟩), .bool true]) []) := vc_by (zM92 p (zM91 p c (zM90 c (cj hC (cj (pv ((0 : Int) ≤ 0 ∧ (0 : Int) < (↑c.b.length : Int))) (zM92 p (zM95 p c (cj (ratC p (c.b.getD 0 default).pc) (cj (rf c.b.length) (cj (rr c.b.length 8 fun i j => rowL enC c.b i j) (cj hP (cj (ap 0 c.s.m.length 8) (cj (ap 0 c.s.st.length 8) (cj hf (cj hf (cj hf (cj (e0 ((enX p c 0).kind) 12) (cj hf (cj (e0 ((enX p c 0).kind) 11) (cj (e0 ((enX p c 0).kind) 1) (cj (e0 ((enX p c 0).kind) 2) (cj (e0 ((enX p c 0).kind) 4) (cj (e1 ((enX p c 0).kind) 3) (cj (bi ((c.b.getD 0 default).adr) (↑((0 : Nat) + c.s.m.length) : Int)) (cj (lz (Int.toNat (c.b.getD 0 default).adr) c.s.m.length) (cj (bne_eq_false_iff_eq.2 h0) (zM94 c (cj (pv ((0 : Nat) + c.s.m.length = (List.set c.s.m (Int.toNat (c.b.getD 0 default).adr) (c.b.getD 0 default).val).length)) (cj (show ∀ (i : Nat), i < 0 + c.s.m.length → ∀ (j : Nat), j < 1 → (bif Nat.ble (0 : Nat) j && Nat.blt j (1 : Nat) && Nat.beq (i + 0) (Int.toNat (c.b.getD 0 default).adr + 0) then List.getD [aI (c.b.getD 0 default).val] (j - 0) AV.junk else aI (List.getD c.s.m (i + 0 - 0) (0 : Int))) = aI (List.getD (List.set c.s.m (Int.toNat (c.b.getD 0 default).adr) (c.b.getD 0 default).val) i (0 : Int)) from set_row0) (cj (za c.s.st.length) (zM96 c trivial))))))))))))))))))))))))))))))) (by kernel_rfl)
theorem zM911 (c : Cf) {Z : Prop} (z : Z) : (RF c.s.pc (RF ((popL c.b).length) (RR ((popL c.b).length) 8 (fun i j => rowL enC (popL c.b) i j) (RF c.r.length (RR c.r.length 1 (fun i j => aI (c.r.getD i 0)) (RF c.e (RF true Z))))))) := ⟨rfl, rfl, fun _ _ _ _ => rfl, rfl, fun _ _ _ _ => rfl, rfl, rfl, z⟩
theorem rt_8 (p : Pg) (c : Cf) (hC : qM90 p c) (hP : qM91 c) (h0 : c.e = 0) (hl : 0 < c.b.length) (hb : c.b.length < 900000) (hs : c.s.st.length ≤ 1000) (hm : c.s.m.length ≤ 1000000) (k12 : ¬ (enX p c 0).kind = 12) (k11 : ¬ (enX p c 0).kind = 11) (k1 : ¬ (enX p c 0).kind = 1) (k2 : ¬ (enX p c 0).kind = 2) (k4 : ¬ (enX p c 0).kind = 4) (k3 : ¬ (enX p c 0).kind = 3) (k8 : (enX p c 0).kind = 8) (hf : (c.b.getD 0 default).ft = false) (hp : 0 ≤ (c.b.getD 0 default).pc) (hp1 : (c.b.getD 0 default).pc ≤ 1000000) : Vc (vcFn Try.prog false 44 [.agg (pgA p), .agg (cfA c)] [.fv, oM92 p c, oM93 p c, oM94 c, .b false, .b false, .b false, .bd false, .b false, .bd false, .bd false, .bd false, .bd false, .bd false, .bd true, .bd false] [] (.tup [.agg (cfA ⟨{ c.s with st := c.s.st ++ [(c.b.getD 0 default).pc + 1] }, popL c.b, c.r, c.e⟩), .bool true]) []) := vc_by (zM92 p (zM91 p c (zM90 c (cj hC (cj (pv ((0 : Int) ≤ 0 ∧ (0 : Int) < (↑c.b.length : Int))) (zM92 p (zM95 p c (cj (ratC p (c.b.getD 0 default).pc) (cj (rf c.b.length) (cj (rr c.b.length 8 fun i j => rowL enC c.b i j) (cj hP (cj (ap 0 c.s.m.length 8) (cj (ap 0 c.s.st.length 8) (cj hf (cj hf (cj hf (cj (e0 ((enX p c 0).kind) 12) (cj hf (cj (e0 ((enX p c 0).kind) 11) (cj (e0 ((enX p c 0).kind) 1) (cj (e0 ((enX p c 0).kind) 2) (cj (e0 ((enX p c 0).kind) 4) (cj (e0 ((enX p c 0).kind) 3) (cj (e1 ((enX p c 0).kind) 8) (cj (i6 ((c.b.getD 0 default).pc + 1)) (cj (ap (0 + c.s.st.length) 1 8) (cj (bne_eq_false_iff_eq.2 h0) (zM94 c (cj (za c.s.m.length) (cj (rr (0 + c.s.m.length) 1 fun i j => aI (List.getD c.s.m i (0 : Int))) (cj (pv ((0 : Nat) + c.s.st.length + 1 = (c.s.st ++ [(c.b.getD 0 default).pc + 1]).length)) (cj (show ∀ (i : Nat), i < 0 + c.s.st.length + 1 → ∀ (j : Nat), j < 1 → (bif Nat.blt (i + 0) ((0 : Nat) + c.s.st.length) then aI (List.getD c.s.st (i + 0 - 0) (0 : Int)) else List.getD [aI ((c.b.getD 0 default).pc + 1)] ((i + 0 - ((0 : Nat) + c.s.st.length) + 0) * 1 + j) AV.junk) = aI (List.getD (c.s.st ++ [(c.b.getD 0 default).pc + 1]) i (0 : Int)) from snoc_row0) (zM911 c trivial))))))))))))))))))))))))))))))))) (by kernel_rfl)
theorem rt_9 (p : Pg) (c : Cf) (hC : qM90 p c) (hP : qM91 c) (h0 : c.e = 0) (hl : 0 < c.b.length) (hb : c.b.length < 900000) (hs : c.s.st.length ≤ 1000) (hm : c.s.m.length ≤ 1000000) (k12 : ¬ (enX p c 0).kind = 12) (k11 : ¬ (enX p c 0).kind = 11) (k1 : ¬ (enX p c 0).kind = 1) (k2 : ¬ (enX p c 0).kind = 2) (k4 : ¬ (enX p c 0).kind = 4) (k3 : ¬ (enX p c 0).kind = 3) (k8 : ¬ (enX p c 0).kind = 8) (k9 : (enX p c 0).kind = 9) (hf : (c.b.getD 0 default).ft = false) (hz : c.s.st.length ≠ 0) : Vc (vcFn Try.prog false 44 [.agg (pgA p), .agg (cfA c)] [.fv, oM92 p c, oM93 p c, oM94 c, .b false, .b false, .b false, .bd false, .b false, .bd false, .bd false, .bd false, .bd false, .bd false, .bd false, .bd true, .bd false] [] (.tup [.agg (cfA ⟨{ c.s with st := c.s.st.take (c.s.st.length - 1) }, popL c.b, c.r, c.e⟩), .bool true]) []) := vc_by (zM92 p (zM91 p c (zM90 c (cj hC (cj (pv ((0 : Int) ≤ 0 ∧ (0 : Int) < (↑c.b.length : Int))) (zM92 p (zM95 p c (cj (ratC p (c.b.getD 0 default).pc) (cj (rf c.b.length) (cj (rr c.b.length 8 fun i j => rowL enC c.b i j) (cj hP (cj (ap 0 c.s.m.length 8) (cj (ap 0 c.s.st.length 8) (cj hf (cj hf (cj hf (cj (e0 ((enX p c 0).kind) 12) (cj hf (cj (e0 ((enX p c 0).kind) 11) (cj (e0 ((enX p c 0).kind) 1) (cj (e0 ((enX p c 0).kind) 2) (cj (e0 ((enX p c 0).kind) 4) (cj (e0 ((enX p c 0).kind) 3) (cj (e0 ((enX p c 0).kind) 8) (cj (e1 ((enX p c 0).kind) 9) (cj (i6 ((↑((0 : Nat) + c.s.st.length) : Int) - 1)) (cj (pv ((0 : Int) ≤ (↑((0 : Nat) + c.s.st.length) : Int) - 1 ∧ (↑((0 : Nat) + c.s.st.length) : Int) - 1 ≤ (↑((0 : Nat) + c.s.st.length) : Int))) (cj (bne_eq_false_iff_eq.2 h0) (zM94 c (cj (za c.s.m.length) (cj (rr (0 + c.s.m.length) 1 fun i j => aI (List.getD c.s.m i (0 : Int))) (cj (pv (Int.toNat ((↑((0 : Nat) + c.s.st.length) : Int) - 1) = (List.take (c.s.st.length - 1) c.s.st).length)) (cj (show ∀ (i : Nat), i < Int.toNat ((↑((0 : Nat) + c.s.st.length) : Int) - 1) → ∀ (j : Nat), j < 1 → aI (List.getD c.s.st (i + 0 - 0) (0 : Int)) = aI (List.getD (List.take (c.s.st.length - 1) c.s.st) i (0 : Int)) from take_row0) (zM911 c trivial)))))))))))))))))))))))))))))))))) (by kernel_rfl)
theorem rt_o (p : Pg) (c : Cf) (hC : qM90 p c) (hP : qM91 c) (h0 : c.e = 0) (hl : 0 < c.b.length) (hb : c.b.length < 900000) (hs : c.s.st.length ≤ 1000) (hm : c.s.m.length ≤ 1000000) (k12 : ¬ (enX p c 0).kind = 12) (k11 : ¬ (enX p c 0).kind = 11) (k1 : ¬ (enX p c 0).kind = 1) (k2 : ¬ (enX p c 0).kind = 2) (k4 : ¬ (enX p c 0).kind = 4) (k3 : ¬ (enX p c 0).kind = 3) (k8 : ¬ (enX p c 0).kind = 8) (k9 : ¬ (enX p c 0).kind = 9) (hf : (c.b.getD 0 default).ft = false) : Vc (vcFn Try.prog false 44 [.agg (pgA p), .agg (cfA c)] [.fv, oM92 p c, oM93 p c, oM94 c, .b false, .b false, .b false, .bd false, .b false, .bd false, .bd false, .bd false, .bd false, .bd false, .bd false, .bd false, .bd false] [] (.tup [.agg (cfA ⟨c.s, popL c.b, c.r, c.e⟩), .bool true]) []) := vc_by (zM92 p (zM91 p c (zM90 c (cj hC (cj (pv ((0 : Int) ≤ 0 ∧ (0 : Int) < (↑c.b.length : Int))) (zM92 p (zM95 p c (cj (ratC p (c.b.getD 0 default).pc) (cj (rf c.b.length) (cj (rr c.b.length 8 fun i j => rowL enC c.b i j) (cj hP (cj (ap 0 c.s.m.length 8) (cj (ap 0 c.s.st.length 8) (cj hf (cj hf (cj hf (cj (e0 ((enX p c 0).kind) 12) (cj hf (cj (e0 ((enX p c 0).kind) 11) (cj (e0 ((enX p c 0).kind) 1) (cj (e0 ((enX p c 0).kind) 2) (cj (e0 ((enX p c 0).kind) 4) (cj (e0 ((enX p c 0).kind) 3) (cj (e0 ((enX p c 0).kind) 8) (cj (e0 ((enX p c 0).kind) 9) (cj (bne_eq_false_iff_eq.2 h0) (zM94 c (cj (za c.s.m.length) (cj (rr (0 + c.s.m.length) 1 fun i j => aI (List.getD c.s.m i (0 : Int))) (cj (za c.s.st.length) (zM96 c trivial))))))))))))))))))))))))))))))) (by kernel_rfl)
theorem crV_in {p : Pg} {c : Cf} (h : crV p c = true) : c.e = 0 ∧ 0 < c.b.length ∧ ((c.b.getD 0 default).dn = true ∨ (enX p c 0).kind = 10) ∧ ((enX p c 0).kind = 3 → (c.b.getD 0 default).kn = true) := by
  unfold crV at h
  split at h
  · rename_i h0
    cases hb : c.b with
    | nil => rw [hb] at h; cases h
    | cons e l =>
      rw [hb] at h
      simp only [crE, Bool.and_eq_true, Bool.or_eq_true] at h
      refine ⟨h0, by simp, ?_, fun hk => ?_⟩
      · rcases h.1 with h1 | h1
        · exact .inl h1
        · refine .inr ?_
          unfold enX; rw [hb]; simpa using h1
      · unfold enX at hk; rw [hb] at hk
        rcases h.2 with h1 | h1
        · exact absurd hk (by simpa using h1)
        · exact h1
  · cases h
theorem rrtC (p : Pg) (c : Cf) (ho : RtOk p c) (hf : ∀ e ∈ c.b, -1000000 ≤ e.frm ∧ e.frm ≤ 1000000) : PureC Try.prog 44 [.agg (pgA p), .agg (cfA c)] (.tup (ocA (rtO p c))) [] := by
  have hC := rcrC p c
  unfold rtO
  cases hc : crV p c with
  | false => rw [hc] at hC; exact PureC.vc (rt_x p c hC)
  | true =>
    rw [hc] at hC
    rw [if_pos rfl]
    obtain ⟨h0, hl, hdn, hkn⟩ := crV_in hc
    have hP := rpopC c.b (by have := ho.bl; omega) hf
    show PureC _ _ _ (.tup [.agg (cfA (rtV p c)), .bool true]) _
    cases hf : (c.b.getD 0 default).ft with
    | true => rw [show rtV p c = ⟨c.s.go (c.b.getD 0 default).pc, [], [], 2⟩ from by unfold rtV; rw [if_pos (.inl hf)]]; exact PureC.vc (rt_f p c hC hP h0 hl ho.bl ho.sl ho.ml  hf)
    | false =>
    by_cases k12 : (enX p c 0).kind = 12
    · rw [show rtV p c = ⟨c.s.go (c.b.getD 0 default).pc, [], [], 2⟩ from by unfold rtV; rw [if_pos (.inr k12)]]; exact PureC.vc (rt_12 p c hC hP h0 hl ho.bl ho.sl ho.ml  k12 hf)
    have n12 : ¬ ((c.b.getD 0 default).ft = true ∨ (enX p c 0).kind = 12) := by rintro (h | h); rw [hf] at h; cases h; exact k12 h
    by_cases k11 : (enX p c 0).kind = 11
    · rw [show rtV p c = ⟨c.s.go (c.b.getD 0 default).pc, [], [], 1⟩ from by unfold rtV; rw [if_neg n12, if_pos k11]]; exact PureC.vc (rt_11 p c hC hP h0 hl ho.bl ho.sl ho.ml k12 k11 hf)
    by_cases k1 : (enX p c 0).kind = 1
    · obtain ⟨hd0, hd1⟩ := ho.d (dstB_1 k1)
      rcases four hd0 hd1 with hd | hd | hd | hd
      ·  rw [show rtV p c = ⟨c.s.set 0 (c.b.getD 0 default).val, popL c.b, c.r, c.e⟩ from by unfold rtV; rw [if_neg n12, if_neg k11, if_pos (dstB_1 k1), hd]]; exact PureC.vc (rt_1_0 p c hC hP h0 hl ho.bl ho.sl ho.ml k12 k11 k1 hf hd)
      ·  rw [show rtV p c = ⟨c.s.set 1 (c.b.getD 0 default).val, popL c.b, c.r, c.e⟩ from by unfold rtV; rw [if_neg n12, if_neg k11, if_pos (dstB_1 k1), hd]]; exact PureC.vc (rt_1_1 p c hC hP h0 hl ho.bl ho.sl ho.ml k12 k11 k1 hf hd)
      ·  rw [show rtV p c = ⟨c.s.set 2 (c.b.getD 0 default).val, popL c.b, c.r, c.e⟩ from by unfold rtV; rw [if_neg n12, if_neg k11, if_pos (dstB_1 k1), hd]]; exact PureC.vc (rt_1_2 p c hC hP h0 hl ho.bl ho.sl ho.ml k12 k11 k1 hf hd)
      ·  rw [show rtV p c = ⟨c.s.set 3 (c.b.getD 0 default).val, popL c.b, c.r, c.e⟩ from by unfold rtV; rw [if_neg n12, if_neg k11, if_pos (dstB_1 k1), hd]]; exact PureC.vc (rt_1_3 p c hC hP h0 hl ho.bl ho.sl ho.ml k12 k11 k1 hf hd)
    by_cases k2 : (enX p c 0).kind = 2
    · obtain ⟨hd0, hd1⟩ := ho.d (dstB_2 k2)
      rcases four hd0 hd1 with hd | hd | hd | hd
      ·  rw [show rtV p c = ⟨c.s.set 0 (c.b.getD 0 default).val, popL c.b, c.r, c.e⟩ from by unfold rtV; rw [if_neg n12, if_neg k11, if_pos (dstB_2 k2), hd]]; exact PureC.vc (rt_2_0 p c hC hP h0 hl ho.bl ho.sl ho.ml k12 k11 k1 k2 hf hd)
      ·  rw [show rtV p c = ⟨c.s.set 1 (c.b.getD 0 default).val, popL c.b, c.r, c.e⟩ from by unfold rtV; rw [if_neg n12, if_neg k11, if_pos (dstB_2 k2), hd]]; exact PureC.vc (rt_2_1 p c hC hP h0 hl ho.bl ho.sl ho.ml k12 k11 k1 k2 hf hd)
      ·  rw [show rtV p c = ⟨c.s.set 2 (c.b.getD 0 default).val, popL c.b, c.r, c.e⟩ from by unfold rtV; rw [if_neg n12, if_neg k11, if_pos (dstB_2 k2), hd]]; exact PureC.vc (rt_2_2 p c hC hP h0 hl ho.bl ho.sl ho.ml k12 k11 k1 k2 hf hd)
      ·  rw [show rtV p c = ⟨c.s.set 3 (c.b.getD 0 default).val, popL c.b, c.r, c.e⟩ from by unfold rtV; rw [if_neg n12, if_neg k11, if_pos (dstB_2 k2), hd]]; exact PureC.vc (rt_2_3 p c hC hP h0 hl ho.bl ho.sl ho.ml k12 k11 k1 k2 hf hd)
    by_cases k4 : (enX p c 0).kind = 4
    · obtain ⟨hd0, hd1⟩ := ho.d (dstB_4 k4)
      rcases four hd0 hd1 with hd | hd | hd | hd
      ·  rw [show rtV p c = ⟨c.s.set 0 (c.b.getD 0 default).val, popL c.b, c.r, c.e⟩ from by unfold rtV; rw [if_neg n12, if_neg k11, if_pos (dstB_4 k4), hd]]; exact PureC.vc (rt_4_0 p c hC hP h0 hl ho.bl ho.sl ho.ml k12 k11 k1 k2 k4 hf hd)
      ·  rw [show rtV p c = ⟨c.s.set 1 (c.b.getD 0 default).val, popL c.b, c.r, c.e⟩ from by unfold rtV; rw [if_neg n12, if_neg k11, if_pos (dstB_4 k4), hd]]; exact PureC.vc (rt_4_1 p c hC hP h0 hl ho.bl ho.sl ho.ml k12 k11 k1 k2 k4 hf hd)
      ·  rw [show rtV p c = ⟨c.s.set 2 (c.b.getD 0 default).val, popL c.b, c.r, c.e⟩ from by unfold rtV; rw [if_neg n12, if_neg k11, if_pos (dstB_4 k4), hd]]; exact PureC.vc (rt_4_2 p c hC hP h0 hl ho.bl ho.sl ho.ml k12 k11 k1 k2 k4 hf hd)
      ·  rw [show rtV p c = ⟨c.s.set 3 (c.b.getD 0 default).val, popL c.b, c.r, c.e⟩ from by unfold rtV; rw [if_neg n12, if_neg k11, if_pos (dstB_4 k4), hd]]; exact PureC.vc (rt_4_3 p c hC hP h0 hl ho.bl ho.sl ho.ml k12 k11 k1 k2 k4 hf hd)
    have kd : ¬ (dstB (enX p c 0) = true) := by simp [dstB, k1, k2, k4]
    have e0 : rtV p c = if (enX p c 0).kind = 3 then ⟨{ c.s with m := c.s.m.set (c.b.getD 0 default).adr.toNat (c.b.getD 0 default).val }, popL c.b, c.r, c.e⟩ else if (enX p c 0).kind = 8 then ⟨{ c.s with st := c.s.st ++ [(c.b.getD 0 default).pc + 1] }, popL c.b, c.r, c.e⟩ else if (enX p c 0).kind = 9 then ⟨{ c.s with st := c.s.st.take (c.s.st.length - 1) }, popL c.b, c.r, c.e⟩ else ⟨c.s, popL c.b, c.r, c.e⟩ := by
      unfold rtV; rw [if_neg n12, if_neg k11, if_neg kd]
    rw [e0]
    by_cases k3 : (enX p c 0).kind = 3
    · rw [if_pos k3]
      obtain ⟨ha, ha1⟩ := ho.m k3 hf (hkn k3)
      exact PureC.vc (rt_3 p c hC hP h0 hl ho.bl ho.sl ho.ml k12 k11 k1 k2 k4 k3 hf ha ha1)
    rw [if_neg k3]
    by_cases k8 : (enX p c 0).kind = 8
    · rw [if_pos k8]; exact PureC.vc (rt_8 p c hC hP h0 hl ho.bl ho.sl ho.ml k12 k11 k1 k2 k4 k3 k8 hf ho.pc.1 ho.pc.2)
    rw [if_neg k8]
    by_cases k9 : (enX p c 0).kind = 9
    · rw [if_pos k9]; exact PureC.vc (rt_9 p c hC hP h0 hl ho.bl ho.sl ho.ml k12 k11 k1 k2 k4 k3 k8 k9 hf (ho.st k9 hf (by rcases hdn with h | h; exact h; omega)))
    rw [if_neg k9]; exact PureC.vc (rt_o p c hC hP h0 hl ho.bl ho.sl ho.ml k12 k11 k1 k2 k4 k3 k8 k9 hf)
end
end Go.Proofs.Ytgcedepjlgfcjaa.Px
namespace Go.Proofs.Ytgcedepjlgfcjaa.Px
section
open Go.RowKit Go.Proofs.Ytgcedepjlgfcjaa.Rx
structure Dr where
  k : Int
  n : Int
  deriving DecidableEq
instance : Inhabited Dr := ⟨⟨0, 0⟩⟩
def drA (d : Dr) : List AV := [.int .i64 d.k, .int .i64 d.n]
def drC (d : Dr) (j : Nat) : AV := (drA d).getD j .junk
def drR (l : List Dr) : AV := .row 2 l.length (rowL drC l)
def drB (l : List Dr) : Blk := ⟨0, false, 81, .rows 2 l.length (rowL drC l)⟩
def drO (l : List Dr) : AV := .own 0 0 2 0 l.length
def cfP (c : Cf) : AV := .rptr 10 (fun q => (cfA c).getD q .junk) 0
def aF : Nat → List Dr
  | 0 => []
  | k + 1 => aF k ++ [⟨1, k⟩]
def aX (p : Pg) (c : Cf) (L : List Dr) : Nat → List Dr
  | 0 => L
  | k + 1 => if cnV p c k = true then aX p c L k ++ [⟨2, k⟩] else aX p c L k
def aA (p : Pg) (c : Cf) (L : List Dr) : Nat → List Dr
  | 0 => L
  | k + 1 => if caV p c k = true then aA p c L k ++ [⟨3, k⟩] else aA p c L k
def aR (p : Pg) (c : Cf) (L : List Dr) : List Dr := if crV p c = true then L ++ [⟨4, 0⟩] else L
def allV (p : Pg) (c : Cf) : List Dr := aR p c (aA p c (aX p c (aF (gsV p c).toNat) c.b.length) c.b.length)
def fS (p : Pg) (c : Cf) (L : List Dr) (s k : Nat) : Sm := ⟨[(2, pgP p), (3, cfP c), (5, drO L), (s, .int .i64 k)], [(0, drB L)], 1⟩
theorem zM100 (c : Cf) {Z : Prop} (z : Z) : (RR c.s.m.length 1 (fun i j => aI (List.getD c.s.m i (0 : Int))) (RF c.s.st.length (RR c.s.st.length 1 (fun i j => aI (List.getD c.s.st i (0 : Int))) (RF c.s.pc (RF c.b.length (RR c.b.length 8 (fun i j => rowL enC c.b i j) (RF c.r.length (RR c.r.length 1 (fun i j => aI (c.r.getD i 0)) (RF c.e Z))))))))) := ⟨fun _ _ _ _ => rfl, rfl, fun _ _ _ _ => rfl, rfl, rfl, fun _ _ _ _ => rfl, rfl, fun _ _ _ _ => rfl, rfl, z⟩
theorem zM101 (p : Pg) (c : Cf) {Z : Prop} (z : Z) : (RF p.ls.length (RR p.ls.length 2 (fun i j => rowL lbC p.ls i j) (RF p.is.length (RR p.is.length 9 (fun i j => rowL inC p.is i j) (RF c.s.r0 (RF c.s.r1 (RF c.s.r2 (RF c.s.r3 (RF c.s.m.length Z))))))))) := ⟨rfl, fun _ _ _ _ => rfl, rfl, fun _ _ _ _ => rfl, rfl, rfl, rfl, rfl, rfl, z⟩
theorem zM102 (p : Pg) {Z : Prop} (z : Z) : (RF p.W (RF p.win (RF p.fuel (RF p.r0 (RF p.r1 (RF p.r2 (RF p.r3 (RF p.ms.length (RR p.ms.length 3 (fun i j => rowL mmC p.ms i j) Z))))))))) := ⟨rfl, rfl, rfl, rfl, rfl, rfl, rfl, rfl, fun _ _ _ _ => rfl, z⟩
abbrev qM100 (p : Pg) (c : Cf) : Prop := PureC Try.prog 37 [.agg (pgA p), .agg (cfA c)] (.int .i64 (gsV p c)) []
theorem a1_y (p : Pg) (c : Cf) (L : List Dr) (k : Nat) (hk1 : k < 1000000) (hL : L.length < 10000000) (hG : qM100 p c) (hk : (k : Int) < gsV p c) : Vc (vcC Try.prog false (ntOf Try.prog 27) (lpC Try.prog 27 0) (fS p c L 6 k) [.cl [.agg (pgA p), .agg (cfA c)] (.int .i64 (gsV p c)) [], .bd true] .nrm [(0, 0)] (fS p c (L ++ [⟨1, k⟩]) 6 (k + 1))) := vc_by (zM102 p (zM101 p c (zM100 c (cj hG (cj (dt ((k : Int) < gsV p c)) (cj (ap L.length 1 16) (cj (i6 ((k : Int) + 1)) (cj (pv (L.length + 1 = (L ++ [Dr.mk (1 : Int) (k : Int)]).length)) (cj (show ∀ (i : Nat), i < L.length + 1 → ∀ (j : Nat), j < 2 → (bif Nat.blt i L.length then rowL drC L i j else List.getD [aI (1 : Int), aI (k : Int)] ((i - L.length + 0) * 2 + j) AV.junk) = rowL drC (L ++ [Dr.mk (1 : Int) (k : Int)]) i j from (fun i hi j hj => row_if (fun h => (rowL_left h).symm) (fun h => by obtain rfl : i = _ := Nat.le_antisymm (Nat.lt_succ_iff.mp hi) (Nat.not_lt.mp h); rw [rowL_last, Nat.sub_self]; match j, hj with | 0, _ => rfl | 1, _ => rfl))) (zM102 p (zM101 p c (zM100 c (cj (rf (0 : Nat)) (cj (pv (L.length + 1 = (L ++ [Dr.mk (1 : Int) (k : Int)]).length)) (cj (rf ((k : Int) + 1)) trivial))))))))))))))) (by kernel_rfl)
theorem zM103 (c : Cf) (L : List Dr) (k : Nat) {Z : Prop} (z : Z) : (RR c.r.length 1 (fun i j => aI (c.r.getD i 0)) (RF c.e (RF (0 : Nat) (RF L.length (RF (k : Int) Z))))) := ⟨fun _ _ _ _ => rfl, rfl, rfl, rfl, rfl, z⟩
theorem zM104 (c : Cf) {Z : Prop} (z : Z) : (RF c.s.r3 (RF c.s.m.length (RR c.s.m.length 1 (fun i j => aI (List.getD c.s.m i (0 : Int))) (RF c.s.st.length (RR c.s.st.length 1 (fun i j => aI (List.getD c.s.st i (0 : Int))) (RF c.s.pc (RF c.b.length (RR c.b.length 8 (fun i j => rowL enC c.b i j) (RF c.r.length Z))))))))) := ⟨rfl, rfl, fun _ _ _ _ => rfl, rfl, fun _ _ _ _ => rfl, rfl, rfl, fun _ _ _ _ => rfl, rfl, z⟩
theorem zM105 (p : Pg) (c : Cf) {Z : Prop} (z : Z) : (RF p.ms.length (RR p.ms.length 3 (fun i j => rowL mmC p.ms i j) (RF p.ls.length (RR p.ls.length 2 (fun i j => rowL lbC p.ls i j) (RF p.is.length (RR p.is.length 9 (fun i j => rowL inC p.is i j) (RF c.s.r0 (RF c.s.r1 (RF c.s.r2 Z))))))))) := ⟨rfl, fun _ _ _ _ => rfl, rfl, fun _ _ _ _ => rfl, rfl, fun _ _ _ _ => rfl, rfl, rfl, rfl, z⟩
theorem zM106 (p : Pg) (L : List Dr) {Z : Prop} (z : Z) : (RF L.length (RR L.length 2 (fun i j => rowL drC L i j) (RF p.W (RF p.win (RF p.fuel (RF p.r0 (RF p.r1 (RF p.r2 (RF p.r3 Z))))))))) := ⟨rfl, fun _ _ _ _ => rfl, rfl, rfl, rfl, rfl, rfl, rfl, rfl, z⟩
theorem a1_n (p : Pg) (c : Cf) (L : List Dr) (k : Nat) (hk1 : k < 1000000) (hL : L.length < 10000000) (hG : qM100 p c) (hk : ¬ (k : Int) < gsV p c) : Vc (vcC Try.prog false (ntOf Try.prog 27) (lpC Try.prog 27 0) (fS p c L 6 k) [.cl [.agg (pgA p), .agg (cfA c)] (.int .i64 (gsV p c)) [], .bd false] (.ext 0) [(0, 0)] (fS p c L 6 k)) := vc_by (zM102 p (zM101 p c (zM100 c (cj hG (cj (df ((k : Int) < gsV p c)) (zM106 p L (zM105 p c (zM104 c (zM103 c L k trivial))))))))) (by kernel_rfl)
theorem a2_y (p : Pg) (c : Cf) (L : List Dr) (k : Nat) (hk1 : k < 1000000) (hL : L.length < 10000000) (hC : PureC Try.prog 38 [.agg (pgA p), .agg (cfA c), .int .i64 k] (.bool true) []) (hk : k < c.b.length) : Vc (vcC Try.prog false (ntOf Try.prog 27) (lpC Try.prog 27 1) (fS p c L 7 k) [.bd true, .cl [.agg (pgA p), .agg (cfA c), .int .i64 k] (.bool true) []] .nrm [(0, 0)] (fS p c (L ++ [⟨2, k⟩]) 7 (k + 1))) := vc_by (cj (dt ((k : Int) < (↑c.b.length : Int))) (zM102 p (zM101 p c (zM100 c (cj (rf (k : Int)) (cj hC (cj (ap L.length 1 16) (cj (i6 ((k : Int) + 1)) (cj (pv (L.length + 1 = (L ++ [Dr.mk (2 : Int) (k : Int)]).length)) (cj (show ∀ (i : Nat), i < L.length + 1 → ∀ (j : Nat), j < 2 → (bif Nat.blt i L.length then rowL drC L i j else List.getD [aI (2 : Int), aI (k : Int)] ((i - L.length + 0) * 2 + j) AV.junk) = rowL drC (L ++ [Dr.mk (2 : Int) (k : Int)]) i j from (fun i hi j hj => row_if (fun h => (rowL_left h).symm) (fun h => by obtain rfl : i = _ := Nat.le_antisymm (Nat.lt_succ_iff.mp hi) (Nat.not_lt.mp h); rw [rowL_last, Nat.sub_self]; match j, hj with | 0, _ => rfl | 1, _ => rfl))) (zM102 p (zM101 p c (zM100 c (cj (rf (0 : Nat)) (cj (pv (L.length + 1 = (L ++ [Dr.mk (2 : Int) (k : Int)]).length)) (cj (rf ((k : Int) + 1)) trivial)))))))))))))))) (by kernel_rfl)
theorem zM107 (c : Cf) (L : List Dr) (k : Nat) {Z : Prop} (z : Z) : (RR c.r.length 1 (fun i j => aI (c.r.getD i 0)) (RF c.e (RF (0 : Nat) (RF L.length (RF ((k : Int) + 1) Z))))) := ⟨fun _ _ _ _ => rfl, rfl, rfl, rfl, rfl, z⟩
theorem a2_n (p : Pg) (c : Cf) (L : List Dr) (k : Nat) (hk1 : k < 1000000) (hL : L.length < 10000000) (hC : PureC Try.prog 38 [.agg (pgA p), .agg (cfA c), .int .i64 k] (.bool false) []) (hk : k < c.b.length) : Vc (vcC Try.prog false (ntOf Try.prog 27) (lpC Try.prog 27 1) (fS p c L 7 k) [.bd true, .cl [.agg (pgA p), .agg (cfA c), .int .i64 k] (.bool false) []] .nrm [(0, 0)] (fS p c L 7 (k + 1))) := vc_by (cj (dt ((k : Int) < (↑c.b.length : Int))) (zM102 p (zM101 p c (zM100 c (cj (rf (k : Int)) (cj hC (cj (i6 ((k : Int) + 1)) (zM106 p L (zM105 p c (zM104 c (zM107 c L k trivial))))))))))) (by kernel_rfl)
theorem a2_e (p : Pg) (c : Cf) (L : List Dr) (k : Nat) (hk1 : k < 1000000) (hL : L.length < 10000000) (hk : ¬ k < c.b.length) : Vc (vcC Try.prog false (ntOf Try.prog 27) (lpC Try.prog 27 1) (fS p c L 7 k) [.bd false] (.ext 2) [(0, 0)] (fS p c L 7 k)) := vc_by (cj (df ((k : Int) < (↑c.b.length : Int))) (zM106 p L (zM105 p c (zM104 c (zM103 c L k trivial))))) (by kernel_rfl)
theorem a3_y (p : Pg) (c : Cf) (L : List Dr) (k : Nat) (hk1 : k < 1000000) (hL : L.length < 10000000) (hC : PureC Try.prog 39 [.agg (pgA p), .agg (cfA c), .int .i64 k] (.bool true) []) (hk : k < c.b.length) : Vc (vcC Try.prog false (ntOf Try.prog 27) (lpC Try.prog 27 2) (fS p c L 8 k) [.bd true, .cl [.agg (pgA p), .agg (cfA c), .int .i64 k] (.bool true) []] .nrm [(0, 0)] (fS p c (L ++ [⟨3, k⟩]) 8 (k + 1))) := vc_by (cj (dt ((k : Int) < (↑c.b.length : Int))) (zM102 p (zM101 p c (zM100 c (cj (rf (k : Int)) (cj hC (cj (ap L.length 1 16) (cj (i6 ((k : Int) + 1)) (cj (pv (L.length + 1 = (L ++ [Dr.mk (3 : Int) (k : Int)]).length)) (cj (show ∀ (i : Nat), i < L.length + 1 → ∀ (j : Nat), j < 2 → (bif Nat.blt i L.length then rowL drC L i j else List.getD [aI (3 : Int), aI (k : Int)] ((i - L.length + 0) * 2 + j) AV.junk) = rowL drC (L ++ [Dr.mk (3 : Int) (k : Int)]) i j from (fun i hi j hj => row_if (fun h => (rowL_left h).symm) (fun h => by obtain rfl : i = _ := Nat.le_antisymm (Nat.lt_succ_iff.mp hi) (Nat.not_lt.mp h); rw [rowL_last, Nat.sub_self]; match j, hj with | 0, _ => rfl | 1, _ => rfl))) (zM102 p (zM101 p c (zM100 c (cj (rf (0 : Nat)) (cj (pv (L.length + 1 = (L ++ [Dr.mk (3 : Int) (k : Int)]).length)) (cj (rf ((k : Int) + 1)) trivial)))))))))))))))) (by kernel_rfl)
theorem a3_n (p : Pg) (c : Cf) (L : List Dr) (k : Nat) (hk1 : k < 1000000) (hL : L.length < 10000000) (hC : PureC Try.prog 39 [.agg (pgA p), .agg (cfA c), .int .i64 k] (.bool false) []) (hk : k < c.b.length) : Vc (vcC Try.prog false (ntOf Try.prog 27) (lpC Try.prog 27 2) (fS p c L 8 k) [.bd true, .cl [.agg (pgA p), .agg (cfA c), .int .i64 k] (.bool false) []] .nrm [(0, 0)] (fS p c L 8 (k + 1))) := vc_by (cj (dt ((k : Int) < (↑c.b.length : Int))) (zM102 p (zM101 p c (zM100 c (cj (rf (k : Int)) (cj hC (cj (i6 ((k : Int) + 1)) (zM106 p L (zM105 p c (zM104 c (zM107 c L k trivial))))))))))) (by kernel_rfl)
theorem a3_e (p : Pg) (c : Cf) (L : List Dr) (k : Nat) (hk1 : k < 1000000) (hL : L.length < 10000000) (hk : ¬ k < c.b.length) : Vc (vcC Try.prog false (ntOf Try.prog 27) (lpC Try.prog 27 2) (fS p c L 8 k) [.bd false] (.ext 4) [(0, 0)] (fS p c L 8 k)) := vc_by (cj (df ((k : Int) < (↑c.b.length : Int))) (zM106 p L (zM105 p c (zM104 c (zM103 c L k trivial))))) (by kernel_rfl)
theorem aF_len : ∀ k, (aF k).length = k
  | 0 => rfl
  | k + 1 => by rw [aF, List.length_append, aF_len k]; rfl
theorem aX_len (p : Pg) (c : Cf) (L : List Dr) : ∀ k, (aX p c L k).length ≤ L.length + k
  | 0 => Nat.le_refl _
  | k + 1 => by
    have := aX_len p c L k
    unfold aX
    split
    · rw [List.length_append, List.length_singleton]; omega
    · omega
theorem aA_len (p : Pg) (c : Cf) (L : List Dr) : ∀ k, (aA p c L k).length ≤ L.length + k
  | 0 => Nat.le_refl _
  | k + 1 => by
    have := aA_len p c L k
    unfold aA
    split
    · rw [List.length_append, List.length_singleton]; omega
    · omega
theorem a1_loop (p : Pg) (c : Cf) (hG : PureC Try.prog 37 [.agg (pgA p), .agg (cfA c)] (.int .i64 (gsV p c)) []) (hg : gsV p c ≤ 1001) : Ok Try.prog (ntOf Try.prog 27) (.loop (lpC Try.prog 27 0)) (fS p c [] 6 0).st (.ext 0) (fS p c (aF (gsV p c).toNat) 6 (gsV p c).toNat).st :=
  Ok.loop (P := Try.prog) (nt := ntOf Try.prog 27) (c := lpC Try.prog 27 0) (F := fun k => fS p c (aF k) 6 k) (m := (gsV p c).toNat) (x := .ext 0) (J := fS p c (aF (gsV p c).toNat) 6 (gsV p c).toNat) (fun k hk => Ok.vc (a1_y p c (aF k) k (by omega) (by rw [aF_len]; omega) hG (by omega))) (Ok.vc (a1_n p c _ _ (by omega) (by rw [aF_len]; omega) hG (by omega))) (by simp)
theorem a2_loop (p : Pg) (c : Cf) (L : List Dr) (hL : L.length ≤ 1000000) (hb : c.b.length < 900000) (hC : ∀ i : Nat, PureC Try.prog 38 [.agg (pgA p), .agg (cfA c), .int .i64 i] (.bool (cnV p c i)) []) : Ok Try.prog (ntOf Try.prog 27) (.loop (lpC Try.prog 27 1)) (fS p c L 7 0).st (.ext 2) (fS p c (aX p c L c.b.length) 7 c.b.length).st :=
  Ok.loop (P := Try.prog) (nt := ntOf Try.prog 27) (c := lpC Try.prog 27 1) (F := fun k => fS p c (aX p c L k) 7 k) (m := c.b.length) (x := .ext 2) (J := fS p c (aX p c L c.b.length) 7 c.b.length) (fun k hk => by
    have h := hC k
    have hl := aX_len p c L k
    show Ok _ _ _ _ _ (fS p c (aX p c L (k + 1)) 7 (k + 1)).st
    rw [aX]
    cases hv : cnV p c k with
    | true => rw [hv] at h; rw [if_pos rfl]; exact Ok.vc (a2_y p c _ k (by omega) (by omega) h hk)
    | false => rw [hv] at h; rw [if_neg (by simp)]; exact Ok.vc (a2_n p c _ k (by omega) (by omega) h hk)) (Ok.vc (a2_e p c _ _ (by omega) (by have := aX_len p c L c.b.length; omega) (by omega))) (by simp)
theorem a3_loop (p : Pg) (c : Cf) (L : List Dr) (hL : L.length ≤ 2000000) (hb : c.b.length < 900000) (hC : ∀ i : Nat, PureC Try.prog 39 [.agg (pgA p), .agg (cfA c), .int .i64 i] (.bool (caV p c i)) []) : Ok Try.prog (ntOf Try.prog 27) (.loop (lpC Try.prog 27 2)) (fS p c L 8 0).st (.ext 4) (fS p c (aA p c L c.b.length) 8 c.b.length).st :=
  Ok.loop (P := Try.prog) (nt := ntOf Try.prog 27) (c := lpC Try.prog 27 2) (F := fun k => fS p c (aA p c L k) 8 k) (m := c.b.length) (x := .ext 4) (J := fS p c (aA p c L c.b.length) 8 c.b.length) (fun k hk => by
    have h := hC k
    have hl := aA_len p c L k
    show Ok _ _ _ _ _ (fS p c (aA p c L (k + 1)) 8 (k + 1)).st
    rw [aA]
    cases hv : caV p c k with
    | true => rw [hv] at h; rw [if_pos rfl]; exact Ok.vc (a3_y p c _ k (by omega) (by omega) h hk)
    | false => rw [hv] at h; rw [if_neg (by simp)]; exact Ok.vc (a3_n p c _ k (by omega) (by omega) h hk)) (Ok.vc (a3_e p c _ _ (by omega) (by have := aA_len p c L c.b.length; omega) (by omega))) (by simp)
theorem zM108 (c : Cf) (L2 : List Dr) {Z : Prop} (z : Z) : (RR c.r.length 1 (fun i j => aI (c.r.getD i 0)) (RF c.e (RF (0 : Nat) (RF L2.length (RF (0 : Int) Z))))) := ⟨fun _ _ _ _ => rfl, rfl, rfl, rfl, rfl, z⟩
theorem zM109 (p : Pg) (L2 : List Dr) {Z : Prop} (z : Z) : (RF L2.length (RR L2.length 2 (fun i j => rowL drC L2 i j) (RF p.W (RF p.win (RF p.fuel (RF p.r0 (RF p.r1 (RF p.r2 (RF p.r3 Z))))))))) := ⟨rfl, fun _ _ _ _ => rfl, rfl, rfl, rfl, rfl, rfl, rfl, rfl, z⟩
theorem zM1010 (c : Cf) (L1 : List Dr) {Z : Prop} (z : Z) : (RR c.r.length 1 (fun i j => aI (c.r.getD i 0)) (RF c.e (RF (0 : Nat) (RF L1.length (RF (0 : Int) Z))))) := ⟨fun _ _ _ _ => rfl, rfl, rfl, rfl, rfl, z⟩
theorem zM1011 (p : Pg) (L1 : List Dr) {Z : Prop} (z : Z) : (RF L1.length (RR L1.length 2 (fun i j => rowL drC L1 i j) (RF p.W (RF p.win (RF p.fuel (RF p.r0 (RF p.r1 (RF p.r2 (RF p.r3 Z))))))))) := ⟨rfl, fun _ _ _ _ => rfl, rfl, rfl, rfl, rfl, rfl, rfl, rfl, z⟩
theorem zM1012 (c : Cf) {Z : Prop} (z : Z) : (RF c.e (RF (0 : Nat) (RF (0 : Nat) (RF (0 : Int) Z)))) := ⟨rfl, rfl, rfl, rfl, z⟩
theorem zM1013 (c : Cf) {Z : Prop} (z : Z) : (RF c.s.m.length (RR c.s.m.length 1 (fun i j => aI (List.getD c.s.m i (0 : Int))) (RF c.s.st.length (RR c.s.st.length 1 (fun i j => aI (List.getD c.s.st i (0 : Int))) (RF c.s.pc (RF c.b.length (RR c.b.length 8 (fun i j => rowL enC c.b i j) (RF c.r.length (RR c.r.length 1 (fun i j => aI (c.r.getD i 0)) Z))))))))) := ⟨rfl, fun _ _ _ _ => rfl, rfl, fun _ _ _ _ => rfl, rfl, rfl, fun _ _ _ _ => rfl, rfl, fun _ _ _ _ => rfl, z⟩
theorem zM1014 (p : Pg) (c : Cf) {Z : Prop} (z : Z) : (RR p.ms.length 3 (fun i j => rowL mmC p.ms i j) (RF p.ls.length (RR p.ls.length 2 (fun i j => rowL lbC p.ls i j) (RF p.is.length (RR p.is.length 9 (fun i j => rowL inC p.is i j) (RF c.s.r0 (RF c.s.r1 (RF c.s.r2 (RF c.s.r3 Z))))))))) := ⟨fun _ _ _ _ => rfl, rfl, fun _ _ _ _ => rfl, rfl, fun _ _ _ _ => rfl, rfl, rfl, rfl, rfl, z⟩
theorem zM1015 (p : Pg) {Z : Prop} (z : Z) : (RF (0 : Nat) (RF p.W (RF p.win (RF p.fuel (RF p.r0 (RF p.r1 (RF p.r2 (RF p.r3 (RF p.ms.length Z))))))))) := ⟨rfl, rfl, rfl, rfl, rfl, rfl, rfl, rfl, rfl, z⟩
abbrev qM101 (p : Pg) (c : Cf) (L1 : List Dr) (n1 : Nat) : Prop := Ok Try.prog (ntOf Try.prog 27) (.loop (lpC Try.prog 27 0)) (fS p c [] 6 0).st (.ext 0) (fS p c L1 6 n1).st
abbrev qM102 (p : Pg) (c : Cf) (L1 : List Dr) (L2 : List Dr) (n2 : Nat) : Prop := Ok Try.prog (ntOf Try.prog 27) (.loop (lpC Try.prog 27 1)) (fS p c L1 7 0).st (.ext 2) (fS p c L2 7 n2).st
abbrev qM103 (p : Pg) (c : Cf) (L2 : List Dr) (L3 : List Dr) (n3 : Nat) : Prop := Ok Try.prog (ntOf Try.prog 27) (.loop (lpC Try.prog 27 2)) (fS p c L2 8 0).st (.ext 4) (fS p c L3 8 n3).st
theorem all_true (p : Pg) (c : Cf) (L1 L2 L3 : List Dr) (n1 n2 n3 : Nat) (h1 : qM101 p c L1 n1) (h2 : qM102 p c L1 L2 n2) (h3 : qM103 p c L2 L3 n3) (hR : PureC Try.prog 40 [.agg (pgA p), .agg (cfA c)] (.bool true) []) (hL : L3.length < 10000000) : Vc (vcFn Try.prog false 27 [.agg (pgA p), .agg (cfA c)] [.fv, .fv, .lp [] (fS p c [] 6 0) (.ext 0) (fS p c L1 6 n1), .lp [(0, 0)] (fS p c L1 7 0) (.ext 2) (fS p c L2 7 n2), .lp [(0, 0)] (fS p c L2 8 0) (.ext 4) (fS p c L3 8 n3), .cl [.agg (pgA p), .agg (cfA c)] (.bool true) []] [] (drR (L3 ++ [⟨4, 0⟩])) []) := vc_by (zM1015 p (zM1014 p c (zM1013 c (zM1012 c (cj h1 (zM1011 p L1 (zM105 p c (zM104 c (zM1010 c L1 (cj h2 (zM109 p L2 (zM105 p c (zM104 c (zM108 c L2 (cj h3 (zM102 p (zM101 p c (zM100 c (cj hR (cj (ap L3.length 1 16) (cj (pv (L3.length + 1 = (L3 ++ [Dr.mk (4 : Int) (0 : Int)]).length)) (cj (show ∀ (i : Nat), i < L3.length + 1 → ∀ (j : Nat), j < 2 → (bif Nat.blt (i + 0) L3.length then rowL drC L3 (i + 0) j else List.getD [aI (4 : Int), aI (0 : Int)] ((i + 0 - L3.length + 0) * 2 + j) AV.junk) = rowL drC (L3 ++ [Dr.mk (4 : Int) (0 : Int)]) i j from (fun i hi j hj => by simp only [Nat.zero_add, Nat.add_zero, Nat.sub_zero] at hi ⊢; exact row_if (fun h => (rowL_left h).symm) (fun h => by obtain rfl : i = _ := Nat.le_antisymm (Nat.lt_succ_iff.mp hi) (Nat.not_lt.mp h); rw [rowL_last, Nat.sub_self]; match j, hj with | 0, _ => rfl | 1, _ => rfl))) trivial)))))))))))))))))))))) (by kernel_rfl)
theorem all_false (p : Pg) (c : Cf) (L1 L2 L3 : List Dr) (n1 n2 n3 : Nat) (h1 : qM101 p c L1 n1) (h2 : qM102 p c L1 L2 n2) (h3 : qM103 p c L2 L3 n3) (hR : PureC Try.prog 40 [.agg (pgA p), .agg (cfA c)] (.bool false) []) (hL : L3.length < 10000000) : Vc (vcFn Try.prog false 27 [.agg (pgA p), .agg (cfA c)] [.fv, .fv, .lp [] (fS p c [] 6 0) (.ext 0) (fS p c L1 6 n1), .lp [(0, 0)] (fS p c L1 7 0) (.ext 2) (fS p c L2 7 n2), .lp [(0, 0)] (fS p c L2 8 0) (.ext 4) (fS p c L3 8 n3), .cl [.agg (pgA p), .agg (cfA c)] (.bool false) []] [] (drR L3) []) := vc_by (zM1015 p (zM1014 p c (zM1013 c (zM1012 c (cj h1 (zM1011 p L1 (zM105 p c (zM104 c (zM1010 c L1 (cj h2 (zM109 p L2 (zM105 p c (zM104 c (zM108 c L2 (cj h3 (zM102 p (zM101 p c (zM100 c (cj hR (cj (rf L3.length) (cj (rr L3.length 2 fun i j => rowL drC L3 i j) trivial))))))))))))))))))))) (by kernel_rfl)
theorem gsV_le (p : Pg) (c : Cf) (hl : p.is.length < 1000) : gsV p c ≤ 1001 := by unfold gsV; repeat' split <;> omega
theorem rallC (p : Pg) (c : Cf) (hl : p.is.length < 1000) (hb : c.b.length < 900000) (hm : c.s.m.length < 1000000) (hv : Sml p c) : PureC Try.prog 27 [.agg (pgA p), .agg (cfA c)] (drR (allV p c)) [] := by
  have hG := rgsC p c hl (by omega)
  have hg := gsV_le p c hl
  have e1 := aF_len (gsV p c).toNat
  have e2 := aX_len p c (aF (gsV p c).toNat) c.b.length
  have e3 := aA_len p c (aX p c (aF (gsV p c).toNat) c.b.length) c.b.length
  have h1 := a1_loop p c hG hg
  have h2 := a2_loop p c (aF (gsV p c).toNat) (by omega) hb fun i => rcanC p c i (by omega) hm hv
  have h3 := a3_loop p c (aX p c (aF (gsV p c).toNat) c.b.length) (by omega) hb fun i => rcaC p c i (by omega)
  have hR := rcrC p c
  unfold allV aR
  cases hc : crV p c with
  | true => rw [hc] at hR; rw [if_pos rfl]; exact PureC.vc (all_true p c _ _ _ _ _ _ h1 h2 h3 hR (by omega))
  | false => rw [hc] at hR; rw [if_neg (by simp)]; exact PureC.vc (all_false p c _ _ _ _ _ _ h1 h2 h3 hR (by omega))
end
end Go.Proofs.Ytgcedepjlgfcjaa.Px
namespace Go.Proofs.Ytgcedepjlgfcjaa.Px
section
open Go.RowKit Go.Proofs.Ytgcedepjlgfcjaa.Rx
def sayO (p : Pg) (c : Cf) (d : Dr) : Option (Cf × List Ob) :=
  if d.k = 1 then (ftO p c d.n).map fun x => (x, []) else if d.k = 2 then doO p c d.n else if d.k = 3 then adrO p c d.n
  else if d.k = 4 then (if d.n = 0 then (rtO p c).map fun x => (x, []) else none) else none
/-- what must hold of a machine that things may be said to it -/
structure MOk (p : Pg) (c : Cf) : Prop where
  il : p.is.length < 1000
  bl : c.b.length < 900000
  ml : c.s.m.length < 1000000
  sm : Sml p c
  sm' : ∀ k, Sml p (upE c k En.done)
  st : c.s.st.length ≤ 1000
  bp : ∀ e ∈ c.b, -1 ≤ e.pc ∧ e.pc ≤ 1000000
  bf : ∀ e ∈ c.b, -1000000 ≤ e.frm ∧ e.frm ≤ 1000000
  pc : -1 ≤ c.s.pc ∧ c.s.pc ≤ 1000
  rl : c.r.length < 1000
  rt : RtOk p c
theorem zM110  {Z : Prop} (z : Z) : (RF (0 : Nat) (RR 0 8 (fun i j => rowL enC [] i j) (RF (0 : Nat) (RR 0 1 (fun i j => aI (List.getD [] i (0 : Int))) (RF (0 : Int) (RF false Z)))))) := ⟨rfl, fun _ _ _ _ => rfl, rfl, fun _ _ _ _ => rfl, rfl, rfl, z⟩
theorem zM111  {Z : Prop} (z : Z) : (RF (0 : Int) (RF (0 : Int) (RF (0 : Int) (RF (0 : Int) (RF (0 : Nat) (RR 0 1 (fun i j => aI (List.getD [] i (0 : Int))) (RF (0 : Nat) (RR 0 1 (fun i j => aI (List.getD [] i (0 : Int))) (RF (0 : Int) Z))))))))) := ⟨rfl, rfl, rfl, rfl, rfl, fun _ _ _ _ => rfl, rfl, fun _ _ _ _ => rfl, rfl, z⟩
theorem zM112 (c : Cf) {Z : Prop} (z : Z) : (RR c.s.m.length 1 (fun i j => aI (List.getD c.s.m i (0 : Int))) (RF c.s.st.length (RR c.s.st.length 1 (fun i j => aI (List.getD c.s.st i (0 : Int))) (RF c.s.pc (RF c.b.length (RR c.b.length 8 (fun i j => rowL enC c.b i j) (RF c.r.length (RR c.r.length 1 (fun i j => aI (c.r.getD i 0)) (RF c.e Z))))))))) := ⟨fun _ _ _ _ => rfl, rfl, fun _ _ _ _ => rfl, rfl, rfl, fun _ _ _ _ => rfl, rfl, fun _ _ _ _ => rfl, rfl, z⟩
theorem zM113 (p : Pg) (c : Cf) {Z : Prop} (z : Z) : (RF p.ls.length (RR p.ls.length 2 (fun i j => rowL lbC p.ls i j) (RF p.is.length (RR p.is.length 9 (fun i j => rowL inC p.is i j) (RF c.s.r0 (RF c.s.r1 (RF c.s.r2 (RF c.s.r3 (RF c.s.m.length Z))))))))) := ⟨rfl, fun _ _ _ _ => rfl, rfl, fun _ _ _ _ => rfl, rfl, rfl, rfl, rfl, rfl, z⟩
theorem zM114 (p : Pg) {Z : Prop} (z : Z) : (RF p.W (RF p.win (RF p.fuel (RF p.r0 (RF p.r1 (RF p.r2 (RF p.r3 (RF p.ms.length (RR p.ms.length 3 (fun i j => rowL mmC p.ms i j) Z))))))))) := ⟨rfl, rfl, rfl, rfl, rfl, rfl, rfl, rfl, fun _ _ _ _ => rfl, z⟩
theorem sy_1n (p : Pg) (c c2 : Cf) (n : Int) (hF : PureC Try.prog 41 [.agg (pgA p), .agg (cfA c), .int .i64 n] (.tup (ocA none)) []) : Vc (vcFn Try.prog false 28 [.agg (pgA p), .agg (cfA c), .agg [.int .i64 1, .int .i64 n]] [.fv, .fv, .fv, .bd true, .cl [.agg (pgA p), .agg (cfA c), .int .i64 n] (.tup (ocA none)) []] [] (.tup [.agg (cfA Cf0), .nils, .bool false]) []) := vc_by (cj (e1 (1 : Int) 1) (zM114 p (zM113 p c (zM112 c (cj (rf n) (cj hF (zM111 (zM110 trivial)))))))) (by kernel_rfl)
theorem zM115 (c2 : Cf) {Z : Prop} (z : Z) : (RF c2.b.length (RR c2.b.length 8 (fun i j => rowL enC c2.b i j) (RF c2.r.length (RR c2.r.length 1 (fun i j => aI (c2.r.getD i 0)) (RF c2.e (RF true Z)))))) := ⟨rfl, fun _ _ _ _ => rfl, rfl, fun _ _ _ _ => rfl, rfl, rfl, z⟩
theorem zM116 (c2 : Cf) {Z : Prop} (z : Z) : (RF c2.s.r0 (RF c2.s.r1 (RF c2.s.r2 (RF c2.s.r3 (RF c2.s.m.length (RR c2.s.m.length 1 (fun i j => aI (List.getD c2.s.m i (0 : Int))) (RF c2.s.st.length (RR c2.s.st.length 1 (fun i j => aI (List.getD c2.s.st i (0 : Int))) (RF c2.s.pc Z))))))))) := ⟨rfl, rfl, rfl, rfl, rfl, fun _ _ _ _ => rfl, rfl, fun _ _ _ _ => rfl, rfl, z⟩
theorem sy_1s (p : Pg) (c c2 : Cf) (n : Int) (hF : PureC Try.prog 41 [.agg (pgA p), .agg (cfA c), .int .i64 n] (.tup (ocA (some c2))) []) : Vc (vcFn Try.prog false 28 [.agg (pgA p), .agg (cfA c), .agg [.int .i64 1, .int .i64 n]] [.fv, .fv, .fv, .bd true, .cl [.agg (pgA p), .agg (cfA c), .int .i64 n] (.tup (ocA (some c2))) []] [] (.tup [.agg (cfA c2), .nils, .bool true]) []) := vc_by (cj (e1 (1 : Int) 1) (zM114 p (zM113 p c (zM112 c (cj (rf n) (cj hF (zM116 c2 (zM115 c2 trivial)))))))) (by kernel_rfl)
theorem sy_2n (p : Pg) (c c2 : Cf) (n : Int) (hF : PureC Try.prog 42 [.agg (pgA p), .agg (cfA c), .int .i64 n] (dmA none) []) : Vc (vcFn Try.prog false 28 [.agg (pgA p), .agg (cfA c), .agg [.int .i64 2, .int .i64 n]] [.fv, .fv, .fv, .bd false, .bd true, .cl [.agg (pgA p), .agg (cfA c), .int .i64 n] (dmA none) []] [] (.tup [.agg (cfA Cf0), .nils, .bool false]) []) := vc_by (cj (e0 (2 : Int) 1) (cj (e1 (2 : Int) 2) (zM114 p (zM113 p c (zM112 c (cj (rf n) (cj hF (zM111 (zM110 trivial))))))))) (by kernel_rfl)
theorem sy_2s (p : Pg) (c c2 : Cf) (n : Int) (hF : PureC Try.prog 42 [.agg (pgA p), .agg (cfA c), .int .i64 n] (dmA (some (c2, []))) []) : Vc (vcFn Try.prog false 28 [.agg (pgA p), .agg (cfA c), .agg [.int .i64 2, .int .i64 n]] [.fv, .fv, .fv, .bd false, .bd true, .cl [.agg (pgA p), .agg (cfA c), .int .i64 n] (dmA (some (c2, []))) []] [] (.tup [.agg (cfA c2), .nils, .bool true]) []) := vc_by (cj (e0 (2 : Int) 1) (cj (e1 (2 : Int) 2) (zM114 p (zM113 p c (zM112 c (cj (rf n) (cj hF (zM116 c2 (zM115 c2 trivial))))))))) (by kernel_rfl)
theorem zM117 (c2 : Cf) (o : Ob) (l : List Ob) {Z : Prop} (z : Z) : (RF c2.b.length (RR c2.b.length 8 (fun i j => rowL enC c2.b i j) (RF c2.r.length (RR c2.r.length 1 (fun i j => aI (c2.r.getD i 0)) (RF c2.e (RF ((o :: l).length) (RR ((o :: l).length) 2 (fun i j => rowL obC (o :: l) i j) (RF true Z)))))))) := ⟨rfl, fun _ _ _ _ => rfl, rfl, fun _ _ _ _ => rfl, rfl, rfl, fun _ _ _ _ => rfl, rfl, z⟩
theorem sy_2o (p : Pg) (c c2 : Cf) (n : Int) (o : Ob) (l : List Ob) (hF : PureC Try.prog 42 [.agg (pgA p), .agg (cfA c), .int .i64 n] (dmA (some (c2, o :: l))) []) : Vc (vcFn Try.prog false 28 [.agg (pgA p), .agg (cfA c), .agg [.int .i64 2, .int .i64 n]] [.fv, .fv, .fv, .bd false, .bd true, .cl [.agg (pgA p), .agg (cfA c), .int .i64 n] (dmA (some (c2, o :: l))) []] [] (.tup [.agg (cfA c2), (obR (o :: l)), .bool true]) []) := vc_by (cj (e0 (2 : Int) 1) (cj (e1 (2 : Int) 2) (zM114 p (zM113 p c (zM112 c (cj (rf n) (cj hF (zM116 c2 (zM117 c2 o l trivial))))))))) (by kernel_rfl)
theorem sy_3n (p : Pg) (c c2 : Cf) (n : Int) (hF : PureC Try.prog 43 [.agg (pgA p), .agg (cfA c), .int .i64 n] (dmA none) []) : Vc (vcFn Try.prog false 28 [.agg (pgA p), .agg (cfA c), .agg [.int .i64 3, .int .i64 n]] [.fv, .fv, .fv, .bd false, .bd false, .bd true, .cl [.agg (pgA p), .agg (cfA c), .int .i64 n] (dmA none) []] [] (.tup [.agg (cfA Cf0), .nils, .bool false]) []) := vc_by (cj (e0 (3 : Int) 1) (cj (e0 (3 : Int) 2) (cj (e1 (3 : Int) 3) (zM114 p (zM113 p c (zM112 c (cj (rf n) (cj hF (zM111 (zM110 trivial)))))))))) (by kernel_rfl)
theorem sy_3s (p : Pg) (c c2 : Cf) (n : Int) (hF : PureC Try.prog 43 [.agg (pgA p), .agg (cfA c), .int .i64 n] (dmA (some (c2, []))) []) : Vc (vcFn Try.prog false 28 [.agg (pgA p), .agg (cfA c), .agg [.int .i64 3, .int .i64 n]] [.fv, .fv, .fv, .bd false, .bd false, .bd true, .cl [.agg (pgA p), .agg (cfA c), .int .i64 n] (dmA (some (c2, []))) []] [] (.tup [.agg (cfA c2), .nils, .bool true]) []) := vc_by (cj (e0 (3 : Int) 1) (cj (e0 (3 : Int) 2) (cj (e1 (3 : Int) 3) (zM114 p (zM113 p c (zM112 c (cj (rf n) (cj hF (zM116 c2 (zM115 c2 trivial)))))))))) (by kernel_rfl)
theorem sy_3o (p : Pg) (c c2 : Cf) (n : Int) (o : Ob) (l : List Ob) (hF : PureC Try.prog 43 [.agg (pgA p), .agg (cfA c), .int .i64 n] (dmA (some (c2, o :: l))) []) : Vc (vcFn Try.prog false 28 [.agg (pgA p), .agg (cfA c), .agg [.int .i64 3, .int .i64 n]] [.fv, .fv, .fv, .bd false, .bd false, .bd true, .cl [.agg (pgA p), .agg (cfA c), .int .i64 n] (dmA (some (c2, o :: l))) []] [] (.tup [.agg (cfA c2), (obR (o :: l)), .bool true]) []) := vc_by (cj (e0 (3 : Int) 1) (cj (e0 (3 : Int) 2) (cj (e1 (3 : Int) 3) (zM114 p (zM113 p c (zM112 c (cj (rf n) (cj hF (zM116 c2 (zM117 c2 o l trivial)))))))))) (by kernel_rfl)
theorem sy_4n (p : Pg) (c c2 : Cf) (n : Int) (hF : PureC Try.prog 44 [.agg (pgA p), .agg (cfA c)] (.tup (ocA none)) []) : Vc (vcFn Try.prog false 28 [.agg (pgA p), .agg (cfA c), .agg [.int .i64 4, .int .i64 0]] [.fv, .fv, .fv, .bd false, .bd false, .bd false, .bd true, .bd true, .cl [.agg (pgA p), .agg (cfA c)] (.tup (ocA none)) []] [] (.tup [.agg (cfA Cf0), .nils, .bool false]) []) := vc_by (cj (e0 (4 : Int) 1) (cj (e0 (4 : Int) 2) (cj (e0 (4 : Int) 3) (cj (e1 (4 : Int) 4) (cj (e1 (0 : Int) 0) (zM114 p (zM113 p c (zM112 c (cj hF (zM111 (zM110 trivial))))))))))) (by kernel_rfl)
theorem sy_4s (p : Pg) (c c2 : Cf) (n : Int) (hF : PureC Try.prog 44 [.agg (pgA p), .agg (cfA c)] (.tup (ocA (some c2))) []) : Vc (vcFn Try.prog false 28 [.agg (pgA p), .agg (cfA c), .agg [.int .i64 4, .int .i64 0]] [.fv, .fv, .fv, .bd false, .bd false, .bd false, .bd true, .bd true, .cl [.agg (pgA p), .agg (cfA c)] (.tup (ocA (some c2))) []] [] (.tup [.agg (cfA c2), .nils, .bool true]) []) := vc_by (cj (e0 (4 : Int) 1) (cj (e0 (4 : Int) 2) (cj (e0 (4 : Int) 3) (cj (e1 (4 : Int) 4) (cj (e1 (0 : Int) 0) (zM114 p (zM113 p c (zM112 c (cj hF (zM116 c2 (zM115 c2 trivial))))))))))) (by kernel_rfl)
theorem zM118  {Z : Prop} (z : Z) : (RF (0 : Int) (RF (0 : Int) (RF (0 : Int) (RF (0 : Int) (RF (0 : Nat) (RF (0 : Nat) (RF (0 : Int) (RF (0 : Nat) (RF (0 : Nat) Z))))))))) := ⟨rfl, rfl, rfl, rfl, rfl, rfl, rfl, rfl, rfl, z⟩
theorem sy_4x (p : Pg) (c c2 : Cf) (n : Int) (hn : ¬ n = 0) : Vc (vcFn Try.prog false 28 [.agg (pgA p), .agg (cfA c), .agg [.int .i64 4, .int .i64 n]] [.fv, .fv, .fv, .bd false, .bd false, .bd false, .bd true, .bd false] [] (.tup [.agg (cfA Cf0), .nils, .bool false]) []) := vc_by (cj (e0 (4 : Int) 1) (cj (e0 (4 : Int) 2) (cj (e0 (4 : Int) 3) (cj (e1 (4 : Int) 4) (cj (beq_eq_false_iff_ne.2 hn) (zM118 (cj (rf (0 : Int)) (cj (rf false) trivial)))))))) (by kernel_rfl)
theorem sy_x (p : Pg) (c c2 : Cf) (n : Int) (k : Int) (h1 : ¬ k = 1) (h2 : ¬ k = 2) (h3 : ¬ k = 3) (h4 : ¬ k = 4) : Vc (vcFn Try.prog false 28 [.agg (pgA p), .agg (cfA c), .agg [.int .i64 k, .int .i64 n]] [.fv, .fv, .fv, .bd false, .bd false, .bd false, .bd false] [] (.tup [.agg (cfA Cf0), .nils, .bool false]) []) := vc_by (cj (beq_eq_false_iff_ne.2 h1) (cj (beq_eq_false_iff_ne.2 h2) (cj (beq_eq_false_iff_ne.2 h3) (cj (beq_eq_false_iff_ne.2 h4) (zM118 (cj (rf (0 : Int)) (cj (rf false) trivial))))))) (by kernel_rfl)
theorem rsayC (p : Pg) (c : Cf) (d : Dr) (h : MOk p c) : PureC Try.prog 28 [.agg (pgA p), .agg (cfA c), .agg (drA d)] (dmA (sayO p c d)) [] := by
  obtain ⟨k, n⟩ := d
  show PureC _ _ [_, _, .agg [.int .i64 k, .int .i64 n]] (dmA (if k = 1 then (ftO p c n).map (fun x => (x, [])) else if k = 2 then doO p c n else if k = 3 then adrO p c n else if k = 4 then (if n = 0 then (rtO p c).map (fun x => (x, [])) else none) else none)) []
  by_cases h1 : k = 1
  · subst h1
    rw [if_pos rfl]
    have q := rftC p c n h.il h.bl h.pc h.rl h.st h.bp
    cases e : ftO p c n with
    | none => rw [e] at q; exact PureC.vc (sy_1n p c c n q)
    | some c2 => rw [e] at q; exact PureC.vc (sy_1s p c c2 n q)
  rw [if_neg h1]
  by_cases h2 : k = 2
  · subst h2
    rw [if_pos rfl]
    have q := rdmC p c n h.bl h.ml h.sm h.sm' h.st h.bp
    cases e : doO p c n with
    | none => rw [e] at q; exact PureC.vc (sy_2n p c c n q)
    | some x =>
      obtain ⟨c2, l⟩ := x
      rw [e] at q
      cases l with
      | nil => exact PureC.vc (sy_2s p c c2 n q)
      | cons o l => exact PureC.vc (sy_2o p c c2 n o l q)
  rw [if_neg h2]
  by_cases h3 : k = 3
  · subst h3
    rw [if_pos rfl]
    have q := radC p c n h.bl h.ml h.sm
    cases e : adrO p c n with
    | none => rw [e] at q; exact PureC.vc (sy_3n p c c n q)
    | some x =>
      obtain ⟨c2, l⟩ := x
      rw [e] at q
      cases l with
      | nil => exact PureC.vc (sy_3s p c c2 n q)
      | cons o l => exact PureC.vc (sy_3o p c c2 n o l q)
  rw [if_neg h3]
  by_cases h4 : k = 4
  · subst h4
    rw [if_pos rfl]
    by_cases hn : n = 0
    · subst hn
      rw [if_pos rfl]
      have q := rrtC p c h.rt h.bf
      cases e : rtO p c with
      | none => rw [e] at q; exact PureC.vc (sy_4n p c c 0 q)
      | some c2 => rw [e] at q; exact PureC.vc (sy_4s p c c2 0 q)
    · rw [if_neg hn]; exact PureC.vc (sy_4x p c c n hn)
  rw [if_neg h4]; exact PureC.vc (sy_x p c c n k h1 h2 h3 h4)
end
end Go.Proofs.Ytgcedepjlgfcjaa.Px
namespace Go.Proofs.Ytgcedepjlgfcjaa.Px
section
open Go.RowKit Go.Proofs.Ytgcedepjlgfcjaa.Rx
structure EnOk (p : Pg) (e : En) : Prop where
  pc : 0 ≤ e.pc ∧ e.pc ≤ p.is.length
  val : 0 ≤ e.val ∧ e.val < 65536
  frm : -1 ≤ e.frm ∧ e.frm ≤ 1000000
  nxt : -1 ≤ e.nxt ∧ e.nxt ≤ p.is.length
  adr : 0 ≤ e.adr ∧ e.adr < 65536
def rOk (p : Pg) (st : List Int) (b : List En) (k : Nat) : Prop := ∃ L, reG p b 0 k st = some L ∧ L.length ≠ 0
def lOk (p : Pg) (st : List Int) (b : List En) (k : Nat) : Prop := ∃ L, reG p b 0 k st = some L ∧ L.length < 4
structure EtOk (p : Pg) (m : Nat) (st : List Int) (b : List En) (k : Nat) (e : En) : Prop where
  sto : (atI p e.pc).kind = 3 → e.kn = true → e.ft = false → e.adr < m
  ret : (atI p e.pc).kind = 9 → e.dn = true → e.ft = false → rOk p st b k
  cal : (atI p e.pc).kind = 8 → e.ft = false → lOk p st b k
structure Inv (p : Pg) (c : Cf) : Prop where
  reg : okR c.s
  mem : ∀ x ∈ c.s.m, 0 ≤ x ∧ x < 65536
  ml : c.s.m.length = sumN p.ms
  pc : -1 ≤ c.s.pc ∧ c.s.pc ≤ p.is.length
  st : c.s.st.length ≤ 4
  stk : ∀ x ∈ c.s.st, 0 ≤ x ∧ x ≤ p.is.length
  bl : (c.b.length : Int) ≤ max p.win 0
  be : ∀ e ∈ c.b, EnOk p e
  rl : c.r.length ≤ 2
  rb : ∀ x ∈ c.r, 0 ≤ x ∧ x ≤ p.is.length
  et : ∀ k, k < c.b.length → EtOk p c.s.m.length c.s.st c.b k (c.b.getD k default)
theorem gdE_mem {l : List En} {k : Nat} (h : k < l.length) : l.getD k default ∈ l := by simp [List.getD, h]
theorem gdE_out {l : List En} {k : Nat} (h : ¬ k < l.length) : l.getD k default = En0 := by
  simp [List.getD, List.getElem?_eq_none (Nat.not_lt.1 h)]; rfl
theorem gdI_mem {l : List Int} {k : Nat} (h : k < l.length) : l.getD k 0 ∈ l := by simp [List.getD, h]
theorem cl0_nat {k n : Nat} (h : k ≤ n) : cl0 (k : Int) n = k := by unfold cl0; omega
theorem reV_nat (p : Pg) (st : List Int) (l : List En) {k : Nat} (h : k ≤ l.length) : reV p st l k = reG p l 0 k st := by unfold reV; rw [cl0_nat h]
theorem reG_congr (p : Pg) (l l' : List En) : ∀ j k k' st, (∀ i, i < j → (l.getD (k + i) default).pc = (l'.getD (k' + i) default).pc) → reG p l k j st = reG p l' k' j st
  | 0, _, _, _, _ => rfl
  | j + 1, k, k', st, h => by
    have h0 := h 0 (by omega)
    rw [Nat.add_zero, Nat.add_zero] at h0
    have e : enI p l k = enI p l' k' := by unfold enI; rw [h0]
    have hr : ∀ i, i < j → (l.getD (k + 1 + i) default).pc = (l'.getD (k' + 1 + i) default).pc := fun i hi => by
      have := h (i + 1) (by omega)
      rw [show k + 1 + i = k + (i + 1) by omega, show k' + 1 + i = k' + (i + 1) by omega]; exact this
    have hR := fun s => reG_congr p l l' j (k + 1) (k' + 1) s hr
    unfold reG
    rw [e, h0, hR, hR, hR]
theorem reG_mem (p : Pg) (l : List En) (P : Int → Prop) : ∀ j k st L, (∀ x ∈ st, P x) → (∀ i, k ≤ i → i < k + j → (enI p l i).kind = 8 → P ((l.getD i default).pc + 1)) → reG p l k j st = some L → ∀ x ∈ L, P x
  | 0, _, st, L, h, _, e => by cases e; exact h
  | j + 1, k, st, L, h, hc, e => by
    have hc' : ∀ i, k + 1 ≤ i → i < k + 1 + j → (enI p l i).kind = 8 → P ((l.getD i default).pc + 1) := fun i a b => hc i (by omega) (by omega)
    unfold reG at e
    split at e
    · rename_i h8
      split at e
      · cases e
      · refine reG_mem p l P j (k + 1) _ L (fun x hx => ?_) hc' e
        rcases List.mem_append.1 hx with hx | hx
        · exact h x hx
        · rw [List.mem_singleton.1 hx]; exact hc k (by omega) (by omega) h8
    · split at e
      · split at e
        · cases e
        · exact reG_mem p l P j (k + 1) _ L (fun x hx => h x (List.mem_of_mem_take hx)) hc' e
      · exact reG_mem p l P j (k + 1) _ L h hc' e
theorem gdE_set {l : List En} {k i : Nat} {e : En} (hk : k < l.length) : (l.set k e).getD i default = if i = k then e else l.getD i default := by
  by_cases h : i = k
  · subst h; simp [List.getD, hk]
  · rw [if_neg h]; simp [List.getD, List.getElem?_set, Ne.symm h]
theorem gdE_take {l : List En} {n i : Nat} (h : i < n) : (l.take n).getD i default = l.getD i default := by
  rw [List.getD_eq_getElem?_getD, List.getD_eq_getElem?_getD, List.getElem?_take, if_pos h]
theorem gdE_app {l r : List En} {i : Nat} (h : i < l.length) : (l ++ r).getD i default = l.getD i default := by
  simp [List.getD, List.getElem?_append_left h]
theorem gdE_last {l : List En} {e : En} : (l ++ [e]).getD l.length default = e := by simp [List.getD]
theorem reG_pcs (p : Pg) (st : List Int) {l l' : List En} {k : Nat} (h : ∀ i, i < k → (l.getD i default).pc = (l'.getD i default).pc) : reG p l 0 k st = reG p l' 0 k st :=
  reG_congr p l l' k 0 0 st fun i hi => by rw [Nat.zero_add]; exact h i hi
theorem EtOk.pcs {p : Pg} {m : Nat} {st : List Int} {b b' : List En} {k : Nat} {e : En} (h : EtOk p m st b k e) (hp : ∀ i, i < k → (b.getD i default).pc = (b'.getD i default).pc) : EtOk p m st b' k e := by
  have e0 := reG_pcs p st hp
  refine ⟨h.sto, fun a b c => ?_, fun a b => ?_⟩
  · have := h.ret a b c; unfold rOk at this ⊢; rw [← e0]; exact this
  · have := h.cal a b; unfold lOk at this ⊢; rw [← e0]; exact this
/-- one of those under way is turned, not where it stands -/
theorem Inv.up {p : Pg} {c : Cf} (h : Inv p c) {k : Nat} (hk : k < c.b.length) {e : En} (hp : e.pc = (c.b.getD k default).pc) (he : EnOk p e) (ht : EtOk p c.s.m.length c.s.st c.b k e) : Inv p ⟨c.s, c.b.set k e, c.r, c.e⟩ := by
  have hpc : ∀ i, (c.b.getD i default).pc = ((c.b.set k e).getD i default).pc := fun i => by
    rw [gdE_set hk]
    split
    · rename_i hi; rw [hi]; exact hp.symm
    · rfl
  refine ⟨h.reg, h.mem, h.ml, h.pc, h.st, h.stk, by show ((c.b.set k e).length : Int) ≤ _; rw [List.length_set]; exact h.bl, fun x hx => ?_, h.rl, h.rb, fun j hj => ?_⟩
  · rcases List.mem_or_eq_of_mem_set hx with h1 | h1
    · exact h.be x h1
    · rw [h1]; exact he
  · have hj : j < c.b.length := by have : (c.b.set k e).length = c.b.length := List.length_set; exact this ▸ hj
    show EtOk p _ _ (c.b.set k e) j ((c.b.set k e).getD j default)
    rw [gdE_set hk]
    split
    · rename_i hi; rw [hi]; exact ht.pcs fun i _ => hpc i
    · exact (h.et j hj).pcs fun i _ => hpc i
/-- those behind a place are dropped -/
theorem Inv.cut {p : Pg} {c : Cf} (h : Inv p c) (n : Nat) {t : Int} (ht : -1 ≤ t ∧ t ≤ p.is.length) : Inv p ⟨c.s.go t, c.b.take n, c.r, c.e⟩ := by
  refine ⟨h.reg, h.mem, h.ml, ht, h.st, h.stk, ?_, fun x hx => h.be x (List.mem_of_mem_take hx), h.rl, h.rb, fun j hj => ?_⟩
  · have := h.bl
    show ((c.b.take n).length : Int) ≤ _
    rw [List.length_take]; omega
  · have hj : j < min n c.b.length := by have : (c.b.take n).length = min n c.b.length := List.length_take; exact this ▸ hj
    show EtOk p _ _ (c.b.take n) j ((c.b.take n).getD j default)
    rw [gdE_take (by omega)]
    exact (h.et j (by omega)).pcs fun i hi => by rw [gdE_take (by omega)]
end
end Go.Proofs.Ytgcedepjlgfcjaa.Px
namespace Go.Proofs.Ytgcedepjlgfcjaa.Px
section
open Go.RowKit Go.Proofs.Ytgcedepjlgfcjaa.Rx
theorem valE_bd {l : List En} (h : ∀ e ∈ l, 0 ≤ e.val ∧ e.val < 65536) (k : Nat) : 0 ≤ (l.getD k default).val ∧ (l.getD k default).val < 65536 := by
  by_cases hk : k < l.length
  · exact h _ (gdE_mem hk)
  · rw [gdE_out hk]; exact ⟨by decide, by decide⟩
theorem regF_bd {p : Pg} {l : List En} {r : Int} (h : ∀ e ∈ l, 0 ≤ e.val ∧ e.val < 65536) : ∀ k x, regF p l r k = some x → 0 ≤ x.1 ∧ x.1 < 65536
  | 0, x, e => by cases e
  | k + 1, x, e => by
    unfold regF at e
    split at e
    · cases e
      split
      · exact valE_bd h k
      · exact ⟨by decide, by decide⟩
    · exact regF_bd h k x e
theorem reg_bd {s : S8} (h : okR s) (r : Int) : 0 ≤ s.reg r ∧ s.reg r < 65536 := by
  obtain ⟨h0, h1, h2, h3⟩ := h
  unfold S8.reg
  repeat' split
  all_goals assumption
theorem regV_bd {p : Pg} {s : S8} {l : List En} (hs : okR s) (h : ∀ e ∈ l, 0 ≤ e.val ∧ e.val < 65536) (i r : Int) : 0 ≤ (regV p s l i r).1 ∧ (regV p s l i r).1 < 65536 := by
  unfold regV
  split
  · cases e : regF p l r (cl0 i l.length) with
    | some x => exact regF_bd h _ _ e
    | none => exact reg_bd hs r
  · exact ⟨by decide, by decide⟩
theorem valF_bd {p : Pg} {s : S8} {l : List En} (hs : okR s) (h : ∀ e ∈ l, 0 ≤ e.val ∧ e.val < 65536) (i : Int) (v : Vl) : 0 ≤ (valF p s l i v).1 ∧ (valF p s l i v).1 < 65536 := by
  unfold valF
  split
  · exact regV_bd hs h i _
  · exact Wd.maskV_bd _ _
theorem sml_of {p : Pg} {c : Cf} (hs : okR c.s) (h : ∀ e ∈ c.b, 0 ≤ e.val ∧ e.val < 65536) : Sml p c := fun i x => by
  have h1 := valF_bd (p := p) hs h i x.a
  have h2 := valF_bd (p := p) hs h i x.b
  unfold tA tB
  omega
theorem Inv.val {p : Pg} {c : Cf} (h : Inv p c) : ∀ e ∈ c.b, 0 ≤ e.val ∧ e.val < 65536 := fun e he => (h.be e he).val
theorem Inv.sml {p : Pg} {c : Cf} (h : Inv p c) : Sml p c := sml_of h.reg h.val
theorem Inv.done {p : Pg} {c : Cf} (h : Inv p c) (k : Nat) : ∀ e ∈ (upE c k En.done).b, 0 ≤ e.val ∧ e.val < 65536 := fun e he => by
  rcases List.mem_or_eq_of_mem_set he with h1 | h1
  · exact h.val e h1
  · rw [h1]; exact valE_bd h.val k
theorem Inv.smlD {p : Pg} {c : Cf} (h : Inv p c) (k : Nat) : Sml p (upE c k En.done) := sml_of h.reg (h.done k)
theorem Inv.ok {p : Pg} {c : Cf} (hP : OkP p) (hw : p.win ≤ 1000) (h : Inv p c) : MOk p c := by
  have hl := hP.len
  have hb := h.bl
  have hm : c.s.m.length ≤ 16 := by rw [h.ml]; exact hP.sum
  have h4 := h.st
  have h2 := h.rl
  refine ⟨hl, by omega, by omega, h.sml, h.smlD, by omega, fun e he => ?_, fun e he => ?_, by have := h.pc; omega, by omega, ?_⟩
  · have := (h.be e he).pc; omega
  · have := (h.be e he).frm; omega
  · have hx := (atI_ok hP (c.b.getD 0 default).pc).1
    refine ⟨fun _ => hx.2.2.2.1, fun a b d => ?_, fun a b d => ?_, by omega, by omega, by omega, ?_⟩
    · by_cases h0 : 0 < c.b.length
      · exact ⟨(h.be _ (gdE_mem h0)).adr.1, (h.et 0 h0).sto a d b⟩
      · rw [gdE_out h0] at d; cases d
    · by_cases h0 : 0 < c.b.length
      · obtain ⟨L, e, hL⟩ := (h.et 0 h0).ret a d b
        cases e; exact hL
      · rw [gdE_out h0] at d; cases d
    · by_cases h0 : 0 < c.b.length
      · have := (h.be _ (gdE_mem h0)).pc; omega
      · rw [gdE_out h0]; exact ⟨by decide, by decide⟩
theorem mask_bd (p : Pg) (n : Int) : 0 ≤ Wd.maskV p.W n ∧ Wd.maskV p.W n < 65536 := Wd.maskV_bd _ _
theorem Inv.goV {p : Pg} {c : Cf} (h : Inv p c) {k : Nat} (hk : k < c.b.length) {t : Int} (ht : -1 ≤ t ∧ t ≤ p.is.length) : Inv p (goV c k t) := by
  unfold Px.goV
  split
  · exact h
  · have he := h.be _ (gdE_mem hk)
    have h1 := h.up hk (e := (c.b.getD k default).to t) rfl ⟨he.pc, he.val, he.frm, ht, he.adr⟩ ⟨(h.et k hk).sto, (h.et k hk).ret, (h.et k hk).cal⟩
    exact h1.cut (k + 1) ht
theorem ldF_bd {p : Pg} {l : List En} {a : Int} (h : ∀ e ∈ l, 0 ≤ e.val ∧ e.val < 65536) : ∀ k x, ldF p l a k = some x → (0 ≤ x.1 ∧ x.1 < 65536) ∧ -1 ≤ x.2.1 ∧ x.2.1 ≤ k
  | 0, x, e => by cases e
  | k + 1, x, e => by
    unfold ldF at e
    split at e
    · cases e
      split
      · exact ⟨valE_bd h k, by show (-1 : Int) ≤ (k : Int); omega, by show (k : Int) ≤ ((k + 1 : Nat) : Int); omega⟩
      · exact ⟨⟨by decide, by decide⟩, by show (-1 : Int) ≤ 0; decide, by show (0 : Int) ≤ ((k + 1 : Nat) : Int); omega⟩
    · have := ldF_bd h k x e
      refine ⟨this.1, this.2.1, ?_⟩
      have := this.2.2
      omega
theorem ldV_bd {p : Pg} {m : List Int} {l : List En} {i a : Int} (hm : ∀ x ∈ m, 0 ≤ x ∧ x < 65536) (h : ∀ e ∈ l, 0 ≤ e.val ∧ e.val < 65536) : (0 ≤ (ldV p m l i a).1 ∧ (ldV p m l i a).1 < 65536) ∧ -1 ≤ (ldV p m l i a).2.1 ∧ (ldV p m l i a).2.1 ≤ l.length := by
  unfold ldV
  cases e : ldF p l a (cl0 i l.length) with
  | some x =>
    have := ldF_bd h _ _ e
    have hc := cl0_le i l.length
    exact ⟨this.1, this.2.1, by have := this.2.2; show x.2.1 ≤ _; omega⟩
  | none =>
    show (0 ≤ (if _ then _ else _ : Int × Int × Bool).1 ∧ _) ∧ _
    split
    · exact ⟨mem_bd hm _, by show (-1 : Int) ≤ -1; decide, by show (-1 : Int) ≤ _; omega⟩
    · exact ⟨⟨by decide, by decide⟩, by show (-1 : Int) ≤ -1; decide, by show (-1 : Int) ≤ _; omega⟩
/-- one that is under way as an instruction: where it goes -/
theorem enX_ok {p : Pg} (hP : OkP p) (c : Cf) (k : Nat) : OkI (enX p c k) p.is.length ∧ ((enX p c k).kind ≠ 12 → 0 ≤ (c.b.getD k default).pc ∧ (c.b.getD k default).pc < p.is.length) := atI_ok hP _
theorem Inv.doO {p : Pg} {c c2 : Cf} {o : List Ob} (hP : OkP p) (hw : p.win ≤ 1000) (h : Inv p c) {i : Int} (e : doO p c i = some (c2, o)) : Inv p c2 := by
  unfold Px.doO at e
  split at e
  · rename_i hc
    obtain ⟨k, rfl, hk, hd, hK⟩ := cnV_in hc
    rw [Int.toNat_natCast, Option.some.injEq] at e
    have he := h.be _ (gdE_mem hk)
    have ht := h.et k hk
    have hb := h.bl
    obtain ⟨hx, hx2⟩ := enX_ok hP c k
    have hbD : ∀ i, ((upE c k En.done).b.getD i default).pc = (c.b.getD i default).pc := fun i => pc_set (l := c.b) (k := k) (g := En.done) (fun _ => rfl) i
    have hlD : (upE c k En.done).b.length = c.b.length := List.length_set
    have hv0 := valF_bd (p := p) h.reg (h.done k) (k : Int)
    have n8 : (enX p c k).kind = 8 → False := fun k8 => by
      unfold cnK at hK
      simp [k8] at hK
    have n3 : ∀ {q : Prop}, ¬ (enX p c k).kind = 3 → (atI p (c.b.getD k default).pc).kind = 3 → q := fun a b => absurd b a
    have mk : ∀ e' : En, e'.pc = (c.b.getD k default).pc → EnOk p e' → ((enX p c k).kind = 3 → e'.kn = true → e'.ft = false → e'.adr < c.s.m.length) → ((enX p c k).kind = 9 → e'.ft = false → rOk p c.s.st c.b k) → Inv p ⟨c.s, c.b.set k e', c.r, c.e⟩ := fun e' hp ho h3 h9 =>
      h.up hk hp ho ⟨fun a => h3 (by unfold enX; rw [← hp]; exact a), fun a _ b => h9 (by unfold enX; rw [← hp]; exact a) b, fun a => absurd (by unfold enX; rw [← hp]; exact a) n8⟩
    unfold dmV at e
    by_cases k1 : (enX p c k).kind = 1
    · rw [if_pos k1] at e
      cases e
      exact mk _ rfl ⟨he.pc, doV_bd _ _ _ _, he.frm, he.nxt, he.adr⟩ (fun a => by omega) (fun a => by omega)
    rw [if_neg k1] at e
    by_cases k4 : (enX p c k).kind = 4
    · rw [if_pos k4] at e
      cases e
      refine mk _ rfl ⟨he.pc, ?_, he.frm, he.nxt, he.adr⟩ (fun a => by omega) (fun a => by omega)
      show 0 ≤ (if _ then _ else _ : Int) ∧ (if _ then _ else _ : Int) < 65536
      split
      · exact regV_bd h.reg (h.done k) _ _
      · exact hv0 _
    rw [if_neg k4] at e
    by_cases k3 : (enX p c k).kind = 3
    · rw [if_pos k3] at e
      cases e
      exact mk _ rfl ⟨he.pc, regV_bd h.reg (h.done k) _ _, he.frm, he.nxt, he.adr⟩ (fun a b d => ht.sto a b d) (fun a => by omega)
    rw [if_neg k3] at e
    by_cases k2 : (enX p c k).kind = 2
    · rw [if_pos k2] at e
      split at e
      · cases e
        exact mk _ rfl ⟨he.pc, he.val, he.frm, he.nxt, mask_bd _ _⟩ (fun a => by omega) (fun a => by omega)
      · cases e
        have hl := ldV_bd (p := p) (m := c.s.m) (l := (upE c k fun e => e.done.ad (adV p (upE c k En.done) k (enX p c k))).b) (i := (k : Int)) (a := adV p (upE c k En.done) k (enX p c k)) h.mem (fun e he => by
          rcases List.mem_or_eq_of_mem_set he with h1 | h1
          · exact h.val e h1
          · rw [h1]; exact valE_bd h.val k)
        have hlb : (upE c k fun e => e.done.ad (adV p (upE c k En.done) k (enX p c k))).b.length = c.b.length := List.length_set
        rw [hlb] at hl
        exact mk _ rfl ⟨he.pc, hl.1, ⟨hl.2.1, Int.le_trans hl.2.2 (by omega)⟩, he.nxt, mask_bd _ _⟩ (fun a => by omega) (fun a => by omega)
    rw [if_neg k2] at e
    by_cases k5 : (enX p c k).kind = 5
    · rw [if_pos k5] at e
      cases e
      have hD : Inv p (upE c k En.done) := mk _ rfl ⟨he.pc, he.val, he.frm, he.nxt, he.adr⟩ (fun a => by omega) (fun a => by omega)
      have hpc := hx2 (by omega)
      refine hD.goV (by rw [hlD]; exact hk) ?_
      have htg := hx.2.2.2.2
      split
      · omega
      · omega
    rw [if_neg k5] at e
    by_cases k7 : (enX p c k).kind = 7
    · rw [if_pos k7] at e
      cases e
      have hD : Inv p (upE c k En.done) := mk _ rfl ⟨he.pc, he.val, he.frm, he.nxt, he.adr⟩ (fun a => by omega) (fun a => by omega)
      refine hD.goV (by rw [hlD]; exact hk) ?_
      have := hv0 (enX p c k).a
      unfold jmpV tA
      show -1 ≤ min (valF p c.s (upE c k En.done).b k (enX p c k).a).1 _ ∧ min (valF p c.s (upE c k En.done).b k (enX p c k).a).1 _ ≤ _
      omega
    rw [if_neg k7, reV_nat p c.s.st _ (by rw [hlD]; omega), reG_pcs p c.s.st (fun i _ => hbD i)] at e
    have flt : Inv p (upE c k fun e => e.done.flt) := mk _ rfl ⟨he.pc, he.val, he.frm, he.nxt, he.adr⟩ (fun _ _ a => by cases a) (fun _ a => by cases a)
    cases hv : reG p c.b 0 k c.s.st with
    | none => rw [hv] at e; cases e; exact flt
    | some L =>
      rw [hv] at e
      by_cases h0 : L.length = 0
      · have e' : (if L.length = 0 then ((upE c k fun e => e.done.flt, []) : Cf × List Ob) else (Px.goV (upE c k En.done) k (lastI L), [⟨3, lastI L⟩])) = (c2, o) := e
        rw [if_pos h0] at e'; cases e'; exact flt
      · have e' : (if L.length = 0 then ((upE c k fun e => e.done.flt, []) : Cf × List Ob) else (Px.goV (upE c k En.done) k (lastI L), [⟨3, lastI L⟩])) = (c2, o) := e
        rw [if_neg h0] at e'; cases e'
        have hD : Inv p (upE c k En.done) := mk _ rfl ⟨he.pc, he.val, he.frm, he.nxt, he.adr⟩ (fun a => by omega) (fun _ _ => ⟨L, hv, h0⟩)
        refine hD.goV (by rw [hlD]; exact hk) ?_
        have hm : lastI L ∈ L := by unfold lastI; exact gdI_mem (by omega)
        have := reG_mem p c.b (fun x => 0 ≤ x ∧ x ≤ p.is.length) k 0 c.s.st L h.stk (fun i _ hi h8 => by
          have := (atI_ok hP (c.b.getD i default).pc).2 (by unfold enI at h8; omega)
          omega) hv _ hm
        omega
  · cases e
theorem Inv.adrO {p : Pg} {c c2 : Cf} {o : List Ob} (hP : OkP p) (h : Inv p c) {i : Int} (e : adrO p c i = some (c2, o)) : Inv p c2 := by
  unfold Px.adrO at e
  split at e
  · rename_i hc
    obtain ⟨k, rfl, hk, hd, hK⟩ := caV_in hc
    rw [Int.toNat_natCast, Option.some.injEq] at e
    have he := h.be _ (gdE_mem hk)
    have ht := h.et k hk
    have hU : ∀ g : En → En, (g (c.b.getD k default)).pc = (c.b.getD k default).pc → EnOk p (g (c.b.getD k default)) → ((g (c.b.getD k default)).kn = true → (g (c.b.getD k default)).ft = false → (g (c.b.getD k default)).adr < c.s.m.length) → Inv p (upE c k g) := fun g hp ho h3 =>
      h.up hk hp ho ⟨fun _ => h3, fun a => by rw [hp] at a; unfold enX at hK; omega, fun a => by rw [hp] at a; unfold enX at hK; omega⟩
    unfold adrV at e
    split at e
    · cases e
      exact hU _ rfl ⟨he.pc, he.val, he.frm, he.nxt, mask_bd _ _⟩ (fun _ a => by cases a)
    · rename_i ho
      have hI : Inv p (upE c k fun e => e.ad (adV p c k (enX p c k))) := hU _ rfl ⟨he.pc, he.val, he.frm, he.nxt, mask_bd _ _⟩ (fun _ _ => by show adV p c k (enX p c k) < _; omega)
      split at e
      · rename_i q hz
        cases e
        obtain ⟨q', rfl, hq⟩ := hzV_lt hz
        refine hI.cut _ ?_
        rw [Int.toNat_natCast]
        have := (hI.be _ (gdE_mem hq)).pc
        omega
      · cases e; exact hI
  · cases e
end
end Go.Proofs.Ytgcedepjlgfcjaa.Px
namespace Go.Proofs.Ytgcedepjlgfcjaa.Px
section
open Go.RowKit Go.Proofs.Ytgcedepjlgfcjaa.Rx
theorem gsV_pos {p : Pg} {c : Cf} {g : Int} (h0 : 0 ≤ g) (h : g < gsV p c) : (c.e = 0 ∧ c.s.pc ≠ -1 ∧ ¬ p.win ≤ (c.b.length : Int)) ∧ ((atI p c.s.pc).kind = 7 → g ≤ p.is.length) ∧ ((atI p c.s.pc).kind = 9 → c.r.length = 0 → g ≤ p.is.length) := by
  unfold gsV at h
  split at h
  · omega
  · rename_i hn
    refine ⟨⟨?_, ?_, ?_⟩, fun k7 => ?_, fun k9 hr => ?_⟩
    · exact Classical.byContradiction fun e => hn (.inl e)
    · exact fun e => hn (.inr (.inl e))
    · exact fun e => hn (.inr (.inr e))
    · rw [if_neg (by omega), if_pos k7] at h; omega
    · rw [if_neg (by omega), if_neg (by omega), if_pos ⟨k9, hr⟩] at h; omega
theorem ftE_ok {p : Pg} {c : Cf} {g : Int} (hP : OkP p) (h : Inv p c) (h0 : 0 ≤ g) (hg : g < gsV p c) : EnOk p (ftE p c g) ∧ EtOk p c.s.m.length c.s.st c.b c.b.length (ftE p c g) := by
  obtain ⟨⟨he, hp1, hw⟩, h7, h9⟩ := gsV_pos h0 hg
  have hpc := h.pc
  have hpc0 : 0 ≤ c.s.pc ∧ c.s.pc ≤ p.is.length := by omega
  obtain ⟨hx, hx2⟩ := atI_ok hP c.s.pc
  have htg := hx.2.2.2.2
  have mk : ∀ (n : Int) (d f : Bool), -1 ≤ n ∧ n ≤ p.is.length → ((atI p c.s.pc).kind = 9 → d = true → False) → ((atI p c.s.pc).kind = 8 → f = false → lOk p c.s.st c.b c.b.length) → EnOk p ⟨c.s.pc, 0, 0, -1, n, d, false, f⟩ ∧ EtOk p c.s.m.length c.s.st c.b c.b.length ⟨c.s.pc, 0, 0, -1, n, d, false, f⟩ := fun n d f hn h9 h8 =>
    ⟨⟨hpc0, ⟨by show (0 : Int) ≤ 0; decide, by show (0 : Int) < 65536; decide⟩, ⟨by show (-1 : Int) ≤ -1; decide, by show (-1 : Int) ≤ 1000000; decide⟩, hn, ⟨by show (0 : Int) ≤ 0; decide, by show (0 : Int) < 65536; decide⟩⟩, ⟨(fun _ b => by cases b), (fun a b => (h9 a b).elim), (fun a b => h8 a b)⟩⟩
  unfold ftE
  by_cases k5 : (atI p c.s.pc).kind = 5
  · rw [if_pos k5]
    have := hx2 (by omega)
    refine mk _ _ _ ?_ (fun a => by omega) (fun a => by omega)
    split <;> omega
  rw [if_neg k5]
  by_cases k6 : (atI p c.s.pc).kind = 6
  · rw [if_pos k6]; exact mk _ _ _ (by omega) (fun a => by omega) (fun a => by omega)
  rw [if_neg k6]
  by_cases k7 : (atI p c.s.pc).kind = 7
  · rw [if_pos k7]; exact mk _ _ _ (by have := h7 k7; omega) (fun a => by omega) (fun a => by omega)
  rw [if_neg k7]
  by_cases k9 : (atI p c.s.pc).kind = 9
  · rw [if_pos k9]
    refine mk _ _ _ ?_ (fun _ b => by cases b) (fun a => by omega)
    split
    · rename_i hr; have := h9 k9 hr; omega
    · rename_i hr
      have := h.rb (lastI c.r) (by unfold lastI; exact gdI_mem (by omega))
      omega
  rw [if_neg k9]
  by_cases k8 : (atI p c.s.pc).kind = 8
  · rw [if_pos k8]
    refine mk _ _ _ (by omega) (fun a => absurd a k9) (fun _ hf => ?_)
    unfold ftB at hf
    rw [reV_nat p c.s.st c.b (Nat.le_refl _)] at hf
    cases e : reG p c.b 0 c.b.length c.s.st with
    | none => rw [e] at hf; cases hf
    | some L => rw [e] at hf; exact ⟨L, e, by have := of_decide_eq_false hf; omega⟩
  rw [if_neg k8]
  by_cases k1 : (atI p c.s.pc).kind = 11 ∨ (atI p c.s.pc).kind = 12
  · rw [if_pos k1]; exact mk _ _ _ (by omega) (fun a => absurd a k9) (fun a => absurd a k8)
  rw [if_neg k1]
  have := hx2 (fun a => k1 (.inr a))
  exact mk _ _ _ (by omega) (fun a => absurd a k9) (fun a => absurd a k8)
theorem pushL_mem {l : List Int} {pc x : Int} (h : x ∈ pushL l pc) : x ∈ l ∨ x = pc := by
  unfold pushL at h
  rcases List.mem_append.1 (List.mem_of_mem_drop h) with h | h
  · exact .inl h
  · exact .inr (List.mem_singleton.1 h)
theorem Inv.ftO {p : Pg} {c c2 : Cf} {g : Int} (hP : OkP p) (h : Inv p c) (e : ftO p c g = some c2) : Inv p c2 := by
  unfold Px.ftO at e
  split at e
  · rename_i hg
    cases e
    obtain ⟨ho, ht⟩ := ftE_ok hP h hg.1 hg.2
    obtain ⟨⟨he, hp1, hw⟩, -, -⟩ := gsV_pos hg.1 hg.2
    have hbl := h.bl
    have hr : (ftR p c).length ≤ 2 ∧ ∀ x ∈ ftR p c, 0 ≤ x ∧ x ≤ p.is.length := by
      unfold ftR
      have hrl := h.rl
      split
      · exact ⟨by rw [List.length_take]; omega, fun x hx => h.rb x (List.mem_of_mem_take hx)⟩
      · split
        · rename_i k8
          refine ⟨by rw [push_len]; omega, fun x hx => ?_⟩
          rcases pushL_mem hx with hx | hx
          · exact h.rb x hx
          · have := (atI_ok hP c.s.pc).2 (by omega)
            rw [hx]; omega
        · exact ⟨hrl, h.rb⟩
    refine ⟨h.reg, h.mem, h.ml, ho.nxt, h.st, h.stk, ?_, fun x hx => ?_, hr.1, hr.2, fun j hj => ?_⟩
    · show ((c.b ++ [ftE p c g]).length : Int) ≤ _
      rw [List.length_append, List.length_singleton]; omega
    · rcases List.mem_append.1 hx with hx | hx
      · exact h.be x hx
      · rw [List.mem_singleton.1 hx]; exact ho
    · have hj : j < c.b.length + 1 := by have : (c.b ++ [ftE p c g]).length = c.b.length + 1 := by rw [List.length_append]; rfl
                                         exact this ▸ hj
      show EtOk p _ _ (c.b ++ [ftE p c g]) j ((c.b ++ [ftE p c g]).getD j default)
      by_cases hq : j < c.b.length
      · rw [gdE_app hq]
        exact (h.et j hq).pcs fun i hi => by rw [gdE_app (by omega)]
      · obtain rfl : j = c.b.length := by omega
        rw [gdE_last]
        exact ht.pcs fun i hi => by rw [gdE_app (by omega)]
  · cases e
theorem mem_gd {l : List En} {x : En} (h : x ∈ l) : ∃ i, i < l.length ∧ l.getD i default = x := by
  obtain ⟨i, hi, e⟩ := List.getElem_of_mem h
  exact ⟨i, hi, by simp [List.getD, hi, e]⟩
theorem popL_mem {l : List En} {x : En} (h : x ∈ popL l) : ∃ e ∈ l, x = e.pop := by
  obtain ⟨i, hi, e⟩ := mem_gd h
  rw [popL_len] at hi
  rw [popL_get l (by omega)] at e
  exact ⟨_, gdE_mem (by omega : i + 1 < l.length), e.symm⟩
theorem pop_frm {e : En} (h : -1 ≤ e.frm ∧ e.frm ≤ 1000000) : -1 ≤ e.pop.frm ∧ e.pop.frm ≤ 1000000 := by
  by_cases h0 : 0 ≤ e.frm
  · rw [pop_y h0]; exact ⟨by show -1 ≤ e.frm - 1; omega, by show e.frm - 1 ≤ _; omega⟩
  · rw [pop_n h0]; exact h
theorem Inv.popS {p : Pg} {c : Cf} (h : Inv p c) {s : S8} (hr : okR s) (hm : ∀ x ∈ s.m, 0 ≤ x ∧ x < 65536) (hml : s.m.length = c.s.m.length) (hpc : s.pc = c.s.pc) (hst : s.st.length ≤ 4) (hsk : ∀ x ∈ s.st, 0 ≤ x ∧ x ≤ p.is.length) (hG : ∀ k, k + 1 < c.b.length → reG p c.b 0 (k + 1) c.s.st = reG p c.b 1 k s.st) : Inv p ⟨s, popL c.b, c.r, c.e⟩ := by
  refine ⟨hr, hm, hml.trans h.ml, by show -1 ≤ s.pc ∧ s.pc ≤ _; rw [hpc]; exact h.pc, hst, hsk, ?_, fun x hx => ?_, h.rl, h.rb, fun j hj => ?_⟩
  · have := h.bl
    show ((popL c.b).length : Int) ≤ _
    rw [popL_len]; omega
  · obtain ⟨e, he, rfl⟩ := popL_mem hx
    have ho := h.be e he
    exact ⟨ho.pc, ho.val, pop_frm ho.frm, ho.nxt, ho.adr⟩
  · have hj : j < c.b.length - 1 := by have := popL_len c.b; exact this ▸ hj
    show EtOk p s.m.length s.st (popL c.b) j ((popL c.b).getD j default)
    rw [popL_get c.b (by omega), hml]
    have ht := h.et (j + 1) (by omega)
    have hg : reG p (popL c.b) 0 j s.st = reG p c.b 0 (j + 1) c.s.st := by
      rw [hG j (by omega)]
      exact reG_congr p (popL c.b) c.b j 0 1 s.st fun i hi => by
        rw [Nat.zero_add, popL_get c.b (by omega), Nat.add_comm 1 i]; rfl
    refine ⟨ht.sto, fun a b d => ?_, fun a b => ?_⟩
    · have := ht.ret a b d; unfold rOk at this ⊢; rw [hg]; exact this
    · have := ht.cal a b; unfold lOk at this ⊢; rw [hg]; exact this
theorem Inv.fin {p : Pg} {c : Cf} (h : Inv p c) {t e : Int} (ht : -1 ≤ t ∧ t ≤ p.is.length) : Inv p ⟨c.s.go t, [], [], e⟩ :=
  ⟨h.reg, h.mem, h.ml, ht, h.st, h.stk, (by show ((0 : Nat) : Int) ≤ _; omega), (fun _ hx => by cases hx), (by show 0 ≤ 2; omega), (fun _ hx => by cases hx), fun k hk => absurd hk (Nat.not_lt_zero k)⟩
theorem Inv.rtO {p : Pg} {c c2 : Cf} (hP : OkP p) (h : Inv p c) (e : rtO p c = some c2) : Inv p c2 := by
  unfold Px.rtO at e
  split at e
  · rename_i hc
    cases e
    obtain ⟨h0, hl, hdn, hkn⟩ := crV_in hc
    have ho := h.be _ (gdE_mem hl)
    have ht := h.et 0 hl
    have hpc : -1 ≤ (c.b.getD 0 default).pc ∧ (c.b.getD 0 default).pc ≤ p.is.length := by have := ho.pc; omega
    obtain ⟨hx, hx2⟩ := enX_ok hP c 0
    have hG : ∀ k, reG p c.b 0 (k + 1) c.s.st = if (enX p c 0).kind = 8 then (if 4 ≤ c.s.st.length then none else reG p c.b 1 k (c.s.st ++ [(c.b.getD 0 default).pc + 1])) else if (enX p c 0).kind = 9 then (if c.s.st.length = 0 then none else reG p c.b 1 k (c.s.st.take (c.s.st.length - 1))) else reG p c.b 1 k c.s.st := fun k => rfl
    have hst := h.st
    unfold rtV
    by_cases n12 : (c.b.getD 0 default).ft = true ∨ (enX p c 0).kind = 12
    · rw [if_pos n12]; exact h.fin hpc
    rw [if_neg n12]
    have hf : (c.b.getD 0 default).ft = false := by
      cases hb : (c.b.getD 0 default).ft with
      | true => exact absurd (.inl hb) n12
      | false => rfl
    by_cases k11 : (enX p c 0).kind = 11
    · rw [if_pos k11]; exact h.fin hpc
    rw [if_neg k11]
    by_cases kd : dstB (enX p c 0) = true
    · rw [if_pos kd]
      have n8 : (enX p c 0).kind ≠ 8 ∧ (enX p c 0).kind ≠ 9 := by
        constructor <;> (intro k8; unfold dstB at kd; rw [k8] at kd; revert kd; decide)
      exact h.popS (set_ok h.reg _ ho.val) h.mem rfl rfl hst h.stk fun k _ => by rw [hG, if_neg n8.1, if_neg n8.2]; rfl
    rw [if_neg kd]
    by_cases k3 : (enX p c 0).kind = 3
    · rw [if_pos k3]
      refine h.popS h.reg (fun x hx => ?_) (by show (List.set _ _ _).length = _; rw [List.length_set]) rfl hst h.stk fun k _ => by rw [hG, if_neg (by omega), if_neg (by omega)]
      rcases List.mem_or_eq_of_mem_set hx with h1 | h1
      · exact h.mem x h1
      · rw [h1]; exact ho.val
    rw [if_neg k3]
    by_cases k8 : (enX p c 0).kind = 8
    · rw [if_pos k8]
      obtain ⟨L, e, hL⟩ := ht.cal k8 hf
      cases e
      have := hx2 (by omega)
      refine h.popS h.reg h.mem rfl rfl (by show (c.s.st ++ [_]).length ≤ 4; rw [List.length_append, List.length_singleton]; omega) (fun x hx => ?_) fun k _ => by rw [hG, if_pos k8, if_neg (by omega)]
      rcases List.mem_append.1 hx with hx | hx
      · exact h.stk x hx
      · rw [List.mem_singleton.1 hx]; omega
    rw [if_neg k8]
    by_cases k9 : (enX p c 0).kind = 9
    · rw [if_pos k9]
      obtain ⟨L, e, hL⟩ := ht.ret k9 (by rcases hdn with h | h; exact h; omega) hf
      cases e
      exact h.popS h.reg h.mem rfl rfl (by show (c.s.st.take _).length ≤ 4; rw [List.length_take]; omega) (fun x hx => h.stk x (List.mem_of_mem_take hx)) fun k _ => by rw [hG, if_neg k8, if_pos k9, if_neg hL]
    rw [if_neg k9]
    exact h.popS h.reg h.mem rfl rfl hst h.stk fun k _ => by rw [hG, if_neg k8, if_neg k9]
  · cases e
theorem Inv.sayO {p : Pg} {c c2 : Cf} {o : List Ob} (hP : OkP p) (hw : p.win ≤ 1000) (h : Inv p c) {d : Dr} (e : sayO p c d = some (c2, o)) : Inv p c2 := by
  unfold Px.sayO at e
  split at e
  · cases hq : Px.ftO p c d.n with
    | none => rw [hq] at e; cases e
    | some x => rw [hq] at e; cases e; exact h.ftO hP hq
  · split at e
    · exact h.doO hP hw e
    · split at e
      · exact h.adrO hP e
      · split at e
        · split at e
          · cases hq : Px.rtO p c with
            | none => rw [hq] at e; cases e
            | some x => rw [hq] at e; cases e; exact h.rtO hP hq
          · cases e
        · cases e
theorem Inv.begin {p : Pg} {s : S8} (hs : OkS s.m.length p.is.length s) (hm : s.m.length = sumN p.ms) (hst : s.st.length ≤ 4) (hsk : ∀ x ∈ s.st, 0 ≤ x ∧ x ≤ p.is.length) : Inv p ⟨s, [], [], 0⟩ :=
  ⟨hs.reg, hs.mem, hm, hs.pc, hst, hsk, (by show ((0 : Nat) : Int) ≤ _; omega), (fun _ hx => by cases hx), (by show 0 ≤ 2; omega), (fun _ hx => by cases hx), fun k hk => absurd hk (Nat.not_lt_zero k)⟩
end
end Go.Proofs.Ytgcedepjlgfcjaa.Px
namespace Go.Proofs.Ytgcedepjlgfcjaa.Px
section
open Go.RowKit Go.Proofs.Ytgcedepjlgfcjaa.Rx
def cfB (c : Cf) : Blk := ⟨0, false, 52, .box (cfA c)⟩
def cfJ : Blk := ⟨0, false, 52, .box (List.replicate 10 .junk)⟩
def wkI (l : List Int) (i : Nat) (D : List Dr) : Nat := (Int.tmod (bits .and .i64 (l.getD i 0) 65535) D.length).toNat
def wkD (p : Pg) (l : List Int) (c : Cf) (i : Nat) : Dr := (allV p c).getD (wkI l i (allV p c)) default
def wkR (p : Pg) (l : List Int) : Nat → Nat → Cf → List Dr → Cf × List Dr
  | 0, _, c, o => (c, o)
  | j + 1, i, c, o => if (allV p c).length = 0 then (c, o) else match sayO p c (wkD p l c i) with
    | none => (c, o)
    | some x => wkR p l j (i + 1) x.1 (o ++ [wkD p l c i])
def beg (s : S8) : Cf := ⟨s, [], [], 0⟩
def wkV (p : Pg) (s : S8) (l : List Int) : Cf × List Dr := wkR p l (min l.length 60) 0 (beg s) []
def wS (p : Pg) (l : List Int) (c : Cf) (o : List Dr) (i : Nat) : Sm := ⟨[(3, pgP p), (2, lR l), (6, .bptr 0 0), (8, .bptr 1 0), (9, .own 2 0 2 0 o.length), (10, .int .i64 i)], [(0, cfJ), (1, cfB c), (2, drB o)], 3⟩
def wJ (x : Cf × List Dr) : Sm := ⟨[(6, .bptr 0 0), (8, .bptr 1 0), (9, .own 2 0 2 0 x.2.length)], [(0, cfJ), (1, cfB x.1), (2, drB x.2)], 3⟩
theorem zM120 (s : S8) {Z : Prop} (z : Z) : (RF s.r0 (RF s.r1 (RF s.r2 (RF s.r3 (RF s.m.length (RR s.m.length 1 (fun i j => aI (s.m.getD i 0)) (RF s.st.length (RR s.st.length 1 (fun i j => aI (s.st.getD i 0)) (RF s.pc Z))))))))) := ⟨rfl, rfl, rfl, rfl, rfl, fun _ _ _ _ => rfl, rfl, fun _ _ _ _ => rfl, rfl, z⟩
theorem beg_vc (s : S8) : Vc (vcFn Try.prog false 26 [.agg (s8R s)] [.fz] [] (.agg (cfA (beg s))) []) := vc_by (zM120 s (cj (rf (0 : Nat)) (cj (rf (0 : Nat)) (cj (rf (0 : Int)) trivial)))) (by kernel_rfl)
theorem rbegC (s : S8) : PureC Try.prog 26 [.agg (s8R s)] (.agg (cfA (beg s))) [] := PureC.vc (beg_vc s)
theorem zM121 (c : Cf) (o : List Dr) {Z : Prop} (z : Z) : (RF c.b.length (RR c.b.length 8 (fun i j => rowL enC c.b i j) (RF c.r.length (RR c.r.length 1 (fun i j => aI (c.r.getD i 0)) (RF c.e (RF o.length (RR o.length 2 (fun i j => rowL drC o i j) (RF (0 : Nat) (RF o.length Z))))))))) := ⟨rfl, fun _ _ _ _ => rfl, rfl, fun _ _ _ _ => rfl, rfl, rfl, fun _ _ _ _ => rfl, rfl, rfl, z⟩
theorem zM122 (c : Cf) {Z : Prop} (z : Z) : (RF c.s.r0 (RF c.s.r1 (RF c.s.r2 (RF c.s.r3 (RF c.s.m.length (RR c.s.m.length 1 (fun i j => aI (List.getD c.s.m i (0 : Int))) (RF c.s.st.length (RR c.s.st.length 1 (fun i j => aI (List.getD c.s.st i (0 : Int))) (RF c.s.pc Z))))))))) := ⟨rfl, rfl, rfl, rfl, rfl, fun _ _ _ _ => rfl, rfl, fun _ _ _ _ => rfl, rfl, z⟩
theorem wk_e (p : Pg) (l : List Int) (c : Cf) (o : List Dr) (i : Nat) (h : ¬ i < l.length) : Vc (vcC Try.prog false (ntOf Try.prog 15) (lpC Try.prog 15 0) (wS p l c o i) [.bd false] (.ext 0) [(0, 0), (1, 1), (2, 2)] (wJ (c, o))) := vc_by (cj (df ((i : Int) < (l.length : Int))) (zM122 c (zM121 c o trivial))) (by kernel_rfl)
theorem wk_6 (p : Pg) (l : List Int) (c : Cf) (o : List Dr) (i : Nat) (h : i < l.length) (h6 : ¬ i < 60) : Vc (vcC Try.prog false (ntOf Try.prog 15) (lpC Try.prog 15 0) (wS p l c o i) [.bd true, .bd false] (.ext 0) [(0, 0), (1, 1), (2, 2)] (wJ (c, o))) := vc_by (cj (dt ((i : Int) < (l.length : Int))) (cj (df ((i : Int) < 60)) (zM122 c (zM121 c o trivial)))) (by kernel_rfl)
theorem zM123 (c : Cf) {Z : Prop} (z : Z) : (RR c.s.m.length 1 (fun i j => aI (List.getD c.s.m i (0 : Int))) (RF c.s.st.length (RR c.s.st.length 1 (fun i j => aI (List.getD c.s.st i (0 : Int))) (RF c.s.pc (RF c.b.length (RR c.b.length 8 (fun i j => rowL enC c.b i j) (RF c.r.length (RR c.r.length 1 (fun i j => aI (c.r.getD i 0)) (RF c.e Z))))))))) := ⟨fun _ _ _ _ => rfl, rfl, fun _ _ _ _ => rfl, rfl, rfl, fun _ _ _ _ => rfl, rfl, fun _ _ _ _ => rfl, rfl, z⟩
theorem zM124 (p : Pg) (c : Cf) {Z : Prop} (z : Z) : (RF p.ls.length (RR p.ls.length 2 (fun i j => rowL lbC p.ls i j) (RF p.is.length (RR p.is.length 9 (fun i j => rowL inC p.is i j) (RF c.s.r0 (RF c.s.r1 (RF c.s.r2 (RF c.s.r3 (RF c.s.m.length Z))))))))) := ⟨rfl, fun _ _ _ _ => rfl, rfl, fun _ _ _ _ => rfl, rfl, rfl, rfl, rfl, rfl, z⟩
theorem zM125 (p : Pg) {Z : Prop} (z : Z) : (RF p.W (RF p.win (RF p.fuel (RF p.r0 (RF p.r1 (RF p.r2 (RF p.r3 (RF p.ms.length (RR p.ms.length 3 (fun i j => rowL mmC p.ms i j) Z))))))))) := ⟨rfl, rfl, rfl, rfl, rfl, rfl, rfl, rfl, fun _ _ _ _ => rfl, z⟩
abbrev qM120 (p : Pg) (c : Cf) : Prop := PureC Try.prog 27 [.agg (pgA p), .agg (cfA c)] (drR (allV p c)) []
abbrev oM121 (p : Pg) (c : Cf) : Orc := .cl [.agg (pgA p), .agg (cfA c)] (drR (allV p c)) []
theorem wk_0 (p : Pg) (l : List Int) (c : Cf) (o : List Dr) (i : Nat) (h : i < l.length) (h6 : i < 60) (hA : qM120 p c) (h0 : (allV p c).length = 0) : Vc (vcC Try.prog false (ntOf Try.prog 15) (lpC Try.prog 15 0) (wS p l c o i) [.bd true, .bd true, oM121 p c, .bd true] (.ext 0) [(0, 0), (1, 1), (2, 2)] (wJ (c, o))) := vc_by (cj (dt ((i : Int) < (l.length : Int))) (cj (dt ((i : Int) < 60)) (zM125 p (zM124 p c (zM123 c (cj hA (cj (e1 (↑((allV p c).length) : Int) 0) (zM122 c (zM121 c o trivial))))))))) (by kernel_rfl)
theorem wk_n (p : Pg) (l : List Int) (c : Cf) (o : List Dr) (i : Nat) (h : i < l.length) (h6 : i < 60) (hA : qM120 p c) (h0 : ¬ (allV p c).length = 0) (hi0 : 0 ≤ Int.tmod (bits .and .i64 (l.getD i 0) 65535) (allV p c).length) (hi1 : Int.tmod (bits .and .i64 (l.getD i 0) 65535) (allV p c).length < (allV p c).length) (ho : o.length < 1000) (hS : PureC Try.prog 28 [.agg (pgA p), .agg (cfA c), .agg (drA (wkD p l c i))] (dmA none) []) : Vc (vcC Try.prog false (ntOf Try.prog 15) (lpC Try.prog 15 0) (wS p l c o i) [.bd true, .bd true, oM121 p c, .bd false, .cl [.agg (pgA p), .agg (cfA c), .agg (drA (wkD p l c i))] (dmA none) []] (.ext 0) [(0, 0), (1, 1), (2, 2)] (wJ (c, o))) := vc_by (cj (dt ((i : Int) < (l.length : Int))) (cj (dt ((i : Int) < 60)) (zM125 p (zM124 p c (zM123 c (cj hA (cj (e0 (↑((allV p c).length) : Int) 0) (cj (bi (i : Int) (l.length : Int)) (cj (pv ((↑((allV p c).length) : Int) ≠ 0)) (cj (bi (Int.tmod (Go.bits Go.BinOp.and IntKind.i64 (l.getD i 0) (65535 : Int)) (↑((allV p c).length) : Int)) (↑((allV p c).length) : Int)) (zM125 p (zM124 p c (zM123 c (cj (rf ((wkD p l c i).k)) (cj (rf ((wkD p l c i).n)) (cj hS (zM122 c (zM121 c o trivial)))))))))))))))))) (by kernel_rfl)
theorem sM120 (p : Pg) (l : List Int) (c : Cf) (o : List Dr) (i : Nat) (h : i < l.length) : ∀ (i_1 : Nat), i_1 < o.length + 1 → ∀ (j : Nat), j < 2 → (bif Nat.blt i_1 o.length then rowL drC o i_1 j else List.getD [aI ((List.getD (allV p c) (Int.toNat (Int.tmod (Go.bits Go.BinOp.and IntKind.i64 (l.getD i 0) (65535 : Int)) (↑((allV p c).length) : Int))) default).k), aI ((List.getD (allV p c) (Int.toNat (Int.tmod (Go.bits Go.BinOp.and IntKind.i64 (l.getD i 0) (65535 : Int)) (↑((allV p c).length) : Int))) default).n)] ((i_1 - o.length + 0) * 2 + j) AV.junk) = rowL drC (o ++ [wkD p l c i]) i_1 j := (fun i hi j hj => row_if (fun h => (rowL_left h).symm) (fun h => by obtain rfl : i = _ := Nat.le_antisymm (Nat.lt_succ_iff.mp hi) (Nat.not_lt.mp h); rw [rowL_last, Nat.sub_self]; match j, hj with | 0, _ => rfl | 1, _ => rfl))
theorem zM126 (p : Pg) (l : List Int) {Z : Prop} (z : Z) : (RF p.ls.length (RR p.ls.length 2 (fun i j => rowL lbC p.ls i j) (RF p.is.length (RR p.is.length 9 (fun i j => rowL inC p.is i j) (RF l.length (RR l.length 1 (fun i j => aI (l.getD i 0)) (RF (0 : Nat) Z))))))) := ⟨rfl, fun _ _ _ _ => rfl, rfl, fun _ _ _ _ => rfl, rfl, fun _ _ _ _ => rfl, rfl, z⟩
theorem zM127 (c2 : Cf) {Z : Prop} (z : Z) : (RF c2.b.length (RR c2.b.length 8 (fun i j => rowL enC c2.b i j) (RF c2.r.length (RR c2.r.length 1 (fun i j => aI (c2.r.getD i 0)) (RF c2.e Z))))) := ⟨rfl, fun _ _ _ _ => rfl, rfl, fun _ _ _ _ => rfl, rfl, z⟩
theorem zM128 (c2 : Cf) {Z : Prop} (z : Z) : (RF c2.s.r0 (RF c2.s.r1 (RF c2.s.r2 (RF c2.s.r3 (RF c2.s.m.length (RR c2.s.m.length 1 (fun i j => aI (List.getD c2.s.m i (0 : Int))) (RF c2.s.st.length (RR c2.s.st.length 1 (fun i j => aI (List.getD c2.s.st i (0 : Int))) (RF c2.s.pc Z))))))))) := ⟨rfl, rfl, rfl, rfl, rfl, fun _ _ _ _ => rfl, rfl, fun _ _ _ _ => rfl, rfl, z⟩
theorem wk_s (p : Pg) (l : List Int) (c : Cf) (o : List Dr) (i : Nat) (h : i < l.length) (h6 : i < 60) (hA : qM120 p c) (h0 : ¬ (allV p c).length = 0) (hi0 : 0 ≤ Int.tmod (bits .and .i64 (l.getD i 0) 65535) (allV p c).length) (hi1 : Int.tmod (bits .and .i64 (l.getD i 0) 65535) (allV p c).length < (allV p c).length) (ho : o.length < 1000) (c2 : Cf) (hS : PureC Try.prog 28 [.agg (pgA p), .agg (cfA c), .agg (drA (wkD p l c i))] (dmA (some (c2, []))) []) : Vc (vcC Try.prog false (ntOf Try.prog 15) (lpC Try.prog 15 0) (wS p l c o i) [.bd true, .bd true, oM121 p c, .bd false, .cl [.agg (pgA p), .agg (cfA c), .agg (drA (wkD p l c i))] (dmA (some (c2, []))) [], .b false] .nrm [(0, 0), (1, 1), (2, 2)] (wS p l c2 (o ++ [wkD p l c i]) (i + 1))) := vc_by (cj (dt ((i : Int) < (l.length : Int))) (cj (dt ((i : Int) < 60)) (zM125 p (zM124 p c (zM123 c (cj hA (cj (e0 (↑((allV p c).length) : Int) 0) (cj (bi (i : Int) (l.length : Int)) (cj (pv ((↑((allV p c).length) : Int) ≠ 0)) (cj (bi (Int.tmod (Go.bits Go.BinOp.and IntKind.i64 (l.getD i 0) (65535 : Int)) (↑((allV p c).length) : Int)) (↑((allV p c).length) : Int)) (zM125 p (zM124 p c (zM123 c (cj (rf ((wkD p l c i).k)) (cj (rf ((wkD p l c i).n)) (cj hS (cj (rf false) (cj (bi (i : Int) (l.length : Int)) (cj (pv ((↑((allV p c).length) : Int) ≠ 0)) (cj (bi (Int.tmod (Go.bits Go.BinOp.and IntKind.i64 (l.getD i 0) (65535 : Int)) (↑((allV p c).length) : Int)) (↑((allV p c).length) : Int)) (cj (ap o.length 1 16) (cj (i6 ((i : Int) + 1)) (zM128 c2 (zM127 c2 (cj (pv (o.length + 1 = (o ++ [wkD p l c i]).length)) (cj (sM120 p l c o i h) (zM125 p (zM126 p l (cj (pv (o.length + 1 = (o ++ [wkD p l c i]).length)) (cj (rf ((i : Int) + 1)) trivial)))))))))))))))))))))))))))))) (by kernel_rfl)
theorem wk_o (p : Pg) (l : List Int) (c : Cf) (o : List Dr) (i : Nat) (h : i < l.length) (h6 : i < 60) (hA : qM120 p c) (h0 : ¬ (allV p c).length = 0) (hi0 : 0 ≤ Int.tmod (bits .and .i64 (l.getD i 0) 65535) (allV p c).length) (hi1 : Int.tmod (bits .and .i64 (l.getD i 0) 65535) (allV p c).length < (allV p c).length) (ho : o.length < 1000) (c2 : Cf) (x : Ob) (r0 : List Ob) (hS : PureC Try.prog 28 [.agg (pgA p), .agg (cfA c), .agg (drA (wkD p l c i))] (dmA (some (c2, x :: r0))) []) : Vc (vcC Try.prog false (ntOf Try.prog 15) (lpC Try.prog 15 0) (wS p l c o i) [.bd true, .bd true, oM121 p c, .bd false, .cl [.agg (pgA p), .agg (cfA c), .agg (drA (wkD p l c i))] (dmA (some (c2, x :: r0))) [], .b false] .nrm [(0, 0), (1, 1), (2, 2)] (wS p l c2 (o ++ [wkD p l c i]) (i + 1))) := vc_by (cj (dt ((i : Int) < (l.length : Int))) (cj (dt ((i : Int) < 60)) (zM125 p (zM124 p c (zM123 c (cj hA (cj (e0 (↑((allV p c).length) : Int) 0) (cj (bi (i : Int) (l.length : Int)) (cj (pv ((↑((allV p c).length) : Int) ≠ 0)) (cj (bi (Int.tmod (Go.bits Go.BinOp.and IntKind.i64 (l.getD i 0) (65535 : Int)) (↑((allV p c).length) : Int)) (↑((allV p c).length) : Int)) (zM125 p (zM124 p c (zM123 c (cj (rf ((wkD p l c i).k)) (cj (rf ((wkD p l c i).n)) (cj hS (cj (rf false) (cj (bi (i : Int) (l.length : Int)) (cj (pv ((↑((allV p c).length) : Int) ≠ 0)) (cj (bi (Int.tmod (Go.bits Go.BinOp.and IntKind.i64 (l.getD i 0) (65535 : Int)) (↑((allV p c).length) : Int)) (↑((allV p c).length) : Int)) (cj (ap o.length 1 16) (cj (i6 ((i : Int) + 1)) (zM128 c2 (zM127 c2 (cj (pv (o.length + 1 = (o ++ [wkD p l c i]).length)) (cj (sM120 p l c o i h) (zM125 p (zM126 p l (cj (pv (o.length + 1 = (o ++ [wkD p l c i]).length)) (cj (rf ((i : Int) + 1)) trivial)))))))))))))))))))))))))))))) (by kernel_rfl)
theorem wkI_bd (l : List Int) (i : Nat) {D : List Dr} (h : ¬ D.length = 0) : 0 ≤ Int.tmod (bits .and .i64 (l.getD i 0) 65535) D.length ∧ Int.tmod (bits .and .i64 (l.getD i 0) 65535) D.length < D.length := by
  have h1 := Wd.bits_mask (l.getD i 0) 16 (by omega)
  have h2 : bits .and .i64 (l.getD i 0) 65535 = (l.getD i 0) % 65536 := h1
  have hb : 0 < (D.length : Int) := by omega
  have h0 : 0 ≤ bits .and .i64 (l.getD i 0) 65535 := by omega
  exact tmod_bd h0 hb
theorem wk_loop (p : Pg) (l : List Int) (hP : OkP p) (hw : p.win ≤ 1000) : ∀ j i c o, i + j = min l.length 60 → Inv p c → o.length ≤ i → OkL Try.prog (ntOf Try.prog 15) (lpC Try.prog 15 0) (wS p l c o i).st (.ext 0) (wJ (wkR p l j i c o)).st
  | 0, i, c, o, hj, _, _ => by
    by_cases h : i < l.length
    · exact OkL.exit (Ok.vc (wk_6 p l c o i h (by omega))) (by simp)
    · exact OkL.exit (Ok.vc (wk_e p l c o i h)) (by simp)
  | j + 1, i, c, o, hj, hI, ho => by
    have hM := hI.ok hP hw
    have hA := rallC p c hM.il hM.bl hM.ml hM.sm
    unfold wkR
    by_cases h0 : (allV p c).length = 0
    · rw [if_pos h0]; exact OkL.exit (Ok.vc (wk_0 p l c o i (by omega) (by omega) hA h0)) (by simp)
    rw [if_neg h0]
    obtain ⟨b0, b1⟩ := wkI_bd l i h0
    have hS := rsayC p c (wkD p l c i) hM
    cases e : sayO p c (wkD p l c i) with
    | none => rw [e] at hS; exact OkL.exit (Ok.vc (wk_n p l c o i (by omega) (by omega) hA h0 b0 b1 (by omega) hS)) (by simp)
    | some x =>
      obtain ⟨c2, ob⟩ := x
      rw [e] at hS
      have hr := wk_loop p l hP hw j (i + 1) c2 (o ++ [wkD p l c i]) (by omega) (hI.sayO hP hw e) (by rw [List.length_append, List.length_singleton]; omega)
      cases ob with
      | nil => exact OkL.step (Ok.vc (wk_s p l c o i (by omega) (by omega) hA h0 b0 b1 (by omega) c2 hS)) hr
      | cons y r => exact OkL.step (Ok.vc (wk_o p l c o i (by omega) (by omega) hA h0 b0 b1 (by omega) c2 y r hS)) hr
theorem walk_vc (p : Pg) (s : S8) (l : List Int) (x : Cf × List Dr) (h : Ok Try.prog (ntOf Try.prog 15) (.loop (lpC Try.prog 15 0)) (wS p l (beg s) [] 0).st (.ext 0) (wJ x).st) : Vc (vcFn Try.prog false 15 [.agg (pgA p), .agg (s8R s), lR l] [.fv, .fv, .cl [.agg (s8R s)] (.agg (cfA (beg s))) [], .lp [(0, 0), (1, 1)] (wS p l (beg s) [] 0) (.ext 0) (wJ x)] [] (.tup [.agg (cfA x.1), drR x.2]) []) := vc_by (zM120 s (cj (rbegC s) (zM120 s (cj (rf (0 : Nat)) (cj (rr 0 8 fun i j => rowL enC [] i j) (cj (rf (0 : Nat)) (cj (rr 0 1 fun i j => aI (List.getD [] i (0 : Int))) (cj (rf (0 : Int)) (cj (rf (0 : Nat)) (cj (rf p.W) (cj (rf p.win) (cj (rf p.fuel) (cj (rf p.r0) (cj (rf p.r1) (cj (rf p.r2) (cj (rf p.r3) (cj (rf p.ms.length) (cj (rr p.ms.length 3 fun i j => rowL mmC p.ms i j) (cj (rf p.ls.length) (cj (rr p.ls.length 2 fun i j => rowL lbC p.ls i j) (cj (rf p.is.length) (cj (rr p.is.length 9 fun i j => rowL inC p.is i j) (cj (rf l.length) (cj (rr l.length 1 fun i j => aI (l.getD i 0)) (cj (rf (0 : Nat)) (cj (rf (0 : Nat)) (cj (rf (0 : Int)) (cj h (cj (rf ((Prod.fst x).s.r0)) (cj (rf ((Prod.fst x).s.r1)) (cj (rf ((Prod.fst x).s.r2)) (cj (rf ((Prod.fst x).s.r3)) (cj (rf (((Prod.fst x).s.m).length)) (cj (rr (((Prod.fst x).s).m.length) 1 fun i j => aI (List.getD ((Prod.fst x).s).m i (0 : Int))) (cj (rf (((Prod.fst x).s.st).length)) (cj (rr (((Prod.fst x).s).st.length) 1 fun i j => aI (List.getD ((Prod.fst x).s).st i (0 : Int))) (cj (rf ((Prod.fst x).s.pc)) (cj (rf ((Prod.fst x).b.length)) (cj (rr ((Prod.fst x).b.length) 8 fun i j => rowL enC (Prod.fst x).b i j) (cj (rf ((Prod.fst x).r.length)) (cj (rr ((Prod.fst x).r.length) 1 fun i j => aI (List.getD (Prod.fst x).r i (0 : Int))) (cj (rf ((Prod.fst x).e)) (cj (rf ((Prod.snd x).length)) (cj (rr ((Prod.snd x).length) 2 fun i j => rowL drC (Prod.snd x) i j) trivial)))))))))))))))))))))))))))))))))))))))))))) (by kernel_rfl)
theorem wkR_inv {p : Pg} {l : List Int} (hP : OkP p) (hw : p.win ≤ 1000) : ∀ j i c o, Inv p c → Inv p (wkR p l j i c o).1
  | 0, i, c, o, h => h
  | j + 1, i, c, o, h => by
    unfold wkR
    split
    · exact h
    · cases e : sayO p c (wkD p l c i) with
      | none => exact h
      | some x => exact wkR_inv hP hw j (i + 1) x.1 _ (h.sayO hP hw (o := x.2) e)
theorem rwalkC (p : Pg) (s : S8) (l : List Int) (hP : OkP p) (hw : p.win ≤ 1000) (h : Inv p (beg s)) : PureC Try.prog 15 [.agg (pgA p), .agg (s8R s), lR l] (.tup [.agg (cfA (wkV p s l).1), drR (wkV p s l).2]) [] := PureC.vc (walk_vc p s l _ (wk_loop p l hP hw _ 0 (beg s) [] (by omega) h (Nat.le_refl _)).ok)
end
end Go.Proofs.Ytgcedepjlgfcjaa.Px
