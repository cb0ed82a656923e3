/- Merged: S8c, S8k, S8m, S8n, S8r, S8s, S8t, S8u, S8v, S8w, S8x, S8zf. -/
import Derived.Test.YtjdiabjmphdhiaaMiC
set_option linter.unusedVariables false
set_option linter.unusedSimpArgs false
set_option maxRecDepth 100000
namespace Go.Proofs.Ytjdiabjmphdhiaa.Px
section
open Go.RowKit Go.Proofs.Ytjdiabjmphdhiaa.Rx
def OkI (i : In) (len : Int) : Prop := (1 ≤ i.kind ∧ i.kind ≤ 12) ∧ okV i.a ∧ okV i.b ∧ (0 ≤ i.d ∧ i.d < 4) ∧ (0 ≤ i.tg ∧ i.tg ≤ len)
structure OkP (p : Pg) : Prop where
  ins : ∀ i ∈ p.is, OkI i p.is.length
  len : p.is.length < 1000
  ms : p.ms.length < 1000
  sum : sumN p.ms ≤ 16
structure OkS (c len : Int) (s : S8) : Prop where
  reg : okR s
  mem : ∀ x ∈ s.m, 0 ≤ x ∧ x < 65536
  c : c = s.m.length
  pc : -1 ≤ s.pc ∧ s.pc ≤ len
  st : s.st.length ≤ 100
  stk : ∀ x ∈ s.st, -1 ≤ x ∧ x ≤ len
/-- so many steps: the state, what was observed, how many were done, how it ended -/
structure R8 where
  s : S8
  o : List Ob
  k : Nat
  e : Int
def runD (p : Pg) (c : Int) (s : S8) : Nat → R8
  | 0 => ⟨s, [], 0, 0⟩
  | n + 1 => if (runD p c s n).e = 0 then ⟨(stepI p.W c p.is.length (atI p (runD p c s n).s.pc) (runD p c s n).s).1, (runD p c s n).o ++ (stepI p.W c p.is.length (atI p (runD p c s n).s.pc) (runD p c s n).s).2.1, (runD p c s n).k + 1, (stepI p.W c p.is.length (atI p (runD p c s n).s.pc) (runD p c s n).s).2.2⟩ else runD p c s n
theorem stepI_elim {Q : S8 × List Ob × Int → Prop} (W c len : Int) (i : In) (s : S8)
    (h1 : i.kind = 1 → Q ((s.set i.d (Wd.doV W i.op (vlV W s i.a) (vlV W s i.b))).go (s.pc + 1), [], 0))
    (h4a : i.kind = 4 → vlV W s i.a = 0 → Q (s.go (s.pc + 1), [], 0))
    (h4b : i.kind = 4 → ¬ vlV W s i.a = 0 → Q ((s.set i.d (vlV W s i.b)).go (s.pc + 1), [], 0))
    (h2a : i.kind = 2 → Wd.maskV W (vlV W s i.a + vlV W s i.b) < c → Q ((s.set i.d (s.m.getD (Wd.maskV W (vlV W s i.a + vlV W s i.b)).toNat 0)).go (s.pc + 1), [⟨1, Wd.maskV W (vlV W s i.a + vlV W s i.b)⟩], 0))
    (h2b : i.kind = 2 → ¬ Wd.maskV W (vlV W s i.a + vlV W s i.b) < c → Q (s, [], 2))
    (h3a : i.kind = 3 → Wd.maskV W (vlV W s i.a + vlV W s i.b) < c → Q ({ s with m := s.m.set (Wd.maskV W (vlV W s i.a + vlV W s i.b)).toNat (s.reg i.d), pc := s.pc + 1 }, [⟨2, Wd.maskV W (vlV W s i.a + vlV W s i.b)⟩], 0))
    (h3b : i.kind = 3 → ¬ Wd.maskV W (vlV W s i.a + vlV W s i.b) < c → Q (s, [], 2))
    (h5a : i.kind = 5 → Wd.doV W i.op (vlV W s i.a) (vlV W s i.b) = 0 → Q (s.go (s.pc + 1), [⟨3, s.pc + 1⟩], 0))
    (h5b : i.kind = 5 → ¬ Wd.doV W i.op (vlV W s i.a) (vlV W s i.b) = 0 → Q (s.go i.tg, [⟨3, i.tg⟩], 0))
    (h6 : i.kind = 6 → Q (s.go i.tg, [], 0))
    (h7 : i.kind = 7 → Q (s.go (if len < vlV W s i.a then len else vlV W s i.a), [⟨3, if len < vlV W s i.a then len else vlV W s i.a⟩], 0))
    (h8a : i.kind = 8 → 4 ≤ s.st.length → Q (s, [], 2))
    (h8b : i.kind = 8 → ¬ 4 ≤ s.st.length → Q ({ s with st := s.st ++ [s.pc + 1], pc := i.tg }, [], 0))
    (h9a : i.kind = 9 → s.st.length = 0 → Q (s, [], 2))
    (h9b : i.kind = 9 → ¬ s.st.length = 0 → Q ({ s with st := s.st.take (s.st.length - 1), pc := s.st.getD (s.st.length - 1) 0 }, [⟨3, s.st.getD (s.st.length - 1) 0⟩], 0))
    (h10 : i.kind = 10 → Q (s.go (s.pc + 1), [], 0))
    (h11 : i.kind = 11 → Q (s, [], 1))
    (h0 : (i.kind ≠ 1 ∧ i.kind ≠ 4 ∧ i.kind ≠ 2 ∧ i.kind ≠ 3 ∧ i.kind ≠ 5 ∧ i.kind ≠ 6 ∧ i.kind ≠ 7 ∧ i.kind ≠ 8 ∧ i.kind ≠ 9 ∧ i.kind ≠ 10 ∧ i.kind ≠ 11) → Q (s, [], 2)) : Q (stepI W c len i s) := by
  unfold stepI
  by_cases k1 : i.kind = 1
  · rw [if_pos k1]; exact h1 k1
  rw [if_neg k1]
  by_cases k4 : i.kind = 4
  · rw [if_pos k4]
    by_cases q : vlV W s i.a = 0
    · rw [if_pos q]; exact h4a k4 q
    · rw [if_neg q]; exact h4b k4 q
  rw [if_neg k4]
  by_cases k2 : i.kind = 2
  · rw [if_pos k2]
    by_cases q : Wd.maskV W (vlV W s i.a + vlV W s i.b) < c
    · rw [if_pos q]; exact h2a k2 q
    · rw [if_neg q]; exact h2b k2 q
  rw [if_neg k2]
  by_cases k3 : i.kind = 3
  · rw [if_pos k3]
    by_cases q : Wd.maskV W (vlV W s i.a + vlV W s i.b) < c
    · rw [if_pos q]; exact h3a k3 q
    · rw [if_neg q]; exact h3b k3 q
  rw [if_neg k3]
  by_cases k5 : i.kind = 5
  · rw [if_pos k5]
    by_cases q : Wd.doV W i.op (vlV W s i.a) (vlV W s i.b) = 0
    · rw [if_pos q]; exact h5a k5 q
    · rw [if_neg q]; exact h5b k5 q
  rw [if_neg k5]
  by_cases k6 : i.kind = 6
  · rw [if_pos k6]; exact h6 k6
  rw [if_neg k6]
  by_cases k7 : i.kind = 7
  · rw [if_pos k7]; exact h7 k7
  rw [if_neg k7]
  by_cases k8 : i.kind = 8
  · rw [if_pos k8]
    by_cases q : 4 ≤ s.st.length
    · rw [if_pos q]; exact h8a k8 q
    · rw [if_neg q]; exact h8b k8 q
  rw [if_neg k8]
  by_cases k9 : i.kind = 9
  · rw [if_pos k9]
    by_cases q : s.st.length = 0
    · rw [if_pos q]; exact h9a k9 q
    · rw [if_neg q]; exact h9b k9 q
  rw [if_neg k9]
  by_cases k10 : i.kind = 10
  · rw [if_pos k10]; exact h10 k10
  rw [if_neg k10]
  by_cases k11 : i.kind = 11
  · rw [if_pos k11]; exact h11 k11
  rw [if_neg k11]
  exact h0 ⟨k1, k4, k2, k3, k5, k6, k7, k8, k9, k10, k11⟩
theorem okV0 : okV ⟨false, 0⟩ := fun h => by cases h
theorem atI_ok {p : Pg} (h : OkP p) (pc : Int) : OkI (atI p pc) p.is.length ∧ ((atI p pc).kind ≠ 12 → 0 ≤ pc ∧ pc < p.is.length) := by
  by_cases hp : 0 ≤ pc ∧ pc < p.is.length
  · refine ⟨?_, fun _ => hp⟩
    rw [atI_in hp.1 hp.2]
    refine h.ins _ ?_
    have hlt : pc.toNat < p.is.length := by omega
    rw [List.getD_eq_getElem?_getD, List.getElem?_eq_getElem hlt]
    exact List.getElem_mem hlt
  · rw [atI_out hp]
    exact ⟨⟨⟨by decide, by decide⟩, okV0, okV0, ⟨by decide, by decide⟩, by decide, by show (0 : Int) ≤ _; omega⟩, fun hk => absurd rfl hk⟩
theorem set_ok {s : S8} (h : okR s) (n : Int) {v : Int} (hv : 0 ≤ v ∧ v < 65536) : okR (s.set n v) := by
  obtain ⟨h0, h1, h2, h3⟩ := h
  refine ⟨?_, ?_, ?_, ?_⟩ <;> (simp only [S8.set]; split <;> assumption)
theorem doV_bd (W op a b : Int) : 0 ≤ Wd.doV W op a b ∧ Wd.doV W op a b < 65536 := Wd.maskV_bd _ _
theorem mem_bd {m : List Int} (h : ∀ x ∈ m, 0 ≤ x ∧ x < 65536) (n : Nat) : 0 ≤ m.getD n 0 ∧ m.getD n 0 < 65536 := by
  rw [List.getD_eq_getElem?_getD]
  cases hq : m[n]? with
  | none => simp
  | some x => exact h x (List.mem_of_getElem? hq)
theorem stk_bd {l : List Int} {len : Int} (h : ∀ x ∈ l, -1 ≤ x ∧ x ≤ len) {n : Nat} (hn : n < l.length) : -1 ≤ l.getD n 0 ∧ l.getD n 0 ≤ len := by
  rw [List.getD_eq_getElem?_getD, List.getElem?_eq_getElem hn]
  exact h _ (List.getElem_mem hn)
theorem OkS.go {c len : Int} {s : S8} (h : OkS c len s) {pc : Int} (hp : -1 ≤ pc ∧ pc ≤ len) : OkS c len (s.go pc) := ⟨h.reg, h.mem, h.c, hp, h.st, h.stk⟩
theorem OkS.set {c len : Int} {s : S8} (h : OkS c len s) (n : Int) {v : Int} (hv : 0 ≤ v ∧ v < 65536) : OkS c len (s.set n v) := ⟨set_ok h.reg n hv, h.mem, h.c, h.pc, h.st, h.stk⟩
theorem stepI_ok {W c len : Int} {i : In} {s : S8} (hi : OkI i len) (hs : OkS c len s) (hl : 0 ≤ len) (hpc : i.kind ≠ 12 → 0 ≤ s.pc ∧ s.pc < len) : OkS c len (stepI W c len i s).1 := by
  obtain ⟨hk, ha, hb, hd, ht⟩ := hi
  have va := vlV_bd (W := W) hs.reg i.a
  have vb := vlV_bd (W := W) hs.reg i.b
  have nx : i.kind ≠ 12 → -1 ≤ s.pc + 1 ∧ s.pc + 1 ≤ len := fun h => by have := hpc h; omega
  have tg : -1 ≤ i.tg ∧ i.tg ≤ len := by omega
  exact stepI_elim (Q := fun r => OkS c len r.1) W c len i s
    (fun k => (hs.set _ (doV_bd _ _ _ _)).go (nx (by omega)))
    (fun k _ => hs.go (nx (by omega)))
    (fun k _ => (hs.set _ vb).go (nx (by omega)))
    (fun k _ => (hs.set _ (mem_bd hs.mem _)).go (nx (by omega)))
    (fun _ _ => hs)
    (fun k _ => ⟨hs.reg, fun x hx => by
      rcases List.mem_or_eq_of_mem_set hx with h | rfl
      · exact hs.mem x h
      · exact S8.reg_bd hs.reg _, by rw [List.length_set]; exact hs.c, nx (by omega), hs.st, hs.stk⟩)
    (fun _ _ => hs)
    (fun k _ => hs.go (nx (by omega)))
    (fun _ _ => hs.go tg)
    (fun _ => hs.go tg)
    (fun k => hs.go (by split <;> omega))
    (fun _ _ => hs)
    (fun k h4 => ⟨hs.reg, hs.mem, hs.c, tg, by simp only [List.length_append, List.length_singleton]; omega, fun x hx => by
      rcases List.mem_append.1 hx with h | h
      · exact hs.stk x h
      · rw [List.mem_singleton.1 h]; exact nx (by omega)⟩)
    (fun _ _ => hs)
    (fun _ h0 => ⟨hs.reg, hs.mem, hs.c, stk_bd hs.stk (n := s.st.length - 1) (by omega), by simp only [List.length_take]; have := hs.st; omega, fun x hx => hs.stk x (List.mem_of_mem_take hx)⟩)
    (fun k => hs.go (nx (by omega)))
    (fun _ => hs)
    (fun _ => hs)
theorem runD_ok {p : Pg} {c : Int} {s : S8} (hp : OkP p) (hs : OkS c p.is.length s) : ∀ n, OkS c p.is.length (runD p c s n).s
  | 0 => hs
  | n + 1 => by
    unfold runD
    split
    · exact stepI_ok (atI_ok hp _).1 (runD_ok hp hs n) (by omega) (atI_ok hp _).2
    · exact runD_ok hp hs n
theorem stepI_obs (W c len : Int) (i : In) (s : S8) : (stepI W c len i s).2.1.length ≤ 1 :=
  stepI_elim (Q := fun r => r.2.1.length ≤ 1) W c len i s (fun _ => by simp) (fun _ _ => by simp) (fun _ _ => by simp) (fun _ _ => by simp) (fun _ _ => by simp) (fun _ _ => by simp) (fun _ _ => by simp) (fun _ _ => by simp) (fun _ _ => by simp) (fun _ => by simp) (fun _ => by simp) (fun _ _ => by simp) (fun _ _ => by simp) (fun _ _ => by simp) (fun _ _ => by simp) (fun _ => by simp) (fun _ => by simp) (fun _ => by simp)
theorem runD_obs (p : Pg) (c : Int) (s : S8) : ∀ n, (runD p c s n).o.length ≤ n
  | 0 => Nat.le_refl _
  | n + 1 => by
    unfold runD
    have h1 := runD_obs p c s n
    split
    · have h2 := stepI_obs p.W c p.is.length (atI p (runD p c s n).s.pc) (runD p c s n).s
      simp only [List.length_append]; omega
    · omega
theorem runD_k (p : Pg) (c : Int) (s : S8) : ∀ n, (runD p c s n).k ≤ n ∧ ((runD p c s n).e = 0 → (runD p c s n).k = n) ∧ ∀ j, j ≤ (runD p c s n).k → (runD p c s j).k = j ∧ (j < (runD p c s n).k → (runD p c s j).e = 0) ∧ (j = (runD p c s n).k → runD p c s j = runD p c s n)
  | 0 => ⟨Nat.le_refl _, fun _ => rfl, fun j hj => by
      have : j ≤ 0 := hj
      obtain rfl : j = 0 := by omega
      exact ⟨rfl, fun h => absurd h (by simp [runD]), fun _ => rfl⟩⟩
  | n + 1 => by
    obtain ⟨h1, h2, h3⟩ := runD_k p c s n
    by_cases he : (runD p c s n).e = 0
    · have e1 := h2 he
      have e2 : (runD p c s (n + 1)).k = n + 1 := by rw [runD, if_pos he]; simp [e1]
      refine ⟨by omega, fun _ => e2, fun j hj => ?_⟩
      by_cases hj2 : j = n + 1
      · subst hj2
        exact ⟨e2, fun h => by omega, fun _ => rfl⟩
      · obtain ⟨k1, k2, k3⟩ := h3 j (by omega)
        refine ⟨k1, fun _ => ?_, fun h => by omega⟩
        by_cases hj3 : j = n
        · rw [hj3]; exact he
        · exact k2 (by omega)
    · have e2 : runD p c s (n + 1) = runD p c s n := by rw [runD, if_neg he]
      rw [e2]
      exact ⟨by omega, fun h => absurd h he, h3⟩
theorem round8 (p : Pg) (c : Int) (s : S8) (sn : List Ob) (n done : Int) (hP : OkP p) (hs : OkS c p.is.length s) (hl : sn.length < 1000000) (hn : done < n) (hn2 : n < 1000000) (hd0 : 0 ≤ done) : Ok Try.prog (ntOf Try.prog 19) (lpC Try.prog 19 0) (runS p c s sn n done 0).st .nrm (runS p c (stepI p.W c p.is.length (atI p s.pc) s).1 (sn ++ (stepI p.W c p.is.length (atI p s.pc) s).2.1) n (done + 1) (stepI p.W c p.is.length (atI p s.pc) s).2.2).st := by
  obtain ⟨hi, hpc⟩ := atI_ok hP s.pc
  have hA := atC p s.pc
  generalize atI p s.pc = i at hi hpc hA
  obtain ⟨k, op, d, a, b, nm, tg⟩ := i
  obtain ⟨hk, ha, hb, hd, ht⟩ := hi
  simp only at hk ha hb hd ht hpc
  have hp := hs.pc
  have hlen := hP.len
  have hp1 : s.pc < 1000000 := by omega
  have hst := hs.st
  rcases (by omega : k = 1 ∨ k = 2 ∨ k = 3 ∨ k = 4 ∨ k = 5 ∨ k = 6 ∨ k = 7 ∨ k = 8 ∨ k = 9 ∨ k = 10 ∨ k = 11 ∨ k = 12) with rfl | rfl | rfl | rfl | rfl | rfl | rfl | rfl | rfl | rfl | rfl | rfl
  · have e : stepI p.W c p.is.length ⟨1, op, d, a, b, nm, tg⟩ s = ((s.set d (Wd.doV p.W op (vlV p.W s a) (vlV p.W s b))).go (s.pc + 1), [], 0) := by simp [stepI]
    rw [e, List.append_nil]
    exact Ok.vc (st_alu p c s sn n done op d tg a b nm hn hn2 hd0 hp.1 hp1 hA hd.1 hd.2 ha hb)
  · by_cases hx : Wd.maskV p.W (vlV p.W s a + vlV p.W s b) < c
    · have e : stepI p.W c p.is.length ⟨2, op, d, a, b, nm, tg⟩ s = ((s.set d (s.m.getD (Wd.maskV p.W (vlV p.W s a + vlV p.W s b)).toNat 0)).go (s.pc + 1), [⟨1, Wd.maskV p.W (vlV p.W s a + vlV p.W s b)⟩], 0) := by simp [stepI, hx]
      rw [e]
      exact Ok.vc (st_load1 p c s sn n done op d tg a b nm hn hn2 hd0 hp.1 hp1 hA ha hb hs.c hs.reg hd.1 hd.2 hx hl)
    · have e : stepI p.W c p.is.length ⟨2, op, d, a, b, nm, tg⟩ s = (s, [], 2) := by simp [stepI, hx]
      rw [e, List.append_nil]
      exact Ok.vc (st_load0 p c s sn n done op d tg a b nm hn hn2 hd0 hp.1 hp1 hA ha hb hs.c hs.reg hx)
  · by_cases hx : Wd.maskV p.W (vlV p.W s a + vlV p.W s b) < c
    · have e : stepI p.W c p.is.length ⟨3, op, d, a, b, nm, tg⟩ s = ({ s with m := s.m.set (Wd.maskV p.W (vlV p.W s a + vlV p.W s b)).toNat (s.reg d), pc := s.pc + 1 }, [⟨2, Wd.maskV p.W (vlV p.W s a + vlV p.W s b)⟩], 0) := by simp [stepI, hx]
      rw [e]
      exact Ok.vc (st_store1 p c s sn n done op d tg a b nm hn hn2 hd0 hp.1 hp1 hA ha hb hs.c hs.reg hd.1 hd.2 hx hl)
    · have e : stepI p.W c p.is.length ⟨3, op, d, a, b, nm, tg⟩ s = (s, [], 2) := by simp [stepI, hx]
      rw [e, List.append_nil]
      exact Ok.vc (st_store0 p c s sn n done op d tg a b nm hn hn2 hd0 hp.1 hp1 hA ha hb hs.c hs.reg hx)
  · by_cases hz : vlV p.W s a = 0
    · have e : stepI p.W c p.is.length ⟨4, op, d, a, b, nm, tg⟩ s = (s.go (s.pc + 1), [], 0) := by simp [stepI, hz]
      rw [e, List.append_nil]
      exact Ok.vc (st_cmov0 p c s sn n done op d tg a b nm hn hn2 hd0 hp.1 hp1 hA ha hz)
    · have e : stepI p.W c p.is.length ⟨4, op, d, a, b, nm, tg⟩ s = ((s.set d (vlV p.W s b)).go (s.pc + 1), [], 0) := by simp [stepI, hz]
      rw [e, List.append_nil]
      exact Ok.vc (st_cmov1 p c s sn n done op d tg a b nm hn hn2 hd0 hp.1 hp1 hA ha hb hz hd.1 hd.2)
  · by_cases hz : Wd.doV p.W op (vlV p.W s a) (vlV p.W s b) = 0
    · have e : stepI p.W c p.is.length ⟨5, op, d, a, b, nm, tg⟩ s = (s.go (s.pc + 1), [⟨3, s.pc + 1⟩], 0) := by simp [stepI, hz]
      rw [e]
      exact Ok.vc (st_br0 p c s sn n done op d tg a b nm hn hn2 hd0 hp.1 hp1 hA ha hb hz hl)
    · have e : stepI p.W c p.is.length ⟨5, op, d, a, b, nm, tg⟩ s = (s.go tg, [⟨3, tg⟩], 0) := by simp [stepI, hz]
      rw [e]
      exact Ok.vc (st_br1 p c s sn n done op d tg a b nm hn hn2 hd0 hp.1 hp1 hA ha hb hz hl)
  · have e : stepI p.W c p.is.length ⟨6, op, d, a, b, nm, tg⟩ s = (s.go tg, [], 0) := by simp [stepI]
    rw [e, List.append_nil]
    exact Ok.vc (st_jmp p c s sn n done op d tg a b nm hn hn2 hd0 hp.1 hp1 hA)
  · have e : stepI p.W c p.is.length ⟨7, op, d, a, b, nm, tg⟩ s = (s.go (if (p.is.length : Int) < vlV p.W s a then (p.is.length : Int) else vlV p.W s a), [⟨3, if (p.is.length : Int) < vlV p.W s a then (p.is.length : Int) else vlV p.W s a⟩], 0) := by simp [stepI]
    rw [e]
    exact Ok.vc (st_ind p c s sn n done op d tg a b nm hn hn2 hd0 hp.1 hp1 hA ha hl)
  · by_cases hk : 4 ≤ s.st.length
    · have e : stepI p.W c p.is.length ⟨8, op, d, a, b, nm, tg⟩ s = (s, [], 2) := by simp [stepI, hk]
      rw [e, List.append_nil]
      exact Ok.vc (st_call0 p c s sn n done op d tg a b nm hn hn2 hd0 hp.1 hp1 hA hk (by omega))
    · have e : stepI p.W c p.is.length ⟨8, op, d, a, b, nm, tg⟩ s = ({ s with st := s.st ++ [s.pc + 1], pc := tg }, [], 0) := by simp [stepI, hk]
      rw [e, List.append_nil]
      exact Ok.vc (st_call1 p c s sn n done op d tg a b nm hn hn2 hd0 hp.1 hp1 hA hk)
  · by_cases hk : s.st.length = 0
    · have e : stepI p.W c p.is.length ⟨9, op, d, a, b, nm, tg⟩ s = (s, [], 2) := by simp [stepI, hk]
      rw [e, List.append_nil]
      exact Ok.vc (st_ret0 p c s sn n done op d tg a b nm hn hn2 hd0 hp.1 hp1 hA hk)
    · have e : stepI p.W c p.is.length ⟨9, op, d, a, b, nm, tg⟩ s = ({ s with st := s.st.take (s.st.length - 1), pc := s.st.getD (s.st.length - 1) 0 }, [⟨3, s.st.getD (s.st.length - 1) 0⟩], 0) := by simp [stepI, hk]
      rw [e]
      exact Ok.shr (Ok.vc (st_ret1a p c s sn n done op d tg a b nm hn hn2 hd0 hp.1 hp1 hA hk (by omega) hl)) (st_ret1b p c s sn n done hk)
  · have e : stepI p.W c p.is.length ⟨10, op, d, a, b, nm, tg⟩ s = (s.go (s.pc + 1), [], 0) := by simp [stepI]
    rw [e, List.append_nil]
    exact Ok.vc (st_fence p c s sn n done op d tg a b nm hn hn2 hd0 hp.1 hp1 hA)
  · have e : stepI p.W c p.is.length ⟨11, op, d, a, b, nm, tg⟩ s = (s, [], 1) := by simp [stepI]
    rw [e, List.append_nil]
    exact Ok.vc (st_halt p c s sn n done op d tg a b nm hn hn2 hd0 hp.1 hp1 hA)
  · have e : stepI p.W c p.is.length ⟨12, op, d, a, b, nm, tg⟩ s = (s, [], 2) := by simp [stepI]
    rw [e, List.append_nil]
    exact Ok.vc (st_fault p c s sn n done op d tg a b nm hn hn2 hd0 hp.1 hp1 hA)
theorem stepI_e (W c len : Int) (i : In) (s : S8) : (stepI W c len i s).2.2 = 0 ∨ (stepI W c len i s).2.2 = 1 ∨ (stepI W c len i s).2.2 = 2 :=
  stepI_elim (Q := fun r => r.2.2 = 0 ∨ r.2.2 = 1 ∨ r.2.2 = 2) W c len i s (fun _ => by simp) (fun _ _ => by simp) (fun _ _ => by simp) (fun _ _ => by simp) (fun _ _ => by simp) (fun _ _ => by simp) (fun _ _ => by simp) (fun _ _ => by simp) (fun _ _ => by simp) (fun _ => by simp) (fun _ => by simp) (fun _ _ => by simp) (fun _ _ => by simp) (fun _ _ => by simp) (fun _ _ => by simp) (fun _ => by simp) (fun _ => by simp) (fun _ => by simp)
theorem runD_e (p : Pg) (c : Int) (s : S8) : ∀ n, (runD p c s n).e = 0 ∨ (runD p c s n).e = 1 ∨ (runD p c s n).e = 2
  | 0 => .inl rfl
  | n + 1 => by
    unfold runD
    split
    · exact stepI_e _ _ _ _ _
    · exact runD_e p c s n
def frS8c0 (s : S8) (sn : List Ob) (Z : Prop) : Prop := (S8.pc s = S8.pc s) ∧ ((0 : Nat) = (0 : Nat)) ∧ (List.length sn = List.length sn) ∧ (List.length (S8.m s) = List.length (S8.m s)) ∧ (∀ (i : Nat), i < List.length (S8.m s) → ∀ (j : Nat), j < (1 : Nat) → AV.int IntKind.i64 (List.getD (S8.m s) i (0 : Int)) = AV.int IntKind.i64 (List.getD (S8.m s) i (0 : Int))) ∧ (List.length (S8.st s) = List.length (S8.st s)) ∧ (∀ (i : Nat), i < List.length (S8.st s) → ∀ (j : Nat), j < (1 : Nat) → AV.int IntKind.i64 (List.getD (S8.st s) i (0 : Int)) = AV.int IntKind.i64 (List.getD (S8.st s) i (0 : Int))) ∧ (List.length sn = List.length sn) ∧ (∀ (i : Nat), i < List.length sn → ∀ (j : Nat), j < (2 : Nat) → rowL obC sn i j = rowL obC sn i j) ∧ Z
theorem frS8c0_mk (s : S8) (sn : List Ob) {Z : Prop} (z : Z) : frS8c0 s sn Z := ⟨rfl, rfl, rfl, rfl, (fun _ _ _ _ => rfl), rfl, (fun _ _ _ _ => rfl), rfl, (fun _ _ _ _ => rfl), z⟩
def frS8c1 (c : Int) (s : S8) (Z : Prop) : Prop := (c = c) ∧ (S8.r0 s = S8.r0 s) ∧ (S8.r1 s = S8.r1 s) ∧ (S8.r2 s = S8.r2 s) ∧ (S8.r3 s = S8.r3 s) ∧ ((0 : Nat) = (0 : Nat)) ∧ (List.length (S8.m s) = List.length (S8.m s)) ∧ ((0 : Nat) = (0 : Nat)) ∧ (List.length (S8.st s) = List.length (S8.st s)) ∧ Z
theorem frS8c1_mk (c : Int) (s : S8) {Z : Prop} (z : Z) : frS8c1 c s Z := ⟨rfl, rfl, rfl, rfl, rfl, rfl, rfl, rfl, rfl, z⟩
def frS8c2 (p : Pg) (Z : Prop) : Prop := (Pg.r1 p = Pg.r1 p) ∧ (Pg.r2 p = Pg.r2 p) ∧ (Pg.r3 p = Pg.r3 p) ∧ (List.length (Pg.ms p) = List.length (Pg.ms p)) ∧ (∀ (i : Nat), i < List.length (Pg.ms p) → ∀ (j : Nat), j < (3 : Nat) → rowL mmC (Pg.ms p) i j = rowL mmC (Pg.ms p) i j) ∧ (List.length (Pg.ls p) = List.length (Pg.ls p)) ∧ (∀ (i : Nat), i < List.length (Pg.ls p) → ∀ (j : Nat), j < (2 : Nat) → rowL lbC (Pg.ls p) i j = rowL lbC (Pg.ls p) i j) ∧ (List.length (Pg.is p) = List.length (Pg.is p)) ∧ (∀ (i : Nat), i < List.length (Pg.is p) → ∀ (j : Nat), j < (9 : Nat) → rowL inC (Pg.is p) i j = rowL inC (Pg.is p) i j) ∧ Z
theorem frS8c2_mk (p : Pg) {Z : Prop} (z : Z) : frS8c2 p Z := ⟨rfl, rfl, rfl, rfl, (fun _ _ _ _ => rfl), rfl, (fun _ _ _ _ => rfl), rfl, (fun _ _ _ _ => rfl), z⟩
def frS8c3 (p : Pg) (Z : Prop) : Prop := ((0 : Int) = (0 : Int)) ∧ ((0 : Int) = (0 : Int)) ∧ ((0 : Int) = (0 : Int)) ∧ ((0 : Int) = (0 : Int)) ∧ ((0 : Int) = (0 : Int)) ∧ (Pg.W p = Pg.W p) ∧ (Pg.win p = Pg.win p) ∧ (Pg.fuel p = Pg.fuel p) ∧ (Pg.r0 p = Pg.r0 p) ∧ Z
theorem frS8c3_mk (p : Pg) {Z : Prop} (z : Z) : frS8c3 p Z := ⟨rfl, rfl, rfl, rfl, rfl, rfl, rfl, rfl, rfl, z⟩
theorem rn_end0 (p : Pg) (c : Int) (s : S8) (sn : List Ob) (n done : Int) (hn : ¬ done < n) (e : Int) : Vc (vcC Try.prog false (ntOf Try.prog 19) (lpC Try.prog 19 0) (runS p c s sn n done e) [.b false, .b false, .b false] (.ext 0) [(0, 0), (1, 1), (2, 2), (3, 3), (4, 4)] (runS p c s sn n done e)) :=
  vc_of (q := (decide (done < n) = false) ∧ (decide (done < n) = false) ∧ (decide (done < n) = false) ∧ (frS8c3 p ((frS8c2 p ((frS8c1 c s ((frS8c0 s sn ((n = n) ∧ (done = done) ∧ (e = e) ∧ True))))))))) (by kernel_rfl)
    ⟨(decide_eq_false (by first | omega | (simp; omega) | (simp; done))),
 (decide_eq_false (by first | omega | (simp; omega) | (simp; done))),
 (decide_eq_false (by first | omega | (simp; omega) | (simp; done))), (frS8c3_mk p (frS8c2_mk p (frS8c1_mk c s (frS8c0_mk s sn ⟨rfl,
 rfl,
 rfl, trivial⟩))))⟩
theorem rn_end1 (p : Pg) (c : Int) (s : S8) (sn : List Ob) (n done : Int) (hn : done < n) : Vc (vcC Try.prog false (ntOf Try.prog 19) (lpC Try.prog 19 0) (runS p c s sn n done 1) [.b true, .b true, .b true] (.ext 0) [(0, 0), (1, 1), (2, 2), (3, 3), (4, 4)] (runS p c s sn n done 1)) :=
  vc_of (q := (decide (done < n) = true) ∧ (decide (done < n) = true) ∧ (decide (done < n) = true) ∧ (frS8c3 p ((frS8c2 p ((frS8c1 c s ((frS8c0 s sn ((n = n) ∧ (done = done) ∧ ((1 : Int) = (1 : Int)) ∧ True))))))))) (by kernel_rfl)
    ⟨(decide_eq_true (by first | omega | (simp; omega) | (simp; done))),
 (decide_eq_true (by first | omega | (simp; omega) | (simp; done))),
 (decide_eq_true (by first | omega | (simp; omega) | (simp; done))), (frS8c3_mk p (frS8c2_mk p (frS8c1_mk c s (frS8c0_mk s sn ⟨rfl,
 rfl,
 rfl, trivial⟩))))⟩
theorem rn_end2 (p : Pg) (c : Int) (s : S8) (sn : List Ob) (n done : Int) (hn : done < n) : Vc (vcC Try.prog false (ntOf Try.prog 19) (lpC Try.prog 19 0) (runS p c s sn n done 2) [.b true, .b true, .b true] (.ext 0) [(0, 0), (1, 1), (2, 2), (3, 3), (4, 4)] (runS p c s sn n done 2)) :=
  vc_of (q := (decide (done < n) = true) ∧ (decide (done < n) = true) ∧ (decide (done < n) = true) ∧ (frS8c3 p ((frS8c2 p ((frS8c1 c s ((frS8c0 s sn ((n = n) ∧ (done = done) ∧ ((2 : Int) = (2 : Int)) ∧ True))))))))) (by kernel_rfl)
    ⟨(decide_eq_true (by first | omega | (simp; omega) | (simp; done))),
 (decide_eq_true (by first | omega | (simp; omega) | (simp; done))),
 (decide_eq_true (by first | omega | (simp; omega) | (simp; done))), (frS8c3_mk p (frS8c2_mk p (frS8c1_mk c s (frS8c0_mk s sn ⟨rfl,
 rfl,
 rfl, trivial⟩))))⟩
theorem run_loop (p : Pg) (c : Int) (s : S8) (n : Int) (hP : OkP p) (hs : OkS c p.is.length s) (hn2 : n < 1000000) : Ok Try.prog (ntOf Try.prog 19) (.loop (lpC Try.prog 19 0)) (runS p c s [] n 0 0).st (.ext 0) (runS p c (runD p c s n.toNat).s (runD p c s n.toNat).o n (runD p c s n.toNat).k (runD p c s n.toNat).e).st :=
  Ok.loop (P := Try.prog) (nt := ntOf Try.prog 19) (c := lpC Try.prog 19 0) (F := fun k => runS p c (runD p c s k).s (runD p c s k).o n (runD p c s k).k (runD p c s k).e) (m := (runD p c s n.toNat).k) (x := .ext 0) (J := runS p c (runD p c s n.toNat).s (runD p c s n.toNat).o n (runD p c s n.toNat).k (runD p c s n.toNat).e) (fun k hk => by
    obtain ⟨h1, h2, h3⟩ := runD_k p c s n.toNat
    obtain ⟨k1, k2, _⟩ := h3 k (by omega)
    have he := k2 hk
    have e1 : runD p c s (k + 1) = ⟨(stepI p.W c p.is.length (atI p (runD p c s k).s.pc) (runD p c s k).s).1, (runD p c s k).o ++ (stepI p.W c p.is.length (atI p (runD p c s k).s.pc) (runD p c s k).s).2.1, (runD p c s k).k + 1, (stepI p.W c p.is.length (atI p (runD p c s k).s.pc) (runD p c s k).s).2.2⟩ := by rw [runD, if_pos he]
    have ho := runD_obs p c s k
    show Ok _ _ _ (runS p c _ _ n ((runD p c s k).k : Int) (runD p c s k).e).st _ (runS p c (runD p c s (k + 1)).s (runD p c s (k + 1)).o n ((runD p c s (k + 1)).k : Int) (runD p c s (k + 1)).e).st
    rw [e1, he]
    exact round8 p c _ _ n _ hP (runD_ok hP hs k) (by omega) (by omega) (by omega) (by omega)) (by
    obtain ⟨h1, h2, h3⟩ := runD_k p c s n.toNat
    obtain ⟨k1, k2, k3⟩ := h3 (runD p c s n.toNat).k (Nat.le_refl _)
    show Ok _ _ _ (runS p c (runD p c s (runD p c s n.toNat).k).s (runD p c s (runD p c s n.toNat).k).o n ((runD p c s (runD p c s n.toNat).k).k : Int) (runD p c s (runD p c s n.toNat).k).e).st _ _
    rw [k3 rfl]
    by_cases hd : (runD p c s n.toNat).k < n.toNat
    · have he : (runD p c s n.toNat).e ≠ 0 := fun h => by have := h2 h; omega
      rcases runD_e p c s n.toNat with h | h | h
      · exact absurd h he
      · rw [h]; exact Ok.vc (rn_end1 p c _ _ n _ (by omega))
      · rw [h]; exact Ok.vc (rn_end2 p c _ _ n _ (by omega))
    · exact Ok.vc (rn_end0 p c _ _ n _ (by omega) _)) (by simp)
theorem run_vc (p : Pg) (s : S8) (n : Int) (hP : OkP p) (hs : OkS ((sumN p.ms : Nat) : Int) p.is.length s) (hn2 : n < 1000000) : Vc (vcFn Try.prog false 19 [.agg (pgA p), .agg (s8A s (.row 1 s.m.length (rowI s.m)) (.row 1 s.st.length (rowI s.st))), .int .i64 n] [.fz, .cl [.row 1 s.m.length (rowI s.m)] (.own 0 0 1 0 s.m.length) [blkI s.m], .cl [.row 1 s.st.length (rowI s.st)] (.own 0 0 1 0 s.st.length) [blkI s.st], .cl [.agg (progL p.W p.r0 p.r1 p.r2 p.r3 (memR p.ms))] (.int .i64 (sumN p.ms)) [], .lp [(0, 2), (1, 5), (2, 3), (3, 4)] (runS p ((sumN p.ms : Nat) : Int) s [] n 0 0) (.ext 0) (runS p ((sumN p.ms : Nat) : Int) (runD p ((sumN p.ms : Nat) : Int) s n.toNat).s (runD p ((sumN p.ms : Nat) : Int) s n.toNat).o n (runD p ((sumN p.ms : Nat) : Int) s n.toNat).k (runD p ((sumN p.ms : Nat) : Int) s n.toNat).e), .ll [1]] [(0, 2), (1, 3), (2, 4)] (.tup [.agg (s8A (runD p ((sumN p.ms : Nat) : Int) s n.toNat).s (.own 0 0 1 0 (runD p ((sumN p.ms : Nat) : Int) s n.toNat).s.m.length) (.own 1 0 1 0 (runD p ((sumN p.ms : Nat) : Int) s n.toNat).s.st.length)), .own 2 0 2 0 (runD p ((sumN p.ms : Nat) : Int) s n.toNat).o.length, .int .i64 (runD p ((sumN p.ms : Nat) : Int) s n.toNat).k, .int .i64 (runD p ((sumN p.ms : Nat) : Int) s n.toNat).e]) [blkI (runD p ((sumN p.ms : Nat) : Int) s n.toNat).s.m, blkI (runD p ((sumN p.ms : Nat) : Int) s n.toNat).s.st, obB (runD p ((sumN p.ms : Nat) : Int) s n.toNat).o]) :=
  vc_of (q := (List.length (S8.m s) = List.length (S8.m s)) ∧ (∀ (i : Nat), i < List.length (S8.m s) → ∀ (j : Nat), j < (1 : Nat) → AV.int IntKind.i64 (List.getD (S8.m s) i (0 : Int)) = AV.int IntKind.i64 (List.getD (S8.m s) i (0 : Int))) ∧ (PureC Try.prog 37 [.row 1 s.m.length (rowI s.m)] (.own 0 0 1 0 s.m.length) [blkI s.m]) ∧ (List.length (S8.st s) = List.length (S8.st s)) ∧ (∀ (i : Nat), i < List.length (S8.st s) → ∀ (j : Nat), j < (1 : Nat) → AV.int IntKind.i64 (List.getD (S8.st s) i (0 : Int)) = AV.int IntKind.i64 (List.getD (S8.st s) i (0 : Int))) ∧ (PureC Try.prog 37 [.row 1 s.st.length (rowI s.st)] (.own 0 0 1 0 s.st.length) [blkI s.st]) ∧ (Pg.W p = Pg.W p) ∧ (Pg.r0 p = Pg.r0 p) ∧ (Pg.r1 p = Pg.r1 p) ∧ (Pg.r2 p = Pg.r2 p) ∧ (Pg.r3 p = Pg.r3 p) ∧ (List.length (Pg.ms p) = List.length (Pg.ms p)) ∧ (∀ (i : Nat), i < List.length (Pg.ms p) → ∀ (j : Nat), j < (3 : Nat) → rowL mmC (Pg.ms p) i j = rowL mmC (Pg.ms p) i j) ∧ (PureC Try.prog 30 [.agg (progL p.W p.r0 p.r1 p.r2 p.r3 (memR p.ms))] (.int .i64 (sumN p.ms)) []) ∧ (frS8c3 p ((frS8c2 p (((↑(sumN (Pg.ms p)) : Int) = (↑(sumN (Pg.ms p)) : Int)) ∧ (S8.r0 s = S8.r0 s) ∧ (S8.r1 s = S8.r1 s) ∧ (S8.r2 s = S8.r2 s) ∧ (S8.r3 s = S8.r3 s) ∧ ((0 : Nat) = (0 : Nat)) ∧ (List.length (S8.m s) = List.length (S8.m s)) ∧ ((0 : Nat) = (0 : Nat)) ∧ (List.length (S8.st s) = List.length (S8.st s)) ∧ (S8.pc s = S8.pc s) ∧ ((0 : Nat) = (0 : Nat)) ∧ ((0 : Nat) = (0 : Nat)) ∧ (List.length (S8.m s) = List.length (S8.m s)) ∧ (∀ (i : Nat), i < List.length (S8.m s) → ∀ (j : Nat), j < (1 : Nat) → AV.int IntKind.i64 (List.getD (S8.m s) i (0 : Int)) = AV.int IntKind.i64 (List.getD (S8.m s) i (0 : Int))) ∧ (List.length (S8.st s) = List.length (S8.st s)) ∧ (∀ (i : Nat), i < List.length (S8.st s) → ∀ (j : Nat), j < (1 : Nat) → AV.int IntKind.i64 (List.getD (S8.st s) i (0 : Int)) = AV.int IntKind.i64 (List.getD (S8.st s) i (0 : Int))) ∧ ((0 : Nat) = (0 : Nat)) ∧ (n = n) ∧ ((0 : Int) = (0 : Int)) ∧ ((0 : Int) = (0 : Int)) ∧ (Ok Try.prog (ntOf Try.prog 19) (.loop (lpC Try.prog 19 0)) (runS p ((sumN p.ms : Nat) : Int) s [] n 0 0).st (.ext 0) (runS p ((sumN p.ms : Nat) : Int) (runD p ((sumN p.ms : Nat) : Int) s n.toNat).s (runD p ((sumN p.ms : Nat) : Int) s n.toNat).o n (runD p ((sumN p.ms : Nat) : Int) s n.toNat).k (runD p ((sumN p.ms : Nat) : Int) s n.toNat).e).st) ∧ (List.length (S8.m (R8.s (runD p (↑(sumN (Pg.ms p)) : Int) s (Int.toNat n)))) = List.length (S8.m (R8.s (runD p (↑(sumN (Pg.ms p)) : Int) s (Int.toNat n))))) ∧ (∀ (i : Nat), i < List.length (S8.m (R8.s (runD p (↑(sumN (Pg.ms p)) : Int) s (Int.toNat n)))) → ∀ (j : Nat), j < (1 : Nat) → AV.int IntKind.i64 (List.getD (S8.m (R8.s (runD p (↑(sumN (Pg.ms p)) : Int) s (Int.toNat n)))) i (0 : Int)) = AV.int IntKind.i64 (List.getD (S8.m (R8.s (runD p (↑(sumN (Pg.ms p)) : Int) s (Int.toNat n)))) i (0 : Int))) ∧ (List.length (S8.st (R8.s (runD p (↑(sumN (Pg.ms p)) : Int) s (Int.toNat n)))) = List.length (S8.st (R8.s (runD p (↑(sumN (Pg.ms p)) : Int) s (Int.toNat n))))) ∧ (∀ (i : Nat), i < List.length (S8.st (R8.s (runD p (↑(sumN (Pg.ms p)) : Int) s (Int.toNat n)))) → ∀ (j : Nat), j < (1 : Nat) → AV.int IntKind.i64 (List.getD (S8.st (R8.s (runD p (↑(sumN (Pg.ms p)) : Int) s (Int.toNat n)))) i (0 : Int)) = AV.int IntKind.i64 (List.getD (S8.st (R8.s (runD p (↑(sumN (Pg.ms p)) : Int) s (Int.toNat n)))) i (0 : Int))) ∧ (List.length (R8.o (runD p (↑(sumN (Pg.ms p)) : Int) s (Int.toNat n))) = List.length (R8.o (runD p (↑(sumN (Pg.ms p)) : Int) s (Int.toNat n)))) ∧ (∀ (i : Nat), i < List.length (R8.o (runD p (↑(sumN (Pg.ms p)) : Int) s (Int.toNat n))) → ∀ (j : Nat), j < (2 : Nat) → rowL obC (R8.o (runD p (↑(sumN (Pg.ms p)) : Int) s (Int.toNat n))) i j = rowL obC (R8.o (runD p (↑(sumN (Pg.ms p)) : Int) s (Int.toNat n))) i j) ∧ (S8.r0 (R8.s (runD p (↑(sumN (Pg.ms p)) : Int) s (Int.toNat n))) = S8.r0 (R8.s (runD p (↑(sumN (Pg.ms p)) : Int) s (Int.toNat n)))) ∧ (S8.r1 (R8.s (runD p (↑(sumN (Pg.ms p)) : Int) s (Int.toNat n))) = S8.r1 (R8.s (runD p (↑(sumN (Pg.ms p)) : Int) s (Int.toNat n)))) ∧ (S8.r2 (R8.s (runD p (↑(sumN (Pg.ms p)) : Int) s (Int.toNat n))) = S8.r2 (R8.s (runD p (↑(sumN (Pg.ms p)) : Int) s (Int.toNat n)))) ∧ (S8.r3 (R8.s (runD p (↑(sumN (Pg.ms p)) : Int) s (Int.toNat n))) = S8.r3 (R8.s (runD p (↑(sumN (Pg.ms p)) : Int) s (Int.toNat n)))) ∧ ((0 : Nat) = (0 : Nat)) ∧ (List.length (S8.m (R8.s (runD p (↑(sumN (Pg.ms p)) : Int) s (Int.toNat n)))) = List.length (S8.m (R8.s (runD p (↑(sumN (Pg.ms p)) : Int) s (Int.toNat n))))) ∧ ((0 : Nat) = (0 : Nat)) ∧ (List.length (S8.st (R8.s (runD p (↑(sumN (Pg.ms p)) : Int) s (Int.toNat n)))) = List.length (S8.st (R8.s (runD p (↑(sumN (Pg.ms p)) : Int) s (Int.toNat n))))) ∧ (S8.pc (R8.s (runD p (↑(sumN (Pg.ms p)) : Int) s (Int.toNat n))) = S8.pc (R8.s (runD p (↑(sumN (Pg.ms p)) : Int) s (Int.toNat n)))) ∧ ((0 : Nat) = (0 : Nat)) ∧ (List.length (R8.o (runD p (↑(sumN (Pg.ms p)) : Int) s (Int.toNat n))) = List.length (R8.o (runD p (↑(sumN (Pg.ms p)) : Int) s (Int.toNat n)))) ∧ ((↑(R8.k (runD p (↑(sumN (Pg.ms p)) : Int) s (Int.toNat n))) : Int) = (↑(R8.k (runD p (↑(sumN (Pg.ms p)) : Int) s (Int.toNat n))) : Int)) ∧ (R8.e (runD p (↑(sumN (Pg.ms p)) : Int) s (Int.toNat n)) = R8.e (runD p (↑(sumN (Pg.ms p)) : Int) s (Int.toNat n))) ∧ True))))) (by kernel_rfl)
    ⟨rfl,
 (fun _ _ _ _ => rfl),
 cloneC (.row s.m) (by have := hs.c; have := hP.sum; omega),
 rfl,
 (fun _ _ _ _ => rfl),
 cloneC (.row s.st) (by have := hs.st; omega),
 rfl,
 rfl,
 rfl,
 rfl,
 rfl,
 rfl,
 (fun _ _ _ _ => rfl),
 archCells p.W p.r0 p.r1 p.r2 p.r3 p.ms (by have := hP.ms; omega) hP.sum, (frS8c3_mk p (frS8c2_mk p ⟨rfl,
 rfl,
 rfl,
 rfl,
 rfl,
 rfl,
 rfl,
 rfl,
 rfl,
 rfl,
 rfl,
 rfl,
 rfl,
 (fun _ _ _ _ => rfl),
 rfl,
 (fun _ _ _ _ => rfl),
 rfl,
 rfl,
 rfl,
 rfl,
 run_loop p ((sumN p.ms : Nat) : Int) s n hP hs hn2,
 rfl,
 (fun _ _ _ _ => rfl),
 rfl,
 (fun _ _ _ _ => rfl),
 rfl,
 (fun _ _ _ _ => rfl),
 rfl,
 rfl,
 rfl,
 rfl,
 rfl,
 rfl,
 rfl,
 rfl,
 rfl,
 rfl,
 rfl,
 rfl,
 rfl, trivial⟩))⟩
theorem runC (p : Pg) (s : S8) (n : Int) (hP : OkP p) (hs : OkS ((sumN p.ms : Nat) : Int) p.is.length s) (hn2 : n < 1000000) : PureC Try.prog 19 [.agg (pgA p), .agg (s8A s (.row 1 s.m.length (rowI s.m)) (.row 1 s.st.length (rowI s.st))), .int .i64 n] (.tup [.agg (s8A (runD p ((sumN p.ms : Nat) : Int) s n.toNat).s (.own 0 0 1 0 (runD p ((sumN p.ms : Nat) : Int) s n.toNat).s.m.length) (.own 1 0 1 0 (runD p ((sumN p.ms : Nat) : Int) s n.toNat).s.st.length)), .own 2 0 2 0 (runD p ((sumN p.ms : Nat) : Int) s n.toNat).o.length, .int .i64 (runD p ((sumN p.ms : Nat) : Int) s n.toNat).k, .int .i64 (runD p ((sumN p.ms : Nat) : Int) s n.toNat).e]) [blkI (runD p ((sumN p.ms : Nat) : Int) s n.toNat).s.m, blkI (runD p ((sumN p.ms : Nat) : Int) s n.toNat).s.st, obB (runD p ((sumN p.ms : Nat) : Int) s n.toNat).o] := PureC.vc (run_vc p s n hP hs hn2)
end
end Go.Proofs.Ytjdiabjmphdhiaa.Px
namespace Go.Proofs.Ytjdiabjmphdhiaa.Px
section
open Go.RowKit Go.Proofs.Ytjdiabjmphdhiaa.Rx
def x2 (x : Int) (s : Nat) : Int := Int.fdiv x (2 ^ s)
def v0 : Vl := ⟨false, 0⟩
end
end Go.Proofs.Ytjdiabjmphdhiaa.Px
namespace Go.Proofs.Ytjdiabjmphdhiaa.Px
section
open Go.RowKit Go.Proofs.Ytjdiabjmphdhiaa.Rx
structure M1 where
  p : Int
  s : Int
  r0 : Int
  r1 : Int
  r2 : Int
  r3 : Int
def M1.set (m : M1) (k : Nat) (v : Int) : M1 := match k with
  | 0 => { m with r0 := v }
  | 1 => { m with r1 := v }
  | 2 => { m with r2 := v }
  | _ => { m with r3 := v }
end
end Go.Proofs.Ytjdiabjmphdhiaa.Px
namespace Go.Proofs.Ytjdiabjmphdhiaa.Px
section
open Go.RowKit Go.Proofs.Ytjdiabjmphdhiaa.Rx
def lR (l : List Int) : AV := .row 1 l.length (rowI l)
def s8R (s : S8) : List AV := s8A s (lR s.m) (lR s.st)
end
end Go.Proofs.Ytjdiabjmphdhiaa.Px
namespace Go.Proofs.Ytjdiabjmphdhiaa.Px
section
open Go.RowKit Go.Proofs.Ytjdiabjmphdhiaa.Rx
end
end Go.Proofs.Ytjdiabjmphdhiaa.Px
namespace Go.Proofs.Ytjdiabjmphdhiaa.Px
section
open Go.RowKit Go.Proofs.Ytjdiabjmphdhiaa.Rx
def frS8s0 (s : S8) (Z : Prop) : Prop := (∀ (i : Nat), i < List.length (S8.m s) → ∀ (j : Nat), j < (1 : Nat) → AV.int IntKind.i64 (List.getD (S8.m s) i (0 : Int)) = AV.int IntKind.i64 (List.getD (S8.m s) i (0 : Int))) ∧ (List.length (S8.st s) = List.length (S8.st s)) ∧ (∀ (i : Nat), i < List.length (S8.st s) → ∀ (j : Nat), j < (1 : Nat) → AV.int IntKind.i64 (List.getD (S8.st s) i (0 : Int)) = AV.int IntKind.i64 (List.getD (S8.st s) i (0 : Int))) ∧ (S8.pc s = S8.pc s) ∧ Z
theorem frS8s0_mk (s : S8) {Z : Prop} (z : Z) : frS8s0 s Z := ⟨(fun _ _ _ _ => rfl), rfl, (fun _ _ _ _ => rfl), rfl, z⟩
def frS8s1 (p : Pg) (s : S8) (Z : Prop) : Prop := (List.length (Pg.ls p) = List.length (Pg.ls p)) ∧ (∀ (i : Nat), i < List.length (Pg.ls p) → ∀ (j : Nat), j < (2 : Nat) → rowL lbC (Pg.ls p) i j = rowL lbC (Pg.ls p) i j) ∧ (List.length (Pg.is p) = List.length (Pg.is p)) ∧ (∀ (i : Nat), i < List.length (Pg.is p) → ∀ (j : Nat), j < (9 : Nat) → rowL inC (Pg.is p) i j = rowL inC (Pg.is p) i j) ∧ (S8.r0 s = S8.r0 s) ∧ (S8.r1 s = S8.r1 s) ∧ (S8.r2 s = S8.r2 s) ∧ (S8.r3 s = S8.r3 s) ∧ (List.length (S8.m s) = List.length (S8.m s)) ∧ Z
theorem frS8s1_mk (p : Pg) (s : S8) {Z : Prop} (z : Z) : frS8s1 p s Z := ⟨rfl, (fun _ _ _ _ => rfl), rfl, (fun _ _ _ _ => rfl), rfl, rfl, rfl, rfl, rfl, z⟩
def frS8s2 (p : Pg) (Z : Prop) : Prop := (Pg.W p = Pg.W p) ∧ (Pg.win p = Pg.win p) ∧ (Pg.fuel p = Pg.fuel p) ∧ (Pg.r0 p = Pg.r0 p) ∧ (Pg.r1 p = Pg.r1 p) ∧ (Pg.r2 p = Pg.r2 p) ∧ (Pg.r3 p = Pg.r3 p) ∧ (List.length (Pg.ms p) = List.length (Pg.ms p)) ∧ (∀ (i : Nat), i < List.length (Pg.ms p) → ∀ (j : Nat), j < (3 : Nat) → rowL mmC (Pg.ms p) i j = rowL mmC (Pg.ms p) i j) ∧ Z
theorem frS8s2_mk (p : Pg) {Z : Prop} (z : Z) : frS8s2 p Z := ⟨rfl, rfl, rfl, rfl, rfl, rfl, rfl, rfl, (fun _ _ _ _ => rfl), z⟩
theorem sq_step (p : Pg) (s : S8) (hP : OkP p) (hs : OkS ((sumN p.ms : Nat) : Int) p.is.length s) : Vc (vcFn Try.prog false 16 [.agg (pgA p), .agg (s8A s (.row 1 s.m.length (rowI s.m)) (.row 1 s.st.length (rowI s.st)))] [.cl [.agg (pgA p), .agg (s8A s (.row 1 s.m.length (rowI s.m)) (.row 1 s.st.length (rowI s.st))), .int .i64 1] (.tup [.agg (s8A (runD p ((sumN p.ms : Nat) : Int) s (1 : Int).toNat).s (.own 0 0 1 0 (runD p ((sumN p.ms : Nat) : Int) s (1 : Int).toNat).s.m.length) (.own 1 0 1 0 (runD p ((sumN p.ms : Nat) : Int) s (1 : Int).toNat).s.st.length)), .own 2 0 2 0 (runD p ((sumN p.ms : Nat) : Int) s (1 : Int).toNat).o.length, .int .i64 (runD p ((sumN p.ms : Nat) : Int) s (1 : Int).toNat).k, .int .i64 (runD p ((sumN p.ms : Nat) : Int) s (1 : Int).toNat).e]) [blkI (runD p ((sumN p.ms : Nat) : Int) s (1 : Int).toNat).s.m, blkI (runD p ((sumN p.ms : Nat) : Int) s (1 : Int).toNat).s.st, obB (runD p ((sumN p.ms : Nat) : Int) s (1 : Int).toNat).o]] [(0, 3), (1, 4), (2, 5)] (.tup [.agg (s8A (runD p ((sumN p.ms : Nat) : Int) s (1 : Int).toNat).s (.own 0 0 1 0 (runD p ((sumN p.ms : Nat) : Int) s (1 : Int).toNat).s.m.length) (.own 1 0 1 0 (runD p ((sumN p.ms : Nat) : Int) s (1 : Int).toNat).s.st.length)), .own 2 0 2 0 (runD p ((sumN p.ms : Nat) : Int) s (1 : Int).toNat).o.length, .int .i64 (runD p ((sumN p.ms : Nat) : Int) s (1 : Int).toNat).e]) [blkI (runD p ((sumN p.ms : Nat) : Int) s (1 : Int).toNat).s.m, blkI (runD p ((sumN p.ms : Nat) : Int) s (1 : Int).toNat).s.st, obB (runD p ((sumN p.ms : Nat) : Int) s (1 : Int).toNat).o]) :=
  vc_of (q := (frS8s2 p ((frS8s1 p s ((frS8s0 s (((1 : Int) = (1 : Int)) ∧ (PureC Try.prog 19 [.agg (pgA p), .agg (s8A s (.row 1 s.m.length (rowI s.m)) (.row 1 s.st.length (rowI s.st))), .int .i64 1] (.tup [.agg (s8A (runD p ((sumN p.ms : Nat) : Int) s (1 : Int).toNat).s (.own 0 0 1 0 (runD p ((sumN p.ms : Nat) : Int) s (1 : Int).toNat).s.m.length) (.own 1 0 1 0 (runD p ((sumN p.ms : Nat) : Int) s (1 : Int).toNat).s.st.length)), .own 2 0 2 0 (runD p ((sumN p.ms : Nat) : Int) s (1 : Int).toNat).o.length, .int .i64 (runD p ((sumN p.ms : Nat) : Int) s (1 : Int).toNat).k, .int .i64 (runD p ((sumN p.ms : Nat) : Int) s (1 : Int).toNat).e]) [blkI (runD p ((sumN p.ms : Nat) : Int) s (1 : Int).toNat).s.m, blkI (runD p ((sumN p.ms : Nat) : Int) s (1 : Int).toNat).s.st, obB (runD p ((sumN p.ms : Nat) : Int) s (1 : Int).toNat).o]) ∧ (List.length (S8.m (Prod.fst (stepI (Pg.W p) (↑(sumN (Pg.ms p)) : Int) (↑(List.length (Pg.is p)) : Int) (atI p (S8.pc s)) s))) = List.length (S8.m (Prod.fst (stepI (Pg.W p) (↑(sumN (Pg.ms p)) : Int) (↑(List.length (Pg.is p)) : Int) (atI p (S8.pc s)) s)))) ∧ (∀ (i : Nat), i < List.length (S8.m (Prod.fst (stepI (Pg.W p) (↑(sumN (Pg.ms p)) : Int) (↑(List.length (Pg.is p)) : Int) (atI p (S8.pc s)) s))) → ∀ (j : Nat), j < (1 : Nat) → AV.int IntKind.i64 (List.getD (S8.m (Prod.fst (stepI (Pg.W p) (↑(sumN (Pg.ms p)) : Int) (↑(List.length (Pg.is p)) : Int) (atI p (S8.pc s)) s))) i (0 : Int)) = AV.int IntKind.i64 (List.getD (S8.m (Prod.fst (stepI (Pg.W p) (↑(sumN (Pg.ms p)) : Int) (↑(List.length (Pg.is p)) : Int) (atI p (S8.pc s)) s))) i (0 : Int))) ∧ (List.length (S8.st (Prod.fst (stepI (Pg.W p) (↑(sumN (Pg.ms p)) : Int) (↑(List.length (Pg.is p)) : Int) (atI p (S8.pc s)) s))) = List.length (S8.st (Prod.fst (stepI (Pg.W p) (↑(sumN (Pg.ms p)) : Int) (↑(List.length (Pg.is p)) : Int) (atI p (S8.pc s)) s)))) ∧ (∀ (i : Nat), i < List.length (S8.st (Prod.fst (stepI (Pg.W p) (↑(sumN (Pg.ms p)) : Int) (↑(List.length (Pg.is p)) : Int) (atI p (S8.pc s)) s))) → ∀ (j : Nat), j < (1 : Nat) → AV.int IntKind.i64 (List.getD (S8.st (Prod.fst (stepI (Pg.W p) (↑(sumN (Pg.ms p)) : Int) (↑(List.length (Pg.is p)) : Int) (atI p (S8.pc s)) s))) i (0 : Int)) = AV.int IntKind.i64 (List.getD (S8.st (Prod.fst (stepI (Pg.W p) (↑(sumN (Pg.ms p)) : Int) (↑(List.length (Pg.is p)) : Int) (atI p (S8.pc s)) s))) i (0 : Int))) ∧ (List.length ([] ++ Prod.fst (Prod.snd (stepI (Pg.W p) (↑(sumN (Pg.ms p)) : Int) (↑(List.length (Pg.is p)) : Int) (atI p (S8.pc s)) s))) = List.length ([] ++ Prod.fst (Prod.snd (stepI (Pg.W p) (↑(sumN (Pg.ms p)) : Int) (↑(List.length (Pg.is p)) : Int) (atI p (S8.pc s)) s)))) ∧ (∀ (i : Nat), i < List.length ([] ++ Prod.fst (Prod.snd (stepI (Pg.W p) (↑(sumN (Pg.ms p)) : Int) (↑(List.length (Pg.is p)) : Int) (atI p (S8.pc s)) s))) → ∀ (j : Nat), j < (2 : Nat) → rowL obC ([] ++ Prod.fst (Prod.snd (stepI (Pg.W p) (↑(sumN (Pg.ms p)) : Int) (↑(List.length (Pg.is p)) : Int) (atI p (S8.pc s)) s))) i j = rowL obC ([] ++ Prod.fst (Prod.snd (stepI (Pg.W p) (↑(sumN (Pg.ms p)) : Int) (↑(List.length (Pg.is p)) : Int) (atI p (S8.pc s)) s))) i j) ∧ (S8.r0 (Prod.fst (stepI (Pg.W p) (↑(sumN (Pg.ms p)) : Int) (↑(List.length (Pg.is p)) : Int) (atI p (S8.pc s)) s)) = S8.r0 (Prod.fst (stepI (Pg.W p) (↑(sumN (Pg.ms p)) : Int) (↑(List.length (Pg.is p)) : Int) (atI p (S8.pc s)) s))) ∧ (S8.r1 (Prod.fst (stepI (Pg.W p) (↑(sumN (Pg.ms p)) : Int) (↑(List.length (Pg.is p)) : Int) (atI p (S8.pc s)) s)) = S8.r1 (Prod.fst (stepI (Pg.W p) (↑(sumN (Pg.ms p)) : Int) (↑(List.length (Pg.is p)) : Int) (atI p (S8.pc s)) s))) ∧ (S8.r2 (Prod.fst (stepI (Pg.W p) (↑(sumN (Pg.ms p)) : Int) (↑(List.length (Pg.is p)) : Int) (atI p (S8.pc s)) s)) = S8.r2 (Prod.fst (stepI (Pg.W p) (↑(sumN (Pg.ms p)) : Int) (↑(List.length (Pg.is p)) : Int) (atI p (S8.pc s)) s))) ∧ (S8.r3 (Prod.fst (stepI (Pg.W p) (↑(sumN (Pg.ms p)) : Int) (↑(List.length (Pg.is p)) : Int) (atI p (S8.pc s)) s)) = S8.r3 (Prod.fst (stepI (Pg.W p) (↑(sumN (Pg.ms p)) : Int) (↑(List.length (Pg.is p)) : Int) (atI p (S8.pc s)) s))) ∧ ((0 : Nat) = (0 : Nat)) ∧ (List.length (S8.m (Prod.fst (stepI (Pg.W p) (↑(sumN (Pg.ms p)) : Int) (↑(List.length (Pg.is p)) : Int) (atI p (S8.pc s)) s))) = List.length (S8.m (Prod.fst (stepI (Pg.W p) (↑(sumN (Pg.ms p)) : Int) (↑(List.length (Pg.is p)) : Int) (atI p (S8.pc s)) s)))) ∧ ((0 : Nat) = (0 : Nat)) ∧ (List.length (S8.st (Prod.fst (stepI (Pg.W p) (↑(sumN (Pg.ms p)) : Int) (↑(List.length (Pg.is p)) : Int) (atI p (S8.pc s)) s))) = List.length (S8.st (Prod.fst (stepI (Pg.W p) (↑(sumN (Pg.ms p)) : Int) (↑(List.length (Pg.is p)) : Int) (atI p (S8.pc s)) s)))) ∧ (S8.pc (Prod.fst (stepI (Pg.W p) (↑(sumN (Pg.ms p)) : Int) (↑(List.length (Pg.is p)) : Int) (atI p (S8.pc s)) s)) = S8.pc (Prod.fst (stepI (Pg.W p) (↑(sumN (Pg.ms p)) : Int) (↑(List.length (Pg.is p)) : Int) (atI p (S8.pc s)) s))) ∧ ((0 : Nat) = (0 : Nat)) ∧ (List.length ([] ++ Prod.fst (Prod.snd (stepI (Pg.W p) (↑(sumN (Pg.ms p)) : Int) (↑(List.length (Pg.is p)) : Int) (atI p (S8.pc s)) s))) = List.length ([] ++ Prod.fst (Prod.snd (stepI (Pg.W p) (↑(sumN (Pg.ms p)) : Int) (↑(List.length (Pg.is p)) : Int) (atI p (S8.pc s)) s)))) ∧ (Prod.snd (Prod.snd (stepI (Pg.W p) (↑(sumN (Pg.ms p)) : Int) (↑(List.length (Pg.is p)) : Int) (atI p (S8.pc s)) s)) = Prod.snd (Prod.snd (stepI (Pg.W p) (↑(sumN (Pg.ms p)) : Int) (↑(List.length (Pg.is p)) : Int) (atI p (S8.pc s)) s))) ∧ True))))))) (by kernel_rfl)
    (frS8s2_mk p (frS8s1_mk p s (frS8s0_mk s ⟨rfl,
 runC p s 1 hP hs (by omega),
 rfl,
 (fun _ _ _ _ => rfl),
 rfl,
 (fun _ _ _ _ => rfl),
 rfl,
 (fun _ _ _ _ => rfl),
 rfl,
 rfl,
 rfl,
 rfl,
 rfl,
 rfl,
 rfl,
 rfl,
 rfl,
 rfl,
 rfl,
 rfl, trivial⟩)))
theorem stepC (p : Pg) (s : S8) (hP : OkP p) (hs : OkS ((sumN p.ms : Nat) : Int) p.is.length s) : PureC Try.prog 16 [.agg (pgA p), .agg (s8R s)] (.tup [.agg (s8A (runD p ((sumN p.ms : Nat) : Int) s 1).s (.own 0 0 1 0 (runD p ((sumN p.ms : Nat) : Int) s 1).s.m.length) (.own 1 0 1 0 (runD p ((sumN p.ms : Nat) : Int) s 1).s.st.length)), .own 2 0 2 0 (runD p ((sumN p.ms : Nat) : Int) s 1).o.length, .int .i64 (runD p ((sumN p.ms : Nat) : Int) s 1).e]) [blkI (runD p ((sumN p.ms : Nat) : Int) s 1).s.m, blkI (runD p ((sumN p.ms : Nat) : Int) s 1).s.st, obB (runD p ((sumN p.ms : Nat) : Int) s 1).o] := PureC.vc (sq_step p s hP hs)
theorem stepF (p : Pg) (s : S8) (hP : OkP p) (hs : OkS ((sumN p.ms : Nat) : Int) p.is.length s) : PureC Try.prog 16 [.agg (pgA p), .agg (s8R s)] (.tup [.agg (s8R (runD p ((sumN p.ms : Nat) : Int) s 1).s), obR (runD p ((sumN p.ms : Nat) : Int) s 1).o, .int .i64 (runD p ((sumN p.ms : Nat) : Int) s 1).e]) [] := (stepC p s hP hs).frozenT
theorem runF (p : Pg) (s : S8) (n : Int) (hP : OkP p) (hs : OkS ((sumN p.ms : Nat) : Int) p.is.length s) (hn : n < 1000000) : PureC Try.prog 19 [.agg (pgA p), .agg (s8R s), .int .i64 n] (.tup [.agg (s8R (runD p ((sumN p.ms : Nat) : Int) s n.toNat).s), obR (runD p ((sumN p.ms : Nat) : Int) s n.toNat).o, .int .i64 (runD p ((sumN p.ms : Nat) : Int) s n.toNat).k, .int .i64 (runD p ((sumN p.ms : Nat) : Int) s n.toNat).e]) [] := (runC p s n hP hs hn).frozenT
end
end Go.Proofs.Ytjdiabjmphdhiaa.Px
namespace Go.Proofs.Ytjdiabjmphdhiaa.Px
section
open Go.RowKit Go.Proofs.Ytjdiabjmphdhiaa.Rx
def soS (l : List Ob) (k : Nat) : Sm := ⟨[(0, obR l), (1, obR l), (5, .int .i64 k), (4, .bool false)], [], 0⟩
def frS8t0 (l : List Ob) (Z : Prop) : Prop := (List.length l = List.length l) ∧ (∀ (i : Nat), i < List.length l → ∀ (j : Nat), j < (2 : Nat) → rowL obC l i j = rowL obC l i j) ∧ (List.length l = List.length l) ∧ (∀ (i : Nat), i < List.length l → ∀ (j : Nat), j < (2 : Nat) → rowL obC l i j = rowL obC l i j) ∧ Z
theorem frS8t0_mk (l : List Ob) {Z : Prop} (z : Z) : frS8t0 l Z := ⟨rfl, (fun _ _ _ _ => rfl), rfl, (fun _ _ _ _ => rfl), z⟩
theorem so_step (l : List Ob) (k : Nat) (hk : k < l.length) (hb : l.length < 1000000000) : Vc (vcC Try.prog false (ntOf Try.prog 17) (lpC Try.prog 17 0) (soS l k) [.b true, .b false] .nrm [] (soS l (k + 1))) :=
  vc_of (q := (decide ((↑k : Int) < (↑(List.length l) : Int)) = true) ∧ ((0 : Int) ≤ (↑k : Int) ∧ (↑k : Int) < (↑(List.length l) : Int)) ∧ ((0 : Int) ≤ (↑k : Int) ∧ (↑k : Int) < (↑(List.length l) : Int)) ∧ ((!bif Ob.k (List.getD l k Inhabited.default) == Ob.k (List.getD l k Inhabited.default) then bif Ob.a (List.getD l k Inhabited.default) == Ob.a (List.getD l k Inhabited.default) then true else false else false) = false) ∧ (inK IntKind.i64 ((↑k : Int) + (1 : Int))) ∧ (frS8t0 l (((↑k : Int) + (1 : Int) = (↑(k + (1 : Nat)) : Int)) ∧ (false = false) ∧ True))) (by kernel_rfl)
    ⟨(decide_eq_true (by first | omega | (simp; omega) | (simp; done))),
 (by first | omega | rfl),
 (by first | omega | rfl),
 (by simp),
 (in64 (by omega) (by omega)), (frS8t0_mk l ⟨(by first | omega | rfl),
 (by simp), trivial⟩)⟩
theorem so_end (l : List Ob) : Vc (vcC Try.prog false (ntOf Try.prog 17) (lpC Try.prog 17 0) (soS l l.length) [.b false] (.ext 0) [] (soS l l.length)) :=
  vc_of (q := (decide ((↑(List.length l) : Int) < (↑(List.length l) : Int)) = false) ∧ (frS8t0 l (((↑(List.length l) : Int) = (↑(List.length l) : Int)) ∧ (false = false) ∧ True))) (by kernel_rfl)
    ⟨(decide_eq_false (by first | omega | (simp; omega) | (simp; done))), (frS8t0_mk l ⟨rfl,
 rfl, trivial⟩)⟩
theorem so_loop (l : List Ob) (hb : l.length < 1000000000) : Ok Try.prog (ntOf Try.prog 17) (.loop (lpC Try.prog 17 0)) (soS l 0).st (.ext 0) (soS l l.length).st :=
  Ok.loop (P := Try.prog) (nt := ntOf Try.prog 17) (c := lpC Try.prog 17 0) (F := fun k => soS l k) (m := l.length) (x := .ext 0) (J := soS l l.length) (fun k hk => Ok.vc (so_step l k hk hb)) (Ok.vc (so_end l)) (by simp)
theorem so_vc (l : List Ob) (hb : l.length < 1000000000) : Vc (vcFn Try.prog false 17 [obR l, obR l] [.b false, .lp [] (soS l 0) (.ext 0) (soS l l.length)] [] (.bool true) []) :=
  vc_of (q := (((↑(List.length l) : Int) != (↑(List.length l) : Int)) = false) ∧ (frS8t0 l (((0 : Int) = (↑(0 : Nat) : Int)) ∧ (false = false) ∧ (Ok Try.prog (ntOf Try.prog 17) (.loop (lpC Try.prog 17 0)) (soS l 0).st (.ext 0) (soS l l.length).st) ∧ (true = true) ∧ True))) (by kernel_rfl)
    ⟨(by simp), (frS8t0_mk l ⟨(by first | omega | rfl),
 rfl,
 so_loop l hb,
 rfl, trivial⟩)⟩
theorem soC (l : List Ob) (hb : l.length < 1000000000) : PureC Try.prog 17 [obR l, obR l] (.bool true) [] := PureC.vc (so_vc l hb)
end
end Go.Proofs.Ytjdiabjmphdhiaa.Px
namespace Go.Proofs.Ytjdiabjmphdhiaa.Px
section
open Go.RowKit Go.Proofs.Ytjdiabjmphdhiaa.Rx
def vN (n : Int) : Vl := ⟨false, n⟩
def isW : List In := [⟨1, 1, 0, vN 1, vN 2, ⟨#[]⟩, 0⟩, ⟨3, 0, 0, vN 0, vN 1, ⟨#[]⟩, 0⟩, ⟨5, 9, 0, ⟨true, 0⟩, vN 1, ⟨#[]⟩, 0⟩, ⟨2, 0, 1, vN 3, vN 0, ⟨#[]⟩, 0⟩]
def pW : Pg := ⟨2, 1, 5, 0, 0, 0, 0, [⟨⟨#[109]⟩, false, 2⟩], [], isW⟩
def sW : S8 := ⟨0, 0, 0, 0, [0, 0], [], 0⟩
def rW : S8 := ⟨3, 0, 0, 0, [0, 3], [], 3⟩
def oW : List Ob := [⟨2, 1⟩, ⟨3, 3⟩]
theorem runD_go {p : Pg} {c : Int} {s : S8} {n : Nat} {r : R8} (h : runD p c s n = r) (he : r.e = 0) : runD p c s (n + 1) = ⟨(stepI p.W c p.is.length (atI p r.s.pc) r.s).1, r.o ++ (stepI p.W c p.is.length (atI p r.s.pc) r.s).2.1, r.k + 1, (stepI p.W c p.is.length (atI p r.s.pc) r.s).2.2⟩ := by
  subst h
  rw [runD, if_pos he]
theorem runD_stay {p : Pg} {c : Int} {s : S8} {n : Nat} {r : R8} (h : runD p c s n = r) (he : ¬ r.e = 0) : runD p c s (n + 1) = r := by
  subst h
  rw [runD, if_neg he]
theorem okR0 {a b c d : Int} {m st : List Int} {pc : Int} (h : (0 ≤ a ∧ a < 65536) ∧ (0 ≤ b ∧ b < 65536) ∧ (0 ≤ c ∧ c < 65536) ∧ (0 ≤ d ∧ d < 65536)) : okR ⟨a, b, c, d, m, st, pc⟩ := h
theorem pW_ok : OkP pW := ⟨fun i hi => by
    simp only [pW, isW, List.mem_cons, List.not_mem_nil, or_false] at hi
    rcases hi with rfl | rfl | rfl | rfl <;> exact ⟨⟨by decide, by decide⟩, fun h => by first | exact absurd h (by decide) | exact ⟨by decide, by decide⟩, fun h => by first | exact absurd h (by decide) | exact ⟨by decide, by decide⟩, ⟨by decide, by decide⟩, by decide, by decide⟩, by decide, by decide, by decide⟩
theorem sW_ok : OkS ((sumN pW.ms : Nat) : Int) pW.is.length sW := ⟨okR0 ⟨⟨by decide, by decide⟩, ⟨by decide, by decide⟩, ⟨by decide, by decide⟩, ⟨by decide, by decide⟩⟩, fun x hx => by
    simp only [sW, List.mem_cons, List.not_mem_nil, or_false, or_self] at hx
    omega, by decide, ⟨by decide, by decide⟩, by decide, fun x hx => by cases hx⟩
theorem run9 : runD pW 2 sW 9 = ⟨rW, oW, 4, 2⟩ := by
  have h0 : runD pW 2 sW 0 = ⟨sW, [], 0, 0⟩ := rfl
  have h1 : runD pW 2 sW 1 = ⟨⟨3, 0, 0, 0, [0, 0], [], 1⟩, [], 1, 0⟩ := (runD_go h0 rfl).trans (by kernel_rfl)
  have h2 : runD pW 2 sW 2 = ⟨⟨3, 0, 0, 0, [0, 3], [], 2⟩, [⟨2, 1⟩], 2, 0⟩ := (runD_go h1 rfl).trans (by kernel_rfl)
  have h3 : runD pW 2 sW 3 = ⟨⟨3, 0, 0, 0, [0, 3], [], 3⟩, [⟨2, 1⟩, ⟨3, 3⟩], 3, 0⟩ := (runD_go h2 rfl).trans (by kernel_rfl)
  have h4 : runD pW 2 sW 4 = ⟨rW, oW, 4, 2⟩ := (runD_go h3 rfl).trans (by kernel_rfl)
  have h5 := runD_stay h4 (by decide)
  have h6 := runD_stay h5 (by decide)
  have h7 := runD_stay h6 (by decide)
  have h8 := runD_stay h7 (by decide)
  exact runD_stay h8 (by decide)
theorem runW : PureC Try.prog 19 [.agg (pgA pW), .agg (s8R sW), .int .i64 9] (.tup [.agg (s8R rW), obR oW, .int .i64 4, .int .i64 2]) [] := by
  have h := runF pW sW 9 pW_ok sW_ok (by decide)
  rw [show runD pW ((sumN pW.ms : Nat) : Int) sW (9 : Int).toNat = ⟨rW, oW, 4, 2⟩ from run9] at h
  exact h
theorem atW9 : PureC Try.prog 23 [.agg (pgA pW), .int .i64 9] (.agg (inA { In0 with kind := 12 })) [] := by
  have h := atC pW 9
  rw [atI_out (by decide)] at h
  exact h
theorem atW1 : PureC Try.prog 23 [.agg (pgA pW), .int .i64 (-1)] (.agg (inA { In0 with kind := 12 })) [] := by
  have h := atC pW (-1)
  rw [atI_out (by decide)] at h
  exact h
def frS8u0  (Z : Prop) : Prop := ((2 : Int) = (2 : Int)) ∧ ((1 : Int) = (1 : Int)) ∧ ((5 : Int) = (5 : Int)) ∧ ((0 : Int) = (0 : Int)) ∧ ((0 : Int) = (0 : Int)) ∧ ((0 : Int) = (0 : Int)) ∧ ((0 : Int) = (0 : Int)) ∧ ((1 : Nat) = (1 : Nat)) ∧ Z
theorem frS8u0_mk  {Z : Prop} (z : Z) : frS8u0  Z := ⟨rfl, rfl, rfl, rfl, rfl, rfl, rfl, rfl, z⟩
theorem aw_vc  : Vc (vcFn Try.prog true 18 [] [.fz, .fz, .fz, .cl [.agg (pgA pW), .agg (s8R sW), .int .i64 9] (.tup [.agg (s8R rW), obR oW, .int .i64 4, .int .i64 2]) [], .fz, .cl [obR oW, obR oW] (.bool true) [], .cl [.agg (pgA pW), .int .i64 9] (.agg (inA { In0 with kind := 12 })) [], .cl [.agg (pgA pW), .int .i64 (-1)] (.agg (inA { In0 with kind := 12 })) []] [] (.bool true) []) :=
  vc_of (q := (frS8u0  ((∀ (i : Nat), i < (1 : Nat) → ∀ (j : Nat), j < (3 : Nat) → List.getD [AV.str (ByteArray.mk (Array.mk [(109 : UInt8)])), AV.bool false, AV.int IntKind.i64 (2 : Int)] (i * (3 : Nat) + j) AV.junk = rowL mmC [Mm.mk (ByteArray.mk (Array.mk [(109 : UInt8)])) false (2 : Nat)] i j) ∧ ((0 : Nat) = (0 : Nat)) ∧ ((4 : Nat) = (4 : Nat)) ∧ (∀ (i : Nat), i < (4 : Nat) → ∀ (j : Nat), j < (9 : Nat) → List.getD [AV.int IntKind.i64 (1 : Int), AV.int IntKind.i64 (1 : Int), AV.int IntKind.i64 (0 : Int), AV.bool false, AV.int IntKind.i64 (1 : Int), AV.bool false, AV.int IntKind.i64 (2 : Int), AV.str (ByteArray.mk (Array.mk [])), AV.int IntKind.i64 (0 : Int), AV.int IntKind.i64 (3 : Int), AV.int IntKind.i64 (0 : Int), AV.int IntKind.i64 (0 : Int), AV.bool false, AV.int IntKind.i64 (0 : Int), AV.bool false, AV.int IntKind.i64 (1 : Int), AV.str (ByteArray.mk (Array.mk [])), AV.int IntKind.i64 (0 : Int), AV.int IntKind.i64 (5 : Int), AV.int IntKind.i64 (9 : Int), AV.int IntKind.i64 (0 : Int), AV.bool true, AV.int IntKind.i64 (0 : Int), AV.bool false, AV.int IntKind.i64 (1 : Int), AV.str (ByteArray.mk (Array.mk [])), AV.int IntKind.i64 (0 : Int), AV.int IntKind.i64 (2 : Int), AV.int IntKind.i64 (0 : Int), AV.int IntKind.i64 (1 : Int), AV.bool false, AV.int IntKind.i64 (3 : Int), AV.bool false, AV.int IntKind.i64 (0 : Int), AV.str (ByteArray.mk (Array.mk [])), AV.int IntKind.i64 (0 : Int)] (i * (9 : Nat) + j) AV.junk = rowL inC [In.mk (1 : Int) (1 : Int) (0 : Int) (vN (1 : Int)) (vN (2 : Int)) (ByteArray.mk (Array.mk [])) (0 : Int), In.mk (3 : Int) (0 : Int) (0 : Int) (vN (0 : Int)) (vN (1 : Int)) (ByteArray.mk (Array.mk [])) (0 : Int), In.mk (5 : Int) (9 : Int) (0 : Int) (Vl.mk true (0 : Int)) (vN (1 : Int)) (ByteArray.mk (Array.mk [])) (0 : Int), In.mk (2 : Int) (0 : Int) (1 : Int) (vN (3 : Int)) (vN (0 : Int)) (ByteArray.mk (Array.mk [])) (0 : Int)] i j) ∧ ((0 : Int) = (0 : Int)) ∧ ((0 : Int) = (0 : Int)) ∧ ((0 : Int) = (0 : Int)) ∧ ((0 : Int) = (0 : Int)) ∧ ((2 : Nat) = (2 : Nat)) ∧ (∀ (i : Nat), i < (2 : Nat) → ∀ (j : Nat), j < (1 : Nat) → List.getD [AV.int IntKind.i64 (0 : Int), AV.int IntKind.i64 (0 : Int)] (i * (1 : Nat) + j) AV.junk = AV.int IntKind.i64 (List.getD [(0 : Int), (0 : Int)] i (0 : Int))) ∧ ((0 : Nat) = (0 : Nat)) ∧ ((0 : Int) = (0 : Int)) ∧ ((9 : Int) = (9 : Int)) ∧ (PureC Try.prog 19 [.agg (pgA pW), .agg (s8R sW), .int .i64 9] (.tup [.agg (s8R rW), obR oW, .int .i64 4, .int .i64 2]) []) ∧ ((2 : Nat) = (2 : Nat)) ∧ (∀ (i : Nat), i < (2 : Nat) → ∀ (j : Nat), j < (2 : Nat) → rowL obC [Ob.mk (2 : Int) (1 : Int), Ob.mk (3 : Int) (3 : Int)] i j = rowL obC [Ob.mk (2 : Int) (1 : Int), Ob.mk (3 : Int) (3 : Int)] i j) ∧ ((2 : Nat) = (2 : Nat)) ∧ (∀ (i : Nat), i < (2 : Nat) → ∀ (j : Nat), j < (2 : Nat) → List.getD [AV.int IntKind.i64 (2 : Int), AV.int IntKind.i64 (1 : Int), AV.int IntKind.i64 (3 : Int), AV.int IntKind.i64 (3 : Int)] (i * (2 : Nat) + j) AV.junk = rowL obC [Ob.mk (2 : Int) (1 : Int), Ob.mk (3 : Int) (3 : Int)] i j) ∧ (PureC Try.prog 17 [obR oW, obR oW] (.bool true) []) ∧ (frS8u0  ((∀ (i : Nat), i < (1 : Nat) → ∀ (j : Nat), j < (3 : Nat) → List.getD [AV.str (ByteArray.mk (Array.mk [(109 : UInt8)])), AV.bool false, AV.int IntKind.i64 (2 : Int)] (i * (3 : Nat) + j) AV.junk = rowL mmC [Mm.mk (ByteArray.mk (Array.mk [(109 : UInt8)])) false (2 : Nat)] i j) ∧ ((0 : Nat) = (0 : Nat)) ∧ ((4 : Nat) = (4 : Nat)) ∧ (∀ (i : Nat), i < (4 : Nat) → ∀ (j : Nat), j < (9 : Nat) → List.getD [AV.int IntKind.i64 (1 : Int), AV.int IntKind.i64 (1 : Int), AV.int IntKind.i64 (0 : Int), AV.bool false, AV.int IntKind.i64 (1 : Int), AV.bool false, AV.int IntKind.i64 (2 : Int), AV.str (ByteArray.mk (Array.mk [])), AV.int IntKind.i64 (0 : Int), AV.int IntKind.i64 (3 : Int), AV.int IntKind.i64 (0 : Int), AV.int IntKind.i64 (0 : Int), AV.bool false, AV.int IntKind.i64 (0 : Int), AV.bool false, AV.int IntKind.i64 (1 : Int), AV.str (ByteArray.mk (Array.mk [])), AV.int IntKind.i64 (0 : Int), AV.int IntKind.i64 (5 : Int), AV.int IntKind.i64 (9 : Int), AV.int IntKind.i64 (0 : Int), AV.bool true, AV.int IntKind.i64 (0 : Int), AV.bool false, AV.int IntKind.i64 (1 : Int), AV.str (ByteArray.mk (Array.mk [])), AV.int IntKind.i64 (0 : Int), AV.int IntKind.i64 (2 : Int), AV.int IntKind.i64 (0 : Int), AV.int IntKind.i64 (1 : Int), AV.bool false, AV.int IntKind.i64 (3 : Int), AV.bool false, AV.int IntKind.i64 (0 : Int), AV.str (ByteArray.mk (Array.mk [])), AV.int IntKind.i64 (0 : Int)] (i * (9 : Nat) + j) AV.junk = rowL inC [In.mk (1 : Int) (1 : Int) (0 : Int) (vN (1 : Int)) (vN (2 : Int)) (ByteArray.mk (Array.mk [])) (0 : Int), In.mk (3 : Int) (0 : Int) (0 : Int) (vN (0 : Int)) (vN (1 : Int)) (ByteArray.mk (Array.mk [])) (0 : Int), In.mk (5 : Int) (9 : Int) (0 : Int) (Vl.mk true (0 : Int)) (vN (1 : Int)) (ByteArray.mk (Array.mk [])) (0 : Int), In.mk (2 : Int) (0 : Int) (1 : Int) (vN (3 : Int)) (vN (0 : Int)) (ByteArray.mk (Array.mk [])) (0 : Int)] i j) ∧ ((9 : Int) = (9 : Int)) ∧ (PureC Try.prog 23 [.agg (pgA pW), .int .i64 9] (.agg (inA { In0 with kind := 12 })) []) ∧ (frS8u0  ((∀ (i : Nat), i < (1 : Nat) → ∀ (j : Nat), j < (3 : Nat) → List.getD [AV.str (ByteArray.mk (Array.mk [(109 : UInt8)])), AV.bool false, AV.int IntKind.i64 (2 : Int)] (i * (3 : Nat) + j) AV.junk = rowL mmC [Mm.mk (ByteArray.mk (Array.mk [(109 : UInt8)])) false (2 : Nat)] i j) ∧ ((0 : Nat) = (0 : Nat)) ∧ ((4 : Nat) = (4 : Nat)) ∧ (∀ (i : Nat), i < (4 : Nat) → ∀ (j : Nat), j < (9 : Nat) → List.getD [AV.int IntKind.i64 (1 : Int), AV.int IntKind.i64 (1 : Int), AV.int IntKind.i64 (0 : Int), AV.bool false, AV.int IntKind.i64 (1 : Int), AV.bool false, AV.int IntKind.i64 (2 : Int), AV.str (ByteArray.mk (Array.mk [])), AV.int IntKind.i64 (0 : Int), AV.int IntKind.i64 (3 : Int), AV.int IntKind.i64 (0 : Int), AV.int IntKind.i64 (0 : Int), AV.bool false, AV.int IntKind.i64 (0 : Int), AV.bool false, AV.int IntKind.i64 (1 : Int), AV.str (ByteArray.mk (Array.mk [])), AV.int IntKind.i64 (0 : Int), AV.int IntKind.i64 (5 : Int), AV.int IntKind.i64 (9 : Int), AV.int IntKind.i64 (0 : Int), AV.bool true, AV.int IntKind.i64 (0 : Int), AV.bool false, AV.int IntKind.i64 (1 : Int), AV.str (ByteArray.mk (Array.mk [])), AV.int IntKind.i64 (0 : Int), AV.int IntKind.i64 (2 : Int), AV.int IntKind.i64 (0 : Int), AV.int IntKind.i64 (1 : Int), AV.bool false, AV.int IntKind.i64 (3 : Int), AV.bool false, AV.int IntKind.i64 (0 : Int), AV.str (ByteArray.mk (Array.mk [])), AV.int IntKind.i64 (0 : Int)] (i * (9 : Nat) + j) AV.junk = rowL inC [In.mk (1 : Int) (1 : Int) (0 : Int) (vN (1 : Int)) (vN (2 : Int)) (ByteArray.mk (Array.mk [])) (0 : Int), In.mk (3 : Int) (0 : Int) (0 : Int) (vN (0 : Int)) (vN (1 : Int)) (ByteArray.mk (Array.mk [])) (0 : Int), In.mk (5 : Int) (9 : Int) (0 : Int) (Vl.mk true (0 : Int)) (vN (1 : Int)) (ByteArray.mk (Array.mk [])) (0 : Int), In.mk (2 : Int) (0 : Int) (1 : Int) (vN (3 : Int)) (vN (0 : Int)) (ByteArray.mk (Array.mk [])) (0 : Int)] i j) ∧ ((-1 : Int) = (-1 : Int)) ∧ (PureC Try.prog 23 [.agg (pgA pW), .int .i64 (-1)] (.agg (inA { In0 with kind := 12 })) []) ∧ ((bif bif bif bif bif bif bif bif (4 : Int) == (4 : Int) then (2 : Int) == (2 : Int) else false then (↑(2 : Nat) : Int) == (2 : Int) else false then (3 : Int) == (3 : Int) else false then (3 : Int) == (3 : Int) else false then List.getD [(0 : Int), (3 : Int)] (1 : Nat) (0 : Int) == (3 : Int) else false then true else false then (12 : Int) == (12 : Int) else false then (12 : Int) == (12 : Int) else false) = true) ∧ True))))))) (by kernel_rfl)
    (frS8u0_mk  ⟨(fun i hi j hj => match i, hi, j, hj with | 0, _, 0, _ => rfl | 0, _, 1, _ => rfl | 0, _, 2, _ => rfl),
 rfl,
 rfl,
 (fun i hi j hj => match i, hi, j, hj with | 0, _, 0, _ => rfl | 0, _, 1, _ => rfl | 0, _, 2, _ => rfl | 0, _, 3, _ => rfl | 0, _, 4, _ => rfl | 0, _, 5, _ => rfl | 0, _, 6, _ => rfl | 0, _, 7, _ => rfl | 0, _, 8, _ => rfl | 1, _, 0, _ => rfl | 1, _, 1, _ => rfl | 1, _, 2, _ => rfl | 1, _, 3, _ => rfl | 1, _, 4, _ => rfl | 1, _, 5, _ => rfl | 1, _, 6, _ => rfl | 1, _, 7, _ => rfl | 1, _, 8, _ => rfl | 2, _, 0, _ => rfl | 2, _, 1, _ => rfl | 2, _, 2, _ => rfl | 2, _, 3, _ => rfl | 2, _, 4, _ => rfl | 2, _, 5, _ => rfl | 2, _, 6, _ => rfl | 2, _, 7, _ => rfl | 2, _, 8, _ => rfl | 3, _, 0, _ => rfl | 3, _, 1, _ => rfl | 3, _, 2, _ => rfl | 3, _, 3, _ => rfl | 3, _, 4, _ => rfl | 3, _, 5, _ => rfl | 3, _, 6, _ => rfl | 3, _, 7, _ => rfl | 3, _, 8, _ => rfl),
 rfl,
 rfl,
 rfl,
 rfl,
 rfl,
 (fun i hi j hj => match i, hi, j, hj with | 0, _, 0, _ => rfl | 1, _, 0, _ => rfl),
 rfl,
 rfl,
 rfl,
 runW,
 rfl,
 (fun _ _ _ _ => rfl),
 rfl,
 (fun i hi j hj => match i, hi, j, hj with | 0, _, 0, _ => rfl | 0, _, 1, _ => rfl | 1, _, 0, _ => rfl | 1, _, 1, _ => rfl),
 soC oW (by decide), (frS8u0_mk  ⟨(fun i hi j hj => match i, hi, j, hj with | 0, _, 0, _ => rfl | 0, _, 1, _ => rfl | 0, _, 2, _ => rfl),
 rfl,
 rfl,
 (fun i hi j hj => match i, hi, j, hj with | 0, _, 0, _ => rfl | 0, _, 1, _ => rfl | 0, _, 2, _ => rfl | 0, _, 3, _ => rfl | 0, _, 4, _ => rfl | 0, _, 5, _ => rfl | 0, _, 6, _ => rfl | 0, _, 7, _ => rfl | 0, _, 8, _ => rfl | 1, _, 0, _ => rfl | 1, _, 1, _ => rfl | 1, _, 2, _ => rfl | 1, _, 3, _ => rfl | 1, _, 4, _ => rfl | 1, _, 5, _ => rfl | 1, _, 6, _ => rfl | 1, _, 7, _ => rfl | 1, _, 8, _ => rfl | 2, _, 0, _ => rfl | 2, _, 1, _ => rfl | 2, _, 2, _ => rfl | 2, _, 3, _ => rfl | 2, _, 4, _ => rfl | 2, _, 5, _ => rfl | 2, _, 6, _ => rfl | 2, _, 7, _ => rfl | 2, _, 8, _ => rfl | 3, _, 0, _ => rfl | 3, _, 1, _ => rfl | 3, _, 2, _ => rfl | 3, _, 3, _ => rfl | 3, _, 4, _ => rfl | 3, _, 5, _ => rfl | 3, _, 6, _ => rfl | 3, _, 7, _ => rfl | 3, _, 8, _ => rfl),
 rfl,
 atW9, (frS8u0_mk  ⟨(fun i hi j hj => match i, hi, j, hj with | 0, _, 0, _ => rfl | 0, _, 1, _ => rfl | 0, _, 2, _ => rfl),
 rfl,
 rfl,
 (fun i hi j hj => match i, hi, j, hj with | 0, _, 0, _ => rfl | 0, _, 1, _ => rfl | 0, _, 2, _ => rfl | 0, _, 3, _ => rfl | 0, _, 4, _ => rfl | 0, _, 5, _ => rfl | 0, _, 6, _ => rfl | 0, _, 7, _ => rfl | 0, _, 8, _ => rfl | 1, _, 0, _ => rfl | 1, _, 1, _ => rfl | 1, _, 2, _ => rfl | 1, _, 3, _ => rfl | 1, _, 4, _ => rfl | 1, _, 5, _ => rfl | 1, _, 6, _ => rfl | 1, _, 7, _ => rfl | 1, _, 8, _ => rfl | 2, _, 0, _ => rfl | 2, _, 1, _ => rfl | 2, _, 2, _ => rfl | 2, _, 3, _ => rfl | 2, _, 4, _ => rfl | 2, _, 5, _ => rfl | 2, _, 6, _ => rfl | 2, _, 7, _ => rfl | 2, _, 8, _ => rfl | 3, _, 0, _ => rfl | 3, _, 1, _ => rfl | 3, _, 2, _ => rfl | 3, _, 3, _ => rfl | 3, _, 4, _ => rfl | 3, _, 5, _ => rfl | 3, _, 6, _ => rfl | 3, _, 7, _ => rfl | 3, _, 8, _ => rfl),
 rfl,
 atW1,
 (by kernel_rfl), trivial⟩)⟩)⟩)
theorem awakeC8 : PureC Try.prog 18 [] (.bool true) [] := PureC.vc aw_vc
end
end Go.Proofs.Ytjdiabjmphdhiaa.Px
namespace Go.Proofs.Ytjdiabjmphdhiaa.Px
section
open Go.RowKit Go.Proofs.Ytjdiabjmphdhiaa.Rx
end
end Go.Proofs.Ytjdiabjmphdhiaa.Px
namespace Go.Proofs.Ytjdiabjmphdhiaa.Px
section
open Go.RowKit Go.Proofs.Ytjdiabjmphdhiaa.Rx
end
end Go.Proofs.Ytjdiabjmphdhiaa.Px
namespace Go.Proofs.Ytjdiabjmphdhiaa.Px
section
open Go.RowKit Go.Proofs.Ytjdiabjmphdhiaa.Rx
theorem and255 (n : Int) : 0 ≤ bits .and .i64 n 255 ∧ bits .and .i64 n 255 < 256 := by
  have h := Wd.bits_mask n 8 (by omega)
  have h2 : bits .and .i64 n 255 = n % 256 := h
  rw [h2]; omega
theorem tmBd {x d : Int} (hx : 0 ≤ x) (hd : 0 < d) : 0 ≤ x.tmod d ∧ x.tmod d < d := ⟨Int.tmod_nonneg _ hx, Int.tmod_lt_of_pos _ hd⟩
end
end Go.Proofs.Ytjdiabjmphdhiaa.Px
namespace Go.Proofs.Ytjdiabjmphdhiaa.Px
section
open Go.RowKit Go.Proofs.Ytjdiabjmphdhiaa.Rx
def fI : In := { In0 with kind := 10 }
def pF (i : In) : Pg := ⟨2, 1, 9, 0, 0, 0, 0, [⟨⟨#[109]⟩, false, 2⟩], [], [fI, fI, fI, fI, i, fI]⟩
def sF : S8 := ⟨0, 1, 2, 3, [1, 2], [2], 4⟩
theorem pF_ok {i : In} (hi : OkI i 6) : OkP (pF i) := ⟨fun x hx => by
    have hf : OkI fI 6 := ⟨⟨by decide, by decide⟩, okV0, okV0, ⟨by decide, by decide⟩, by decide, by decide⟩
    simp only [pF, List.mem_cons, List.not_mem_nil, or_false] at hx
    rcases hx with rfl | rfl | rfl | rfl | rfl | rfl
    · exact hf
    · exact hf
    · exact hf
    · exact hf
    · exact hi
    · exact hf, by show (6 : Nat) < 1000; decide, by show (1 : Nat) < 1000; decide, by show (2 : Nat) ≤ 16; decide⟩
theorem sF_ok : OkS 2 6 sF := ⟨okR0 ⟨⟨by decide, by decide⟩, ⟨by decide, by decide⟩, ⟨by decide, by decide⟩, ⟨by decide, by decide⟩⟩, fun x hx => by
    simp only [sF, List.mem_cons, List.not_mem_nil, or_false] at hx
    omega, by decide, ⟨by decide, by decide⟩, by decide, fun x hx => by
    simp only [sF, List.mem_cons, List.not_mem_nil, or_false] at hx
    omega⟩
theorem stF {i : In} {s : S8} {o : List Ob} {e : Int} (hi : OkI i 6) (h : stepI 2 2 6 i sF = (s, o, e)) : PureC Try.prog 16 [.agg (pgA (pF i)), .agg (s8R sF)] (.tup [.agg (s8R s), obR o, .int .i64 e]) [] := by
  have h1 := stepF (pF i) sF (pF_ok hi) sF_ok
  have e1 : runD (pF i) 2 sF 1 = ⟨(stepI 2 2 6 i sF).1, [] ++ (stepI 2 2 6 i sF).2.1, 1, (stepI 2 2 6 i sF).2.2⟩ := rfl
  have e2 : runD (pF i) ((sumN (pF i).ms : Nat) : Int) sF 1 = ⟨s, o, 1, e⟩ := by rw [show ((sumN (pF i).ms : Nat) : Int) = 2 from rfl, e1, h]; rfl
  rw [e2] at h1
  exact h1
def xA (i : In) (d v pc : Int) (o : List Ob) (e : Int) : List AV := inA i ++ [.int .i64 d, .int .i64 v, .int .i64 pc, obR o, .int .i64 e]
def pcF (am : AV) : List AV := [.int .i64 2, .int .i64 1, .int .i64 9, .int .i64 0, .int .i64 0, .int .i64 0, .int .i64 0, memR [⟨⟨#[109]⟩, false, 2⟩], .nils, am]
def fo1 (L : List In) (i : In) (d v pc : Int) (o : List Ob) (e : Int) (k : Nat) : Sm := ⟨[(123, .int .i64 6), (7, .bptr 0 0), (6, .bptr 1 0), (2, .bool false), (124, .int .i64 k)], [(0, bx 28 (pcF (.own 2 0 9 0 6))), (1, bx 47 (xA i d v pc o e)), (2, ⟨0, false, 45, .rows 9 6 (rowL inC L)⟩)], 3⟩
def kI (i : In) : In := { i with kind := 10 }
def fl : Nat → List In
  | 0 => [In0, In0, In0, In0, In0, In0]
  | k + 1 => (fl k).set k (kI ((fl k).getD k default))
theorem kind_set {L : List In} {k : Nat} (hl : L.length = 6) : ∀ i, i < 6 → ∀ j, j < 9 → (bif Nat.beq i (k + 0) && Nat.ble 0 j && Nat.blt j 1 then [AV.int .i64 10].getD (j - 0) .junk else rowL inC L i j) = rowL inC (L.set k (kI (L.getD k default))) i j := by
  intro i hi j hj
  show _ = inC ((L.set k (kI (L.getD k default))).getD i default) j
  by_cases h : i = k
  · subst h
    have e1 : Nat.beq i (i + 0) = true := by simp
    have e2 : (L.set i (kI (L.getD i default))).getD i default = kI (L.getD i default) := by simp [List.getD, List.getElem?_set, hl, hi]
    rw [e1, e2]
    exact match j, hj with | 0, _ => rfl | 1, _ => rfl | 2, _ => rfl | 3, _ => rfl | 4, _ => rfl | 5, _ => rfl | 6, _ => rfl | 7, _ => rfl | 8, _ => rfl
  · have e1 : Nat.beq i (k + 0) = false := by
      cases hb : Nat.beq i (k + 0) with
      | false => rfl
      | true => exact absurd (Nat.eq_of_beq_eq_true hb) h
    have e2 : (L.set k (kI (L.getD k default))).getD i default = L.getD i default := by simp [List.getD, List.getElem?_set, Ne.symm h]
    rw [e1, e2]
    rfl
theorem fl_len : ∀ k, (fl k).length = 6
  | 0 => rfl
  | k + 1 => by rw [fl, List.length_set, fl_len k]
def frS8zf0  (Z : Prop) : Prop := ((0 : Int) = (0 : Int)) ∧ ((0 : Int) = (0 : Int)) ∧ ((0 : Int) = (0 : Int)) ∧ ((0 : Int) = (0 : Int)) ∧ Z
theorem frS8zf0_mk  {Z : Prop} (z : Z) : frS8zf0  Z := ⟨rfl, rfl, rfl, rfl, z⟩
theorem fo_step (L : List In) (i : In) (d v pc : Int) (o : List Ob) (e : Int) (k : Nat) (hk : k < 6) (hl : L.length = 6) : Vc (vcC Try.prog false (ntOf Try.prog 4) (lpC Try.prog 4 0) (fo1 L i d v pc o e k) [.b true] .nrm [(0, 0), (1, 1), (2, 2)] (fo1 (L.set k (kI (L.getD k default))) i d v pc o e (k + 1))) :=
  vc_of (q := (decide ((↑k : Int) < (6 : Int)) = true) ∧ ((0 : Int) ≤ (↑k : Int) ∧ (↑k : Int) < (↑(6 : Nat) : Int)) ∧ (k + (0 : Nat) < (6 : Nat)) ∧ (inK IntKind.i64 ((↑k : Int) + (1 : Int))) ∧ ((2 : Int) = (2 : Int)) ∧ ((1 : Int) = (1 : Int)) ∧ ((9 : Int) = (9 : Int)) ∧ (frS8zf0  (((1 : Nat) = (1 : Nat)) ∧ (∀ (i : Nat), i < (1 : Nat) → ∀ (j : Nat), j < (3 : Nat) → rowL mmC [Mm.mk (ByteArray.mk (Array.mk [(109 : UInt8)])) false (2 : Nat)] i j = rowL mmC [Mm.mk (ByteArray.mk (Array.mk [(109 : UInt8)])) false (2 : Nat)] i j) ∧ ((0 : Nat) = (0 : Nat)) ∧ ((6 : Nat) = (6 : Nat)) ∧ (In.kind i = In.kind i) ∧ (In.op i = In.op i) ∧ (In.d i = In.d i) ∧ (Vl.reg (In.a i) = Vl.reg (In.a i)) ∧ (Vl.n (In.a i) = Vl.n (In.a i)) ∧ (Vl.reg (In.b i) = Vl.reg (In.b i)) ∧ (Vl.n (In.b i) = Vl.n (In.b i)) ∧ (In.nm i = In.nm i) ∧ (In.tg i = In.tg i) ∧ (d = d) ∧ (v = v) ∧ (pc = pc) ∧ (List.length o = List.length o) ∧ (∀ (i : Nat), i < List.length o → ∀ (j : Nat), j < (2 : Nat) → rowL obC o i j = rowL obC o i j) ∧ (e = e) ∧ ((6 : Nat) = (6 : Nat)) ∧ (∀ (i : Nat), i < (6 : Nat) → ∀ (j : Nat), j < (9 : Nat) → (bif Nat.beq i (k + (0 : Nat)) && Nat.ble (0 : Nat) j && Nat.blt j (1 : Nat) then List.getD [AV.int IntKind.i64 (10 : Int)] (j - (0 : Nat)) AV.junk else rowL inC L i j) = rowL inC (List.set L k (kI (List.getD L k Inhabited.default))) i j) ∧ ((6 : Int) = (6 : Int)) ∧ (false = false) ∧ ((↑k : Int) + (1 : Int) = (↑(k + (1 : Nat)) : Int)) ∧ True))) (by kernel_rfl)
    ⟨(decide_eq_true (by first | omega | (simp; omega) | (simp; done))),
 (by first | omega | rfl),
 (by first | omega | rfl),
 (in64 (by omega) (by omega)),
 rfl,
 rfl,
 rfl, (frS8zf0_mk  ⟨rfl,
 (fun _ _ _ _ => rfl),
 rfl,
 rfl,
 rfl,
 rfl,
 rfl,
 rfl,
 rfl,
 rfl,
 rfl,
 rfl,
 rfl,
 rfl,
 rfl,
 rfl,
 rfl,
 (fun _ _ _ _ => rfl),
 rfl,
 rfl,
 (kind_set hl),
 rfl,
 rfl,
 (by first | omega | rfl), trivial⟩)⟩
theorem fo_end (L : List In) (i : In) (d v pc : Int) (o : List Ob) (e : Int) : Vc (vcC Try.prog false (ntOf Try.prog 4) (lpC Try.prog 4 0) (fo1 L i d v pc o e 6) [.b false] (.ext 0) [(0, 0), (1, 1), (2, 2)] (fo1 L i d v pc o e 6)) :=
  vc_of (q := (decide ((↑(6 : Nat) : Int) < (6 : Int)) = false) ∧ ((2 : Int) = (2 : Int)) ∧ ((1 : Int) = (1 : Int)) ∧ ((9 : Int) = (9 : Int)) ∧ (frS8zf0  (((1 : Nat) = (1 : Nat)) ∧ (∀ (i : Nat), i < (1 : Nat) → ∀ (j : Nat), j < (3 : Nat) → rowL mmC [Mm.mk (ByteArray.mk (Array.mk [(109 : UInt8)])) false (2 : Nat)] i j = rowL mmC [Mm.mk (ByteArray.mk (Array.mk [(109 : UInt8)])) false (2 : Nat)] i j) ∧ ((0 : Nat) = (0 : Nat)) ∧ ((6 : Nat) = (6 : Nat)) ∧ (In.kind i = In.kind i) ∧ (In.op i = In.op i) ∧ (In.d i = In.d i) ∧ (Vl.reg (In.a i) = Vl.reg (In.a i)) ∧ (Vl.n (In.a i) = Vl.n (In.a i)) ∧ (Vl.reg (In.b i) = Vl.reg (In.b i)) ∧ (Vl.n (In.b i) = Vl.n (In.b i)) ∧ (In.nm i = In.nm i) ∧ (In.tg i = In.tg i) ∧ (d = d) ∧ (v = v) ∧ (pc = pc) ∧ (List.length o = List.length o) ∧ (∀ (i : Nat), i < List.length o → ∀ (j : Nat), j < (2 : Nat) → rowL obC o i j = rowL obC o i j) ∧ (e = e) ∧ ((6 : Nat) = (6 : Nat)) ∧ (∀ (i : Nat), i < (6 : Nat) → ∀ (j : Nat), j < (9 : Nat) → rowL inC L i j = rowL inC L i j) ∧ ((6 : Int) = (6 : Int)) ∧ (false = false) ∧ ((↑(6 : Nat) : Int) = (↑(6 : Nat) : Int)) ∧ True))) (by kernel_rfl)
    ⟨(decide_eq_false (by first | omega | (simp; omega) | (simp; done))),
 rfl,
 rfl,
 rfl, (frS8zf0_mk  ⟨rfl,
 (fun _ _ _ _ => rfl),
 rfl,
 rfl,
 rfl,
 rfl,
 rfl,
 rfl,
 rfl,
 rfl,
 rfl,
 rfl,
 rfl,
 rfl,
 rfl,
 rfl,
 rfl,
 (fun _ _ _ _ => rfl),
 rfl,
 rfl,
 (fun _ _ _ _ => rfl),
 rfl,
 rfl,
 rfl, trivial⟩)⟩
theorem fo_loop (i : In) (d v pc : Int) (o : List Ob) (e : Int) : Ok Try.prog (ntOf Try.prog 4) (.loop (lpC Try.prog 4 0)) (fo1 (fl 0) i d v pc o e 0).st (.ext 0) (fo1 [fI, fI, fI, fI, fI, fI] i d v pc o e 6).st :=
  Ok.loop (P := Try.prog) (nt := ntOf Try.prog 4) (c := lpC Try.prog 4 0) (F := fun k => fo1 (fl k) i d v pc o e k) (m := 6) (x := .ext 0) (J := fo1 [fI, fI, fI, fI, fI, fI] i d v pc o e 6) (fun k hk => Ok.vc (fo_step (fl k) i d v pc o e k hk (fl_len k))) (Ok.vc (fo_end _ i d v pc o e)) (by simp)
end
end Go.Proofs.Ytjdiabjmphdhiaa.Px
