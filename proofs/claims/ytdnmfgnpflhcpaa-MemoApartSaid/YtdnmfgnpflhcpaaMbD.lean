/- Merged: B1, WdPl, B2, E0, M1, M2, L0, Rx28, Rx29, Rx30, ItBw, O1, O2, O3, M3. -/
import Derived.Test.YtdnmfgnpflhcpaaMbC
import Derived.RangeFuncNested
import Derived.RangeFuncLeaves
import Derived.RangeFuncBound
import Derived.RangeFuncCalls
import Derived.WalkKit
import Derived.OwnWalkIn
import Derived.TacticsInMore
import Derived.LoopNIn
import Derived.LoopIn
set_option linter.unusedVariables false
set_option linter.unusedSimpArgs false
set_option maxRecDepth 100000
namespace Go.Proofs.Ytdnmfgnpflhcpaa.Px
section
open Go.RowKit Go.Proofs.Ytdnmfgnpflhcpaa.Rx
structure S7 where
  r0 : Int
  r1 : Int
  r2 : Int
  r3 : Int
  m : List Int
def put7 (s : S7) (p : Pl) (v : Int) : S7 :=
  if p.reg = true then (if p.n = 0 then { s with r0 := v } else if p.n = 1 then { s with r1 := v } else if p.n = 2 then { s with r2 := v } else { s with r3 := v }) else { s with m := s.m.set p.n v }
def putK (W : Int) (pl : List Pl) (l : List Int) (s0 : S7) : Nat → S7
  | 0 => s0
  | k + 1 => put7 (putK W pl l s0 k) (pl.getD k default) (Wd.maskV W (l.getD k 0))
def zer7 (N : Nat) : S7 := ⟨0, 0, 0, 0, List.replicate N 0⟩
def plOk (N : Nat) (p : Pl) : Prop := (p.reg = true → p.n < 4) ∧ (p.reg = false → p.n < N)
def stZ (a : AV) : List AV := [.int .i64 0, .int .i64 0, .int .i64 0, .int .i64 0, a, .nils, .int .i64 0]
def stC (s : S7) (a : AV) : List AV := [.int .i64 s.r0, .int .i64 s.r1, .int .i64 s.r2, .int .i64 s.r3, a, .nils, .int .i64 0]
def bx (e : TypeId) (cs : List AV) : Blk := ⟨0, false, e, .box cs⟩
def blkI (l : List Int) : Blk := ⟨0, false, 3, .rows 1 l.length (rowI l)⟩
theorem put7_len (s : S7) (p : Pl) (v : Int) : (put7 s p v).m.length = s.m.length := by
  unfold put7
  repeat' split
  all_goals first | rfl | simp
theorem putK_len (W : Int) (pl : List Pl) (l : List Int) (s : S7) (k : Nat) : (putK W pl l s k).m.length = s.m.length := by
  induction k with
  | zero => rfl
  | succ k ih => rw [putK, put7_len, ih]
theorem rowI_set {m : List Int} {n i j : Nat} {v : Int} {a : AV} (hi : i < m.length) (ha : a = .int .i64 v) : (bif Nat.beq i n then a else rowI m i j) = rowI (m.set n v) i j := by
  unfold rowI
  subst ha
  by_cases h : i = n
  · subst h
    simp [List.getD, hi]
  · have : Nat.beq i n = false := by
      cases hb : Nat.beq i n with
      | false => rfl
      | true => exact absurd (Nat.eq_of_beq_eq_true hb) h
    rw [this]
    simp [List.getD, List.getElem?_set, Ne.symm h]
theorem set_row {m : List Int} {n : Nat} {v : Int} : ∀ i, i < m.length → ∀ j, j < 1 → (bif Nat.ble 0 j && Nat.blt j 1 && Nat.beq i (n + 0) then [AV.int .i64 v].getD (j - 0) .junk else AV.int .i64 (m.getD i 0)) = .int .i64 ((m.set n v).getD i 0) := by
  intro i hi j hj
  obtain rfl : j = 0 := by omega
  show (bif Nat.beq i n then AV.int .i64 v else AV.int .i64 (m.getD i 0)) = _
  exact rowI_set (m := m) (i := i) (j := 0) (n := n) (v := v) hi rfl
theorem rowI_rep {N : Nat} {a : AV} (ha : a = .int .i64 0) (i j : Nat) (hi : i < N) : a = rowI (List.replicate N 0) i j := by
  unfold rowI
  rw [ha]
  simp [List.getD, hi]
theorem places_ok (r : Nat → Int) (ms : List Mm) : ∀ p ∈ places r ms, plOk (sumN ms) p := by
  intro p hp
  rcases List.mem_append.1 hp with hp | hp
  · have key : ∀ k, p ∈ regL r k → p.reg = true ∧ p.n < k := by
      intro k
      induction k with
      | zero => intro h; cases h
      | succ k ih =>
        intro h
        rcases List.mem_append.1 h with h | h
        · have := ih h; exact ⟨this.1, by omega⟩
        · split at h
          · cases h
          · rw [List.mem_singleton] at h
            subst h
            exact ⟨rfl, Nat.lt_succ_self k⟩
    have := key 4 hp
    exact ⟨fun _ => this.2, fun h => by rw [this.1] at h; cases h⟩
  · have key : ∀ (l : List Mm) (at_ : Nat), p ∈ memL at_ l → p.reg = false ∧ p.n < at_ + sumN l := by
      intro l
      induction l with
      | nil => intro at_ h; cases h
      | cons m l ih =>
        intro at_ h
        rcases List.mem_append.1 h with h | h
        · obtain ⟨i, hi, rfl⟩ := List.mem_map.1 h
          rw [List.mem_range] at hi
          refine ⟨rfl, ?_⟩
          show at_ + i < _
          simp only [sumN]; omega
        · have := ih _ h
          refine ⟨this.1, ?_⟩
          simp only [sumN]; omega
    have := key ms 0 hp
    exact ⟨fun h => (by rw [this.1] at h; cases h), fun _ => by omega⟩
theorem places_length (r : Nat → Int) (ms : List Mm) : (places r ms).length ≤ 4 + sumN ms := by
  have := regL_le r 4
  have h2 := memL_length 0 ms
  simp only [places, List.length_append]; omega
theorem getD_mem {pl : List Pl} {k : Nat} (h : k < pl.length) : pl.getD k default ∈ pl := by
  simp [List.getD, h]
structure Vl where
  reg : Bool
  n : Int
structure In where
  kind : Int
  op : Int
  d : Int
  a : Vl
  b : Vl
  nm : ByteArray
  tg : Int
structure Lb where
  nm : ByteArray
  at_ : Int
structure Pg where
  W : Int
  win : Int
  fuel : Int
  r0 : Int
  r1 : Int
  r2 : Int
  r3 : Int
  ms : List Mm
  ls : List Lb
  is : List In
structure S8 where
  r0 : Int
  r1 : Int
  r2 : Int
  r3 : Int
  m : List Int
  st : List Int
  pc : Int
structure Ob where
  k : Int
  a : Int
def In0 : In := ⟨0, 0, 0, ⟨false, 0⟩, ⟨false, 0⟩, ⟨#[]⟩, 0⟩
instance : Inhabited In := ⟨In0⟩
instance : Inhabited Lb := ⟨⟨⟨#[]⟩, 0⟩⟩
instance : Inhabited Ob := ⟨⟨0, 0⟩⟩
/-- an instruction's cells -/
def inA (i : In) : List AV := [.int .i64 i.kind, .int .i64 i.op, .int .i64 i.d, .bool i.a.reg, .int .i64 i.a.n, .bool i.b.reg, .int .i64 i.b.n, .str i.nm, .int .i64 i.tg]
def inC (i : In) (j : Nat) : AV := (inA i).getD j .junk
def inR (l : List In) : AV := .row 9 l.length (rowL inC l)
def vlA (v : Vl) : List AV := [.bool v.reg, .int .i64 v.n]
def lbC (l : Lb) (j : Nat) : AV := [AV.str l.nm, .int .i64 l.at_].getD j .junk
def lbR (l : List Lb) : AV := .row 2 l.length (rowL lbC l)
def obC (o : Ob) (j : Nat) : AV := [AV.int .i64 o.k, .int .i64 o.a].getD j .junk
def obR (l : List Ob) : AV := .row 2 l.length (rowL obC l)
/-- a program's cells -/
def pgA (p : Pg) : List AV := [.int .i64 p.W, .int .i64 p.win, .int .i64 p.fuel, .int .i64 p.r0, .int .i64 p.r1, .int .i64 p.r2, .int .i64 p.r3, memR p.ms, lbR p.ls, inR p.is]
/-- a state's cells; where its rows lie -/
def s8A (s : S8) (am ak : AV) : List AV := [.int .i64 s.r0, .int .i64 s.r1, .int .i64 s.r2, .int .i64 s.r3, am, ak, .int .i64 s.pc]
/-- the instruction at a place -/
def atI (p : Pg) (pc : Int) : In := if 0 ≤ pc ∧ pc < p.is.length then p.is.getD pc.toNat default else { In0 with kind := 12 }
def S8.reg (s : S8) (n : Int) : Int := if n = 0 then s.r0 else if n = 1 then s.r1 else if n = 2 then s.r2 else s.r3
def S8.set (s : S8) (n v : Int) : S8 := ⟨if n = 0 then v else s.r0, if n = 1 then v else s.r1, if n = 2 then v else s.r2, if n = 3 then v else s.r3, s.m, s.st, s.pc⟩
def okV (v : Vl) : Prop := v.reg = true → 0 ≤ v.n ∧ v.n < 4
/-- registers are words -/
def okR (s : S8) : Prop := (0 ≤ s.r0 ∧ s.r0 < 65536) ∧ (0 ≤ s.r1 ∧ s.r1 < 65536) ∧ (0 ≤ s.r2 ∧ s.r2 < 65536) ∧ (0 ≤ s.r3 ∧ s.r3 < 65536)
def OkI (i : In) (len : Int) : Prop := (1 ≤ i.kind ∧ i.kind ≤ 12) ∧ okV i.a ∧ okV i.b ∧ (0 ≤ i.d ∧ i.d < 4) ∧ (0 ≤ i.tg ∧ i.tg ≤ len)
structure OkP (p : Pg) : Prop where
  ins : ∀ i ∈ p.is, OkI i p.is.length
  len : p.is.length < 1000
  ms : p.ms.length < 1000
  sum : sumN p.ms ≤ 16
structure OkS (c len : Int) (s : S8) : Prop where
  reg : okR s
  mem : ∀ x ∈ s.m, 0 ≤ x ∧ x < 65536
  c : c = s.m.length
  pc : -1 ≤ s.pc ∧ s.pc ≤ len
  st : s.st.length ≤ 100
  stk : ∀ x ∈ s.st, -1 ≤ x ∧ x ≤ len
def s8R (s : S8) : List AV := s8A s (lR s.m) (lR s.st)
def s8N (s : S8) : List AV := s8A s (lR s.m) .nils
theorem four {n : Int} (h0 : 0 ≤ n) (h1 : n < 4) : n = 0 ∨ n = 1 ∨ n = 2 ∨ n = 3 := by omega
theorem S8.reg_bd {s : S8} (h : okR s) (n : Int) : 0 ≤ s.reg n ∧ s.reg n < 65536 := by
  obtain ⟨h0, h1, h2, h3⟩ := h
  unfold S8.reg
  repeat' split
  all_goals assumption
theorem atI_in {p : Pg} {pc : Int} (h0 : 0 ≤ pc) (h1 : pc < p.is.length) : atI p pc = p.is.getD pc.toNat default := if_pos ⟨h0, h1⟩
theorem atI_out {p : Pg} {pc : Int} (h : ¬ (0 ≤ pc ∧ pc < p.is.length)) : atI p pc = { In0 with kind := 12 } := if_neg h
theorem okV0 : okV ⟨false, 0⟩ := fun h => by cases h
theorem atI_ok {p : Pg} (h : OkP p) (pc : Int) : OkI (atI p pc) p.is.length ∧ ((atI p pc).kind ≠ 12 → 0 ≤ pc ∧ pc < p.is.length) := by
  by_cases hp : 0 ≤ pc ∧ pc < p.is.length
  · rw [atI_in hp.1 hp.2]
    refine ⟨h.ins _ ?_, fun _ => hp⟩
    have hlt : pc.toNat < p.is.length := by omega
    simp [List.getD, hlt]
  · rw [atI_out hp]
    exact ⟨⟨⟨by show (1 : Int) ≤ 12; decide, by show (12 : Int) ≤ 12; decide⟩, okV0, okV0, ⟨by show (0 : Int) ≤ 0; decide, by show (0 : Int) < 4; decide⟩, by show (0 : Int) ≤ 0; decide, by show (0 : Int) ≤ _; omega⟩, fun hk => absurd rfl hk⟩
theorem set_ok {s : S8} (h : okR s) (n : Int) {v : Int} (hv : 0 ≤ v ∧ v < 65536) : okR (s.set n v) := by
  obtain ⟨h0, h1, h2, h3⟩ := h
  refine ⟨?_, ?_, ?_, ?_⟩ <;> (show 0 ≤ (if _ then v else _) ∧ (if _ then v else _) < 65536) <;> split <;> assumption
theorem doV_bd (W op a b : Int) : 0 ≤ Wd.doV W op a b ∧ Wd.doV W op a b < 65536 := Wd.maskV_bd _ _
theorem mem_bd {m : List Int} (h : ∀ x ∈ m, 0 ≤ x ∧ x < 65536) (n : Nat) : 0 ≤ m.getD n 0 ∧ m.getD n 0 < 65536 := by
  by_cases hn : n < m.length
  · exact h _ (by simp [List.getD, hn])
  · simp [List.getD, List.getElem?_eq_none (Nat.not_lt.1 hn)]
theorem tmod_bd {a : Int} {b : Int} (h0 : 0 ≤ a) (hb : 0 < b) : 0 ≤ a.tmod b ∧ a.tmod b < b := ⟨Int.tmod_nonneg _ h0, Int.tmod_lt_of_pos _ hb⟩
theorem mx0 (a : Int) : (if a < 0 then 0 else a) = max a 0 := by split <;> omega
theorem mnI (a b : Int) : (if b < a then b else a) = min a b := by split <;> omega
end
end Go.Proofs.Ytdnmfgnpflhcpaa.Px
namespace Go.Proofs.Ytdnmfgnpflhcpaa
section
open Go.RowKit
namespace Wd
theorem sizeV_pos {w : Int} (h : okB w = true) : 2 ≤ sizeV w := by
  obtain ⟨k, rfl, h1, hk⟩ := okB_nat h
  unfold sizeV; rw [if_pos h, Int.toNat_natCast]
  have : (2 : Nat) ^ 1 ≤ 2 ^ k := Nat.pow_le_pow_right (by omega) h1
  have h2 : ((2 ^ 1 : Nat) : Int) ≤ ((2 ^ k : Nat) : Int) := by exact_mod_cast this
  simpa using h2
theorem tmod_mask {w n : Int} (h : okB w = true) : (n.tmod (sizeV w) + sizeV w) % sizeV w = maskV w n ∧ - sizeV w < n.tmod (sizeV w) ∧ n.tmod (sizeV w) < sizeV w := by
  have hs := sizeV_pos h
  have h1 := Int.tmod_lt_of_pos n (b := sizeV w) (by omega)
  have h2 : - sizeV w < n.tmod (sizeV w) := by
    by_cases hn : 0 ≤ n
    · have := Int.tmod_nonneg (sizeV w) hn; omega
    · have := Int.tmod_lt_of_pos (-n) (b := sizeV w) (by omega)
      rw [Int.neg_tmod] at this; omega
  refine ⟨?_, h2, h1⟩
  rw [Int.add_emod_right]
  have e : maskV w n = n % sizeV w := by unfold maskV sizeV; rw [if_pos h, if_pos h]
  rw [e, Int.tmod_eq_emod]
  split
  · simp
  · rw [Int.natAbs_of_nonneg (by omega), Int.sub_emod, Int.emod_self, Int.sub_zero, Int.emod_emod, Int.emod_emod]
end Wd
namespace Wd
theorem lt_pow {w x : Int} (h : okB w = true) (h1 : x < sizeV w) (h0 : 0 ≤ x) : x.toNat < 2 ^ w.toNat := by
  unfold sizeV at h1; rw [if_pos h] at h1
  have : ((2 ^ w.toNat : Nat) : Int) = 2 ^ w.toNat := by simp
  omega
theorem mask_nat {w : Int} {m : Nat} (h : okB w = true) (h1 : m < 2 ^ w.toNat) : maskV w (m : Int) = (m : Int) := by
  refine maskV_of_lt h (by omega) ?_
  unfold sizeV; rw [if_pos h]
  have : ((2 ^ w.toNat : Nat) : Int) = 2 ^ w.toNat := by simp
  omega
theorem ref3 {w a b : Int} (h : okB w = true) : bits .and .i64 (maskV w a) (maskV w b) = doV w 3 a b := by
  have ha := maskV_bd w a; have hb := maskV_bd w b
  rw [bits_and ha.1 ha.2 hb.1 hb.2]; unfold doV; simp only [rawV]; simp
  refine (mask_nat h ?_).symm
  exact Nat.and_lt_two_pow _ (lt_pow h (maskV_lt h) hb.1)
theorem ref4 {w a b : Int} (h : okB w = true) : bits .or .i64 (maskV w a) (maskV w b) = doV w 4 a b := by
  have ha := maskV_bd w a; have hb := maskV_bd w b
  rw [bits_or ha.1 ha.2 hb.1 hb.2]; unfold doV; simp only [rawV]; simp
  refine (mask_nat h ?_).symm
  exact Nat.or_lt_two_pow (lt_pow h (maskV_lt h) ha.1) (lt_pow h (maskV_lt h) hb.1)
theorem ref5 {w a b : Int} (h : okB w = true) : bits .xor .i64 (maskV w a) (maskV w b) = doV w 5 a b := by
  have ha := maskV_bd w a; have hb := maskV_bd w b
  rw [bits_xor ha.1 ha.2 hb.1 hb.2]; unfold doV; simp only [rawV]; simp
  refine (mask_nat h ?_).symm
  exact Nat.xor_lt_two_pow (lt_pow h (maskV_lt h) ha.1) (lt_pow h (maskV_lt h) hb.1)
theorem do6_far {w a b : Int} (h : w ≤ maskV w b) : doV w 6 a b = 0 := by
  unfold doV; simp only [rawV]; simp
  unfold maskV; split
  · rename_i ho
    have := okB_iff.1 ho
    refine pow_mod ?_
    unfold maskV at h; rw [if_pos ho] at h; omega
  · rfl
theorem do7_far {w a b : Int} (hw : okB w = true) (h : w ≤ maskV w b) : doV w 7 a b = 0 := by
  have ha := maskV_bd w a
  have ho := okB_iff.1 hw
  have hl := maskV_lt (n := a) hw
  have e : maskV w a / 2 ^ (maskV w b).toNat = 0 := by
    refine Int.ediv_eq_zero_of_lt ha.1 ?_
    unfold sizeV at hl; rw [if_pos hw] at hl
    have : (2 : Nat) ^ w.toNat ≤ 2 ^ (maskV w b).toNat := Nat.pow_le_pow_right (by omega) (by omega)
    have h2 : ((2 ^ w.toNat : Nat) : Int) ≤ ((2 ^ (maskV w b).toNat : Nat) : Int) := by exact_mod_cast this
    simp at h2; omega
  unfold doV; simp only [rawV]; simp
  rw [e]; simp [maskV]
theorem ref7 {w a b : Int} (hw : okB w = true) : maskV w a / 2 ^ (maskV w b).toNat = doV w 7 a b := by
  have ha := maskV_bd w a
  have hl := maskV_lt (n := a) hw
  unfold doV; simp only [rawV]; simp
  refine (maskV_of_lt hw ?_ ?_).symm
  · exact Int.ediv_nonneg ha.1 (by have := pow_pos (maskV w b).toNat; omega)
  · have := Int.ediv_le_self (2 ^ (maskV w b).toNat) ha.1; omega
theorem ref7' {w a b : Int} (hw : okB w = true) : maskV w a / 2 ^ min (maskV w b).toNat 64 = doV w 7 a b := by
  rw [shr_min (maskV_bd w a).1 (maskV_bd w a).2]; exact ref7 hw
theorem mask_one {w : Int} (hw : okB w = true) (b : Bool) : maskV w (tI b) = tI b := by
  have := sizeV_pos hw
  exact maskV_of_lt hw (by unfold tI; split <;> omega) (by unfold tI; split <;> omega)
theorem ref6 {w a b : Int} : maskV w (wrap64 (maskV w a * 2 ^ (min (maskV w b).toNat 64))) = doV w 6 a b := by
  unfold doV; rw [← recV_mask]; rfl
theorem ref0 {w a b op : Int} (h : op < 1 ∨ 10 < op) : 0 = doV w op a b := by
  unfold doV; rw [raw_no h]; simp [maskV]
theorem ref9 {w a b : Int} (hw : okB w = true) : tI (decide (maskV w a < maskV w b)) = doV w 9 a b := by
  rw [← mask_one hw]; unfold doV; rw [rec9, recV_mask]
theorem ref10 {w a b : Int} (hw : okB w = true) : tI (maskV w a == maskV w b) = doV w 10 a b := by
  rw [← mask_one hw]; unfold doV; rw [rec10, recV_mask]
end Wd
end
end Go.Proofs.Ytdnmfgnpflhcpaa
namespace Go.Proofs.Ytdnmfgnpflhcpaa.Px
section
open Go.RowKit Go.Proofs.Ytdnmfgnpflhcpaa.Rx
def pgP (p : Pg) : AV := .rptr 10 (fun q => (pgA p).getD q .junk) 0
theorem ok_no {w : Int} (h : ¬ (1 ≤ w ∧ w ≤ 16)) : Wd.okB w = false := by
  cases hb : Wd.okB w with
  | false => rfl
  | true => exact absurd (Wd.okB_iff.1 hb) h
theorem sizeV_no {w : Int} (h : ¬ (1 ≤ w ∧ w ≤ 16)) : Wd.sizeV w = 0 := by simp [Wd.sizeV, ok_no h]
theorem maskV_no {w n : Int} (h : ¬ (1 ≤ w ∧ w ≤ 16)) : Wd.maskV w n = 0 := by simp [Wd.maskV, ok_no h]
theorem ok_yes {w : Int} (h : 1 ≤ w ∧ w ≤ 16) : Wd.okB w = true := Wd.okB_iff.2 h
theorem sz_eq {k : Nat} (h : 1 ≤ k ∧ k ≤ 16) : IntKind.i64.wrap (1 * 2 ^ min (IntKind.u64.wrap (k : Int)).toNat IntKind.i64.bits) = Wd.sizeV (k : Int) := by
  rcases (by omega : k = 1 ∨ k = 2 ∨ k = 3 ∨ k = 4 ∨ k = 5 ∨ k = 6 ∨ k = 7 ∨ k = 8 ∨ k = 9 ∨ k = 10 ∨ k = 11 ∨ k = 12 ∨ k = 13 ∨ k = 14 ∨ k = 15 ∨ k = 16) with rfl | rfl | rfl | rfl | rfl | rfl | rfl | rfl | rfl | rfl | rfl | rfl | rfl | rfl | rfl | rfl <;> decide
theorem tmod_pos2 {a s : Int} (h : 0 < s) (h1 : -s < a) : (a + s).tmod s = (a + s) % s := Int.tmod_eq_emod_of_nonneg (by omega)
theorem size_y (k : Nat) (h : 1 ≤ k ∧ k ≤ 16) : Vc (vcFn Try.prog false 39 [.int .i64 k] [.bd false, .bd false] [] (.int .i64 (Wd.sizeV k)) []) := vc_by (cj (df ((k : Int) < 1)) (cj (df ((k : Int) > 16)) (cj (show (0 : Int) ≤ IntKind.wrap IntKind.u64 (k : Int) from by rcases (by omega : k = 1 ∨ k = 2 ∨ k = 3 ∨ k = 4 ∨ k = 5 ∨ k = 6 ∨ k = 7 ∨ k = 8 ∨ k = 9 ∨ k = 10 ∨ k = 11 ∨ k = 12 ∨ k = 13 ∨ k = 14 ∨ k = 15 ∨ k = 16) with rfl | rfl | rfl | rfl | rfl | rfl | rfl | rfl | rfl | rfl | rfl | rfl | rfl | rfl | rfl | rfl <;> decide) (cj (show IntKind.wrap IntKind.i64 ((1 : Int) * 2 ^ Min.min (k % (18446744073709551616 : Nat)) (64 : Nat)) = Wd.sizeV (k : Int) from (sz_eq h)) trivial)))) (by kernel_rfl)
theorem size_lo (w : Int) (h : w < 1) : Vc (vcFn Try.prog false 39 [.int .i64 w] [.bd true] [] (.int .i64 (Wd.sizeV w)) []) := vc_by (cj (dt (w < 1)) (cj (show (0 : Int) = Wd.sizeV w from (sizeV_no (by omega)).symm) trivial)) (by kernel_rfl)
theorem size_hi (w : Int) (h : 16 < w) : Vc (vcFn Try.prog false 39 [.int .i64 w] [.bd false, .bd true] [] (.int .i64 (Wd.sizeV w)) []) := vc_by (cj (df (w < 1)) (cj (dt (w > 16)) (cj (show (0 : Int) = Wd.sizeV w from (sizeV_no (by omega)).symm) trivial))) (by kernel_rfl)
theorem rsizeC (w : Int) : PureC Try.prog 39 [.int .i64 w] (.int .i64 (Wd.sizeV w)) [] := by
  by_cases h1 : w < 1
  · exact PureC.vc (size_lo w h1)
  · by_cases h2 : 16 < w
    · exact PureC.vc (size_hi w h2)
    · obtain ⟨k, rfl⟩ : ∃ k : Nat, w = (k : Int) := ⟨w.toNat, by omega⟩
      exact PureC.vc (size_y k (by omega))
theorem sB20 (w : Int) (h : 1 ≤ w ∧ w ≤ 16) : (Wd.sizeV w == (0 : Int)) = false := by have := Wd.sizeV_pos (ok_yes h); simp; omega
abbrev oB20 (w : Int) : Orc := .cl [.int .i64 w] (.int .i64 (Wd.sizeV w)) []
theorem mask_y (w n : Int) (h : 1 ≤ w ∧ w ≤ 16) : Vc (vcFn Try.prog false 30 [.int .i64 w, .int .i64 n] [oB20 w, .bd false] [] (.int .i64 (Wd.maskV w n)) []) := vc_by (cj (rf w) (cj (rsizeC w) (cj (sB20 w h) (cj (show Wd.sizeV w ≠ 0 from by have := Wd.sizeV_pos (ok_yes h); omega) (cj (show inK IntKind.i64 (Int.tmod n (Wd.sizeV w) + Wd.sizeV w) from by have h1 := Wd.tmod_mask (n := n) (ok_yes h); have := Wd.sizeV_bd w; exact in64 (by omega) (by omega)) (cj (show Wd.sizeV w ≠ 0 from by have := Wd.sizeV_pos (ok_yes h); omega) (cj (show Int.tmod (Int.tmod n (Wd.sizeV w) + Wd.sizeV w) (Wd.sizeV w) = Wd.maskV w n from by have h1 := Wd.tmod_mask (n := n) (ok_yes h); have h2 := Wd.sizeV_pos (ok_yes h); rw [tmod_pos2 (by omega) h1.2.1]; exact h1.1) trivial))))))) (by kernel_rfl)
theorem mask_n (w n : Int) (h : ¬ (1 ≤ w ∧ w ≤ 16)) : Vc (vcFn Try.prog false 30 [.int .i64 w, .int .i64 n] [oB20 w, .bd true] [] (.int .i64 (Wd.maskV w n)) []) := vc_by (cj (rf w) (cj (rsizeC w) (cj (show (Wd.sizeV w == (0 : Int)) = true from by rw [sizeV_no h]; rfl) (cj (show (0 : Int) = Wd.maskV w n from (maskV_no h).symm) trivial)))) (by kernel_rfl)
theorem rmaskC (w n : Int) : PureC Try.prog 30 [.int .i64 w, .int .i64 n] (.int .i64 (Wd.maskV w n)) [] := by
  by_cases h : 1 ≤ w ∧ w ≤ 16
  · exact PureC.vc (mask_y w n h)
  · exact PureC.vc (mask_n w n h)
theorem truth_true (b : Bool) (h : b = true) : Vc (vcFn Try.prog false 54 [.bool b] [.b true] [] (.int .i64 (Wd.tI b)) []) := vc_by (cj h (cj (show (1 : Int) = Wd.tI b from by rw [h]; rfl) trivial)) (by kernel_rfl)
theorem truth_false (b : Bool) (h : b = false) : Vc (vcFn Try.prog false 54 [.bool b] [.b false] [] (.int .i64 (Wd.tI b)) []) := vc_by (cj h (cj (show (0 : Int) = Wd.tI b from by rw [h]; rfl) trivial)) (by kernel_rfl)
theorem rtruthC (b : Bool) : PureC Try.prog 54 [.bool b] (.int .i64 (Wd.tI b)) [] := by
  cases h : b with
  | true => exact PureC.vc (truth_true true rfl)
  | false => exact PureC.vc (truth_false false rfl)
abbrev oB22 (w : Int) (b : Int) : Orc := .cl [.int .i64 w, .int .i64 b] (.int .i64 (Wd.maskV w b)) []
abbrev oB21 (w : Int) (a : Int) : Orc := .cl [.int .i64 w, .int .i64 a] (.int .i64 (Wd.maskV w a)) []
theorem do_1 (w a b : Int) (h : 1 ≤ w ∧ w ≤ 16) : Vc (vcFn Try.prog false 47 [.int .i64 w, .int .i64 1, .int .i64 a, .int .i64 b] [oB20 w, .bd false, oB21 w a, oB22 w b, .bd true, .cl [.int .i64 w, .int .i64 ((Wd.maskV w a) + (Wd.maskV w b))] (.int .i64 (Wd.maskV w ((Wd.maskV w a) + (Wd.maskV w b)))) []] [] (.tup [.int .i64 (Wd.doV w 1 a b), .bool (Wd.doB w 1)]) []) := vc_by (cj (rf w) (cj (rsizeC w) (cj (sB20 w h) (cj (rf w) (cj (rf a) (cj (rmaskC w a) (cj (rf w) (cj (rf b) (cj (rmaskC w b) (cj (e1 (1 : Int) 1) (cj (show inK IntKind.i64 (Wd.maskV w a + Wd.maskV w b) from by have h1 := Wd.maskV_bd w a; have h2 := Wd.maskV_bd w b; exact in64 (by omega) (by omega)) (cj (rf w) (cj (rf (Wd.maskV w a + Wd.maskV w b)) (cj (rmaskC w ((Wd.maskV w a) + (Wd.maskV w b))) (cj (rf (Wd.doV w (1 : Int) a b)) (cj (show true = Wd.doB w (1 : Int) from by simp [Wd.doB, ok_yes h, Wd.opB]) trivial)))))))))))))))) (by kernel_rfl)
theorem do_2 (w a b : Int) (h : 1 ≤ w ∧ w ≤ 16) : Vc (vcFn Try.prog false 47 [.int .i64 w, .int .i64 2, .int .i64 a, .int .i64 b] [oB20 w, .bd false, oB21 w a, oB22 w b, .bd false, .bd true, .cl [.int .i64 w, .int .i64 ((Wd.maskV w a) - (Wd.maskV w b))] (.int .i64 (Wd.maskV w ((Wd.maskV w a) - (Wd.maskV w b)))) []] [] (.tup [.int .i64 (Wd.doV w 2 a b), .bool (Wd.doB w 2)]) []) := vc_by (cj (rf w) (cj (rsizeC w) (cj (sB20 w h) (cj (rf w) (cj (rf a) (cj (rmaskC w a) (cj (rf w) (cj (rf b) (cj (rmaskC w b) (cj (e0 (2 : Int) 1) (cj (e1 (2 : Int) 2) (cj (show inK IntKind.i64 (Wd.maskV w a - Wd.maskV w b) from by have h1 := Wd.maskV_bd w a; have h2 := Wd.maskV_bd w b; exact in64 (by omega) (by omega)) (cj (rf w) (cj (rf (Wd.maskV w a - Wd.maskV w b)) (cj (rmaskC w ((Wd.maskV w a) - (Wd.maskV w b))) (cj (rf (Wd.doV w (2 : Int) a b)) (cj (show true = Wd.doB w (2 : Int) from by simp [Wd.doB, ok_yes h, Wd.opB]) trivial))))))))))))))))) (by kernel_rfl)
theorem do_3 (w a b : Int) (h : 1 ≤ w ∧ w ≤ 16) : Vc (vcFn Try.prog false 47 [.int .i64 w, .int .i64 3, .int .i64 a, .int .i64 b] [oB20 w, .bd false, oB21 w a, oB22 w b, .bd false, .bd false, .bd true] [] (.tup [.int .i64 (Wd.doV w 3 a b), .bool (Wd.doB w 3)]) []) := vc_by (cj (rf w) (cj (rsizeC w) (cj (sB20 w h) (cj (rf w) (cj (rf a) (cj (rmaskC w a) (cj (rf w) (cj (rf b) (cj (rmaskC w b) (cj (e0 (3 : Int) 1) (cj (e0 (3 : Int) 2) (cj (e1 (3 : Int) 3) (cj (show Go.bits Go.BinOp.and IntKind.i64 (Wd.maskV w a) (Wd.maskV w b) = Wd.doV w (3 : Int) a b from (Wd.ref3 (ok_yes h))) (cj (show true = Wd.doB w (3 : Int) from by simp [Wd.doB, ok_yes h, Wd.opB]) trivial)))))))))))))) (by kernel_rfl)
theorem do_4 (w a b : Int) (h : 1 ≤ w ∧ w ≤ 16) : Vc (vcFn Try.prog false 47 [.int .i64 w, .int .i64 4, .int .i64 a, .int .i64 b] [oB20 w, .bd false, oB21 w a, oB22 w b, .bd false, .bd false, .bd false, .bd true] [] (.tup [.int .i64 (Wd.doV w 4 a b), .bool (Wd.doB w 4)]) []) := vc_by (cj (rf w) (cj (rsizeC w) (cj (sB20 w h) (cj (rf w) (cj (rf a) (cj (rmaskC w a) (cj (rf w) (cj (rf b) (cj (rmaskC w b) (cj (e0 (4 : Int) 1) (cj (e0 (4 : Int) 2) (cj (e0 (4 : Int) 3) (cj (e1 (4 : Int) 4) (cj (show Go.bits Go.BinOp.or IntKind.i64 (Wd.maskV w a) (Wd.maskV w b) = Wd.doV w (4 : Int) a b from (Wd.ref4 (ok_yes h))) (cj (show true = Wd.doB w (4 : Int) from by simp [Wd.doB, ok_yes h, Wd.opB]) trivial))))))))))))))) (by kernel_rfl)
theorem do_5 (w a b : Int) (h : 1 ≤ w ∧ w ≤ 16) : Vc (vcFn Try.prog false 47 [.int .i64 w, .int .i64 5, .int .i64 a, .int .i64 b] [oB20 w, .bd false, oB21 w a, oB22 w b, .bd false, .bd false, .bd false, .bd false, .bd true] [] (.tup [.int .i64 (Wd.doV w 5 a b), .bool (Wd.doB w 5)]) []) := vc_by (cj (rf w) (cj (rsizeC w) (cj (sB20 w h) (cj (rf w) (cj (rf a) (cj (rmaskC w a) (cj (rf w) (cj (rf b) (cj (rmaskC w b) (cj (e0 (5 : Int) 1) (cj (e0 (5 : Int) 2) (cj (e0 (5 : Int) 3) (cj (e0 (5 : Int) 4) (cj (e1 (5 : Int) 5) (cj (show Go.bits Go.BinOp.xor IntKind.i64 (Wd.maskV w a) (Wd.maskV w b) = Wd.doV w (5 : Int) a b from (Wd.ref5 (ok_yes h))) (cj (show true = Wd.doB w (5 : Int) from by simp [Wd.doB, ok_yes h, Wd.opB]) trivial)))))))))))))))) (by kernel_rfl)
theorem u_wrap {x : Int} (h0 : 0 ≤ x) (h1 : x < 65536) : IntKind.u64.wrap x = x := by
  rw [IntKind.wrap_u64]; omega
theorem u_wrap_nn (x : Int) : 0 ≤ IntKind.u64.wrap x := by rw [IntKind.wrap_u64]; omega
theorem do_6f (w a b : Int) (h : 1 ≤ w ∧ w ≤ 16) (hf : w ≤ Wd.maskV w b) : Vc (vcFn Try.prog false 47 [.int .i64 w, .int .i64 6, .int .i64 a, .int .i64 b] [oB20 w, .bd false, oB21 w a, oB22 w b, .bd false, .bd false, .bd false, .bd false, .bd false, .bd true, .bd true] [] (.tup [.int .i64 (Wd.doV w 6 a b), .bool (Wd.doB w 6)]) []) := vc_by (cj (rf w) (cj (rsizeC w) (cj (show (Wd.sizeV w == (0 : Int)) = false from by have := Wd.sizeV_pos (ok_yes h); simp; omega) (cj (rf w) (cj (rf a) (cj (rmaskC w a) (cj (rf w) (cj (rf b) (cj (rmaskC w b) (cj (e0 (6 : Int) 1) (cj (e0 (6 : Int) 2) (cj (e0 (6 : Int) 3) (cj (e0 (6 : Int) 4) (cj (e0 (6 : Int) 5) (cj (e1 (6 : Int) 6) (cj (dt (Wd.maskV w b ≥ w)) (cj (show (0 : Int) = Wd.doV w (6 : Int) a b from (Wd.do6_far hf).symm) (cj (show true = Wd.doB w (6 : Int) from by simp [Wd.doB, ok_yes h, Wd.opB]) trivial)))))))))))))))))) (by kernel_rfl)
theorem do_6 (w a b : Int) (h : 1 ≤ w ∧ w ≤ 16) (hf : ¬ w ≤ Wd.maskV w b) : Vc (vcFn Try.prog false 47 [.int .i64 w, .int .i64 6, .int .i64 a, .int .i64 b] [oB20 w, .bd false, oB21 w a, oB22 w b, .bd false, .bd false, .bd false, .bd false, .bd false, .bd true, .bd false, .cl [.int .i64 w, .int .i64 (IntKind.i64.wrap ((Wd.maskV w a) * 2 ^ min (IntKind.u64.wrap (Wd.maskV w b)).toNat IntKind.i64.bits))] (.int .i64 (Wd.maskV w (IntKind.i64.wrap ((Wd.maskV w a) * 2 ^ min (IntKind.u64.wrap (Wd.maskV w b)).toNat IntKind.i64.bits)))) []] [] (.tup [.int .i64 (Wd.doV w 6 a b), .bool (Wd.doB w 6)]) []) := vc_by (cj (rf w) (cj (rsizeC w) (cj (show (Wd.sizeV w == (0 : Int)) = false from by have := Wd.sizeV_pos (ok_yes h); simp; omega) (cj (rf w) (cj (rf a) (cj (rmaskC w a) (cj (rf w) (cj (rf b) (cj (rmaskC w b) (cj (e0 (6 : Int) 1) (cj (e0 (6 : Int) 2) (cj (e0 (6 : Int) 3) (cj (e0 (6 : Int) 4) (cj (e0 (6 : Int) 5) (cj (e1 (6 : Int) 6) (cj (df (Wd.maskV w b ≥ w)) (cj (show (0 : Int) ≤ IntKind.wrap IntKind.u64 (Wd.maskV w b) from (u_wrap_nn _)) (cj (rf w) (cj (rf (IntKind.wrap IntKind.i64 (Wd.maskV w a * 2 ^ Min.min (Int.toNat (IntKind.wrap IntKind.u64 (Wd.maskV w b))) (64 : Nat)))) (cj (rmaskC w (IntKind.i64.wrap ((Wd.maskV w a) * 2 ^ min (IntKind.u64.wrap (Wd.maskV w b)).toNat IntKind.i64.bits))) (cj (show Wd.maskV w (IntKind.wrap IntKind.i64 (Wd.maskV w a * 2 ^ Min.min (Int.toNat (IntKind.wrap IntKind.u64 (Wd.maskV w b))) (64 : Nat))) = Wd.doV w (6 : Int) a b from by have h1 := Wd.maskV_bd w a; have h2 := Wd.maskV_bd w b; rw [u_wrap h2.1 h2.2]; have e := Wd.ref6 (w := w) (a := a) (b := b); rw [IntWalk.i64_left]; exact e) (cj (show true = Wd.doB w (6 : Int) from by simp [Wd.doB, ok_yes h, Wd.opB]) trivial)))))))))))))))))))))) (by kernel_rfl)
theorem do_7f (w a b : Int) (h : 1 ≤ w ∧ w ≤ 16) (hf : w ≤ Wd.maskV w b) : Vc (vcFn Try.prog false 47 [.int .i64 w, .int .i64 7, .int .i64 a, .int .i64 b] [oB20 w, .bd false, oB21 w a, oB22 w b, .bd false, .bd false, .bd false, .bd false, .bd false, .bd false, .bd true, .bd true] [] (.tup [.int .i64 (Wd.doV w 7 a b), .bool (Wd.doB w 7)]) []) := vc_by (cj (rf w) (cj (rsizeC w) (cj (show (Wd.sizeV w == (0 : Int)) = false from by have := Wd.sizeV_pos (ok_yes h); simp; omega) (cj (rf w) (cj (rf a) (cj (rmaskC w a) (cj (rf w) (cj (rf b) (cj (rmaskC w b) (cj (e0 (7 : Int) 1) (cj (e0 (7 : Int) 2) (cj (e0 (7 : Int) 3) (cj (e0 (7 : Int) 4) (cj (e0 (7 : Int) 5) (cj (e0 (7 : Int) 6) (cj (e1 (7 : Int) 7) (cj (dt (Wd.maskV w b ≥ w)) (cj (show (0 : Int) = Wd.doV w (7 : Int) a b from (Wd.do7_far (ok_yes h) hf).symm) (cj (show true = Wd.doB w (7 : Int) from by simp [Wd.doB, ok_yes h, Wd.opB]) trivial))))))))))))))))))) (by kernel_rfl)
theorem do_7 (w a b : Int) (h : 1 ≤ w ∧ w ≤ 16) (hf : ¬ w ≤ Wd.maskV w b) : Vc (vcFn Try.prog false 47 [.int .i64 w, .int .i64 7, .int .i64 a, .int .i64 b] [oB20 w, .bd false, oB21 w a, oB22 w b, .bd false, .bd false, .bd false, .bd false, .bd false, .bd false, .bd true, .bd false] [] (.tup [.int .i64 (Wd.doV w 7 a b), .bool (Wd.doB w 7)]) []) := vc_by (cj (rf w) (cj (rsizeC w) (cj (show (Wd.sizeV w == (0 : Int)) = false from by have := Wd.sizeV_pos (ok_yes h); simp; omega) (cj (rf w) (cj (rf a) (cj (rmaskC w a) (cj (rf w) (cj (rf b) (cj (rmaskC w b) (cj (e0 (7 : Int) 1) (cj (e0 (7 : Int) 2) (cj (e0 (7 : Int) 3) (cj (e0 (7 : Int) 4) (cj (e0 (7 : Int) 5) (cj (e0 (7 : Int) 6) (cj (e1 (7 : Int) 7) (cj (df (Wd.maskV w b ≥ w)) (cj (show (0 : Int) ≤ IntKind.wrap IntKind.u64 (Wd.maskV w b) from (u_wrap_nn _)) (cj (show Int.fdiv (Wd.maskV w a) ((2 : Int) ^ Min.min (Int.toNat (IntKind.wrap IntKind.u64 (Wd.maskV w b))) (64 : Nat)) = Wd.doV w (7 : Int) a b from by have h1 := Wd.maskV_bd w a; have h2 := Wd.maskV_bd w b; rw [u_wrap h2.1 h2.2, Int.fdiv_eq_ediv_of_nonneg _ (by have := Wd.pow_pos (min (Wd.maskV w b).toNat 64); omega)]; exact Wd.ref7' (ok_yes h)) (cj (show true = Wd.doB w (7 : Int) from by simp [Wd.doB, ok_yes h, Wd.opB]) trivial)))))))))))))))))))) (by kernel_rfl)
theorem do_8 (w a b : Int) (h : 1 ≤ w ∧ w ≤ 16) : Vc (vcFn Try.prog false 47 [.int .i64 w, .int .i64 8, .int .i64 a, .int .i64 b] [oB20 w, .bd false, oB21 w a, oB22 w b, .bd false, .bd false, .bd false, .bd false, .bd false, .bd false, .bd false, .bd true, .cl [.int .i64 w, .int .i64 ((Wd.maskV w a) * (Wd.maskV w b))] (.int .i64 (Wd.maskV w ((Wd.maskV w a) * (Wd.maskV w b)))) []] [] (.tup [.int .i64 (Wd.doV w 8 a b), .bool (Wd.doB w 8)]) []) := vc_by (cj (rf w) (cj (rsizeC w) (cj (sB20 w h) (cj (rf w) (cj (rf a) (cj (rmaskC w a) (cj (rf w) (cj (rf b) (cj (rmaskC w b) (cj (e0 (8 : Int) 1) (cj (e0 (8 : Int) 2) (cj (e0 (8 : Int) 3) (cj (e0 (8 : Int) 4) (cj (e0 (8 : Int) 5) (cj (e0 (8 : Int) 6) (cj (e0 (8 : Int) 7) (cj (e1 (8 : Int) 8) (cj (show inK IntKind.i64 (Wd.maskV w a * Wd.maskV w b) from by have h1 := Wd.maskV_bd w a; have h2 := Wd.maskV_bd w b; have h3 := Wd.mul_bd h1.1 h1.2 h2.1 h2.2; exact in64 (by omega) (by omega)) (cj (rf w) (cj (rf (Wd.maskV w a * Wd.maskV w b)) (cj (rmaskC w ((Wd.maskV w a) * (Wd.maskV w b))) (cj (rf (Wd.doV w (8 : Int) a b)) (cj (show true = Wd.doB w (8 : Int) from by simp [Wd.doB, ok_yes h, Wd.opB]) trivial))))))))))))))))))))))) (by kernel_rfl)
theorem do_9 (w a b : Int) (h : 1 ≤ w ∧ w ≤ 16) : Vc (vcFn Try.prog false 47 [.int .i64 w, .int .i64 9, .int .i64 a, .int .i64 b] [oB20 w, .bd false, oB21 w a, oB22 w b, .bd false, .bd false, .bd false, .bd false, .bd false, .bd false, .bd false, .bd false, .bd true, .cl [.bool (decide ((Wd.maskV w a) < (Wd.maskV w b)))] (.int .i64 (Wd.tI (decide ((Wd.maskV w a) < (Wd.maskV w b))))) []] [] (.tup [.int .i64 (Wd.doV w 9 a b), .bool (Wd.doB w 9)]) []) := vc_by (cj (rf w) (cj (rsizeC w) (cj (sB20 w h) (cj (rf w) (cj (rf a) (cj (rmaskC w a) (cj (rf w) (cj (rf b) (cj (rmaskC w b) (cj (e0 (9 : Int) 1) (cj (e0 (9 : Int) 2) (cj (e0 (9 : Int) 3) (cj (e0 (9 : Int) 4) (cj (e0 (9 : Int) 5) (cj (e0 (9 : Int) 6) (cj (e0 (9 : Int) 7) (cj (e0 (9 : Int) 8) (cj (e1 (9 : Int) 9) (cj (rf (decide (Wd.maskV w a < Wd.maskV w b))) (cj (show PureC Try.prog 54 [.bool (decide ((Wd.maskV w a) < (Wd.maskV w b)))] (.int .i64 (Wd.tI (decide ((Wd.maskV w a) < (Wd.maskV w b))))) [] from rtruthC _) (cj (show Wd.tI (decide (Wd.maskV w a < Wd.maskV w b)) = Wd.doV w (9 : Int) a b from (Wd.ref9 (ok_yes h))) (cj (show true = Wd.doB w (9 : Int) from by simp [Wd.doB, ok_yes h, Wd.opB]) trivial)))))))))))))))))))))) (by kernel_rfl)
theorem do_10 (w a b : Int) (h : 1 ≤ w ∧ w ≤ 16) : Vc (vcFn Try.prog false 47 [.int .i64 w, .int .i64 10, .int .i64 a, .int .i64 b] [oB20 w, .bd false, oB21 w a, oB22 w b, .bd false, .bd false, .bd false, .bd false, .bd false, .bd false, .bd false, .bd false, .bd false, .bd true, .cl [.bool ((Wd.maskV w a) == (Wd.maskV w b))] (.int .i64 (Wd.tI ((Wd.maskV w a) == (Wd.maskV w b)))) []] [] (.tup [.int .i64 (Wd.doV w 10 a b), .bool (Wd.doB w 10)]) []) := vc_by (cj (rf w) (cj (rsizeC w) (cj (sB20 w h) (cj (rf w) (cj (rf a) (cj (rmaskC w a) (cj (rf w) (cj (rf b) (cj (rmaskC w b) (cj (e0 (10 : Int) 1) (cj (e0 (10 : Int) 2) (cj (e0 (10 : Int) 3) (cj (e0 (10 : Int) 4) (cj (e0 (10 : Int) 5) (cj (e0 (10 : Int) 6) (cj (e0 (10 : Int) 7) (cj (e0 (10 : Int) 8) (cj (e0 (10 : Int) 9) (cj (e1 (10 : Int) 10) (cj (rf (Wd.maskV w a == Wd.maskV w b)) (cj (show PureC Try.prog 54 [.bool ((Wd.maskV w a) == (Wd.maskV w b))] (.int .i64 (Wd.tI ((Wd.maskV w a) == (Wd.maskV w b)))) [] from rtruthC _) (cj (show Wd.tI (Wd.maskV w a == Wd.maskV w b) = Wd.doV w (10 : Int) a b from (Wd.ref10 (ok_yes h))) (cj (show true = Wd.doB w (10 : Int) from by simp [Wd.doB, ok_yes h, Wd.opB]) trivial))))))))))))))))))))))) (by kernel_rfl)
theorem do_0 (w o a b : Int) (h : 1 ≤ w ∧ w ≤ 16) (ho : o < 1 ∨ 10 < o) : Vc (vcFn Try.prog false 47 [.int .i64 w, .int .i64 o, .int .i64 a, .int .i64 b] [oB20 w, .bd false, oB21 w a, oB22 w b, .bd false, .bd false, .bd false, .bd false, .bd false, .bd false, .bd false, .bd false, .bd false, .bd false] [] (.tup [.int .i64 (Wd.doV w o a b), .bool (Wd.doB w o)]) []) := vc_by (cj (rf w) (cj (rsizeC w) (cj (show (Wd.sizeV w == (0 : Int)) = false from by have := Wd.sizeV_pos (ok_yes h); simp; omega) (cj (rf w) (cj (rf a) (cj (rmaskC w a) (cj (rf w) (cj (rf b) (cj (rmaskC w b) (cj (show (o == (1 : Int)) = false from (beq_eq_false_iff_ne.2 (by omega))) (cj (show (o == (2 : Int)) = false from (beq_eq_false_iff_ne.2 (by omega))) (cj (show (o == (3 : Int)) = false from (beq_eq_false_iff_ne.2 (by omega))) (cj (show (o == (4 : Int)) = false from (beq_eq_false_iff_ne.2 (by omega))) (cj (show (o == (5 : Int)) = false from (beq_eq_false_iff_ne.2 (by omega))) (cj (show (o == (6 : Int)) = false from (beq_eq_false_iff_ne.2 (by omega))) (cj (show (o == (7 : Int)) = false from (beq_eq_false_iff_ne.2 (by omega))) (cj (show (o == (8 : Int)) = false from (beq_eq_false_iff_ne.2 (by omega))) (cj (show (o == (9 : Int)) = false from (beq_eq_false_iff_ne.2 (by omega))) (cj (show (o == (10 : Int)) = false from (beq_eq_false_iff_ne.2 (by omega))) (cj (show (0 : Int) = Wd.doV w o a b from (Wd.ref0 ho)) (cj (show false = Wd.doB w o from by simp [Wd.doB, Wd.opB_no ho]) trivial))))))))))))))))))))) (by kernel_rfl)
theorem do_n (w o a b : Int) (h : ¬ (1 ≤ w ∧ w ≤ 16)) : Vc (vcFn Try.prog false 47 [.int .i64 w, .int .i64 o, .int .i64 a, .int .i64 b] [oB20 w, .bd true] [] (.tup [.int .i64 (Wd.doV w o a b), .bool (Wd.doB w o)]) []) := vc_by (cj (rf w) (cj (rsizeC w) (cj (show (Wd.sizeV w == (0 : Int)) = true from by rw [sizeV_no h]; rfl) (cj (show (0 : Int) = Wd.doV w o a b from by simp [Wd.doV, Wd.maskV, ok_no h]) (cj (show false = Wd.doB w o from by simp [Wd.doB, ok_no h]) trivial))))) (by kernel_rfl)
theorem rdoC (w o a b : Int) : PureC Try.prog 47 [.int .i64 w, .int .i64 o, .int .i64 a, .int .i64 b] (.tup [.int .i64 (Wd.doV w o a b), .bool (Wd.doB w o)]) [] := by
  by_cases h : 1 ≤ w ∧ w ≤ 16
  · rcases (by omega : o = 1 ∨ o = 2 ∨ o = 3 ∨ o = 4 ∨ o = 5 ∨ o = 6 ∨ o = 7 ∨ o = 8 ∨ o = 9 ∨ o = 10 ∨ (o < 1 ∨ 10 < o)) with rfl | rfl | rfl | rfl | rfl | rfl | rfl | rfl | rfl | rfl | ho
    · exact PureC.vc (do_1 w a b h)
    · exact PureC.vc (do_2 w a b h)
    · exact PureC.vc (do_3 w a b h)
    · exact PureC.vc (do_4 w a b h)
    · exact PureC.vc (do_5 w a b h)
    · by_cases hf : w ≤ Wd.maskV w b
      · exact PureC.vc (do_6f w a b h hf)
      · exact PureC.vc (do_6 w a b h hf)
    · by_cases hf : w ≤ Wd.maskV w b
      · exact PureC.vc (do_7f w a b h hf)
      · exact PureC.vc (do_7 w a b h hf)
    · exact PureC.vc (do_8 w a b h)
    · exact PureC.vc (do_9 w a b h)
    · exact PureC.vc (do_10 w a b h)
    · exact PureC.vc (do_0 w o a b h ho)
  · exact PureC.vc (do_n w o a b h)
theorem rat_in (p : Pg) (pc : Int) (h0 : 0 ≤ pc) (h1 : pc < p.is.length) : Vc (vcFn Try.prog false 40 [.agg (pgA p), .int .i64 pc] [.fz, .bd false, .bd false] [] (.agg (inA (p.is.getD pc.toNat default))) []) := vc_by (cj (df (pc < 0)) (cj (df (pc ≥ (↑p.is.length : Int))) (cj (bi pc (↑p.is.length : Int)) (cj (rf ((p.is.getD (Int.toNat pc) default).kind)) (cj (rf ((p.is.getD (Int.toNat pc) default).op)) (cj (rf ((p.is.getD (Int.toNat pc) default).d)) (cj (rf ((p.is.getD (Int.toNat pc) default).a.reg)) (cj (rf ((p.is.getD (Int.toNat pc) default).a.n)) (cj (rf ((p.is.getD (Int.toNat pc) default).b.reg)) (cj (rf ((p.is.getD (Int.toNat pc) default).b.n)) (cj (rf ((p.is.getD (Int.toNat pc) default).nm)) (cj (rf ((p.is.getD (Int.toNat pc) default).tg)) trivial)))))))))))) (by kernel_rfl)
theorem zB20  {Z : Prop} (z : Z) : (RF (12 : Int) (RF (0 : Int) (RF (0 : Int) (RF false (RF (0 : Int) (RF false (RF (0 : Int) (RF (ByteArray.mk (Array.mk [])) (RF (0 : Int) Z))))))))) := ⟨rfl, rfl, rfl, rfl, rfl, rfl, rfl, rfl, rfl, z⟩
theorem rat_neg (p : Pg) (pc : Int) (h0 : ¬ 0 ≤ pc) : Vc (vcFn Try.prog false 40 [.agg (pgA p), .int .i64 pc] [.fz, .bd true] [] (.agg (inA { In0 with kind := 12 })) []) := vc_by (cj (dt (pc < 0)) (zB20 trivial)) (by kernel_rfl)
theorem rat_out (p : Pg) (pc : Int) (h0 : 0 ≤ pc) (h1 : ¬ pc < p.is.length) : Vc (vcFn Try.prog false 40 [.agg (pgA p), .int .i64 pc] [.fz, .bd false, .bd true] [] (.agg (inA { In0 with kind := 12 })) []) := vc_by (cj (df (pc < 0)) (cj (dt (pc ≥ (↑p.is.length : Int))) (zB20 trivial))) (by kernel_rfl)
theorem ratC (p : Pg) (pc : Int) : PureC Try.prog 40 [.agg (pgA p), .int .i64 pc] (.agg (inA (atI p pc))) [] := by
  by_cases h0 : 0 ≤ pc
  · by_cases h1 : pc < p.is.length
    · rw [atI_in h0 h1]; exact PureC.vc (rat_in p pc h0 h1)
    · rw [atI_out fun h => h1 h.2]; exact PureC.vc (rat_out p pc h0 h1)
  · rw [atI_out fun h => h0 h.1]; exact PureC.vc (rat_neg p pc h0)
end
end Go.Proofs.Ytdnmfgnpflhcpaa.Px
namespace Go.Proofs.Ytdnmfgnpflhcpaa.Px
section
open Go.RowKit Go.Proofs.Ytdnmfgnpflhcpaa.Rx
structure En where
  pc : Int
  val : Int
  adr : Int
  frm : Int
  nxt : Int
  dn : Bool
  kn : Bool
  ft : Bool
  deriving DecidableEq
def En0 : En := ⟨0, 0, 0, 0, 0, false, false, false⟩
instance : Inhabited En := ⟨En0⟩
/-- an Ent's cells -/
def enA (e : En) : List AV := [.int .i64 e.pc, .int .i64 e.val, .int .i64 e.adr, .int .i64 e.frm, .int .i64 e.nxt, .bool e.dn, .bool e.kn, .bool e.ft]
def enC (e : En) (j : Nat) : AV := (enA e).getD j .junk
def enR (l : List En) : AV := .row 8 l.length (rowL enC l)
def enB (l : List En) : Blk := ⟨0, false, 38, .rows 8 l.length (rowL enC l)⟩
def enO (l : List En) : AV := .own 0 0 8 0 l.length
end
end Go.Proofs.Ytdnmfgnpflhcpaa.Px
namespace Go.Proofs.Ytdnmfgnpflhcpaa.Px
section
open Go.RowKit Go.Proofs.Ytdnmfgnpflhcpaa.Rx
/-- a machine -/
structure Cf where
  s : S8
  b : List En
  r : List Int
  e : Int
def rgA (s : S8) : List AV := [.int .i64 s.r0, .int .i64 s.r1, .int .i64 s.r2, .int .i64 s.r3]
def rgP (s : S8) : AV := .rptr 4 (fun q => (rgA s).getD q .junk) 0
def dstB (i : In) : Bool := i.kind == 1 || i.kind == 2 || i.kind == 4
/-- the instruction of one that is under way -/
def enI (p : Pg) (l : List En) (k : Nat) : In := atI p (l.getD k default).pc
def regF (p : Pg) (l : List En) (r : Int) : Nat → Option (Int × Bool)
  | 0 => none
  | k + 1 => if dstB (enI p l k) = true ∧ (enI p l k).d = r then some (if (l.getD k default).dn then ((l.getD k default).val, true) else (0, false)) else regF p l r k
/-- how many stand ahead of a place -/
def cl0 (i : Int) (n : Nat) : Nat := (min (max i 0) (n : Int)).toNat
def regV (p : Pg) (s : S8) (l : List En) (i r : Int) : Int × Bool := if 0 ≤ r ∧ r < 4 then (match regF p l r (cl0 i l.length) with | some x => x | none => (s.reg r, true)) else (0, false)
def valF (p : Pg) (s : S8) (l : List En) (i : Int) (v : Vl) : Int × Bool := if v.reg then regV p s l i v.n else (Wd.maskV p.W v.n, true)
def blkG (p : Pg) (l : List En) : Nat → Nat → Bool
  | _, 0 => false
  | k, j + 1 => ((enI p l k).kind == 10) || blkG p l (k + 1) j
def blkV (p : Pg) (l : List En) (i : Int) : Bool := blkG p l 0 (cl0 i l.length)
def rgS (p : Pg) (s : S8) (l : List En) (r i : Int) : Sm := ⟨[(5, pgP p), (6, rgP s), (2, enR l), (4, .int .i64 r), (12, .int .i64 i), (10, .int .i64 0), (11, .bool false)], [], 0⟩
def vbS (a b : Nat) (x : Int × Bool) : Sm := ⟨[(a, .int .i64 x.1), (b, .bool x.2)], [], 0⟩
def bkS (p : Pg) (l : List En) (i : Int) (k : Nat) : Sm := ⟨[(3, pgP p), (1, enR l), (2, .int .i64 i), (7, .int .i64 k), (6, .bool false)], [], 0⟩
def bS (a : Nat) (x : Bool) : Sm := ⟨[(a, .bool x)], [], 0⟩
theorem dstB_1 {i : In} (h : i.kind = 1) : dstB i = true := by simp [dstB, h]
theorem dstB_2 {i : In} (h : i.kind = 2) : dstB i = true := by simp [dstB, h]
theorem dstB_4 {i : In} (h : i.kind = 4) : dstB i = true := by simp [dstB, h]
theorem cl0_eq (i : Int) (n : Nat) : (if (n : Int) < (if i < 0 then 0 else i) then (n : Int) else (if i < 0 then 0 else i)) = (cl0 i n : Int) := by
  unfold cl0; rw [mx0, mnI]; omega
theorem cl0_le (i : Int) (n : Nat) : cl0 i n ≤ n := by unfold cl0; omega
theorem natm1 (k : Nat) : ((k + 1 : Nat) : Int) - 1 = (k : Int) := by omega
theorem dst_1 (i : In) (h : i.kind = 1) : Vc (vcFn Try.prog false 55 [.agg (inA i)] [.fz, .bd true] [] (.tup [.int .i64 i.d, .bool true]) []) := vc_by (cj (show (i.kind == (1 : Int)) = true from by rw [h]; decide) (cj (rf i.d) (cj (rf true) trivial))) (by kernel_rfl)
theorem dst_2 (i : In) (h : i.kind = 2) : Vc (vcFn Try.prog false 55 [.agg (inA i)] [.fz, .bd false, .bd true] [] (.tup [.int .i64 i.d, .bool true]) []) := vc_by (cj (show (i.kind == (1 : Int)) = false from by rw [h]; decide) (cj (show (i.kind == (2 : Int)) = true from by rw [h]; decide) (cj (rf i.d) (cj (rf true) trivial)))) (by kernel_rfl)
theorem dst_4 (i : In) (h : i.kind = 4) : Vc (vcFn Try.prog false 55 [.agg (inA i)] [.fz, .bd false, .bd false, .bd true] [] (.tup [.int .i64 i.d, .bool true]) []) := vc_by (cj (show (i.kind == (1 : Int)) = false from by rw [h]; decide) (cj (show (i.kind == (2 : Int)) = false from by rw [h]; decide) (cj (show (i.kind == (4 : Int)) = true from by rw [h]; decide) (cj (rf i.d) (cj (rf true) trivial))))) (by kernel_rfl)
theorem dst_0 (i : In) (h1 : i.kind ≠ 1) (h2 : i.kind ≠ 2) (h4 : i.kind ≠ 4) : Vc (vcFn Try.prog false 55 [.agg (inA i)] [.fz, .bd false, .bd false, .bd false] [] (.tup [.int .i64 0, .bool false]) []) := vc_by (cj (beq_eq_false_iff_ne.2 h1) (cj (beq_eq_false_iff_ne.2 h2) (cj (beq_eq_false_iff_ne.2 h4) (cj (rf (0 : Int)) (cj (rf false) trivial))))) (by kernel_rfl)
theorem dstC_t (i : In) (h : dstB i = true) : PureC Try.prog 55 [.agg (inA i)] (.tup [.int .i64 i.d, .bool true]) [] := by
  by_cases h1 : i.kind = 1
  · exact PureC.vc (dst_1 i h1)
  · by_cases h2 : i.kind = 2
    · exact PureC.vc (dst_2 i h2)
    · by_cases h4 : i.kind = 4
      · exact PureC.vc (dst_4 i h4)
      · exfalso; simp [dstB, h1, h2, h4] at h
theorem dstC_f (i : In) (h : dstB i = false) : PureC Try.prog 55 [.agg (inA i)] (.tup [.int .i64 0, .bool false]) [] :=
  PureC.vc (dst_0 i (fun e => by rw [dstB_1 e] at h; cases h) (fun e => by rw [dstB_2 e] at h; cases h) (fun e => by rw [dstB_4 e] at h; cases h))
theorem zM10 (l : List En) (r : Int) (k : Nat) {Z : Prop} (z : Z) : (RR l.length 8 (fun i j => rowL enC l i j) (RF r (RF ((k : Int) - 1) (RF (0 : Int) (RF false Z))))) := ⟨fun _ _ _ _ => rfl, rfl, rfl, rfl, rfl, z⟩
theorem zM11 (p : Pg) (s : S8) (l : List En) {Z : Prop} (z : Z) : (RF p.ls.length (RR p.ls.length 2 (fun i j => rowL lbC p.ls i j) (RF p.is.length (RR p.is.length 9 (fun i j => rowL inC p.is i j) (RF s.r0 (RF s.r1 (RF s.r2 (RF s.r3 (RF l.length Z))))))))) := ⟨rfl, fun _ _ _ _ => rfl, rfl, fun _ _ _ _ => rfl, rfl, rfl, rfl, rfl, rfl, z⟩
theorem zM12 (p : Pg) {Z : Prop} (z : Z) : (RF p.W (RF p.win (RF p.fuel (RF p.r0 (RF p.r1 (RF p.r2 (RF p.r3 (RF p.ms.length (RR p.ms.length 3 (fun i j => rowL mmC p.ms i j) Z))))))))) := ⟨rfl, rfl, rfl, rfl, rfl, rfl, rfl, rfl, fun _ _ _ _ => rfl, z⟩
theorem zM13 (p : Pg) (l : List En) (k : Nat) {Z : Prop} (z : Z) : (RF ((enI p l k).kind) (RF ((enI p l k).op) (RF ((enI p l k).d) (RF ((enI p l k).a.reg) (RF ((enI p l k).a.n) (RF ((enI p l k).b.reg) (RF ((enI p l k).b.n) (RF ((enI p l k).nm) (RF ((enI p l k).tg) Z))))))))) := ⟨rfl, rfl, rfl, rfl, rfl, rfl, rfl, rfl, rfl, z⟩
theorem zM14 (p : Pg) (l : List En) (k : Nat) {Z : Prop} (z : Z) : (RF p.ls.length (RR p.ls.length 2 (fun i j => rowL lbC p.ls i j) (RF p.is.length (RR p.is.length 9 (fun i j => rowL inC p.is i j) (RF ((l.getD k default).pc) Z))))) := ⟨rfl, fun _ _ _ _ => rfl, rfl, fun _ _ _ _ => rfl, rfl, z⟩
abbrev oM10 (p : Pg) (l : List En) (k : Nat) : Orc := .cl [.agg (pgA p), .int .i64 (l.getD k default).pc] (.agg (inA (enI p l k))) []
theorem rg_f (p : Pg) (s : S8) (l : List En) (r : Int) (k : Nat) (hk : k < l.length) (hb : l.length < 1000000) (h : dstB (enI p l k) = false) : Vc (vcC Try.prog false (ntOf Try.prog 53) (lpC Try.prog 53 0) (rgS p s l r k) [.bd true, oM10 p l k, .cl [.agg (inA (enI p l k))] (.tup [.int .i64 0, .bool false]) []] .nrm [] (rgS p s l r ((k : Int) - 1))) := vc_by (cj (dt ((k : Int) ≥ 0)) (cj (bi (k : Int) (l.length : Int)) (zM12 p (zM14 p l k (cj (ratC p (l.getD k default).pc) (zM13 p l k (cj (dstC_f (enI p l k) h) (cj (i6 ((k : Int) - 1)) (zM12 p (zM11 p s l (zM10 l r k trivial))))))))))) (by kernel_rfl)
abbrev oM11 (p : Pg) (l : List En) (k : Nat) : Orc := .cl [.agg (inA (enI p l k))] (.tup [.int .i64 (enI p l k).d, .bool true]) []
theorem rg_o (p : Pg) (s : S8) (l : List En) (r : Int) (k : Nat) (hk : k < l.length) (hb : l.length < 1000000) (h : dstB (enI p l k) = true) (hd : ¬ (enI p l k).d = r) : Vc (vcC Try.prog false (ntOf Try.prog 53) (lpC Try.prog 53 0) (rgS p s l r k) [.bd true, oM10 p l k, oM11 p l k, .bd false] .nrm [] (rgS p s l r ((k : Int) - 1))) := vc_by (cj (dt ((k : Int) ≥ 0)) (cj (bi (k : Int) (l.length : Int)) (zM12 p (zM14 p l k (cj (ratC p (l.getD k default).pc) (zM13 p l k (cj (dstC_t (enI p l k) h) (cj (beq_eq_false_iff_ne.2 hd) (cj (i6 ((k : Int) - 1)) (zM12 p (zM11 p s l (zM10 l r k trivial)))))))))))) (by kernel_rfl)
theorem rg_d (p : Pg) (s : S8) (l : List En) (r : Int) (k : Nat) (hk : k < l.length) (hb : l.length < 1000000) (h : dstB (enI p l k) = true) (hd : (enI p l k).d = r) (hn : (l.getD k default).dn = true) : Vc (vcC Try.prog false (ntOf Try.prog 53) (lpC Try.prog 53 0) (rgS p s l r k) [.bd true, oM10 p l k, oM11 p l k, .bd true, .lv (.bool true)] .ret [] (vbS 10 11 ((l.getD k default).val, true))) := vc_by (cj (dt ((k : Int) ≥ 0)) (cj (bi (k : Int) (l.length : Int)) (zM12 p (zM14 p l k (cj (ratC p (l.getD k default).pc) (zM13 p l k (cj (dstC_t (enI p l k) h) (cj (beq_iff_eq.2 hd) (cj (bi (k : Int) (l.length : Int)) (cj (congrArg (fun b => some (AV.bool b)) hn) (cj (bi (k : Int) (l.length : Int)) (cj (rf ((l.getD k default).val)) (cj (rf true) trivial))))))))))))) (by kernel_rfl)
theorem rg_w (p : Pg) (s : S8) (l : List En) (r : Int) (k : Nat) (hk : k < l.length) (hb : l.length < 1000000) (h : dstB (enI p l k) = true) (hd : (enI p l k).d = r) (hn : (l.getD k default).dn = false) : Vc (vcC Try.prog false (ntOf Try.prog 53) (lpC Try.prog 53 0) (rgS p s l r k) [.bd true, oM10 p l k, oM11 p l k, .bd true, .lv (.bool false)] .ret [] (vbS 10 11 (0, false))) := vc_by (cj (dt ((k : Int) ≥ 0)) (cj (bi (k : Int) (l.length : Int)) (zM12 p (zM14 p l k (cj (ratC p (l.getD k default).pc) (zM13 p l k (cj (dstC_t (enI p l k) h) (cj (beq_iff_eq.2 hd) (cj (bi (k : Int) (l.length : Int)) (cj (congrArg (fun b => some (AV.bool b)) hn) (cj (rf (0 : Int)) (cj (rf false) trivial)))))))))))) (by kernel_rfl)
theorem rg_end (p : Pg) (s : S8) (l : List En) (r : Int) : Vc (vcC Try.prog false (ntOf Try.prog 53) (lpC Try.prog 53 0) (rgS p s l r (-1)) [.b false] (.ext 0) [] (rgS p s l r (-1))) := vc_by (cj (df ((-1 : Int) ≥ 0)) (zM12 p (zM11 p s l (cj (rr l.length 8 fun i j => rowL enC l i j) (cj (rf r) (cj (rf (-1 : Int)) (cj (rf (0 : Int)) (cj (rf false) trivial)))))))) (by kernel_rfl)
theorem rg_find (p : Pg) (s : S8) (l : List En) (r : Int) (hb : l.length < 1000000) (x : Int × Bool) : ∀ k, k ≤ l.length → regF p l r k = some x → OkL Try.prog (ntOf Try.prog 53) (lpC Try.prog 53 0) (rgS p s l r ((k : Int) - 1)).st .ret (vbS 10 11 x).st
  | 0, _, h => by cases h
  | k + 1, hk, h => by
    rw [natm1]
    unfold regF at h
    cases hd : dstB (enI p l k) with
    | false =>
      rw [if_neg (by rw [hd]; simp)] at h
      exact OkL.step (Ok.vc (rg_f p s l r k (by omega) hb hd)) (rg_find p s l r hb x k (by omega) h)
    | true =>
      by_cases hr : (enI p l k).d = r
      · rw [if_pos ⟨hd, hr⟩] at h
        cases hn : (l.getD k default).dn with
        | true =>
          rw [if_pos hn, Option.some.injEq] at h
          subst h
          exact OkL.exit (Ok.vc (rg_d p s l r k (by omega) hb hd hr hn)) (by simp)
        | false =>
          rw [if_neg (by rw [hn]; simp), Option.some.injEq] at h
          subst h
          exact OkL.exit (Ok.vc (rg_w p s l r k (by omega) hb hd hr hn)) (by simp)
      · rw [if_neg fun e => hr e.2] at h
        exact OkL.step (Ok.vc (rg_o p s l r k (by omega) hb hd hr)) (rg_find p s l r hb x k (by omega) h)
theorem rg_none (p : Pg) (s : S8) (l : List En) (r : Int) (hb : l.length < 1000000) : ∀ k, k ≤ l.length → regF p l r k = none → OkL Try.prog (ntOf Try.prog 53) (lpC Try.prog 53 0) (rgS p s l r ((k : Int) - 1)).st (.ext 0) (rgS p s l r (-1)).st
  | 0, _, _ => OkL.exit (Ok.vc (rg_end p s l r)) (by simp)
  | k + 1, hk, h => by
    rw [natm1]
    unfold regF at h
    cases hd : dstB (enI p l k) with
    | false =>
      rw [if_neg (by rw [hd]; simp)] at h
      exact OkL.step (Ok.vc (rg_f p s l r k (by omega) hb hd)) (rg_none p s l r hb k (by omega) h)
    | true =>
      by_cases hr : (enI p l k).d = r
      · rw [if_pos ⟨hd, hr⟩] at h; cases h
      · rw [if_neg fun e => hr e.2] at h
        exact OkL.step (Ok.vc (rg_o p s l r k (by omega) hb hd hr)) (rg_none p s l r hb k (by omega) h)
theorem sM10 (l : List En) (i : Int) (n : Nat) (hE : (if (l.length : Int) < (if i < 0 then 0 else i) then (l.length : Int) else (if i < 0 then 0 else i)) = (n : Int)) : (if (l.length : Int) < if i < 0 then (0 : Int) else i then (l.length : Int) else if i < 0 then (0 : Int) else i) - 1 = (n : Int) - 1 := by rw [hE]
theorem reg_y (p : Pg) (s : S8) (l : List En) (i r : Int) (n : Nat) (x : Int × Bool) (hE : (if (l.length : Int) < (if i < 0 then 0 else i) then (l.length : Int) else (if i < 0 then 0 else i)) = (n : Int)) (hn : n < 1000000) (h0 : 0 ≤ r) (h3 : r < 4) (h : Ok Try.prog (ntOf Try.prog 53) (.loop (lpC Try.prog 53 0)) (rgS p s l r ((n : Int) - 1)).st .ret (vbS 10 11 x).st) : Vc (vcFn Try.prog false 53 [.agg (pgA p), .agg (rgA s), enR l, .int .i64 i, .int .i64 r] [.fz, .fz, .bd false, .bd false, .lp [] (rgS p s l r ((n : Int) - 1)) .ret (vbS 10 11 x)] [] (.tup [.int .i64 x.1, .bool x.2]) []) := vc_by (cj (df (r < 0)) (cj (df (r > 3)) (cj (show inK IntKind.i64 ((if (l.length : Int) < if i < 0 then (0 : Int) else i then (l.length : Int) else if i < 0 then (0 : Int) else i) - 1) from by rw [hE]; exact in64 (by omega) (by omega)) (zM12 p (zM11 p s l (cj (rr l.length 8 fun i j => rowL enC l i j) (cj (rf r) (cj (sM10 l i n hE) (cj (rf (0 : Int)) (cj (rf false) (cj h (cj (rf (Prod.fst x)) (cj (rf (Prod.snd x)) trivial))))))))))))) (by kernel_rfl)
theorem sM11 (l : List En) (i : Int) (n : Nat) (hE : (if (l.length : Int) < (if i < 0 then 0 else i) then (l.length : Int) else (if i < 0 then 0 else i)) = (n : Int)) (hn : n < 1000000) : inK IntKind.i64 ((if (l.length : Int) < if i < 0 then (0 : Int) else i then (l.length : Int) else if i < 0 then (0 : Int) else i) - 1) := by rw [hE]; exact in64 (by omega) (by omega)
theorem reg_n0 (p : Pg) (s : S8) (l : List En) (i : Int) (n : Nat) (hE : (if (l.length : Int) < (if i < 0 then 0 else i) then (l.length : Int) else (if i < 0 then 0 else i)) = (n : Int)) (hn : n < 1000000) (h : Ok Try.prog (ntOf Try.prog 53) (.loop (lpC Try.prog 53 0)) (rgS p s l 0 ((n : Int) - 1)).st (.ext 0) (rgS p s l 0 (-1)).st) : Vc (vcFn Try.prog false 53 [.agg (pgA p), .agg (rgA s), enR l, .int .i64 i, .int .i64 0] [.fz, .fz, .bd false, .bd false, .lp [] (rgS p s l 0 ((n : Int) - 1)) (.ext 0) (rgS p s l 0 (-1))] [] (.tup [.int .i64 s.r0, .bool true]) []) := vc_by (cj (df ((0 : Int) < 0)) (cj (df ((0 : Int) > 3)) (cj (sM11 l i n hE hn) (zM12 p (zM11 p s l (cj (rr l.length 8 fun i j => rowL enC l i j) (cj (rf (0 : Int)) (cj (sM10 l i n hE) (cj (rf (0 : Int)) (cj (rf false) (cj h (cj (rf s.r0) (cj (rf true) trivial))))))))))))) (by kernel_rfl)
theorem reg_n1 (p : Pg) (s : S8) (l : List En) (i : Int) (n : Nat) (hE : (if (l.length : Int) < (if i < 0 then 0 else i) then (l.length : Int) else (if i < 0 then 0 else i)) = (n : Int)) (hn : n < 1000000) (h : Ok Try.prog (ntOf Try.prog 53) (.loop (lpC Try.prog 53 0)) (rgS p s l 1 ((n : Int) - 1)).st (.ext 0) (rgS p s l 1 (-1)).st) : Vc (vcFn Try.prog false 53 [.agg (pgA p), .agg (rgA s), enR l, .int .i64 i, .int .i64 1] [.fz, .fz, .bd false, .bd false, .lp [] (rgS p s l 1 ((n : Int) - 1)) (.ext 0) (rgS p s l 1 (-1))] [] (.tup [.int .i64 s.r1, .bool true]) []) := vc_by (cj (df ((1 : Int) < 0)) (cj (df ((1 : Int) > 3)) (cj (sM11 l i n hE hn) (zM12 p (zM11 p s l (cj (rr l.length 8 fun i j => rowL enC l i j) (cj (rf (1 : Int)) (cj (sM10 l i n hE) (cj (rf (0 : Int)) (cj (rf false) (cj h (cj (rf s.r1) (cj (rf true) trivial))))))))))))) (by kernel_rfl)
theorem reg_n2 (p : Pg) (s : S8) (l : List En) (i : Int) (n : Nat) (hE : (if (l.length : Int) < (if i < 0 then 0 else i) then (l.length : Int) else (if i < 0 then 0 else i)) = (n : Int)) (hn : n < 1000000) (h : Ok Try.prog (ntOf Try.prog 53) (.loop (lpC Try.prog 53 0)) (rgS p s l 2 ((n : Int) - 1)).st (.ext 0) (rgS p s l 2 (-1)).st) : Vc (vcFn Try.prog false 53 [.agg (pgA p), .agg (rgA s), enR l, .int .i64 i, .int .i64 2] [.fz, .fz, .bd false, .bd false, .lp [] (rgS p s l 2 ((n : Int) - 1)) (.ext 0) (rgS p s l 2 (-1))] [] (.tup [.int .i64 s.r2, .bool true]) []) := vc_by (cj (df ((2 : Int) < 0)) (cj (df ((2 : Int) > 3)) (cj (sM11 l i n hE hn) (zM12 p (zM11 p s l (cj (rr l.length 8 fun i j => rowL enC l i j) (cj (rf (2 : Int)) (cj (sM10 l i n hE) (cj (rf (0 : Int)) (cj (rf false) (cj h (cj (rf s.r2) (cj (rf true) trivial))))))))))))) (by kernel_rfl)
theorem reg_n3 (p : Pg) (s : S8) (l : List En) (i : Int) (n : Nat) (hE : (if (l.length : Int) < (if i < 0 then 0 else i) then (l.length : Int) else (if i < 0 then 0 else i)) = (n : Int)) (hn : n < 1000000) (h : Ok Try.prog (ntOf Try.prog 53) (.loop (lpC Try.prog 53 0)) (rgS p s l 3 ((n : Int) - 1)).st (.ext 0) (rgS p s l 3 (-1)).st) : Vc (vcFn Try.prog false 53 [.agg (pgA p), .agg (rgA s), enR l, .int .i64 i, .int .i64 3] [.fz, .fz, .bd false, .bd false, .lp [] (rgS p s l 3 ((n : Int) - 1)) (.ext 0) (rgS p s l 3 (-1))] [] (.tup [.int .i64 s.r3, .bool true]) []) := vc_by (cj (df ((3 : Int) < 0)) (cj (df ((3 : Int) > 3)) (cj (sM11 l i n hE hn) (zM12 p (zM11 p s l (cj (rr l.length 8 fun i j => rowL enC l i j) (cj (rf (3 : Int)) (cj (sM10 l i n hE) (cj (rf (0 : Int)) (cj (rf false) (cj h (cj (rf s.r3) (cj (rf true) trivial))))))))))))) (by kernel_rfl)
theorem reg_lo (p : Pg) (s : S8) (l : List En) (i r : Int) (h : r < 0) : Vc (vcFn Try.prog false 53 [.agg (pgA p), .agg (rgA s), enR l, .int .i64 i, .int .i64 r] [.fz, .fz, .bd true] [] (.tup [.int .i64 0, .bool false]) []) := vc_by (cj (dt (r < 0)) (cj (rf (0 : Int)) (cj (rf false) trivial))) (by kernel_rfl)
theorem reg_hi (p : Pg) (s : S8) (l : List En) (i r : Int) (h : 3 < r) : Vc (vcFn Try.prog false 53 [.agg (pgA p), .agg (rgA s), enR l, .int .i64 i, .int .i64 r] [.fz, .fz, .bd false, .bd true] [] (.tup [.int .i64 0, .bool false]) []) := vc_by (cj (df (r < 0)) (cj (dt (r > 3)) (cj (rf (0 : Int)) (cj (rf false) trivial)))) (by kernel_rfl)
theorem rregC (p : Pg) (s : S8) (l : List En) (i r : Int) (hb : l.length < 1000000) : PureC Try.prog 53 [.agg (pgA p), .agg (rgA s), enR l, .int .i64 i, .int .i64 r] (.tup [.int .i64 (regV p s l i r).1, .bool (regV p s l i r).2]) [] := by
  have hE := cl0_eq i l.length
  have hle := cl0_le i l.length
  unfold regV
  by_cases hr : 0 ≤ r ∧ r < 4
  · rw [if_pos hr]
    cases h : regF p l r (cl0 i l.length) with
    | some x => exact PureC.vc (reg_y p s l i r _ x hE (by omega) hr.1 hr.2 (rg_find p s l r hb x _ hle h).ok)
    | none =>
      have hl := (rg_none p s l r hb _ hle h).ok
      obtain ⟨h0, h1⟩ := hr
      rcases four h0 h1 with rfl | rfl | rfl | rfl
      · exact PureC.vc (reg_n0 p s l i _ hE (by omega) hl)
      · exact PureC.vc (reg_n1 p s l i _ hE (by omega) hl)
      · exact PureC.vc (reg_n2 p s l i _ hE (by omega) hl)
      · exact PureC.vc (reg_n3 p s l i _ hE (by omega) hl)
  · rw [if_neg hr]
    by_cases h0 : r < 0
    · exact PureC.vc (reg_lo p s l i r h0)
    · exact PureC.vc (reg_hi p s l i r (by omega))
theorem val_r (p : Pg) (s : S8) (l : List En) (i n : Int) (hb : l.length < 1000000) : Vc (vcFn Try.prog false 44 [.agg (pgA p), .agg (rgA s), enR l, .int .i64 i, .agg [.bool true, .int .i64 n]] [.fz, .fz, .fz, .cl [.agg (pgA p), .agg (rgA s), enR l, .int .i64 i, .int .i64 n] (.tup [.int .i64 (regV p s l i n).1, .bool (regV p s l i n).2]) []] [] (.tup [.int .i64 (regV p s l i n).1, .bool (regV p s l i n).2]) []) := vc_by (zM12 p (zM11 p s l (cj (rr l.length 8 fun i j => rowL enC l i j) (cj (rf i) (cj (rf n) (cj (rregC p s l i n hb) (cj (rf (Prod.fst (regV p s l i n))) (cj (rf (Prod.snd (regV p s l i n))) trivial)))))))) (by kernel_rfl)
theorem val_n (p : Pg) (s : S8) (l : List En) (i n : Int) : Vc (vcFn Try.prog false 44 [.agg (pgA p), .agg (rgA s), enR l, .int .i64 i, .agg [.bool false, .int .i64 n]] [.fz, .fz, .fz, .cl [.int .i64 p.W, .int .i64 n] (.int .i64 (Wd.maskV p.W n)) []] [] (.tup [.int .i64 (Wd.maskV p.W n), .bool true]) []) := vc_by (cj (rf p.W) (cj (rf n) (cj (rmaskC p.W n) (cj (rf (Wd.maskV p.W n)) (cj (rf true) trivial))))) (by kernel_rfl)
theorem rvalC (p : Pg) (s : S8) (l : List En) (i : Int) (v : Vl) (hb : l.length < 1000000) : PureC Try.prog 44 [.agg (pgA p), .agg (rgA s), enR l, .int .i64 i, .agg (vlA v)] (.tup [.int .i64 (valF p s l i v).1, .bool (valF p s l i v).2]) [] := by
  obtain ⟨b, n⟩ := v
  cases b with
  | true => exact PureC.vc (val_r p s l i n hb)
  | false => exact PureC.vc (val_n p s l i n)
theorem bk_go (p : Pg) (l : List En) (i : Int) (k : Nat) (hk : (k : Int) < i) (hl : k < l.length) (hb : l.length < 1000000) (h : ((enI p l k).kind == 10) = false) : Vc (vcC Try.prog false (ntOf Try.prog 52) (lpC Try.prog 52 0) (bkS p l i k) [.bd true, .bd true, oM10 p l k, .bd false] .nrm [] (bkS p l i (k + 1))) := vc_by (cj (dt ((k : Int) < i)) (cj (dt ((k : Int) < (l.length : Int))) (cj (bi (k : Int) (l.length : Int)) (zM12 p (zM14 p l k (cj (ratC p (l.getD k default).pc) (cj h (cj (i6 ((k : Int) + 1)) (zM12 p (cj (rf p.ls.length) (cj (rr p.ls.length 2 fun i j => rowL lbC p.ls i j) (cj (rf p.is.length) (cj (rr p.is.length 9 fun i j => rowL inC p.is i j) (cj (rf l.length) (cj (rr l.length 8 fun i j => rowL enC l i j) (cj (rf i) (cj (rf ((k : Int) + 1)) (cj (rf false) trivial)))))))))))))))))) (by kernel_rfl)
theorem bk_yes (p : Pg) (l : List En) (i : Int) (k : Nat) (hk : (k : Int) < i) (hl : k < l.length) (hb : l.length < 1000000) (h : ((enI p l k).kind == 10) = true) : Vc (vcC Try.prog false (ntOf Try.prog 52) (lpC Try.prog 52 0) (bkS p l i k) [.bd true, .bd true, oM10 p l k, .bd true] .ret [] (bS 6 true)) := vc_by (cj (dt ((k : Int) < i)) (cj (dt ((k : Int) < (l.length : Int))) (cj (bi (k : Int) (l.length : Int)) (zM12 p (zM14 p l k (cj (ratC p (l.getD k default).pc) (cj h (cj (rf true) trivial)))))))) (by kernel_rfl)
theorem zM15 (p : Pg) (l : List En) (i : Int) (k : Nat) {Z : Prop} (z : Z) : (RF p.ls.length (RR p.ls.length 2 (fun i j => rowL lbC p.ls i j) (RF p.is.length (RR p.is.length 9 (fun i j => rowL inC p.is i j) (RF l.length (RR l.length 8 (fun i j => rowL enC l i j) (RF i (RF (k : Int) (RF false Z))))))))) := ⟨rfl, fun _ _ _ _ => rfl, rfl, fun _ _ _ _ => rfl, rfl, fun _ _ _ _ => rfl, rfl, rfl, rfl, z⟩
theorem bk_i (p : Pg) (l : List En) (i : Int) (k : Nat) (hk : ¬ (k : Int) < i) : Vc (vcC Try.prog false (ntOf Try.prog 52) (lpC Try.prog 52 0) (bkS p l i k) [.bd false] (.ext 0) [] (bkS p l i k)) := vc_by (cj (df ((k : Int) < i)) (zM12 p (zM15 p l i k trivial))) (by kernel_rfl)
theorem bk_l (p : Pg) (l : List En) (i : Int) (k : Nat) (hk : (k : Int) < i) (hl : ¬ k < l.length) : Vc (vcC Try.prog false (ntOf Try.prog 52) (lpC Try.prog 52 0) (bkS p l i k) [.bd true, .bd false] (.ext 0) [] (bkS p l i k)) := vc_by (cj (dt ((k : Int) < i)) (cj (df ((k : Int) < (l.length : Int))) (zM12 p (zM15 p l i k trivial)))) (by kernel_rfl)
theorem cl0_lt {i : Int} {n k : Nat} (h : k < cl0 i n) : (k : Int) < i ∧ k < n := by unfold cl0 at h; omega
theorem cl0_end (i : Int) (n : Nat) : ¬ ((cl0 i n : Nat) : Int) < i ∨ ¬ cl0 i n < n := by unfold cl0; omega
theorem bk_t (p : Pg) (l : List En) (i : Int) (hb : l.length < 1000000) : ∀ j k, k + j = cl0 i l.length → blkG p l k j = true → OkL Try.prog (ntOf Try.prog 52) (lpC Try.prog 52 0) (bkS p l i k).st .ret (bS 6 true).st
  | 0, k, _, h => by cases h
  | j + 1, k, hk, h => by
    have hl := cl0_lt (i := i) (n := l.length) (k := k) (by omega)
    cases hc : ((enI p l k).kind == 10) with
    | true => exact OkL.exit (Ok.vc (bk_yes p l i k hl.1 hl.2 hb hc)) (by simp)
    | false =>
      unfold blkG at h
      rw [hc, Bool.false_or] at h
      exact OkL.step (Ok.vc (bk_go p l i k hl.1 hl.2 hb hc)) (bk_t p l i hb j (k + 1) (by omega) h)
theorem bk_f (p : Pg) (l : List En) (i : Int) (hb : l.length < 1000000) : ∀ j k, k + j = cl0 i l.length → blkG p l k j = false → OkL Try.prog (ntOf Try.prog 52) (lpC Try.prog 52 0) (bkS p l i k).st (.ext 0) (bkS p l i (cl0 i l.length)).st
  | 0, k, hk, h => by
    obtain rfl : k = cl0 i l.length := by omega
    rcases cl0_end i l.length with h1 | h1
    · exact OkL.exit (Ok.vc (bk_i p l i _ h1)) (by simp)
    · by_cases h2 : ((cl0 i l.length : Nat) : Int) < i
      · exact OkL.exit (Ok.vc (bk_l p l i _ h2 h1)) (by simp)
      · exact OkL.exit (Ok.vc (bk_i p l i _ h2)) (by simp)
  | j + 1, k, hk, h => by
    have hl := cl0_lt (i := i) (n := l.length) (k := k) (by omega)
    unfold blkG at h
    rw [Bool.or_eq_false_iff] at h
    exact OkL.step (Ok.vc (bk_go p l i k hl.1 hl.2 hb h.1)) (bk_f p l i hb j (k + 1) (by omega) h.2)
theorem zM16 (p : Pg) (l : List En) (i : Int) {Z : Prop} (z : Z) : (RF p.ls.length (RR p.ls.length 2 (fun i j => rowL lbC p.ls i j) (RF p.is.length (RR p.is.length 9 (fun i j => rowL inC p.is i j) (RF l.length (RR l.length 8 (fun i j => rowL enC l i j) (RF i (RF (0 : Int) (RF false Z))))))))) := ⟨rfl, fun _ _ _ _ => rfl, rfl, fun _ _ _ _ => rfl, rfl, fun _ _ _ _ => rfl, rfl, rfl, rfl, z⟩
theorem blk_t (p : Pg) (l : List En) (i : Int) (h : Ok Try.prog (ntOf Try.prog 52) (.loop (lpC Try.prog 52 0)) (bkS p l i 0).st .ret (bS 6 true).st) : Vc (vcFn Try.prog false 52 [.agg (pgA p), enR l, .int .i64 i] [.fz, .lp [] (bkS p l i 0) .ret (bS 6 true)] [] (.bool true) []) := vc_by (zM12 p (zM16 p l i (cj h (cj (rf true) trivial)))) (by kernel_rfl)
theorem blk_f (p : Pg) (l : List En) (i : Int) (n : Nat) (h : Ok Try.prog (ntOf Try.prog 52) (.loop (lpC Try.prog 52 0)) (bkS p l i 0).st (.ext 0) (bkS p l i n).st) : Vc (vcFn Try.prog false 52 [.agg (pgA p), enR l, .int .i64 i] [.fz, .lp [] (bkS p l i 0) (.ext 0) (bkS p l i n)] [] (.bool false) []) := vc_by (zM12 p (zM16 p l i (cj h (cj (rf false) trivial)))) (by kernel_rfl)
theorem rblkC (p : Pg) (l : List En) (i : Int) (hb : l.length < 1000000) : PureC Try.prog 52 [.agg (pgA p), enR l, .int .i64 i] (.bool (blkV p l i)) [] := by
  unfold blkV
  cases h : blkG p l 0 (cl0 i l.length) with
  | true => exact PureC.vc (blk_t p l i (bk_t p l i hb _ 0 (by omega) h).ok)
  | false => exact PureC.vc (blk_f p l i _ (bk_f p l i hb _ 0 (by omega) h).ok)
end
end Go.Proofs.Ytdnmfgnpflhcpaa.Px
namespace Go.Proofs.Ytdnmfgnpflhcpaa.Px
section
open Go.RowKit Go.Proofs.Ytdnmfgnpflhcpaa.Rx
def ldF (p : Pg) (l : List En) (a : Int) : Nat → Option (Int × Int × Bool)
  | 0 => none
  | k + 1 => if (enI p l k).kind = 3 ∧ (l.getD k default).kn = true ∧ (l.getD k default).adr = a then some (if (l.getD k default).dn then ((l.getD k default).val, (k : Int), true) else (0, 0, false)) else ldF p l a k
def ldV (p : Pg) (m : List Int) (l : List En) (i a : Int) : Int × Int × Bool := match ldF p l a (cl0 i l.length) with
  | some x => x
  | none => if 0 ≤ a ∧ a < m.length then (m.getD a.toNat 0, -1, true) else (0, -1, true)
def ldS (p : Pg) (m : List Int) (l : List En) (a i : Int) : Sm := ⟨[(5, pgP p), (1, lR m), (2, enR l), (4, .int .i64 a), (13, .int .i64 i), (10, .int .i64 0), (11, .int .i64 0), (12, .bool false)], [], 0⟩
def vvbS (a b c : Nat) (x : Int × Int × Bool) : Sm := ⟨[(a, .int .i64 x.1), (b, .int .i64 x.2.1), (c, .bool x.2.2)], [], 0⟩
def hzB (p : Pg) (l : List En) (i a : Int) (k : Nat) : Prop := (enI p l k).kind = 2 ∧ (l.getD k default).kn = true ∧ (l.getD k default).adr = a ∧ (l.getD k default).frm < i
instance (p : Pg) (l : List En) (i a : Int) (k : Nat) : Decidable (hzB p l i a k) := inferInstanceAs (Decidable (_ ∧ _))
/-- the first load that was passed wrongly, from k on, of j -/
def hzG (p : Pg) (l : List En) (i a : Int) : Nat → Nat → Option Nat
  | _, 0 => none
  | k, j + 1 => if hzB p l i a k then some k else hzG p l i a (k + 1) j
def hz0 (i : Int) (n : Nat) : Nat := (min (max i (-1)) (n : Int) + 1).toNat
def hzV (p : Pg) (l : List En) (i a : Int) : Int × Bool := match hzG p l i a (hz0 i l.length) (l.length - hz0 i l.length) with
  | some k => ((k : Int), true)
  | none => (0, false)
def hzS (p : Pg) (l : List En) (i a : Int) (k : Nat) : Sm := ⟨[(4, pgP p), (1, enR l), (2, .int .i64 i), (3, .int .i64 a), (10, .int .i64 k), (8, .int .i64 0), (9, .bool false)], [], 0⟩
theorem zM20 (k : Nat) {Z : Prop} (z : Z) : (RF ((k : Int) - 1) (RF (0 : Int) (RF (0 : Int) (RF false Z)))) := ⟨rfl, rfl, rfl, rfl, z⟩
theorem zM21 (p : Pg) (m : List Int) (l : List En) (a : Int) {Z : Prop} (z : Z) : (RF p.ls.length (RR p.ls.length 2 (fun i j => rowL lbC p.ls i j) (RF p.is.length (RR p.is.length 9 (fun i j => rowL inC p.is i j) (RF m.length (RR m.length 1 (fun i j => aI (m.getD i 0)) (RF l.length (RR l.length 8 (fun i j => rowL enC l i j) (RF a Z))))))))) := ⟨rfl, fun _ _ _ _ => rfl, rfl, fun _ _ _ _ => rfl, rfl, fun _ _ _ _ => rfl, rfl, fun _ _ _ _ => rfl, rfl, z⟩
theorem zM22 (p : Pg) {Z : Prop} (z : Z) : (RF p.W (RF p.win (RF p.fuel (RF p.r0 (RF p.r1 (RF p.r2 (RF p.r3 (RF p.ms.length (RR p.ms.length 3 (fun i j => rowL mmC p.ms i j) Z))))))))) := ⟨rfl, rfl, rfl, rfl, rfl, rfl, rfl, rfl, fun _ _ _ _ => rfl, z⟩
theorem zM23 (p : Pg) (l : List En) (k : Nat) {Z : Prop} (z : Z) : (RF p.ls.length (RR p.ls.length 2 (fun i j => rowL lbC p.ls i j) (RF p.is.length (RR p.is.length 9 (fun i j => rowL inC p.is i j) (RF ((l.getD k default).pc) Z))))) := ⟨rfl, fun _ _ _ _ => rfl, rfl, fun _ _ _ _ => rfl, rfl, z⟩
abbrev oM20 (p : Pg) (l : List En) (k : Nat) : Orc := .cl [.agg (pgA p), .int .i64 (l.getD k default).pc] (.agg (inA (enI p l k))) []
theorem ld_k (p : Pg) (m : List Int) (l : List En) (a : Int) (k : Nat) (hk : k < l.length) (hb : l.length < 1000000) (hk3 : ¬ (enI p l k).kind = 3) : Vc (vcC Try.prog false (ntOf Try.prog 43) (lpC Try.prog 43 0) (ldS p m l a k) [.bd true, oM20 p l k, .bd false] .nrm [] (ldS p m l a ((k : Int) - 1))) := vc_by (cj (dt ((k : Int) ≥ 0)) (cj (bi (k : Int) (l.length : Int)) (zM22 p (zM23 p l k (cj (ratC p (l.getD k default).pc) (cj (beq_eq_false_iff_ne.2 hk3) (cj (i6 ((k : Int) - 1)) (zM22 p (zM21 p m l a (zM20 k trivial)))))))))) (by kernel_rfl)
theorem ld_n (p : Pg) (m : List Int) (l : List En) (a : Int) (k : Nat) (hk : k < l.length) (hb : l.length < 1000000) (hk3 : (enI p l k).kind = 3) (hn : (l.getD k default).kn = false) : Vc (vcC Try.prog false (ntOf Try.prog 43) (lpC Try.prog 43 0) (ldS p m l a k) [.bd true, oM20 p l k, .bd true, .lv (.bool false)] .nrm [] (ldS p m l a ((k : Int) - 1))) := vc_by (cj (dt ((k : Int) ≥ 0)) (cj (bi (k : Int) (l.length : Int)) (zM22 p (zM23 p l k (cj (ratC p (l.getD k default).pc) (cj (beq_iff_eq.2 hk3) (cj (bi (k : Int) (l.length : Int)) (cj (congrArg (fun b => some (AV.bool b)) hn) (cj (i6 ((k : Int) - 1)) (zM22 p (zM21 p m l a (zM20 k trivial)))))))))))) (by kernel_rfl)
theorem ld_a (p : Pg) (m : List Int) (l : List En) (a : Int) (k : Nat) (hk : k < l.length) (hb : l.length < 1000000) (hk3 : (enI p l k).kind = 3) (hn : (l.getD k default).kn = true) (ha : ¬ (l.getD k default).adr = a) : Vc (vcC Try.prog false (ntOf Try.prog 43) (lpC Try.prog 43 0) (ldS p m l a k) [.bd true, oM20 p l k, .bd true, .lv (.bool true), .bd false] .nrm [] (ldS p m l a ((k : Int) - 1))) := vc_by (cj (dt ((k : Int) ≥ 0)) (cj (bi (k : Int) (l.length : Int)) (zM22 p (zM23 p l k (cj (ratC p (l.getD k default).pc) (cj (beq_iff_eq.2 hk3) (cj (bi (k : Int) (l.length : Int)) (cj (congrArg (fun b => some (AV.bool b)) hn) (cj (bi (k : Int) (l.length : Int)) (cj (beq_eq_false_iff_ne.2 ha) (cj (i6 ((k : Int) - 1)) (zM22 p (zM21 p m l a (zM20 k trivial)))))))))))))) (by kernel_rfl)
theorem ld_d (p : Pg) (m : List Int) (l : List En) (a : Int) (k : Nat) (hk : k < l.length) (hb : l.length < 1000000) (hk3 : (enI p l k).kind = 3) (hn : (l.getD k default).kn = true) (ha : (l.getD k default).adr = a) (hd : (l.getD k default).dn = true) : Vc (vcC Try.prog false (ntOf Try.prog 43) (lpC Try.prog 43 0) (ldS p m l a k) [.bd true, oM20 p l k, .bd true, .lv (.bool true), .bd true, .lv (.bool true)] .ret [] (vvbS 10 11 12 ((l.getD k default).val, (k : Int), true))) := vc_by (cj (dt ((k : Int) ≥ 0)) (cj (bi (k : Int) (l.length : Int)) (zM22 p (zM23 p l k (cj (ratC p (l.getD k default).pc) (cj (beq_iff_eq.2 hk3) (cj (bi (k : Int) (l.length : Int)) (cj (congrArg (fun b => some (AV.bool b)) hn) (cj (bi (k : Int) (l.length : Int)) (cj (beq_iff_eq.2 ha) (cj (bi (k : Int) (l.length : Int)) (cj (congrArg (fun b => some (AV.bool b)) hd) (cj (bi (k : Int) (l.length : Int)) (cj (rf ((l.getD k default).val)) (cj (rf (k : Int)) (cj (rf true) trivial)))))))))))))))) (by kernel_rfl)
theorem zM24  {Z : Prop} (z : Z) : (RF (0 : Int) (RF (0 : Int) (RF false Z))) := ⟨rfl, rfl, rfl, z⟩
theorem ld_w (p : Pg) (m : List Int) (l : List En) (a : Int) (k : Nat) (hk : k < l.length) (hb : l.length < 1000000) (hk3 : (enI p l k).kind = 3) (hn : (l.getD k default).kn = true) (ha : (l.getD k default).adr = a) (hd : (l.getD k default).dn = false) : Vc (vcC Try.prog false (ntOf Try.prog 43) (lpC Try.prog 43 0) (ldS p m l a k) [.bd true, oM20 p l k, .bd true, .lv (.bool true), .bd true, .lv (.bool false)] .ret [] (vvbS 10 11 12 (0, 0, false))) := vc_by (cj (dt ((k : Int) ≥ 0)) (cj (bi (k : Int) (l.length : Int)) (zM22 p (zM23 p l k (cj (ratC p (l.getD k default).pc) (cj (beq_iff_eq.2 hk3) (cj (bi (k : Int) (l.length : Int)) (cj (congrArg (fun b => some (AV.bool b)) hn) (cj (bi (k : Int) (l.length : Int)) (cj (beq_iff_eq.2 ha) (cj (bi (k : Int) (l.length : Int)) (cj (congrArg (fun b => some (AV.bool b)) hd) (zM24 trivial))))))))))))) (by kernel_rfl)
theorem ld_end (p : Pg) (m : List Int) (l : List En) (a : Int) : Vc (vcC Try.prog false (ntOf Try.prog 43) (lpC Try.prog 43 0) (ldS p m l a (-1)) [.b false] (.ext 0) [] (ldS p m l a (-1))) := vc_by (cj (df ((-1 : Int) ≥ 0)) (zM22 p (zM21 p m l a (cj (rf (-1 : Int)) (cj (rf (0 : Int)) (cj (rf (0 : Int)) (cj (rf false) trivial))))))) (by kernel_rfl)
theorem ld_find (p : Pg) (m : List Int) (l : List En) (a : Int) (hb : l.length < 1000000) (x : Int × Int × Bool) : ∀ k, k ≤ l.length → ldF p l a k = some x → OkL Try.prog (ntOf Try.prog 43) (lpC Try.prog 43 0) (ldS p m l a ((k : Int) - 1)).st .ret (vvbS 10 11 12 x).st
  | 0, _, h => by cases h
  | k + 1, hk, h => by
    rw [natm1]
    unfold ldF at h
    by_cases hk3 : (enI p l k).kind = 3
    · cases hn : (l.getD k default).kn with
      | false =>
        rw [if_neg (by rw [hn]; simp)] at h
        exact OkL.step (Ok.vc (ld_n p m l a k (by omega) hb hk3 hn)) (ld_find p m l a hb x k (by omega) h)
      | true =>
        by_cases ha : (l.getD k default).adr = a
        · rw [if_pos ⟨hk3, hn, ha⟩] at h
          cases hd : (l.getD k default).dn with
          | true =>
            rw [if_pos hd, Option.some.injEq] at h
            subst h
            exact OkL.exit (Ok.vc (ld_d p m l a k (by omega) hb hk3 hn ha hd)) (by simp)
          | false =>
            rw [if_neg (by rw [hd]; simp), Option.some.injEq] at h
            subst h
            exact OkL.exit (Ok.vc (ld_w p m l a k (by omega) hb hk3 hn ha hd)) (by simp)
        · rw [if_neg fun e => ha e.2.2] at h
          exact OkL.step (Ok.vc (ld_a p m l a k (by omega) hb hk3 hn ha)) (ld_find p m l a hb x k (by omega) h)
    · rw [if_neg fun e => hk3 e.1] at h
      exact OkL.step (Ok.vc (ld_k p m l a k (by omega) hb hk3)) (ld_find p m l a hb x k (by omega) h)
theorem ld_none (p : Pg) (m : List Int) (l : List En) (a : Int) (hb : l.length < 1000000) : ∀ k, k ≤ l.length → ldF p l a k = none → OkL Try.prog (ntOf Try.prog 43) (lpC Try.prog 43 0) (ldS p m l a ((k : Int) - 1)).st (.ext 0) (ldS p m l a (-1)).st
  | 0, _, _ => OkL.exit (Ok.vc (ld_end p m l a)) (by simp)
  | k + 1, hk, h => by
    rw [natm1]
    unfold ldF at h
    by_cases hk3 : (enI p l k).kind = 3
    · cases hn : (l.getD k default).kn with
      | false =>
        rw [if_neg (by rw [hn]; simp)] at h
        exact OkL.step (Ok.vc (ld_n p m l a k (by omega) hb hk3 hn)) (ld_none p m l a hb k (by omega) h)
      | true =>
        by_cases ha : (l.getD k default).adr = a
        · rw [if_pos ⟨hk3, hn, ha⟩] at h
          cases h
        · rw [if_neg fun e => ha e.2.2] at h
          exact OkL.step (Ok.vc (ld_a p m l a k (by omega) hb hk3 hn ha)) (ld_none p m l a hb k (by omega) h)
    · rw [if_neg fun e => hk3 e.1] at h
      exact OkL.step (Ok.vc (ld_k p m l a k (by omega) hb hk3)) (ld_none p m l a hb k (by omega) h)
theorem sM20 (l : List En) (i : Int) (n : Nat) (hE : (if (l.length : Int) < (if i < 0 then 0 else i) then (l.length : Int) else (if i < 0 then 0 else i)) = (n : Int)) : (if (l.length : Int) < if i < 0 then (0 : Int) else i then (l.length : Int) else if i < 0 then (0 : Int) else i) - 1 = (n : Int) - 1 := by rw [hE]
theorem load_y (p : Pg) (m : List Int) (l : List En) (i a : Int) (n : Nat) (x : Int × Int × Bool) (hE : (if (l.length : Int) < (if i < 0 then 0 else i) then (l.length : Int) else (if i < 0 then 0 else i)) = (n : Int)) (hn : n < 1000000) (h : Ok Try.prog (ntOf Try.prog 43) (.loop (lpC Try.prog 43 0)) (ldS p m l a ((n : Int) - 1)).st .ret (vvbS 10 11 12 x).st) : Vc (vcFn Try.prog false 43 [.agg (pgA p), lR m, enR l, .int .i64 i, .int .i64 a] [.fz, .lp [] (ldS p m l a ((n : Int) - 1)) .ret (vvbS 10 11 12 x)] [] (.tup [.int .i64 x.1, .int .i64 x.2.1, .bool x.2.2]) []) := vc_by (cj (show inK IntKind.i64 ((if (l.length : Int) < if i < 0 then (0 : Int) else i then (l.length : Int) else if i < 0 then (0 : Int) else i) - 1) from by rw [hE]; exact in64 (by omega) (by omega)) (zM22 p (zM21 p m l a (cj (sM20 l i n hE) (zM24 (cj h (cj (rf (Prod.fst x)) (cj (rf (Prod.fst (Prod.snd x))) (cj (rf (Prod.snd (Prod.snd x))) trivial))))))))) (by kernel_rfl)
theorem zM25  {Z : Prop} (z : Z) : (RF (0 : Int) (RF (-1 : Int) (RF true Z))) := ⟨rfl, rfl, rfl, z⟩
abbrev qM21 (p : Pg) (m : List Int) (l : List En) (a : Int) (n : Nat) : Prop := Ok Try.prog (ntOf Try.prog 43) (.loop (lpC Try.prog 43 0)) (ldS p m l a ((n : Int) - 1)).st (.ext 0) (ldS p m l a (-1)).st
theorem load_neg (p : Pg) (m : List Int) (l : List En) (i a : Int) (n : Nat) (hE : (if (l.length : Int) < (if i < 0 then 0 else i) then (l.length : Int) else (if i < 0 then 0 else i)) = (n : Int)) (hn : n < 1000000) (h : qM21 p m l a n) (ha : a < 0) : Vc (vcFn Try.prog false 43 [.agg (pgA p), lR m, enR l, .int .i64 i, .int .i64 a] [.fz, .lp [] (ldS p m l a ((n : Int) - 1)) (.ext 0) (ldS p m l a (-1)), .bd true] [] (.tup [.int .i64 0, .int .i64 (-1), .bool true]) []) := vc_by (cj (show inK IntKind.i64 ((if (l.length : Int) < if i < 0 then (0 : Int) else i then (l.length : Int) else if i < 0 then (0 : Int) else i) - 1) from by rw [hE]; exact in64 (by omega) (by omega)) (zM22 p (zM21 p m l a (cj (sM20 l i n hE) (zM24 (cj h (cj (dt (a < 0)) (zM25 trivial)))))))) (by kernel_rfl)
theorem load_out (p : Pg) (m : List Int) (l : List En) (i a : Int) (n : Nat) (hE : (if (l.length : Int) < (if i < 0 then 0 else i) then (l.length : Int) else (if i < 0 then 0 else i)) = (n : Int)) (hn : n < 1000000) (h : qM21 p m l a n) (h0 : 0 ≤ a) (ha : ¬ a < m.length) : Vc (vcFn Try.prog false 43 [.agg (pgA p), lR m, enR l, .int .i64 i, .int .i64 a] [.fz, .lp [] (ldS p m l a ((n : Int) - 1)) (.ext 0) (ldS p m l a (-1)), .bd false, .bd true] [] (.tup [.int .i64 0, .int .i64 (-1), .bool true]) []) := vc_by (cj (show inK IntKind.i64 ((if (l.length : Int) < if i < 0 then (0 : Int) else i then (l.length : Int) else if i < 0 then (0 : Int) else i) - 1) from by rw [hE]; exact in64 (by omega) (by omega)) (zM22 p (zM21 p m l a (cj (sM20 l i n hE) (zM24 (cj h (cj (df (a < 0)) (cj (dt (a ≥ (m.length : Int))) (zM25 trivial))))))))) (by kernel_rfl)
theorem load_in (p : Pg) (m : List Int) (l : List En) (i a : Int) (n : Nat) (hE : (if (l.length : Int) < (if i < 0 then 0 else i) then (l.length : Int) else (if i < 0 then 0 else i)) = (n : Int)) (hn : n < 1000000) (h : qM21 p m l a n) (h0 : 0 ≤ a) (ha : a < m.length) : Vc (vcFn Try.prog false 43 [.agg (pgA p), lR m, enR l, .int .i64 i, .int .i64 a] [.fz, .lp [] (ldS p m l a ((n : Int) - 1)) (.ext 0) (ldS p m l a (-1)), .bd false, .bd false] [] (.tup [.int .i64 (m.getD a.toNat 0), .int .i64 (-1), .bool true]) []) := vc_by (cj (show inK IntKind.i64 ((if (l.length : Int) < if i < 0 then (0 : Int) else i then (l.length : Int) else if i < 0 then (0 : Int) else i) - 1) from by rw [hE]; exact in64 (by omega) (by omega)) (zM22 p (zM21 p m l a (cj (sM20 l i n hE) (zM24 (cj h (cj (df (a < 0)) (cj (df (a ≥ (m.length : Int))) (cj (bi a (m.length : Int)) (cj (rf (m.getD (Int.toNat a) (0 : Int))) (cj (rf (-1 : Int)) (cj (rf true) trivial)))))))))))) (by kernel_rfl)
theorem rldC (p : Pg) (m : List Int) (l : List En) (i a : Int) (hb : l.length < 1000000) : PureC Try.prog 43 [.agg (pgA p), lR m, enR l, .int .i64 i, .int .i64 a] (.tup [.int .i64 (ldV p m l i a).1, .int .i64 (ldV p m l i a).2.1, .bool (ldV p m l i a).2.2]) [] := by
  have hE := cl0_eq i l.length
  have hle := cl0_le i l.length
  unfold ldV
  cases h : ldF p l a (cl0 i l.length) with
  | some x => exact PureC.vc (load_y p m l i a _ x hE (by omega) (ld_find p m l a hb x _ hle h).ok)
  | none =>
    have hl := (ld_none p m l a hb _ hle h).ok
    by_cases ha : 0 ≤ a ∧ a < m.length
    · rw [if_pos ha]
      exact PureC.vc (load_in p m l i a _ hE (by omega) hl ha.1 ha.2)
    · rw [if_neg ha]
      by_cases h0 : a < 0
      · exact PureC.vc (load_neg p m l i a _ hE (by omega) hl h0)
      · exact PureC.vc (load_out p m l i a _ hE (by omega) hl (by omega) (by omega))
theorem zM26 (p : Pg) (l : List En) (i : Int) (a : Int) (k : Nat) {Z : Prop} (z : Z) : (RF p.ls.length (RR p.ls.length 2 (fun i j => rowL lbC p.ls i j) (RF p.is.length (RR p.is.length 9 (fun i j => rowL inC p.is i j) (RF l.length (RR l.length 8 (fun i j => rowL enC l i j) (RF i (RF a (RF ((k : Int) + 1) Z))))))))) := ⟨rfl, fun _ _ _ _ => rfl, rfl, fun _ _ _ _ => rfl, rfl, fun _ _ _ _ => rfl, rfl, rfl, rfl, z⟩
theorem hz_k (p : Pg) (l : List En) (i a : Int) (k : Nat) (hk : k < l.length) (hb : l.length < 1000000) (hk3 : ¬ (enI p l k).kind = 2) : Vc (vcC Try.prog false (ntOf Try.prog 50) (lpC Try.prog 50 0) (hzS p l i a k) [.bd true, oM20 p l k, .bd false] .nrm [] (hzS p l i a (k + 1))) := vc_by (cj (dt ((k : Int) < (l.length : Int))) (cj (bi (k : Int) (l.length : Int)) (zM22 p (zM23 p l k (cj (ratC p (l.getD k default).pc) (cj (beq_eq_false_iff_ne.2 hk3) (cj (i6 ((k : Int) + 1)) (zM22 p (zM26 p l i a k (cj (rf (0 : Int)) (cj (rf false) trivial))))))))))) (by kernel_rfl)
theorem hz_n (p : Pg) (l : List En) (i a : Int) (k : Nat) (hk : k < l.length) (hb : l.length < 1000000) (hk3 : (enI p l k).kind = 2) (hn : (l.getD k default).kn = false) : Vc (vcC Try.prog false (ntOf Try.prog 50) (lpC Try.prog 50 0) (hzS p l i a k) [.bd true, oM20 p l k, .bd true, .lv (.bool false)] .nrm [] (hzS p l i a (k + 1))) := vc_by (cj (dt ((k : Int) < (l.length : Int))) (cj (bi (k : Int) (l.length : Int)) (zM22 p (zM23 p l k (cj (ratC p (l.getD k default).pc) (cj (beq_iff_eq.2 hk3) (cj (bi (k : Int) (l.length : Int)) (cj (congrArg (fun b => some (AV.bool b)) hn) (cj (i6 ((k : Int) + 1)) (zM22 p (zM26 p l i a k (cj (rf (0 : Int)) (cj (rf false) trivial))))))))))))) (by kernel_rfl)
theorem hz_a (p : Pg) (l : List En) (i a : Int) (k : Nat) (hk : k < l.length) (hb : l.length < 1000000) (hk3 : (enI p l k).kind = 2) (hn : (l.getD k default).kn = true) (ha : ¬ (l.getD k default).adr = a) : Vc (vcC Try.prog false (ntOf Try.prog 50) (lpC Try.prog 50 0) (hzS p l i a k) [.bd true, oM20 p l k, .bd true, .lv (.bool true), .bd false] .nrm [] (hzS p l i a (k + 1))) := vc_by (cj (dt ((k : Int) < (l.length : Int))) (cj (bi (k : Int) (l.length : Int)) (zM22 p (zM23 p l k (cj (ratC p (l.getD k default).pc) (cj (beq_iff_eq.2 hk3) (cj (bi (k : Int) (l.length : Int)) (cj (congrArg (fun b => some (AV.bool b)) hn) (cj (bi (k : Int) (l.length : Int)) (cj (beq_eq_false_iff_ne.2 ha) (cj (i6 ((k : Int) + 1)) (zM22 p (zM26 p l i a k (cj (rf (0 : Int)) (cj (rf false) trivial))))))))))))))) (by kernel_rfl)
theorem hz_f (p : Pg) (l : List En) (i a : Int) (k : Nat) (hk : k < l.length) (hb : l.length < 1000000) (hk3 : (enI p l k).kind = 2) (hn : (l.getD k default).kn = true) (ha : (l.getD k default).adr = a) (hf : ¬ (l.getD k default).frm < i) : Vc (vcC Try.prog false (ntOf Try.prog 50) (lpC Try.prog 50 0) (hzS p l i a k) [.bd true, oM20 p l k, .bd true, .lv (.bool true), .bd true, .bd false] .nrm [] (hzS p l i a (k + 1))) := vc_by (cj (dt ((k : Int) < (l.length : Int))) (cj (bi (k : Int) (l.length : Int)) (zM22 p (zM23 p l k (cj (ratC p (l.getD k default).pc) (cj (beq_iff_eq.2 hk3) (cj (bi (k : Int) (l.length : Int)) (cj (congrArg (fun b => some (AV.bool b)) hn) (cj (bi (k : Int) (l.length : Int)) (cj (beq_iff_eq.2 ha) (cj (bi (k : Int) (l.length : Int)) (cj (decide_eq_false hf) (cj (i6 ((k : Int) + 1)) (zM22 p (zM26 p l i a k (cj (rf (0 : Int)) (cj (rf false) trivial))))))))))))))))) (by kernel_rfl)
theorem hz_y (p : Pg) (l : List En) (i a : Int) (k : Nat) (hk : k < l.length) (hb : l.length < 1000000) (hk3 : (enI p l k).kind = 2) (hn : (l.getD k default).kn = true) (ha : (l.getD k default).adr = a) (hf : (l.getD k default).frm < i) : Vc (vcC Try.prog false (ntOf Try.prog 50) (lpC Try.prog 50 0) (hzS p l i a k) [.bd true, oM20 p l k, .bd true, .lv (.bool true), .bd true, .bd true] .ret [] (vbS 8 9 ((k : Int), true))) := vc_by (cj (dt ((k : Int) < (l.length : Int))) (cj (bi (k : Int) (l.length : Int)) (zM22 p (zM23 p l k (cj (ratC p (l.getD k default).pc) (cj (beq_iff_eq.2 hk3) (cj (bi (k : Int) (l.length : Int)) (cj (congrArg (fun b => some (AV.bool b)) hn) (cj (bi (k : Int) (l.length : Int)) (cj (beq_iff_eq.2 ha) (cj (bi (k : Int) (l.length : Int)) (cj (decide_eq_true hf) (cj (rf (k : Int)) (cj (rf true) trivial)))))))))))))) (by kernel_rfl)
theorem hz_end (p : Pg) (l : List En) (i a : Int) (k : Nat) (hk : ¬ k < l.length) : Vc (vcC Try.prog false (ntOf Try.prog 50) (lpC Try.prog 50 0) (hzS p l i a k) [.b false] (.ext 0) [] (hzS p l i a k)) := vc_by (cj (df ((k : Int) < (l.length : Int))) (zM22 p (cj (rf p.ls.length) (cj (rr p.ls.length 2 fun i j => rowL lbC p.ls i j) (cj (rf p.is.length) (cj (rr p.is.length 9 fun i j => rowL inC p.is i j) (cj (rf l.length) (cj (rr l.length 8 fun i j => rowL enC l i j) (cj (rf i) (cj (rf a) (cj (rf (k : Int)) (cj (rf (0 : Int)) (cj (rf false) trivial))))))))))))) (by kernel_rfl)
theorem hz_find (p : Pg) (l : List En) (i a : Int) (hb : l.length < 1000000) (q : Nat) : ∀ j k, k + j = max k l.length → hzG p l i a k j = some q → OkL Try.prog (ntOf Try.prog 50) (lpC Try.prog 50 0) (hzS p l i a k).st .ret (vbS 8 9 ((q : Int), true)).st
  | 0, k, _, h => by cases h
  | j + 1, k, hk, h => by
    unfold hzG at h
    by_cases hz : hzB p l i a k
    · rw [if_pos hz] at h
      obtain ⟨hk3, hn, ha, hf⟩ := hz
      rw [Option.some.injEq] at h
      subst h
      exact OkL.exit (Ok.vc (hz_y p l i a k (by omega) hb hk3 hn ha hf)) (by simp)
    · rw [if_neg hz] at h
      refine OkL.step ?_ (hz_find p l i a hb q j (k + 1) (by omega) h)
      by_cases hk3 : (enI p l k).kind = 2
      · cases hn : (l.getD k default).kn with
        | false => exact Ok.vc (hz_n p l i a k (by omega) hb hk3 hn)
        | true =>
          by_cases ha : (l.getD k default).adr = a
          · exact Ok.vc (hz_f p l i a k (by omega) hb hk3 hn ha fun hf => hz ⟨hk3, hn, ha, hf⟩)
          · exact Ok.vc (hz_a p l i a k (by omega) hb hk3 hn ha)
      · exact Ok.vc (hz_k p l i a k (by omega) hb hk3)
theorem hz_none (p : Pg) (l : List En) (i a : Int) (hb : l.length < 1000000) : ∀ j k, k + j = max k l.length → hzG p l i a k j = none → OkL Try.prog (ntOf Try.prog 50) (lpC Try.prog 50 0) (hzS p l i a k).st (.ext 0) (hzS p l i a (max k l.length)).st
  | 0, k, hk, _ => by
    rw [show max k l.length = k by omega]
    exact OkL.exit (Ok.vc (hz_end p l i a k (by omega))) (by simp)
  | j + 1, k, hk, h => by
    rw [show max k l.length = max (k + 1) l.length by omega]
    unfold hzG at h
    by_cases hz : hzB p l i a k
    · rw [if_pos hz] at h
      obtain ⟨hk3, hn, ha, hf⟩ := hz
      cases h
    · rw [if_neg hz] at h
      refine OkL.step ?_ (hz_none p l i a hb j (k + 1) (by omega) h)
      by_cases hk3 : (enI p l k).kind = 2
      · cases hn : (l.getD k default).kn with
        | false => exact Ok.vc (hz_n p l i a k (by omega) hb hk3 hn)
        | true =>
          by_cases ha : (l.getD k default).adr = a
          · exact Ok.vc (hz_f p l i a k (by omega) hb hk3 hn ha fun hf => hz ⟨hk3, hn, ha, hf⟩)
          · exact Ok.vc (hz_a p l i a k (by omega) hb hk3 hn ha)
      · exact Ok.vc (hz_k p l i a k (by omega) hb hk3)
theorem mxI (a b : Int) : (if a < b then b else a) = max a b := by split <;> omega
theorem hz0_eq (i : Int) (n : Nat) : (if (n : Int) < (if i < -1 then -1 else i) then (n : Int) else (if i < -1 then -1 else i)) + 1 = (hz0 i n : Int) := by
  unfold hz0; rw [mxI, mnI]; omega
theorem zM27 (p : Pg) (l : List En) (i : Int) (a : Int) {Z : Prop} (z : Z) : (RF p.ls.length (RR p.ls.length 2 (fun i j => rowL lbC p.ls i j) (RF p.is.length (RR p.is.length 9 (fun i j => rowL inC p.is i j) (RF l.length (RR l.length 8 (fun i j => rowL enC l i j) (RF i (RF a Z)))))))) := ⟨rfl, fun _ _ _ _ => rfl, rfl, fun _ _ _ _ => rfl, rfl, fun _ _ _ _ => rfl, rfl, rfl, z⟩
theorem haz_y (p : Pg) (l : List En) (i a : Int) (n : Nat) (q : Nat) (hE : (if (l.length : Int) < (if i < -1 then -1 else i) then (l.length : Int) else (if i < -1 then -1 else i)) + 1 = (n : Int)) (hn : n < 1000001) (h : Ok Try.prog (ntOf Try.prog 50) (.loop (lpC Try.prog 50 0)) (hzS p l i a n).st .ret (vbS 8 9 ((q : Int), true)).st) : Vc (vcFn Try.prog false 50 [.agg (pgA p), enR l, .int .i64 i, .int .i64 a] [.fz, .lp [] (hzS p l i a n) .ret (vbS 8 9 ((q : Int), true))] [] (.tup [.int .i64 q, .bool true]) []) := vc_by (cj (show inK IntKind.i64 ((if (l.length : Int) < if i < (-1 : Int) then (-1 : Int) else i then (l.length : Int) else if i < (-1 : Int) then (-1 : Int) else i) + 1) from by rw [hE]; exact in64 (by omega) (by omega)) (zM22 p (zM27 p l i a (cj (show (if (l.length : Int) < if i < (-1 : Int) then (-1 : Int) else i then (l.length : Int) else if i < (-1 : Int) then (-1 : Int) else i) + 1 = (n : Int) from by first | exact hE | rw [hE]) (cj (rf (0 : Int)) (cj (rf false) (cj h (cj (rf (q : Int)) (cj (rf true) trivial))))))))) (by kernel_rfl)
theorem haz_n (p : Pg) (l : List En) (i a : Int) (n : Nat) (N : Nat) (hE : (if (l.length : Int) < (if i < -1 then -1 else i) then (l.length : Int) else (if i < -1 then -1 else i)) + 1 = (n : Int)) (hn : n < 1000001) (h : Ok Try.prog (ntOf Try.prog 50) (.loop (lpC Try.prog 50 0)) (hzS p l i a n).st (.ext 0) (hzS p l i a N).st) : Vc (vcFn Try.prog false 50 [.agg (pgA p), enR l, .int .i64 i, .int .i64 a] [.fz, .lp [] (hzS p l i a n) (.ext 0) (hzS p l i a N)] [] (.tup [.int .i64 0, .bool false]) []) := vc_by (cj (show inK IntKind.i64 ((if (l.length : Int) < if i < (-1 : Int) then (-1 : Int) else i then (l.length : Int) else if i < (-1 : Int) then (-1 : Int) else i) + 1) from by rw [hE]; exact in64 (by omega) (by omega)) (zM22 p (zM27 p l i a (cj (show (if (l.length : Int) < if i < (-1 : Int) then (-1 : Int) else i then (l.length : Int) else if i < (-1 : Int) then (-1 : Int) else i) + 1 = (n : Int) from by first | exact hE | rw [hE]) (cj (rf (0 : Int)) (cj (rf false) (cj h (cj (rf (0 : Int)) (cj (rf false) trivial))))))))) (by kernel_rfl)
theorem rhzC (p : Pg) (l : List En) (i a : Int) (hb : l.length < 1000000) : PureC Try.prog 50 [.agg (pgA p), enR l, .int .i64 i, .int .i64 a] (.tup [.int .i64 (hzV p l i a).1, .bool (hzV p l i a).2]) [] := by
  have hE := hz0_eq i l.length
  have hle : hz0 i l.length ≤ l.length + 1 := by unfold hz0; omega
  unfold hzV
  cases h : hzG p l i a (hz0 i l.length) (l.length - hz0 i l.length) with
  | some q => exact PureC.vc (haz_y p l i a _ q hE (by omega) (hz_find p l i a hb q _ _ (by omega) h).ok)
  | none => exact PureC.vc (haz_n p l i a _ _ hE (by omega) (hz_none p l i a hb _ _ (by omega) h).ok)
end
end Go.Proofs.Ytdnmfgnpflhcpaa.Px
namespace Go.Proofs.Ytdnmfgnpflhcpaa.Px
section
open Go.RowKit Go.Proofs.Ytdnmfgnpflhcpaa.Rx
theorem rowL_take {l : List En} {k i j : Nat} (h : i < k) : rowL enC l i j = rowL enC (l.take k) i j := by
  unfold rowL
  rw [List.getD_eq_getElem?_getD, List.getD_eq_getElem?_getD, List.getElem?_take, if_pos h]
theorem at_in (p : Pg) (pc : Int) (h0 : 0 ≤ pc) (h1 : pc < p.is.length) : Vc (vcFn Try.prog false 27 [.agg (pgA p), .int .i64 pc] [.fz, .bd false, .bd false] [] (.agg (inA (p.is.getD pc.toNat default))) []) := vc_by (cj (df (pc < 0)) (cj (df (pc ≥ (↑p.is.length : Int))) (cj (bi pc (↑p.is.length : Int)) (cj (rf ((p.is.getD (Int.toNat pc) default).kind)) (cj (rf ((p.is.getD (Int.toNat pc) default).op)) (cj (rf ((p.is.getD (Int.toNat pc) default).d)) (cj (rf ((p.is.getD (Int.toNat pc) default).a.reg)) (cj (rf ((p.is.getD (Int.toNat pc) default).a.n)) (cj (rf ((p.is.getD (Int.toNat pc) default).b.reg)) (cj (rf ((p.is.getD (Int.toNat pc) default).b.n)) (cj (rf ((p.is.getD (Int.toNat pc) default).nm)) (cj (rf ((p.is.getD (Int.toNat pc) default).tg)) trivial)))))))))))) (by kernel_rfl)
theorem zL00  {Z : Prop} (z : Z) : (RF (12 : Int) (RF (0 : Int) (RF (0 : Int) (RF false (RF (0 : Int) (RF false (RF (0 : Int) (RF (ByteArray.mk (Array.mk [])) (RF (0 : Int) Z))))))))) := ⟨rfl, rfl, rfl, rfl, rfl, rfl, rfl, rfl, rfl, z⟩
theorem at_neg (p : Pg) (pc : Int) (h0 : ¬ 0 ≤ pc) : Vc (vcFn Try.prog false 27 [.agg (pgA p), .int .i64 pc] [.fz, .bd true] [] (.agg (inA { In0 with kind := 12 })) []) := vc_by (cj (dt (pc < 0)) (zL00 trivial)) (by kernel_rfl)
theorem at_out (p : Pg) (pc : Int) (h0 : 0 ≤ pc) (h1 : ¬ pc < p.is.length) : Vc (vcFn Try.prog false 27 [.agg (pgA p), .int .i64 pc] [.fz, .bd false, .bd true] [] (.agg (inA { In0 with kind := 12 })) []) := vc_by (cj (df (pc < 0)) (cj (dt (pc ≥ (↑p.is.length : Int))) (zL00 trivial))) (by kernel_rfl)
theorem atC (p : Pg) (pc : Int) : PureC Try.prog 27 [.agg (pgA p), .int .i64 pc] (.agg (inA (atI p pc))) [] := by
  by_cases h0 : 0 ≤ pc
  · by_cases h1 : pc < p.is.length
    · rw [atI_in h0 h1]; exact PureC.vc (at_in p pc h0 h1)
    · rw [atI_out fun h => h1 h.2]; exact PureC.vc (at_out p pc h0 h1)
  · rw [atI_out fun h => h0 h.1]; exact PureC.vc (at_neg p pc h0)
theorem cut_vc (l : List En) (n : Int) (k : Nat) (hE : (if (l.length : Int) < (if n < 0 then 0 else n) then (l.length : Int) else (if n < 0 then 0 else n)) = (k : Int)) (hkl : k ≤ l.length) (hb : l.length < 1000000) : Vc (vcFn Try.prog false 13 [enR l, .int .i64 n] [] [(0, 0)] (.own 0 0 8 0 (l.take k).length) [enB (l.take k)]) := vc_by (cj (show ((0 : Int) ≤ if (l.length : Int) < if n < 0 then (0 : Int) else n then (l.length : Int) else if n < 0 then (0 : Int) else n) ∧ (if (l.length : Int) < if n < 0 then (0 : Int) else n then (l.length : Int) else if n < 0 then (0 : Int) else n) ≤ (l.length : Int) from by rw [hE]; omega) (cj (show Int.toNat (if (l.length : Int) < if n < 0 then (0 : Int) else n then (l.length : Int) else if n < 0 then (0 : Int) else n) * 48 ≤ 140737488355328 ∧ Int.toNat (if (l.length : Int) < if n < 0 then (0 : Int) else n then (l.length : Int) else if n < 0 then (0 : Int) else n) ≤ 140737488355328 from by rw [hE, Int.toNat_natCast]; omega) (cj (show Int.toNat (if (l.length : Int) < if n < 0 then (0 : Int) else n then (l.length : Int) else if n < 0 then (0 : Int) else n) = (List.take k l).length from by rw [hE, List.length_take, Int.toNat_natCast]; omega) (cj (show ∀ (i : Nat), i < Int.toNat (if (l.length : Int) < if n < 0 then (0 : Int) else n then (l.length : Int) else if n < 0 then (0 : Int) else n) → ∀ (j : Nat), j < 8 → rowL enC l i j = rowL enC (List.take k l) i j from (fun i hi j hj => by rw [hE, Int.toNat_natCast] at hi; exact rowL_take hi)) (cj (rf (0 : Nat)) (cj (show Int.toNat (if (l.length : Int) < if n < 0 then (0 : Int) else n then (l.length : Int) else if n < 0 then (0 : Int) else n) = (List.take k l).length from by rw [hE, List.length_take, Int.toNat_natCast]; omega) trivial)))))) (by kernel_rfl)
theorem cutC (l : List En) (n : Int) (k : Nat) (hk : (k : Int) = min (max n 0) (l.length : Int)) (hb : l.length < 1000000) : PureC Try.prog 13 [enR l, .int .i64 n] (.own 0 0 8 0 (l.take k).length) [enB (l.take k)] := by
  refine PureC.vc (cut_vc l n k ?_ (by omega) hb)
  rw [hk]
  repeat' split
  all_goals omega
theorem cutF (l : List En) (n : Int) (k : Nat) (hk : (k : Int) = min (max n 0) (l.length : Int)) (hb : l.length < 1000000) : PureC Try.prog 13 [enR l, .int .i64 n] (enR (l.take k)) [] := (cutC l n k hk hb).frozen
end
end Go.Proofs.Ytdnmfgnpflhcpaa.Px
namespace Go.Proofs.Ytdnmfgnpflhcpaa.Rx
section
open Go.RowKit
section
variable {P : Program} {ops : Array Oper} {Q : Exit → Act → World → Prop} {r n : Nat}
theorem upon_in {o : Oper} {a : Act} {K K' : Act → World → Prop} (hK : ∀ a w, K a w → K' a w) (res : Result Next) (h : o.upon P a K Q res) : o.uponIn (Fence.wide.inRound r) n P a K' Q res := by
  cases res with
  | ok x w' =>
    cases x <;> simp only [Oper.upon, Oper.uponIn] at h ⊢
    case value => exact hK _ _ h
    case skip => exact hK _ _ h
    case defer => exact hK _ _ h
    case enter f args => exact ⟨by simp [Fence.wide, Fence.inRound], CallsIn.inRound r (callsIn_wide.2 (h.mono fun e w'' he => by cases e <;> first | exact hK _ _ he | exact he))⟩
    case row row args => exact ⟨by simp [Fence.wide, Fence.inRound], fun c cs _ => let ⟨v, w'', q, s⟩ := h c cs; ⟨v, w'', hK _ _ q, stepsIn_wide.2 s⟩⟩
    all_goals exact h
  | halt x w' => cases x <;> simp only [Oper.upon, Oper.uponIn] at h ⊢ <;> exact h
/-- no operation is a defer -/
def noDefer (ops : Array Oper) : Bool := ops.toList.all fun o => match o.op with | .defer _ => false | _ => true
theorem noDefer_op {i : Nat} {o : Oper} (h : noDefer ops = true) (ho : ops[i]? = some o) : ∀ c, o.op ≠ .defer c := fun c e => by
  unfold noDefer at h
  rw [List.all_eq_true] at h
  have := h o (by have := Array.mem_of_getElem? ho; simpa using this)
  rw [e] at this
  simp at this
theorem wpOpsIn_of (hL : ¬ LetsOut Q) (hd : noDefer ops = true) : ∀ (l : List Nat) (a : Act) (w : World), wpOps P ops Q l a w → wpOpsIn (Fence.wide.inRound r) n P ops Q l a w
  | [], a, w, h => h
  | i :: l, a, w, h => by
    unfold wpOps at h
    unfold wpOpsIn
    cases ho : ops[i]? with
    | none => rw [ho] at h; exact wpOpsIn_of hL hd l a w h
    | some o =>
      rw [ho] at h
      simp only at h ⊢
      split
      · rename_i hw
        rw [if_pos hw] at h
        rcases h with h | h
        · refine ⟨fun f _ => trivial, ?_⟩
          rw [show Oper.semAt (Fence.wide.inRound r).round a.eval o = execOp a.eval o from Oper.semAt_eq _ _ _ (noDefer_op hd ho)]
          exact upon_in (fun a w => wpOpsIn_of hL hd l a w) _ h
        · exact absurd h.2 hL
      · rename_i hw
        rw [if_neg hw] at h
        exact ⟨fun f _ => trivial, wpOpsIn_of hL hd l _ w h⟩
theorem wpIn_any {id : Nat} {a : Act} {w : World} (hL : ¬ LetsOut Q) (hd : noDefer ops = true) (hm : P.follows .mixedOrders = true)
    (h : wpAny P .any ops Q ops.size (Array.replicate ops.size false) a { w with drawn := w.drawn + 1 }) : (Code.region id ops true).wpIn (Fence.wide.inRound r) n P Q a w :=
  wpIn_region_draw fun t => by
    simp only [Region.schedule, hm, Bool.true_or, if_true]
    exact wpOpsIn_of hL hd _ a _ (wpAny_sound ops.size t _ a _ h)
end
/-- text that a round may hold -/
def plainC : Code → Bool
  | .skip | .exit _ | .ret => true
  | .region _ ops _ => noDefer ops
  | .seq a b | .cond _ a b => plainC a && plainC b
  | .block _ c => plainC c
  | _ => false
section
variable {P : Program}
abbrev nil0 : Dfs := ⟨[]⟩
theorem evCodeR_sound {md : Bool} {call : CallF} (hcall : CallOk P call) {nt l n : Nat} : ∀ (c : Code) {st : St} {orc : List Orc} {q : X × St × List Orc × List Prop} {cx : Cx} {a : Act}, plainC c = true → evCode P (drawA P md) false md call nt c st orc = some q → (∀ p ∈ q.2.2.2, p) → @SRep nil0 cx st a nt →
    ∀ Q : Exit → Act → World → Prop, ¬ LetsOut Q → (∀ cx' a', @SRep nil0 cx' q.2.1 a' nt → Stab cx cx' → Q q.1.to a' cx'.w) → c.wpIn (Fence.wide.inRound l) n P Q a cx.w
  | .skip, st, orc, q, cx, a, hc, h, hp, hs, Q, hL, hQ => by
    simp only [evCode, Option.some.injEq] at h; subst h
    exact wpIn_skip (hQ cx a hs (Stab.refl cx))
  | .region id ops draw, st, orc, q, cx, a, hc, h, hp, hs, Q, hL, hQ => by
    have hreg : ∀ {orc' : List Orc} {q1 : St × List Orc × List Prop}, evReg P (drawA P md) md call nt ops draw st orc' = some q1 → (∀ p ∈ q1.2.2, p) → (∀ cx' a', @SRep nil0 cx' q1.1 a' nt → Stab cx cx' → Q .normal a' cx'.w) → (Code.region id ops draw).wpIn (Fence.wide.inRound l) n P Q a cx.w := by
      intro orc' q1 hq1 hp1 hQ1
      unfold evReg at hq1
      cases draw with
      | true =>
        obtain ⟨h1, h2⟩ := @drawA_any P nil0 md call hcall nt ops st orc' q1 cx a hq1 hp1 hs Q hQ1
        exact wpIn_any hL hc h1 h2
      | false => exact wpIn_region (wpOpsIn_of hL hc _ a _ (@evOps_sound P nil0 md call hcall nt ops Q _ _ _ _ _ _ hq1 hp1 hs hQ1))
    unfold evCode at h
    split at h
    · simp at h
    · cases hdw : draw with
      | true => rw [hdw] at h; simp at h
      | false =>
        rw [hdw] at h
        simp only [cond_false] at h
        obtain ⟨q1, hq1, rfl⟩ := Option.map_eq_some_iff.1 h
        rw [← hdw] at hq1 ⊢
        exact hreg hq1 hp hQ
    · obtain ⟨q1, hq1, rfl⟩ := Option.map_eq_some_iff.1 h
      exact hreg hq1 hp hQ
  | .seq c d, st, orc, q, cx, a, hc, h, hp, hs, Q, hL, hQ => by
    unfold evCode at h
    rw [plainC, Bool.and_eq_true] at hc
    obtain ⟨q1, hq1, h1⟩ := Option.bind_eq_some_iff.1 h
    clear h
    refine wpIn_seq ?_
    split at h1
    · rename_i hx
      obtain ⟨q2, hq2, rfl⟩ := Option.map_eq_some_iff.1 h1
      refine evCodeR_sound hcall c hc.1 hq1 (fun p hp' => hp p (by simp [hp'])) hs _ (fun ⟨a, w, h⟩ => hL ⟨a, w, h⟩) fun cx1 a1 hs1 ha1 => ?_
      rw [hx]
      exact evCodeR_sound hcall d hc.2 hq2 (fun p hp' => hp p (by simp [hp'])) hs1 Q hL fun cx2 a2 hs2 ha2 => hQ cx2 a2 hs2 (ha1.trans ha2)
    · rename_i hx
      simp only [Option.some.injEq] at h1; subst h1
      refine evCodeR_sound hcall c hc.1 hq1 hp hs _ (fun ⟨a, w, h⟩ => hL ⟨a, w, h⟩) fun cx1 a1 hs1 ha1 => ?_
      have := hQ cx1 a1 hs1 ha1
      cases hxx : q1.1 with
      | nrm => exact absurd hxx hx
      | ext id => rw [hxx] at this; exact this
      | ret => rw [hxx] at this; exact this
  | .cond x c d, st, orc, q, cx, a, hc, h, hp, hs, Q, hL, hQ => by
    unfold evCode at h
    rw [plainC, Bool.and_eq_true] at hc
    split at h
    · simp at h
    split at h
    · rename_i t ht
      have hr := rep_eval (cx := cx) (a := a) (@SRep.env nil0 _ _ _ _ hs) x
      rw [ht] at hr
      have hv := hr.bool_inv
      split at h
      · rename_i t' orc' _
        obtain ⟨q1, hq1, rfl⟩ := Option.map_eq_some_iff.1 h
        have e := hp (t = t') (by simp)
        subst e
        refine wpIn_cond hv ?_
        cases t with
        | true => exact evCodeR_sound hcall c hc.1 hq1 (fun p hp' => hp p (by simp [hp'])) hs Q hL hQ
        | false => exact evCodeR_sound hcall d hc.2 hq1 (fun p hp' => hp p (by simp [hp'])) hs Q hL hQ
      · refine wpIn_cond hv ?_
        cases t with
        | true => exact evCodeR_sound hcall c hc.1 h hp hs Q hL hQ
        | false => exact evCodeR_sound hcall d hc.2 h hp hs Q hL hQ
    · cases h
  | .block id c, st, orc, q, cx, a, hc, h, hp, hs, Q, hL, hQ => by
    unfold evCode at h
    split at h
    · simp at h
    obtain ⟨q1, hq1, h1⟩ := Option.map_eq_some_iff.1 h
    clear h
    refine wpIn_block ?_
    have hcs : q1.2.2.2 = q.2.2.2 ∧ q1.2.1 = q.2.1 := by
      rw [← h1]
      cases hx : q1.1 with
      | nrm => exact ⟨rfl, rfl⟩
      | ext i =>
        simp only
        cases Nat.beq i id <;> exact ⟨rfl, rfl⟩
      | ret => exact ⟨rfl, rfl⟩
    refine evCodeR_sound hcall c (by simpa [plainC] using hc) hq1 (by rw [hcs.1]; exact hp) hs _ (fun ⟨a, w, h⟩ => hL ⟨a, w, h⟩) fun cx1 a1 hs1 ha1 => ?_
    have := hQ cx1 a1 (by rw [← hcs.2]; exact hs1) ha1
    cases hx : q1.1 with
    | nrm =>
      rw [hx] at h1
      simp only at h1
      rw [← h1, hx] at this
      exact this
    | ext i =>
      rw [hx] at h1
      simp only at h1
      cases hb : Nat.beq i id with
      | true =>
        rw [hb] at h1
        simp only [cond_true] at h1
        have e := Nat.eq_of_beq_eq_true hb
        subst e
        rw [← h1] at this
        simp only [X.to, Exit.inBlock, if_true]
        exact this
      | false =>
        rw [hb] at h1
        simp only [cond_false] at h1
        rw [← h1, hx] at this
        have hne : ¬ i = id := fun e => by rw [e, Nat.beq_refl] at hb; cases hb
        simp only [X.to, Exit.inBlock, hne, if_false]
        exact this
    | ret =>
      rw [hx] at h1
      simp only at h1
      rw [← h1, hx] at this
      exact this
  | .exit id, st, orc, q, cx, a, hc, h, hp, hs, Q, hL, hQ => by
    simp only [evCode, Option.some.injEq] at h; subst h
    exact wpIn_exit (hQ cx a hs (Stab.refl cx))
  | .ret, st, orc, q, cx, a, hc, h, hp, hs, Q, hL, hQ => by
    simp only [evCode, Option.some.injEq] at h; subst h
    exact wpIn_ret (hQ cx a hs (Stab.refl cx))
  | .loop _, st, orc, q, cx, a, hc, h, hp, hs, Q, hL, hQ => by cases hc
  | .rangeFunc .., st, orc, q, cx, a, hc, h, hp, hs, Q, hL, hQ => by cases hc
  | .scope _, st, orc, q, cx, a, hc, h, hp, hs, Q, hL, hQ => by cases hc
  | .label _, st, orc, q, cx, a, hc, h, hp, hs, Q, hL, hQ => by cases hc
  | .goto _, st, orc, q, cx, a, hc, h, hp, hs, Q, hL, hQ => by cases hc
  | .refuse _, st, orc, q, cx, a, hc, h, hp, hs, Q, hL, hQ => by cases hc
end
end
end Go.Proofs.Ytdnmfgnpflhcpaa.Rx
namespace Go.Proofs.Ytdnmfgnpflhcpaa.Rx
section
open Go.RowKit
/-- an iterator that yields N times, so and so, to rounds that keep what it reads -/
def IterC (P : Program) (gf : FuncId) (caps : List AV) (N : Nat) (xs : Nat → List AV) : Prop :=
  ∀ (w : World) (R : Nat → Prop) (vs : Array Value), (∀ g, R g → g < w.heap.size) → caps.length = vs.size → (∀ (j : Nat) a v, caps[j]? = some a → vs[j]? = some v → RepP w R a v) →
    ∀ (n l : Nat) (J : Nat → World → Prop) (Jx : World → Prop), (∀ k W W', J k W → Below W.heap.size W W' → J k W') → (∀ k W, J k W → ∀ g, R g → W.heap[g]? = w.heap[g]?) →
      (∀ k W (us : Array Value), J k W → k < N → (xs k).length = us.size → (∀ (j : Nat) a u, (xs k)[j]? = some a → us[j]? = some u → RepP W R a u) →
        YieldAt Fence.wide (n - 1) P l us W fun e W' => (e = .returned (.bool true) ∧ J (k + 1) W') ∨ (e = .returned (.bool false) ∧ Jx W')) →
      ∀ W, J 0 W → CallsIn Fence.wide n P gf (#[.func (.yield l) #[] #[]] ++ vs) W fun e W' => (∃ v, e = .returned v) ∧ (J N W' ∨ Jx W')
/-- variables last -/
structure BSt (cx cx' : Cx) : Prop where
  ext : Ext cx cx'
  box : ∀ id b, cx.H id = some b → b.c.isBox = true → ∃ b', cx'.H id = some b' ∧ b'.c.isBox = true ∧ cx'.φ id = cx.φ id
theorem Stab.bst {cx cx' : Cx} (h : Stab cx cx') : BSt cx cx' := ⟨h.ext, fun id b hb hx => by
  obtain ⟨b', h1, h2, h3⟩ := h.ids id b hb
  obtain ⟨h4, h5⟩ := h2 (h3 hx)
  exact ⟨b', h1, h5.box hx, h4⟩⟩
theorem BSt.trans {a b c : Cx} (h : BSt a b) (k : BSt b c) : BSt a c := ⟨h.ext.trans k.ext, fun id x hx hb => by
  obtain ⟨y, h1, h2, h3⟩ := h.box id x hx hb
  obtain ⟨z, k1, k2, k3⟩ := k.box id y h1 h2
  exact ⟨z, k1, k2, k3.trans h3⟩⟩
def keepC : AV → Bool
  | .own .. | .eptr .. | .agg _ | .tup _ | .clo _ (_ :: _) => false
  | _ => true
/-- known as long as variables last -/
def keepA : AV → Bool
  | .agg cs => cs.all keepC
  | .tup cs => cs.all keepC
  | .clo _ cs => cs.all keepC
  | a => keepC a
theorem Rep.keepC {cx cx' : Cx} {a : AV} {v : Value} (h : Rep cx a v) (ha : Rx.keepC a = true) (hc : CRep cx) (hs : BSt cx cx') : Rep cx' a v := by
  cases h with
  | pure h => exact .pure (h.ext hc hs.ext)
  | bptr hb hx hg =>
    obtain ⟨b', h1, h2, h3⟩ := hs.box _ _ hb hx
    exact .bptr h1 h2 (h3.trans hg)
  | bsl hb hx hg =>
    obtain ⟨b', h1, h2, h3⟩ := hs.box _ _ hb hx
    exact .bsl h1 h2 (h3.trans hg)
  | eptr hb hle ho h => cases ha
  | own hb hle ho h => cases ha
  | agg hl h1 h => cases ha
  | tup hl h => cases ha
  | @clo f cs vs hl h =>
    cases cs with
    | nil => exact .clo hl fun j a v hj => by simp at hj
    | cons c cs => cases ha
theorem Rep.keep {cx cx' : Cx} {a : AV} {v : Value} (h : Rep cx a v) (ha : keepA a = true) (hc : CRep cx) (hs : BSt cx cx') : Rep cx' a v := by
  cases h with
  | agg hl h1 h => exact .agg hl h1 fun j a v hj hv => (h j a v hj hv).keepC (List.all_eq_true.1 ha a (List.mem_of_getElem? hj)) hc hs
  | tup hl h => exact .tup hl fun j a v hj hv => (h j a v hj hv).keepC (List.all_eq_true.1 ha a (List.mem_of_getElem? hj)) hc hs
  | clo hl h => exact .clo hl fun j a v hj hv => (h j a v hj hv).keepC (List.all_eq_true.1 ha a (List.mem_of_getElem? hj)) hc hs
  | pure h => exact .pure (h.ext hc hs.ext)
  | bptr hb hx hg => exact (Rep.bptr hb hx hg).keepC rfl hc hs
  | bsl hb hx hg => exact (Rep.bsl hb hx hg).keepC rfl hc hs
  | eptr hb hle ho h => cases ha
  | own hb hle ho h => cases ha
/-- a state in which a round begins: what was yielded is known -/
def envP (env : Nat → AV) : List Nat → List AV → (Nat → AV)
  | p :: ps, x :: xs => envP (upd env p x) ps xs
  | _, _ => env
def boxOk (r : List (Nat × Nat)) (Hk Hk' : List (Nat × Blk)) : Bool := Hk.all fun q => !q.2.c.isBox || (match lookO r q.1, lookO Hk' q.1 with
  | some i, some b => Nat.beq i q.1 && b.c.isBox
  | _, _ => false)
theorem boxOk_some {r : List (Nat × Nat)} {Hk Hk' : List (Nat × Blk)} (h : boxOk r Hk Hk' = true) {id : Nat} {b : Blk} (hb : lookO Hk id = some b) (hx : b.c.isBox = true) : lookO r id = some id ∧ ∃ b', lookO Hk' id = some b' ∧ b'.c.isBox = true := by
  have := List.all_eq_true.1 h _ (lookO_mem hb)
  simp only [hx, Bool.not_true, Bool.false_or] at this
  split at this
  · rename_i i b' h1 h2
    rw [Bool.and_eq_true] at this
    rw [Nat.eq_of_beq_eq_true this.1] at h1
    exact ⟨h1, b', h2, this.2⟩
  · cases this
def PieceR (P : Program) (nt : Nat) (c : Code) (st : St) (x : X) (st' : St) : Prop :=
  ∀ (l n : Nat) (cx : Cx) (a : Act), @SRep nil0 cx st a nt → ∀ Q : Exit → Act → World → Prop, ¬ LetsOut Q → (∀ cx' a', @SRep nil0 cx' st' a' nt → Stab cx cx' → Q x.to a' cx'.w) → c.wpIn (Fence.wide.inRound l) n P Q a cx.w
/-- a round -/
def Rnd (P : Program) (nt : Nat) (ps : List Nat) (xk : List AV) (assign body : Code) (I : Sm) (Hk : List (Nat × Blk)) (x : X) (Hk' : List (Nat × Blk)) : Prop :=
  ∃ st1 st2 r qs, PieceR P nt assign ⟨envP I.st.env ps xk, lookO Hk, I.next⟩ .nrm st1 ∧ PieceR P nt body st1 x st2 ∧ boxOk r Hk Hk' = true ∧ leS r st2 ⟨[], Hk', I.next⟩ = some qs ∧ ∀ p ∈ qs, p
/-- what one must show for a round -/
def vcRnd (P : Program) (md : Bool) (nt : Nat) (ps : List Nat) (xk : List AV) (assign body : Code) (I : Sm) (Hk : List (Nat × Blk)) (orc : List Orc) (x : X) (r : List (Nat × Nat)) (Hk' : List (Nat × Blk)) : Prop :=
  match evCode P (drawA P md) false md (callA P (evFn P (drawA P md) md 100 false)) nt assign ⟨envP I.st.env ps xk, lookO Hk, I.next⟩ orc with
  | some q => match evCode P (drawA P md) false md (callA P (evFn P (drawA P md) md 100 false)) nt body q.2.1 q.2.2.1 with
    | some q2 => bif plainC assign && plainC body && eqX q.1 .nrm && eqX q2.1 x && boxOk r Hk Hk' then match leS r q2.2.1 ⟨[], Hk', I.next⟩ with
      | some qs => allP (q.2.2.2 ++ q2.2.2.2 ++ qs)
      | none => False
      else False
    | none => False
  | none => False
section
variable {P : Program}
theorem Rnd.vc {md : Bool} {nt : Nat} {ps : List Nat} {xk : List AV} {assign body : Code} {I : Sm} {Hk Hk' : List (Nat × Blk)} {orc : List Orc} {x : X} {r : List (Nat × Nat)} (h : Vc (vcRnd P md nt ps xk assign body I Hk orc x r Hk')) : Rnd P nt ps xk assign body I Hk x Hk' := by
  replace h := h.out
  unfold vcRnd at h
  split at h
  · rename_i q hq
    split at h
    · rename_i q2 hq2
      cases hb : plainC assign && plainC body && eqX q.1 .nrm && eqX q2.1 x && boxOk r Hk Hk' with
      | false => rw [hb] at h; exact h.elim
      | true =>
        rw [hb] at h
        simp only [cond_true] at h
        simp only [Bool.and_eq_true] at hb
        obtain ⟨⟨⟨⟨b1, b2⟩, b3⟩, b4⟩, b5⟩ := hb
        split at h
        · rename_i qs hqs
          have hall := allP_mem h
          refine ⟨q.2.1, q2.2.1, r, qs, fun l n cx a hs Q hL hQ => ?_, fun l n cx a hs Q hL hQ => ?_, b5, hqs, fun p hp => hall p (by simp [hp])⟩
          · exact evCodeR_sound (callA_evFn 100) assign b1 hq (fun p hp => hall p (by simp [hp])) hs Q hL (by rw [eqX_eq b3]; exact hQ)
          · exact evCodeR_sound (callA_evFn 100) body b2 hq2 (fun p hp => hall p (by simp [hp])) hs Q hL (by rw [eqX_eq b4]; exact hQ)
        · cases h
    · cases h
  · cases h
theorem envP_rep {cx : Cx} : ∀ (ps : List Nat) (xs : List AV) (us : List Value) (env : Nat → AV) (t : Array Value), xs.length = us.length → ps.length = us.length → (∀ p ∈ ps, p < t.size) → (∀ i, Rep cx (env i) (t.getD i undef)) → (∀ (j : Nat) a u, xs[j]? = some a → us[j]? = some u → Rep cx a u) →
    ∀ i, Rep cx (envP env ps xs i) (((ps.zip us).foldl (fun t q => t.setIfInBounds q.1 q.2) t).getD i undef)
  | [], xs, us, env, t, h1, h2, hp, he, hx, i => by cases xs <;> simpa [envP] using he i
  | p :: ps, [], us, env, t, h1, h2, hp, he, hx, i => by simp at h1 h2; omega
  | p :: ps, x :: xs, [], env, t, h1, h2, hp, he, hx, i => by simp at h2
  | p :: ps, x :: xs, u :: us, env, t, h1, h2, hp, he, hx, i => by
    refine envP_rep ps xs us (upd env p x) (t.setIfInBounds p u) (by simpa using h1) (by simpa using h2) (fun q hq => by rw [Array.size_setIfInBounds]; exact hp q (by simp [hq])) (fun k => ?_) (fun j a v ha hv => hx (j + 1) a v (by simpa using ha) (by simpa using hv)) i
    rw [Array.getD_eq_getD_getElem?, Array.getElem?_setIfInBounds]
    by_cases e : k = p
    · subst e
      rw [upd_same]
      have := hp k (by simp)
      simpa [this] using hx 0 x u rfl rfl
    · rw [upd_other _ _ _ _ e]
      have e' : ¬ p = k := fun h => e h.symm
      simp only [e', if_false]
      rw [← Array.getD_eq_getD_getElem?]
      exact he k
theorem fold_size : ∀ (l : List (Nat × Value)) (t : Array Value), (l.foldl (fun t q => t.setIfInBounds q.1 q.2) t).size = t.size
  | [], t => rfl
  | q :: l, t => by rw [List.foldl_cons, fold_size l, Array.size_setIfInBounds]
/-- a loop's record -/
def recOf' (fn : FuncId) (a : Act) (ps : Array Tmp) (assign body : Code) (D : Nat) (st : LoopState) (pe : Option Code) : Loop := { state := st, pending := pe, fn, tmps := a.tmps, params := ps, assign, body, defers := D }
/-- a round's end -/
def e_post (P : Program) (l : Nat) (jump : Option Code) (w : World) (R : Ending → World → Prop) : Prop := ∃ v w', (Instr.endRound l jump).run P w = .ok v w' ∧ R (.returned v) w'
/-- a context between two rounds -/
structure Btw (P : Program) (cx0 : Cx) (I : Sm) (a : Act) (nt : Nat) (l D : Nat) (rec : Loop) (Hk : List (Nat × Blk)) (W : World) (cx : Cx) : Prop where
  w : cx.w = W
  s : @SRep nil0 cx ⟨I.st.env, lookO Hk, I.next⟩ a nt
  bst : Ext cx0 cx
  hl : W.heap[l]? = some (.loop rec)
  hR : ¬ cx.R l
  hD : W.heap[D]? = some (.deferred (some []))
  hRD : ¬ cx.R D
theorem SRep.moved {d : Dfs} {cx cx' : Cx} {st : St} {a : Act} {nt : Nat} (hs : @SRep d cx st a nt) (hc : CRep cx') (h : Stab cx cx') (hH : cx'.H = cx.H := by rfl) : @SRep d cx' st a nt :=
  ⟨hH.trans hs.H, hc, fun t => (hs.env t).stab hs.c h, hs.lt, hs.sz, hs.df⟩
theorem Btw.below {cx0 : Cx} {I : Sm} {a : Act} {nt l D : Nat} {rec : Loop} {Hk : List (Nat × Blk)} {W W' : World} {cx : Cx} (h : Btw P cx0 I a nt l D rec Hk W cx) (hb : Below W.heap.size W W') : Btw P cx0 I a nt l D rec Hk W' ⟨W', cx.R, cx.φ, cx.H, cx.B⟩ := by
  have hw := h.w
  subst hw
  obtain ⟨k1, k2⟩ := below_keep (@SRep.c nil0 _ _ _ _ h.s) hb
  have hk : ∀ (g : Nat) (o : Obj), cx.w.heap[g]? = some o → W'.heap[g]? = some o := fun g o hg => (hb.block g (Array.getElem?_eq_some_iff.1 hg).1).trans hg
  exact ⟨rfl, h.s.moved k1 k2, h.bst.trans k2.ext, hk _ _ h.hl, h.hR, hk _ _ h.hD, h.hRD⟩
/-- the record is turned -/
theorem Btw.turn {cx0 : Cx} {I : Sm} {a : Act} {nt l D : Nat} {rec : Loop} {Hk : List (Nat × Blk)} {W : World} {cx : Cx} (h : Btw P cx0 I a nt l D rec Hk W cx) (hB : ¬ cx.B l) (hne : D ≠ l) (rec' : Loop) : Btw P cx0 I a nt l D rec' Hk (W.putObj l (.loop rec')) (cx.poke l (.loop rec')) := by
  have hw := h.w
  subst hw
  exact ⟨rfl, @SRep.poke nil0 _ _ _ _ h.s l _ _ h.hl rfl h.hR hB, h.bst.trans (poke_stab _ h.hR hB).ext, World.putObj_heap_same (Array.getElem?_eq_some_iff.1 h.hl).1, h.hR, (World.putObj_heap_other hne).trans h.hD, h.hRD⟩
end
end
end Go.Proofs.Ytdnmfgnpflhcpaa.Rx
namespace Go.Proofs.Ytdnmfgnpflhcpaa.Rx
section
open Go.RowKit
section
variable {P : Program}
/-- **one round, from one context between rounds to the next** -/
theorem Btw.round {nt : Nat} {ps : List Nat} {xk : List AV} {assign body : Code} {I : Sm} {Hk Hk' : List (Nat × Blk)} {x : X} (hr : Rnd P nt ps xk assign body I Hk x Hk') {cx0 : Cx} {a : Act} {l D fn : Nat} {pa : Array Tmp} {W : World} {cx : Cx}
    (h : Btw P cx0 I a nt l D (recOf' fn a pa assign body D .ready none) Hk W cx) (hB : ¬ cx.B l) (hBD : ¬ cx.B D) (hne : D ≠ l) (hkeep : (I.env.all fun q => keepA q.2) = true) (hps : ps = pa.toList) (hlt : ∀ p ∈ ps, p < nt)
    {us : Array Value} (hl1 : xk.length = us.size) (hl2 : xk.length = ps.length) (hu : ∀ (j : Nat) a u, xk[j]? = some a → us[j]? = some u → Rep cx a u) {m : Nat} {jump : Option Code} (hj : jump = match x with | .nrm => none | .ext id => some (.exit id) | .ret => some .ret) :
    YieldAt Fence.wide m P l us W fun e W' => e = .returned (.bool jump.isNone) ∧ ∃ cx', Btw P cx0 I a nt l D (recOf' fn a pa assign body D (if jump.isNone then .ready else .done) jump) Hk' W' cx' ∧ cx'.B = cx.B := by
  have hw := h.w
  subst hw
  letI : Dfs := nil0
  obtain ⟨st1, st2, r, qs, hP1, hP2, hbx, hle, hqs⟩ := hr
  have hs := h.s
  have hy := run_yield (P := P) (args := us) h.hl (by show us.size = pa.size; rw [← hl1, hl2, hps, Array.length_toList])
  refine ⟨fn, _, assign, body, hy, roundIn_of_wpIn trivial ?_⟩
  clear hy
  -- the round's first state
  have ha0 : (({ tmps := (pa.zip us).foldl (fun t q => t.setIfInBounds q.1 q.2) a.tmps, defers := [] } : Act)).tmps.size = nt := by
    show ((pa.zip us).foldl (fun t q => t.setIfInBounds q.1 q.2) a.tmps).size = nt
    rw [← Array.foldl_toList, fold_size]
    exact hs.sz
  have hs1 : @SRep nil0 cx ⟨envP I.st.env ps xk, lookO Hk, I.next⟩ { tmps := (pa.zip us).foldl (fun t q => t.setIfInBounds q.1 q.2) a.tmps, defers := [] } nt := by
    refine @SRep.mk nil0 _ _ _ _ hs.H (@SRep.c nil0 _ _ _ _ hs) (fun t => ?_) hs.lt ha0 rfl
    show Rep cx _ (((pa.zip us).foldl (fun t q => t.setIfInBounds q.1 q.2) a.tmps).getD t undef)
    rw [← Array.foldl_toList, Array.toList_zip, ← hps]
    exact envP_rep ps xk us.toList I.st.env a.tmps (by simpa using hl1) (by rw [← hl2, hl1, Array.length_toList]) (fun p hp => by rw [hs.sz]; exact hlt p hp) (fun t => @SRep.env nil0 _ _ _ _ hs t) (fun j a u h1 h2 => hu j a u h1 (by simpa using h2)) t
  have hS : ∀ E ∈ [l, D], ¬ cx.R E ∧ ∃ o, cx.w.heap[E]? = some o ∧ o.isCells = false := fun E hE => by
    rcases List.mem_cons.1 hE with rfl | hE
    · exact ⟨h.hR, _, h.hl, rfl⟩
    · rw [List.mem_singleton.1 hE]; exact ⟨h.hRD, _, h.hD, rfl⟩
  refine hP1 l m (cx.plus [l, D]) _ (@SRep.plus nil0 _ _ _ _ hs1 [l, D] fun E hE => (hS E hE).2) _ (by rintro ⟨_, _, h⟩; exact h) fun cxa aa hsa hta => ?_
  have ka := plus_keeps hta.ext hS
  have kl := ka l (by simp); have kD := ka D (by simp)
  have hal : cxa.w.heap[l]? = some (.loop (recOf' fn a pa assign body D .ready none)) := kl.1.trans h.hl
  have haD : cxa.w.heap[D]? = some (.deferred (some [])) := kD.1.trans h.hD
  have hsa' : @SRep nil0 (cxa.back cx) st1 aa nt := @SRep.back nil0 _ _ _ _ _ hsa fun g hg => by rw [hta.ext.B]; exact .inl hg
  refine ⟨_, run_beginRound hal rfl, ?_⟩
  -- the record is busy
  have hlt1 : l < cxa.w.heap.size := (Array.getElem?_eq_some_iff.1 hal).1
  have hsb : @SRep nil0 ((cxa.back cx).poke l (.loop (recOf' fn a pa assign body D .busy none))) st1 aa nt := @SRep.poke nil0 _ _ _ _ hsa' l _ _ hal rfl kl.2 hB
  have hbl : (cxa.w.putObj l (.loop (recOf' fn a pa assign body D .busy none))).heap[l]? = some (.loop (recOf' fn a pa assign body D .busy none)) := World.putObj_heap_same hlt1
  have hbD : (cxa.w.putObj l (.loop (recOf' fn a pa assign body D .busy none))).heap[D]? = some (.deferred (some [])) := (World.putObj_heap_other hne).trans haD
  have hS2 : ∀ E ∈ [l, D], ¬ ((cxa.back cx).poke l (.loop (recOf' fn a pa assign body D .busy none))).R E ∧ ∃ o, ((cxa.back cx).poke l (.loop (recOf' fn a pa assign body D .busy none))).w.heap[E]? = some o ∧ o.isCells = false := fun E hE => by
    rcases List.mem_cons.1 hE with rfl | hE
    · exact ⟨kl.2, _, hbl, rfl⟩
    · rw [List.mem_singleton.1 hE]; exact ⟨kD.2, _, hbD, rfl⟩
  have hstb : Stab cx ((cxa.back cx).poke l (.loop (recOf' fn a pa assign body D .busy none))) := hta.back.trans (poke_stab _ kl.2 hB)
  refine hP2 l m (((cxa.back cx).poke l (.loop (recOf' fn a pa assign body D .busy none))).plus [l, D]) _ (@SRep.plus nil0 _ _ _ _ hsb [l, D] fun E hE => (hS2 E hE).2) _ (by rintro ⟨_, _, h⟩; exact h) fun cxc ac hsc htc => ?_
  -- what is known is named anew
  obtain ⟨m1, m2, m3⟩ := leS_sound (@SRep.c nil0 _ _ _ _ hsc) (@SRep.H nil0 _ _ _ _ hsc) hle hqs (@SRep.env nil0 _ _ _ _ hsc)
  have hre := ren_ext (@SRep.c nil0 _ _ _ _ hsc) r (lookO Hk')
  have hed : Ext (((cxa.back cx).poke l (.loop (recOf' fn a pa assign body D .busy none))).plus [l, D]) (cxc.ren r (lookO Hk')) := htc.ext.trans hre
  have kc := plus_keeps hed hS2
  have ml := kc l (by simp); have mD := kc D (by simp)
  have hcl : cxc.w.heap[l]? = some (.loop (recOf' fn a pa assign body D .busy none)) := ml.1.trans hbl
  have hcD : cxc.w.heap[D]? = some (.deferred (some [])) := mD.1.trans hbD
  have hbst : BSt cx ((cxc.ren r (lookO Hk')).back ((cxa.back cx).poke l (.loop (recOf' fn a pa assign body D .busy none)))) := by
    refine ⟨hstb.ext.trans hed.back, fun id b hb hx => ?_⟩
    obtain ⟨b1, h1, h2, h3⟩ := hstb.bst.box id b hb hx
    obtain ⟨b2, h4, h5, h6⟩ := htc.bst.box id b1 h1 h2
    have hb' : lookO Hk id = some b := by rw [← hb, @SRep.H nil0 _ _ _ _ hs]
    obtain ⟨q1, b', q2, q3⟩ := boxOk_some hbx hb' hx
    refine ⟨b', q2, q3, ?_⟩
    show (lookO r id).bind cxc.φ = cx.φ id
    rw [q1]
    exact h6.trans h3
  have hsd : @SRep nil0 ((cxc.ren r (lookO Hk')).back ((cxa.back cx).poke l (.loop (recOf' fn a pa assign body D .busy none)))) ⟨I.st.env, lookO Hk', I.next⟩ a nt := by
    have hB2 : ∀ g, cx.B g → (cxc.ren r (lookO Hk')).B g := fun g hg => by rw [hed.B]; exact .inl hg
    have hc2 : @SRep nil0 (cxc.ren r (lookO Hk')) ⟨fun _ => .junk, lookO Hk', I.next⟩ ac nt := @SRep.mk nil0 _ _ _ _ rfl m1 (fun t => .pure (.junk _)) m3 (@SRep.sz nil0 _ _ _ _ hsc) (@SRep.df nil0 _ _ _ _ hsc)
    have hc3 := @SRep.back nil0 ((cxa.back cx).poke l (.loop (recOf' fn a pa assign body D .busy none))) _ _ _ _ hc2 hB2
    refine @SRep.mk nil0 _ _ _ _ rfl (@SRep.c nil0 _ _ _ _ hc3) (fun t => ?_) m3 (@SRep.sz nil0 _ _ _ _ hs) (@SRep.df nil0 _ _ _ _ hs)
    refine (@SRep.env nil0 _ _ _ _ hs t).keep ?_ (@SRep.c nil0 _ _ _ _ hs) hbst
    show keepA (look .junk I.env t) = true
    have : ∀ (L : List (Nat × AV)), (L.all fun q => keepA q.2) = true → keepA (look .junk L t) = true := fun L => by
      induction L with
      | nil => intro _; rfl
      | cons q L ih =>
        obtain ⟨k, v⟩ := q
        intro hL
        rw [List.all_cons, Bool.and_eq_true] at hL
        rw [look]
        cases Nat.beq t k with
        | true => exact hL.1
        | false => exact ih hL.2
    exact this I.env hkeep
  have hbtw : Btw P cx0 I a nt l D (recOf' fn a pa assign body D .busy none) Hk' cxc.w ((cxc.ren r (lookO Hk')).back ((cxa.back cx).poke l (.loop (recOf' fn a pa assign body D .busy none)))) :=
    ⟨rfl, hsd, h.bst.trans hbst.ext, hcl, ml.2, hcD, mD.2⟩
  have hend := run_endRound (P := P) jump hcl
  have hfin : e_post P l jump cxc.w (fun e W' => e = .returned (.bool jump.isNone) ∧ ∃ cx', Btw P cx0 I a nt l D (recOf' fn a pa assign body D (if jump.isNone then .ready else .done) jump) Hk' W' cx' ∧ cx'.B = cx.B) :=
    ⟨_, _, hend, rfl, _, hbtw.turn hB hne _, rfl⟩
  subst hj
  cases x with
  | nrm => exact hfin
  | ext id => exact hfin
  | ret => exact hfin
/-- **A loop over a function: m rounds that go on, and one that leaves, or none.** -/
theorem Ok.range {nt : Nat} {g : Operand} {pa : Array Tmp} {assign body : Code} {gf : FuncId} {caps : List AV} {N m : Nat} {xs : Nat → List AV} {I : Sm} {F : Nat → List (Nat × Blk)} {x : X} {G : List (Nat × Blk)}
    (hg : evalA I.st.env g = .clo gf caps) (hcb : caps.all baseA = true) (hkeep : (I.env.all fun q => keepA q.2) = true) (hfo : fnOk P gf = true) (hit : IterC P gf caps N xs) (hpl : ∀ k, (xs k).length = pa.size) (hlt : ∀ p ∈ pa.toList, p < nt) (hF0 : F 0 = I.heap) (hm : m ≤ N)
    (hr : ∀ k, k < m → Rnd P nt pa.toList (xs k) assign body I (F k) .nrm (F (k + 1)))
    (hend : (m = N ∧ x = .nrm ∧ G = F N) ∨ (m < N ∧ x ≠ .nrm ∧ Rnd P nt pa.toList (xs m) assign body I (F m) x G)) : Ok P nt (.rangeFunc g pa assign body) I.st x (⟨I.env, G, I.next⟩ : Sm).st := by
  intro d cx a hs Q hQ
  obtain ⟨fo, g1, g2, g3⟩ := fnOk_some hfo
  obtain ⟨bd, hbd⟩ := Option.isSome_iff_exists.1 g2
  have hge := rep_eval hs.env g
  rw [hg] at hge
  obtain ⟨vs, hv, hvl, hvr⟩ := hge.clo_inv
  refine (wpIn_wide (n := 2)).1 (wpIn_rangeFunc ?_)
  intro fn hfn
  obtain ⟨l, hl⟩ : ∃ l, l = cx.w.heap.size + 1 := ⟨_, rfl⟩
  obtain ⟨D, hD⟩ : ∃ D, D = cx.w.heap.size := ⟨_, rfl⟩
  obtain ⟨a0, ha0⟩ : ∃ a0 : Act, a0 = { tmps := a.tmps, defers := [] } := ⟨_, rfl⟩
  have hat : a0.tmps = a.tmps := by rw [ha0]
  obtain ⟨W1, hW1⟩ : ∃ W1, (cx.w.alloc (.deferred (some []))).alloc (.loop (recOf' fn a0 pa assign body D .ready none)) = W1 := ⟨_, rfl⟩
  have hb1 : Below cx.w.heap.size cx.w W1 := by rw [← hW1]; exact (((Below.refl _ _).alloc (Nat.le_refl _) _).alloc (by simp) _)
  have hW1l : W1.heap[l]? = some (.loop (recOf' fn a0 pa assign body D .ready none)) := by
    rw [← hW1, hl]; have := World.alloc_heap_new (cx.w.alloc (.deferred (some []))) (.loop (recOf' fn a0 pa assign body D .ready none)); rwa [World.size_alloc] at this
  have hW1D : W1.heap[D]? = some (.deferred (some [])) := by
    rw [← hW1, hD]; exact (Below.heap_alloc _ _ _ (by simp)).trans (World.alloc_heap_new cx.w _)
  have hne : D ≠ l := by omega
  have hnB : ∀ c : Cx, c.B = cx.B → ¬ c.B l ∧ ¬ c.B D := fun c e => by
    rw [e]
    exact ⟨fun h => by have := hs.c.blt l h; omega, fun h => by have := hs.c.blt D h; omega⟩
  have hs0 : @SRep nil0 cx ⟨I.st.env, lookO I.heap, I.next⟩ a0 nt := @SRep.mk nil0 _ _ _ _ hs.H hs.c (by rw [ha0]; exact hs.env) hs.lt (by rw [ha0]; exact hs.sz) (by rw [ha0]; rfl)
  have h0 : Btw P cx I a0 nt l D (recOf' fn a0 pa assign body D .ready none) (F 0) W1 ⟨W1, cx.R, cx.φ, cx.H, cx.B⟩ := by
    obtain ⟨k1, k2⟩ := below_keep hs.c hb1
    rw [hF0]
    exact ⟨rfl, SRep.moved hs0 k1 k2, k2.ext, hW1l, fun h => by have := hs.c.rlt l h; omega, hW1D, fun h => by have := hs.c.rlt D h; omega⟩
  refine ⟨l, [{ target := .collected D, args := #[] }], W1, { target := .fn (.func gf) vs, args := #[.func (.yield l) #[] #[]] }, W1, gf, #[.func (.yield l) #[] #[]] ++ vs, W1, ?_, ?_, ?_, ?_, by simp [Fence.wide], ?_⟩
  · rw [← hW1, hl, hD, ha0]; exact run_enterLoop_outer _ _ _ _ _
  · simp only [resolve, hv]
    simp [go_sem]
  · intro f' hf'; trivial
  · simp [invoke, go_sem, callFunc, g1, hbd, g3]
  have hfin : ∀ (st0 : LoopState) (pe : Option Code) (H : List (Nat × Blk)) (W2 : World) (c : Cx), Btw P cx I a0 nt l D (recOf' fn a0 pa assign body D st0 pe) H W2 c → c.B = cx.B → H = G →
      Q x.to { a with defers := [{ target := .collected D, args := #[] }] ++ a.defers } (W2.putObj l (.loop { recOf' fn a0 pa assign body D st0 pe with state := .exhausted })) := by
    intro st0 pe H W2 c hb hcB hH
    subst hH
    have ht := hb.turn (hnB c hcB).1 hne { recOf' fn a0 pa assign body D st0 pe with state := .exhausted }
    have hw : (c.poke l (.loop { recOf' fn a0 pa assign body D st0 pe with state := .exhausted })).w = W2.putObj l (.loop { recOf' fn a0 pa assign body D st0 pe with state := .exhausted }) := by
      show c.w.putObj l _ = _
      rw [hb.w]
    rw [← hw]
    have htmp := ht.s
    refine hQ ⟨D :: d.l⟩ (c.poke l (.loop { recOf' fn a0 pa assign body D st0 pe with state := .exhausted })) _ (@SRep.mk ⟨D :: d.l⟩ _ _ _ _ (@SRep.H nil0 _ _ _ _ htmp) (@SRep.c nil0 _ _ _ _ htmp) (fun t => ?_) (@SRep.lt nil0 _ _ _ _ htmp) ?_ ?_) ⟨ht.bst, fun e => (by cases e), [D], rfl, by simp, fun E hE => ?_⟩
    · show Rep _ _ (a.tmps.getD t undef)
      rw [← hat]
      exact @SRep.env nil0 _ _ _ _ htmp t
    · show a.tmps.size = nt
      rw [← hat]
      exact @SRep.sz nil0 _ _ _ _ htmp
    · show [_] ++ a.defers = _
      rw [hs.df]
      rfl
    · rw [List.mem_singleton.1 hE]
      exact ⟨by omega, ht.hRD, by rw [hw]; exact ht.hD⟩
  refine (hit cx.w cx.R vs hs.c.rlt hvl (fun j b v h1 h2 => (hvr j b v h1 h2).base (List.all_eq_true.1 hcb b (List.mem_of_getElem? h1))) (2 - 1) l
    (fun k W => k ≤ m ∧ ∃ c, Btw P cx I a0 nt l D (recOf' fn a0 pa assign body D .ready none) (F k) W c ∧ c.B = cx.B)
    (fun W => m < N ∧ ∃ c, Btw P cx I a0 nt l D (recOf' fn a0 pa assign body D .done (match x with | .nrm => none | .ext id => some (.exit id) | .ret => some .ret)) G W c ∧ c.B = cx.B)
    (fun k W W' ⟨hk, c, hb, hcB⟩ hbl => ⟨hk, _, hb.below hbl, hcB⟩)
    (fun k W ⟨hk, c, hb, hcB⟩ g hg => by rw [← hb.w]; exact hb.bst.block g (hs.c.rlt g hg) (.inr hg)) ?_ W1 ⟨Nat.zero_le _, _, h0, rfl⟩).mono ?_
  · rintro k W us ⟨hk, c, hb, hcB⟩ hkN hul hu
    obtain ⟨hBl, hBD⟩ := hnB c hcB
    have hus : ∀ (j : Nat) a u, (xs k)[j]? = some a → us[j]? = some u → Rep c a u := fun j b u h1 h2 => by
      have := hu j b u h1 h2
      rw [← hb.w] at this
      exact .pure (this.mono (fun g hg => hb.bst.R g hg) fun _ _ => rfl)
    have hpl' : (xs k).length = pa.toList.length := by rw [Array.length_toList]; exact hpl k
    by_cases hkm : k < m
    · obtain ⟨f1, f2, f3, f4, f5, f6⟩ := hb.round (hr k hkm) hBl hBD hne hkeep rfl hlt hul hpl' hus (m := 2 - 1 - 1) (jump := none) rfl
      refine ⟨f1, f2, f3, f4, f5, f6.mono ?_⟩
      rintro e W' ⟨rfl, c', k1, k2⟩
      exact .inl ⟨rfl, hkm, c', k1, k2.trans hcB⟩
    · obtain rfl : k = m := by omega
      rcases hend with ⟨h1, _⟩ | ⟨h1, h2, h3⟩
      · omega
      · obtain ⟨f1, f2, f3, f4, f5, f6⟩ := hb.round h3 hBl hBD hne hkeep rfl hlt hul hpl' hus (m := 2 - 1 - 1) rfl
        refine ⟨f1, f2, f3, f4, f5, f6.mono ?_⟩
        rintro e W' ⟨rfl, c', k1, k2⟩
        right
        cases x with
        | nrm => exact absurd rfl h2
        | ext id => exact ⟨rfl, h1, c', k1, k2.trans hcB⟩
        | ret => exact ⟨rfl, h1, c', k1, k2.trans hcB⟩
  · rintro e W2 ⟨⟨v, rfl⟩, (⟨hN, c, hb, hcB⟩ | ⟨hlt', c, hb, hcB⟩)⟩
    · rcases hend with ⟨h1, h2, h3⟩ | ⟨h1, _⟩
      · have := hfin _ _ _ _ c hb hcB h3.symm
        rw [h2] at this
        exact ⟨none, _, run_endLoop hb.hl (by simp [recOf']), this⟩
      · omega
    · have := hfin _ _ _ _ c hb hcB rfl
      rcases hend with ⟨h1, _⟩ | ⟨h1, h2, h3⟩
      · omega
      cases x with
      | nrm => exact absurd rfl h2
      | ext id => exact ⟨some (.exit id), _, run_endLoop hb.hl (by simp [recOf']), wpIn_exit this⟩
      | ret => exact ⟨some .ret, _, run_endLoop hb.hl (by simp [recOf']), wpIn_ret this⟩
end
/-- the loops over functions of a text -/
def rfs : Code → List Code
  | .seq a b => rfs a ++ rfs b
  | .cond _ a b => rfs a ++ rfs b
  | .block _ c => rfs c
  | .loop c => rfs c
  | .rangeFunc g ps a b => .rangeFunc g ps a b :: rfs b
  | _ => []
def rfC (P : Program) (f : FuncId) (k : Nat) : Code := (rfs (codeOf P f)).getD k .skip
def isRf : Code → Bool
  | .rangeFunc .. => true
  | _ => false
def rfG : Code → Operand
  | .rangeFunc g _ _ _ => g
  | _ => .tmp 0
def rfP : Code → Array Tmp
  | .rangeFunc _ ps _ _ => ps
  | _ => #[]
def rfA : Code → Code
  | .rangeFunc _ _ a _ => a
  | _ => .skip
def rfB : Code → Code
  | .rangeFunc _ _ _ b => b
  | _ => .skip
theorem rf_eq {c : Code} (h : isRf c = true) : c = .rangeFunc (rfG c) (rfP c) (rfA c) (rfB c) := by
  cases c <;> first | rfl | cases h
theorem Ok.rangeC {P : Program} {nt : Nat} {c : Code} {gf : FuncId} {caps : List AV} {N m : Nat} {xs : Nat → List AV} {I : Sm} {F : Nat → List (Nat × Blk)} {x : X} {G : List (Nat × Blk)} (hc : isRf c = true)
    (hg : evalA I.st.env (rfG c) = .clo gf caps) (hcb : caps.all baseA = true) (hkeep : (I.env.all fun q => keepA q.2) = true) (hfo : fnOk P gf = true) (hit : IterC P gf caps N xs) (hpl : ∀ k, (xs k).length = (rfP c).size) (hlt : ((rfP c).toList.all fun p => Nat.blt p nt) = true) (hF0 : F 0 = I.heap) (hm : m ≤ N)
    (hr : ∀ k, k < m → Rnd P nt (rfP c).toList (xs k) (rfA c) (rfB c) I (F k) .nrm (F (k + 1)))
    (hend : (m = N ∧ x = .nrm ∧ G = F N) ∨ (m < N ∧ x ≠ .nrm ∧ Rnd P nt (rfP c).toList (xs m) (rfA c) (rfB c) I (F m) x G)) : Ok P nt c I.st x (⟨I.env, G, I.next⟩ : Sm).st := by
  have h := Ok.range (P := P) (nt := nt) (g := rfG c) (assign := rfA c) (body := rfB c) hg hcb hkeep hfo hit hpl (fun p hp => by have := List.all_eq_true.1 hlt p hp; rwa [Nat.blt_eq] at this) hF0 hm hr hend
  rw [← rf_eq hc] at h
  exact h
end
end Go.Proofs.Ytdnmfgnpflhcpaa.Rx
namespace Go.Proofs.Ytdnmfgnpflhcpaa
section
open Go.RowKit Rx
attribute [local go_sem] Oper.semAt_some
theorem wpListIn_loadA {F : Fence} {n s : Nat} {P : Program} {w : World} {ops : Array Oper} {rest : List Oper} {o : Oper} {a : Act} {Q : Exit → Act → World → Prop} (hgd : o.guard = none) (t : TypeId) (x : Operand) (ho : o.op = .load t x) (g off : Nat) (hx : a.eval x = .pointer (some ⟨g, off, none⟩))
    (hs : szOf P t = some s) (hg : aggOf P t = some true) (us : List Value) (hl : us.length = s) (hc : ∀ (j : Nat) u, us[j]? = some u → w.cell? ⟨g, off + j, none⟩ = some u) (hK : wpListIn F n P ops Q rest (a.put o.dst (.agg us.toArray)) w) : wpListIn F n P ops Q (o :: rest) a w := by
  refine wpListIn_plain hgd fun K hK' => ?_
  have hrun := run_loadAgg (P := P) hs hg us hl hc
  unfold Oper.wpIn
  refine ⟨?_, ?_⟩
  · simp [Oper.about, ho]
  · rw [Oper.semAt_plain F _ _ (by rw [ho]; intro c hc'; cases hc')]
    simp [execOp, ho, hx, hrun, Result.andThen]
    exact hK' _ _ hK
set_option maxRecDepth 100000 in
set_option maxHeartbeats 4000000 in
theorem backward_iter (n l gS oS len cap : Nat) (A : Option Addr) (u : Nat → Nat → Value) (b off : Nat) (hlen : len ≤ 1000000) (hA : 0 < len → A = some ⟨b, off, none⟩) (J : Nat → World → Prop) (Jx : World → Prop)
    (hJ : ∀ k W, J k W → W.cell? ⟨gS, oS, none⟩ = some (.slice A len cap) ∧ ∀ i, i < len → ∀ j, j < 8 → W.cell? ⟨b, off + (i * 8 + j), none⟩ = some (u i j))
    (hY : ∀ k W, J k W → k < len → YieldAt Fence.wide (n - 1) Try.prog l #[.int .i64 ((len - 1 - k : Nat) : Int), .agg #[u (len - 1 - k) 0, u (len - 1 - k) 1, u (len - 1 - k) 2, u (len - 1 - k) 3, u (len - 1 - k) 4, u (len - 1 - k) 5, u (len - 1 - k) 6, u (len - 1 - k) 7]] W fun e W' =>
      (e = .returned (.bool true) ∧ J (k + 1) W') ∨ (e = .returned (.bool false) ∧ Jx W'))
    (W : World) (h0 : J 0 W) : CallsIn Fence.wide n Try.prog 25 #[.func (.yield l) #[] #[], .pointer (some ⟨gS, oS, none⟩)] W fun e W' => (∃ v, e = .returned v) ∧ (J len W' ∨ Jx W') := by
  refine callsIn_of_wp Try.func25 rfl trivial ?_ rfl
  simp only [Try.ntmps25, List.size_toArray, List.length_cons, List.length_nil, Nat.reduceAdd, Nat.reduceSub, Array.replicate_succ, Array.replicate_zero, List.push_toArray, List.append_toArray, List.nil_append, List.cons_append]
  have hS := (hJ 0 W h0).1
  have hw1 : IntKind.i64.wrap ((len : Int) - 1) = (len : Int) - 1 := IntWalk.i64_in _ (by omega)
  gi_wp2
  gi_loopw [3] (fun i wr => ∃ k : Nat, k ≤ len ∧ i = .int .i64 ((len : Int) - 1 - k) ∧ J k wr) (fun i _ => (intOf i + 1).toNat)
  case atStart => exact ⟨0, Nat.zero_le _, by simp, h0⟩
  case round =>
    obtain ⟨k, hk, rfl, hJs⟩ := hrel
    have hSk := (hJ k wr hJs).1
    by_cases hlt : k < len
    · obtain ⟨m, hm⟩ : ∃ m, len - 1 - k = m := ⟨_, rfl⟩
      have hmi : (len : Int) - 1 - k = (m : Int) := by omega
      have hml : m < len := by omega
      have hA' := hA (by omega)
      subst hA'
      have hcs := (hJ k wr hJs).2 m hml
      obtain ⟨fn, tmps, assign, body, hy, hR⟩ := hY k wr hJs hlt
      rw [hm] at hy
      rw [hmi]
      have h01 : (0 : Int) ≤ (m : Int) := Int.natCast_nonneg m
      have h02 : (m : Int) < (len : Int) := by omega
      have hw2 : IntKind.i64.wrap ((m : Int) - 1) = (m : Int) - 1 := IntWalk.i64_in _ (by omega)
      clear hJ hY hA hmi
      gi_wp2_with (refine wpListIn_loadA rfl 38 _ rfl b (off + m * 8) (by first | rfl | (simp [Act.eval, adr_mk]; done)) (s := 8) (by kernel_rfl) (by kernel_rfl) [u m 0, u m 1, u m 2, u m 3, u m 4, u m 5, u m 6, u m 7] rfl (fun j v hv => ?_) ?_; · match j, hv with
        | 0, rfl => rw [Nat.add_assoc]; exact hcs 0 (by omega)
        | 1, rfl => rw [Nat.add_assoc]; exact hcs 1 (by omega)
        | 2, rfl => rw [Nat.add_assoc]; exact hcs 2 (by omega)
        | 3, rfl => rw [Nat.add_assoc]; exact hcs 3 (by omega)
        | 4, rfl => rw [Nat.add_assoc]; exact hcs 4 (by omega)
        | 5, rfl => rw [Nat.add_assoc]; exact hcs 5 (by omega)
        | 6, rfl => rw [Nat.add_assoc]; exact hcs 6 (by omega)
        | 7, rfl => rw [Nat.add_assoc]; exact hcs 7 (by omega))
      refine ⟨fun h => absurd h (by simp [Fence.wide]), ?_⟩
      refine hR.mono ?_
      rintro e W3 (⟨rfl, hJ3⟩ | ⟨rfl, hJx3⟩)
      · gi_wp2
        go_roundw
        case rel => exact ⟨k + 1, by omega, by congr 1; omega, hJ3⟩
        case measure => simp [intOf]
      · gi_wp2
        refine bodyPost_ret (results_none rfl _ _ _) rfl ?_
        exact ⟨⟨_, rfl⟩, .inr hJx3⟩
    · obtain rfl : k = len := by omega
      rw [show (k : Int) - 1 - k = -1 by omega]
      gi_wp2
      go_end0
      exact ⟨⟨_, rfl⟩, .inl hJs⟩
namespace Px
/-- what the iterator has caught -/
def bkP (l : List En) : AV := .rptr 1 (fun q => [enR l].getD q .junk) 0
def bkX (l : List En) (k : Nat) : List AV := [.int .i64 ((l.length - 1 - k : Nat) : Int), .agg (enA (l.getD (l.length - 1 - k) default))]
theorem bkC (l : List En) (hb : l.length ≤ 1000000) : IterC Try.prog 25 [bkP l] l.length (bkX l) := by
  intro w R vs hR hl hv n lp J Jx hJb hJR hY W hW
  obtain ⟨vs⟩ := vs
  match vs, hl, hv with
  | [v], _, hv =>
    have h0 := hv 0 _ v rfl rfl
    cases h0 with
    | @rptr _ _ g o _ hRg uu h1 h2 h3 =>
      have h4 := h3 0 (by omega)
      have h5 := h1 0 (by omega)
      obtain ⟨sv, hsv⟩ : ∃ sv, sv = uu 0 := ⟨_, rfl⟩
      rw [← hsv] at h4 h5
      cases h4 with
      | @row _ _ _ A cap u hn hc hA k1 k2 =>
        have hcell : ∀ (k : Nat) (W : World) (a : Addr) (x : Value), J k W → R a.block → w.cell? a = some x → W.cell? a = some x := fun k W a x hk ha hx => (World.cell?_of_block (hJR k W hk a.block ha)).trans hx
        obtain ⟨b, off, hbo⟩ : ∃ b off, 0 < l.length → A = some ⟨b, off, none⟩ ∧ R b ∧ ∀ i, i < l.length → ∀ j, j < 8 → w.cell? ⟨b, off + (i * 8 + j), none⟩ = some (u i j) := by
          by_cases h : 0 < l.length
          · obtain ⟨b, off, q1, q2, q3⟩ := hA (by omega)
            exact ⟨b, off, fun _ => ⟨q1, q2, q3⟩⟩
          · exact ⟨0, 0, fun h' => absurd h' h⟩
        refine backward_iter n lp g (o + 0) l.length cap A u b off hb (fun h => (hbo h).1) J Jx (fun k W hk => ⟨hcell k W _ _ hk hRg h5, fun i hi j hj => ?_⟩) (fun k W hk hkl => hY k W _ hk hkl rfl fun j a x ha hx => ?_) W hW
        · obtain ⟨q1, q2, q3⟩ := hbo (by omega)
          exact hcell k W _ _ hk q2 (q3 i hi j hj)
        · match j, ha, hx with
          | 0, ha, hx => cases ha; cases hx; exact .int _ _
          | 1, ha, hx =>
            cases ha; cases hx
            have hm : l.length - 1 - k < l.length := by omega
            have hu : ∀ j, j < 8 → RepP W R (enC (l.getD (l.length - 1 - k) default) j) (u (l.length - 1 - k) j) := fun j hj => (k2 _ hm j hj).mono (fun _ h => h) fun g hg => hJR k W hk g hg
            have hone : ∀ j, j < 8 → (u (l.length - 1 - k) j).oneCell' = true := fun j hj => k1 _ hm j hj
            refine .agg rfl (fun j v hv => ?_) fun j a v ha hv => ?_
            · match j, hv with
              | 0, rfl => exact hone 0 (by omega)
              | 1, rfl => exact hone 1 (by omega)
              | 2, rfl => exact hone 2 (by omega)
              | 3, rfl => exact hone 3 (by omega)
              | 4, rfl => exact hone 4 (by omega)
              | 5, rfl => exact hone 5 (by omega)
              | 6, rfl => exact hone 6 (by omega)
              | 7, rfl => exact hone 7 (by omega)
            · match j, ha, hv with
              | 0, rfl, rfl => exact hu 0 (by omega)
              | 1, rfl, rfl => exact hu 1 (by omega)
              | 2, rfl, rfl => exact hu 2 (by omega)
              | 3, rfl, rfl => exact hu 3 (by omega)
              | 4, rfl, rfl => exact hu 4 (by omega)
              | 5, rfl, rfl => exact hu 5 (by omega)
              | 6, rfl, rfl => exact hu 6 (by omega)
              | 7, rfl, rfl => exact hu 7 (by omega)
end Px
end
end Go.Proofs.Ytdnmfgnpflhcpaa
namespace Go.Proofs.Ytdnmfgnpflhcpaa.Px
section
open Go.RowKit Go.Proofs.Ytdnmfgnpflhcpaa.Rx
def hitB (p : Pg) (k a : Int) (e : En) : Bool := bif e.kn && (e.adr == a) then (atI p e.pc).kind == k else false
def ceV (m : List Int) (a : Int) : Int := if 0 ≤ a ∧ a < m.length then m.getD a.toNat 0 else 0
def oG (v j : Int) (b : Bool) : List (Nat × Blk) := [(0, ⟨0, false, 3, .box [.int .i64 v]⟩), (1, ⟨0, false, 3, .box [.int .i64 j]⟩), (2, ⟨0, false, 4, .box [.bool b]⟩)]
def oI (p : Pg) (m : List Int) (a : Int) (l : List En) : Sm := ⟨[(5, pgP p), (1, lR m), (9, .rptr 1 (fun q => [AV.int .i64 a].getD q .junk) 0), (10, .bptr 0 0), (11, .bptr 1 0), (12, .bptr 2 0), (18, .clo 25 [bkP l])], oG 0 0 false, 3⟩
def oJ (p : Pg) (m : List Int) (a : Int) (l : List En) (v j : Int) (b : Bool) : Sm := ⟨(oI p m a l).env, oG v j b, 3⟩
theorem go_n (p : Pg) (k a : Int) (e : En) (hn : e.kn = false) : Vc (vcFn Try.prog false 14 [.agg (pgA p), .agg (enA e), .int .i64 k, .int .i64 a] [.fz, .fz, .lv (.bool false)] [] (.bool false) []) := vc_by (cj (congrArg (fun b => some (AV.bool b)) hn) (cj (rf false) trivial)) (by kernel_rfl)
theorem go_a (p : Pg) (k a : Int) (e : En) (hn : e.kn = true) (ha : ¬ e.adr = a) : Vc (vcFn Try.prog false 14 [.agg (pgA p), .agg (enA e), .int .i64 k, .int .i64 a] [.fz, .fz, .lv (.bool true), .bd false] [] (.bool false) []) := vc_by (cj (congrArg (fun b => some (AV.bool b)) hn) (cj (beq_eq_false_iff_ne.2 ha) (cj (rf false) trivial))) (by kernel_rfl)
theorem zO10 (p : Pg) {Z : Prop} (z : Z) : (RF p.W (RF p.win (RF p.fuel (RF p.r0 (RF p.r1 (RF p.r2 (RF p.r3 (RF p.ms.length (RR p.ms.length 3 (fun i j => rowL mmC p.ms i j) Z))))))))) := ⟨rfl, rfl, rfl, rfl, rfl, rfl, rfl, rfl, fun _ _ _ _ => rfl, z⟩
theorem go_k (p : Pg) (k a : Int) (e : En) (hn : e.kn = true) (ha : e.adr = a) : Vc (vcFn Try.prog false 14 [.agg (pgA p), .agg (enA e), .int .i64 k, .int .i64 a] [.fz, .fz, .lv (.bool true), .bd true, .cl [.agg (pgA p), .int .i64 e.pc] (.agg (inA (atI p e.pc))) []] [] (.bool ((atI p e.pc).kind == k)) []) := vc_by (cj (congrArg (fun b => some (AV.bool b)) hn) (cj (beq_iff_eq.2 ha) (zO10 p (cj (rf p.ls.length) (cj (rr p.ls.length 2 fun i j => rowL lbC p.ls i j) (cj (rf p.is.length) (cj (rr p.is.length 9 fun i j => rowL inC p.is i j) (cj (rf e.pc) (cj (atC p e.pc) (cj (rf ((atI p e.pc).kind == k)) trivial)))))))))) (by kernel_rfl)
theorem hitC (p : Pg) (k a : Int) (e : En) (b : Bool) (h : hitB p k a e = b) : PureC Try.prog 14 [.agg (pgA p), .agg (enA e), .int .i64 k, .int .i64 a] (.bool b) [] := by
  subst h
  unfold hitB
  cases hn : e.kn with
  | false => rw [Bool.false_and]; exact PureC.vc (go_n p k a e hn)
  | true =>
    rw [Bool.true_and]
    by_cases ha : e.adr = a
    · rw [beq_iff_eq.2 ha]; exact PureC.vc (go_k p k a e hn ha)
    · rw [beq_eq_false_iff_ne.2 ha]; exact PureC.vc (go_a p k a e hn ha)
theorem hitB_iff {p : Pg} {k a : Int} {e : En} : hitB p k a e = true ↔ (atI p e.pc).kind = k ∧ e.kn = true ∧ e.adr = a := by
  unfold hitB
  cases hn : e.kn with
  | false => simp
  | true =>
    by_cases ha : e.adr = a
    · rw [beq_iff_eq.2 ha]; simp [ha]
    · rw [beq_eq_false_iff_ne.2 ha]; simp [ha]
theorem sto_t (e : En) (j : Int) (h : e.dn = true) : Vc (vcFn Try.prog false 15 [.agg (enA e), .int .i64 j] [.fz, .b false] [] (.tup [.int .i64 e.val, .int .i64 j, .bool true]) []) := vc_by (cj (show (!e.dn) = false from by rw [h]; rfl) (cj (rf e.val) (cj (rf j) (cj (rf true) trivial)))) (by kernel_rfl)
theorem zO11  {Z : Prop} (z : Z) : (RF (0 : Int) (RF (0 : Int) (RF false Z))) := ⟨rfl, rfl, rfl, z⟩
theorem sto_f (e : En) (j : Int) (h : e.dn = false) : Vc (vcFn Try.prog false 15 [.agg (enA e), .int .i64 j] [.fz, .b true] [] (.tup [.int .i64 0, .int .i64 0, .bool false]) []) := vc_by (cj (show (!e.dn) = true from by rw [h]; rfl) (zO11 trivial)) (by kernel_rfl)
theorem ce_neg (m : List Int) (a : Int) (h : a < 0) : Vc (vcFn Try.prog false 16 [lR m, .int .i64 a] [.bd true] [] (.int .i64 0) []) := vc_by (cj (dt (a < 0)) (cj (rf (0 : Int)) trivial)) (by kernel_rfl)
theorem ce_out (m : List Int) (a : Int) (h0 : 0 ≤ a) (h : ¬ a < m.length) : Vc (vcFn Try.prog false 16 [lR m, .int .i64 a] [.bd false, .bd true] [] (.int .i64 0) []) := vc_by (cj (df (a < 0)) (cj (dt (a ≥ (m.length : Int))) (cj (rf (0 : Int)) trivial))) (by kernel_rfl)
theorem ce_in (m : List Int) (a : Int) (h0 : 0 ≤ a) (h : a < m.length) : Vc (vcFn Try.prog false 16 [lR m, .int .i64 a] [.bd false, .bd false] [] (.int .i64 (m.getD a.toNat 0)) []) := vc_by (cj (df (a < 0)) (cj (df (a ≥ (m.length : Int))) (cj (bi a (m.length : Int)) (cj (rf (m.getD (Int.toNat a) (0 : Int))) trivial)))) (by kernel_rfl)
theorem stoC (e : En) (j : Int) : PureC Try.prog 15 [.agg (enA e), .int .i64 j] (.tup [.int .i64 (if e.dn then e.val else 0), .int .i64 (if e.dn then j else 0), .bool e.dn]) [] := by
  cases h : e.dn with
  | true => exact PureC.vc (sto_t e j h)
  | false => exact PureC.vc (sto_f e j h)
theorem ceC (m : List Int) (a : Int) : PureC Try.prog 16 [lR m, .int .i64 a] (.int .i64 (ceV m a)) [] := by
  unfold ceV
  by_cases h0 : 0 ≤ a
  · by_cases h : a < m.length
    · rw [if_pos ⟨h0, h⟩]; exact PureC.vc (ce_in m a h0 h)
    · rw [if_neg fun e => h e.2]; exact PureC.vc (ce_out m a h0 h)
  · rw [if_neg fun e => h0 e.1]; exact PureC.vc (ce_neg m a (by omega))
theorem zO12 (a : Int) (e : En) {Z : Prop} (z : Z) : (RF e.dn (RF e.kn (RF e.ft (RF (3 : Int) (RF a Z))))) := ⟨rfl, rfl, rfl, rfl, rfl, z⟩
theorem zO13 (p : Pg) (e : En) {Z : Prop} (z : Z) : (RF p.ls.length (RR p.ls.length 2 (fun i j => rowL lbC p.ls i j) (RF p.is.length (RR p.is.length 9 (fun i j => rowL inC p.is i j) (RF e.pc (RF e.val (RF e.adr (RF e.frm (RF e.nxt Z))))))))) := ⟨rfl, fun _ _ _ _ => rfl, rfl, fun _ _ _ _ => rfl, rfl, rfl, rfl, rfl, rfl, z⟩
theorem rd_no (p : Pg) (m : List Int) (a : Int) (l : List En) (j : Int) (e : En) (h : PureC Try.prog 14 [.agg (pgA p), .agg (enA e), .int .i64 3, .int .i64 a] (.bool false) []) : Vc (vcRnd Try.prog false (ntOf Try.prog 6) (rfP (rfC Try.prog 6 0)).toList [.int .i64 j, .agg (enA e)] (rfA (rfC Try.prog 6 0)) (rfB (rfC Try.prog 6 0)) (oI p m a l) (oG 0 0 false) [.cl [.agg (pgA p), .agg (enA e), .int .i64 3, .int .i64 a] (.bool false) []] .nrm [(0, 0), (1, 1), (2, 2)] (oG 0 0 false)) := vc_by (zO10 p (zO13 p e (zO12 a e (cj h (zO11 trivial))))) (by kernel_rfl)
theorem rd_yes (p : Pg) (m : List Int) (a : Int) (l : List En) (j : Int) (e : En) (h : PureC Try.prog 14 [.agg (pgA p), .agg (enA e), .int .i64 3, .int .i64 a] (.bool true) []) (h2 : PureC Try.prog 15 [.agg (enA e), .int .i64 j] (.tup [.int .i64 (if e.dn then e.val else 0), .int .i64 (if e.dn then j else 0), .bool e.dn]) []) : Vc (vcRnd Try.prog false (ntOf Try.prog 6) (rfP (rfC Try.prog 6 0)).toList [.int .i64 j, .agg (enA e)] (rfA (rfC Try.prog 6 0)) (rfB (rfC Try.prog 6 0)) (oI p m a l) (oG 0 0 false) [.cl [.agg (pgA p), .agg (enA e), .int .i64 3, .int .i64 a] (.bool true) [], .cl [.agg (enA e), .int .i64 j] (.tup [.int .i64 (if e.dn then e.val else 0), .int .i64 (if e.dn then j else 0), .bool e.dn]) []] .ret [(0, 0), (1, 1), (2, 2)] (oG (if e.dn then e.val else 0) (if e.dn then j else 0) e.dn)) := vc_by (zO10 p (zO13 p e (zO12 a e (cj h (cj (rf e.pc) (cj (rf e.val) (cj (rf e.adr) (cj (rf e.frm) (cj (rf e.nxt) (cj (rf e.dn) (cj (rf e.kn) (cj (rf e.ft) (cj (rf j) (cj h2 (cj (rf (if e.dn = true then e.val else (0 : Int))) (cj (rf (if e.dn = true then j else (0 : Int))) (cj (rf e.dn) trivial))))))))))))))))) (by kernel_rfl)
end
end Go.Proofs.Ytdnmfgnpflhcpaa.Px
namespace Go.Proofs.Ytdnmfgnpflhcpaa.Px
section
open Go.RowKit Go.Proofs.Ytdnmfgnpflhcpaa.Rx
theorem take_get {l : List En} {c j : Nat} (h : j < c) : (l.take c).getD j default = l.getD j default := by
  rw [List.getD_eq_getElem?_getD, List.getD_eq_getElem?_getD, List.getElem?_take, if_pos h]
theorem ldF_cases (p : Pg) (l : List En) (a : Int) : ∀ c, (ldF p l a c = none ∧ ∀ j, j < c → hitB p 3 a (l.getD j default) = false) ∨
    ∃ q, q < c ∧ hitB p 3 a (l.getD q default) = true ∧ (∀ j, q < j → j < c → hitB p 3 a (l.getD j default) = false) ∧ ldF p l a c = some (if (l.getD q default).dn then ((l.getD q default).val, (q : Int), true) else (0, 0, false))
  | 0 => .inl ⟨rfl, fun j hj => by omega⟩
  | c + 1 => by
    unfold ldF
    by_cases h : hitB p 3 a (l.getD c default) = true
    · rw [if_pos (show (enI p l c).kind = 3 ∧ _ from hitB_iff.1 h)]
      exact .inr ⟨c, by omega, h, fun j h1 h2 => by omega, rfl⟩
    · rw [if_neg (show ¬ ((enI p l c).kind = 3 ∧ _) from fun e => h (hitB_iff.2 e))]
      have hf : hitB p 3 a (l.getD c default) = false := by simpa using h
      rcases ldF_cases p l a c with ⟨h1, h2⟩ | ⟨q, h1, h2, h3, h4⟩
      · refine .inl ⟨h1, fun j hj => ?_⟩
        by_cases e : j = c
        · rw [e]; exact hf
        · exact h2 j (by omega)
      · refine .inr ⟨q, by omega, h2, fun j hj1 hj2 => ?_, h4⟩
        by_cases e : j = c
        · rw [e]; exact hf
        · exact h3 j hj1 (by omega)
theorem ld_rnd_no (p : Pg) (m : List Int) (a : Int) (l : List En) (k : Nat) (h : hitB p 3 a (l.getD (l.length - 1 - k) default) = false) : Rnd Try.prog (ntOf Try.prog 6) (rfP (rfC Try.prog 6 0)).toList (bkX l k) (rfA (rfC Try.prog 6 0)) (rfB (rfC Try.prog 6 0)) (oI p m a l) (oG 0 0 false) .nrm (oG 0 0 false) :=
  Rnd.vc (rd_no p m a l _ _ (hitC p 3 a _ false h))
theorem ld_rnd_yes (p : Pg) (m : List Int) (a : Int) (l : List En) (k : Nat) (h : hitB p 3 a (l.getD (l.length - 1 - k) default) = true) : Rnd Try.prog (ntOf Try.prog 6) (rfP (rfC Try.prog 6 0)).toList (bkX l k) (rfA (rfC Try.prog 6 0)) (rfB (rfC Try.prog 6 0)) (oI p m a l) (oG 0 0 false) .ret
    (oG (if (l.getD (l.length - 1 - k) default).dn then (l.getD (l.length - 1 - k) default).val else 0) (if (l.getD (l.length - 1 - k) default).dn then ((l.length - 1 - k : Nat) : Int) else 0) (l.getD (l.length - 1 - k) default).dn) :=
  Rnd.vc (rd_yes p m a l _ _ (hitC p 3 a _ true h) (stoC _ _))
theorem lld_none (p : Pg) (m : List Int) (a : Int) (l : List En) (hb : l.length ≤ 1000000) (h : ∀ j, j < l.length → hitB p 3 a (l.getD j default) = false) : Ok Try.prog (ntOf Try.prog 6) (rfC Try.prog 6 0) (oI p m a l).st .nrm (oJ p m a l 0 0 false).st :=
  Ok.rangeC (by kernel_rfl) rfl rfl rfl (by kernel_rfl) (bkC l hb) (fun _ => by kernel_rfl) (by kernel_rfl) (F := fun _ => oG 0 0 false) rfl (Nat.le_refl _) (fun k hk => ld_rnd_no p m a l k (h _ (by omega))) (.inl ⟨rfl, rfl, rfl⟩)
theorem lld_find (p : Pg) (m : List Int) (a : Int) (l : List En) (hb : l.length ≤ 1000000) (q : Nat) (hq : q < l.length) (h : hitB p 3 a (l.getD q default) = true) (hn : ∀ j, q < j → j < l.length → hitB p 3 a (l.getD j default) = false) (v j : Int) (b : Bool) (hv : v = if (l.getD q default).dn then (l.getD q default).val else 0) (hj : j = if (l.getD q default).dn then (q : Int) else 0) (hd : b = (l.getD q default).dn) : Ok Try.prog (ntOf Try.prog 6) (rfC Try.prog 6 0) (oI p m a l).st .ret (oJ p m a l v j b).st := by
  subst hv; subst hd; subst hj
  have e : l.length - 1 - (l.length - 1 - q) = q := by omega
  have hy := ld_rnd_yes p m a l (l.length - 1 - q) (by rw [e]; exact h)
  rw [e] at hy
  exact Ok.rangeC (m := l.length - 1 - q) (by kernel_rfl) rfl rfl rfl (by kernel_rfl) (bkC l hb) (fun _ => by kernel_rfl) (by kernel_rfl) (F := fun _ => oG 0 0 false) rfl (by omega) (fun k hk => ld_rnd_no p m a l k (hn _ (by omega) (by omega))) (.inr ⟨by omega, (by simp), hy⟩)
theorem zO20 (lt : List En) (a : Int) {Z : Prop} (z : Z) : (RF a (RF lt.length (RR lt.length 8 (fun i j => rowL enC lt i j) Z))) := ⟨rfl, rfl, fun _ _ _ _ => rfl, z⟩
theorem zO21 (p : Pg) (m : List Int) {Z : Prop} (z : Z) : (RF p.r3 (RF p.ms.length (RR p.ms.length 3 (fun i j => rowL mmC p.ms i j) (RF p.ls.length (RR p.ls.length 2 (fun i j => rowL lbC p.ls i j) (RF p.is.length (RR p.is.length 9 (fun i j => rowL inC p.is i j) (RF m.length (RR m.length 1 (fun i j => aI (m.getD i 0)) Z))))))))) := ⟨rfl, rfl, fun _ _ _ _ => rfl, rfl, fun _ _ _ _ => rfl, rfl, fun _ _ _ _ => rfl, rfl, fun _ _ _ _ => rfl, z⟩
theorem zO22 (p : Pg) {Z : Prop} (z : Z) : (RF (0 : Int) (RF (0 : Int) (RF false (RF p.W (RF p.win (RF p.fuel (RF p.r0 (RF p.r1 (RF p.r2 Z))))))))) := ⟨rfl, rfl, rfl, rfl, rfl, rfl, rfl, rfl, rfl, z⟩
theorem zO23 (l : List En) (i : Int) {Z : Prop} (z : Z) : (RF l.length (RR l.length 8 (fun i j => rowL enC l i j) (RF i Z))) := ⟨rfl, fun _ _ _ _ => rfl, rfl, z⟩
theorem lld_y (p : Pg) (m : List Int) (l lt : List En) (i a : Int) (v j : Int) (b : Bool) (hc : PureC Try.prog 13 [enR l, .int .i64 i] (enR lt) []) (h : Ok Try.prog (ntOf Try.prog 6) (rfC Try.prog 6 0) (oI p m a lt).st .ret (oJ p m a lt v j b).st) : Vc (vcFn Try.prog false 6 [.agg (pgA p), lR m, enR l, .int .i64 i, .int .i64 a] [.fv, .fv, .cl [enR l, .int .i64 i] (enR lt) [], .fv, .lp [(0, 0), (1, 1), (2, 2)] (oI p m a lt) .ret (oJ p m a lt v j b)] [] (.tup [.int .i64 v, .int .i64 j, .bool b]) []) := vc_by (zO23 l i (cj hc (zO22 p (zO21 p m (zO20 lt a (cj h (cj (rf v) (cj (rf j) (cj (rf b) trivial))))))))) (by kernel_rfl)
theorem lld_n (p : Pg) (m : List Int) (l lt : List En) (i a : Int) (hc : PureC Try.prog 13 [enR l, .int .i64 i] (enR lt) []) (h : Ok Try.prog (ntOf Try.prog 6) (rfC Try.prog 6 0) (oI p m a lt).st .nrm (oJ p m a lt 0 0 false).st) : Vc (vcFn Try.prog false 6 [.agg (pgA p), lR m, enR l, .int .i64 i, .int .i64 a] [.fv, .fv, .cl [enR l, .int .i64 i] (enR lt) [], .fv, .lp [(0, 0), (1, 1), (2, 2)] (oI p m a lt) .nrm (oJ p m a lt 0 0 false), .cl [lR m, .int .i64 a] (.int .i64 (ceV m a)) []] [] (.tup [.int .i64 (ceV m a), .int .i64 (-1), .bool true]) []) := vc_by (zO23 l i (cj hc (zO22 p (zO21 p m (zO20 lt a (cj h (cj (rf m.length) (cj (rr m.length 1 fun i j => aI (m.getD i 0)) (cj (rf a) (cj (ceC m a) (cj (rf (ceV m a)) (cj (rf (-1 : Int)) (cj (rf true) trivial))))))))))))) (by kernel_rfl)
theorem ce_ldV (m : List Int) (a : Int) : (if 0 ≤ a ∧ a < m.length then (m.getD a.toNat 0, (-1 : Int), true) else (0, -1, true)) = (ceV m a, -1, true) := by
  unfold ceV
  by_cases h : 0 ≤ a ∧ a < m.length
  · rw [if_pos h, if_pos h]
  · rw [if_neg h, if_neg h]
theorem lldC (p : Pg) (m : List Int) (l : List En) (i a : Int) (hb : l.length < 1000000) : PureC Try.prog 6 [.agg (pgA p), lR m, enR l, .int .i64 i, .int .i64 a] (.tup [.int .i64 (ldV p m l i a).1, .int .i64 (ldV p m l i a).2.1, .bool (ldV p m l i a).2.2]) [] := by
  have hle := cl0_le i l.length
  have hc := cutF l i (cl0 i l.length) (by unfold cl0; omega) hb
  have hlen : (l.take (cl0 i l.length)).length = cl0 i l.length := by rw [List.length_take]; omega
  unfold ldV
  rcases ldF_cases p l a (cl0 i l.length) with ⟨h1, h2⟩ | ⟨q, h1, h2, h3, h4⟩
  · rw [h1]
    dsimp only
    rw [ce_ldV]
    exact PureC.vc (lld_n p m l _ i a hc (lld_none p m a _ (by omega) fun j hj => by rw [take_get (by omega)]; exact h2 j (by omega)))
  · rw [h4]
    dsimp only
    have hl := fun v j b hv hj hd => lld_find p m a (l.take (cl0 i l.length)) (by omega) q (by omega) (by rw [take_get (by omega)]; exact h2) (fun j a b => by rw [take_get (by omega)]; exact h3 j a (by omega)) v j b hv hj hd
    rw [take_get (by omega)] at hl
    cases hd : (l.getD q default).dn with
    | true => exact PureC.vc (lld_y p m l _ i a (l.getD q default).val q true hc (hl _ _ _ (by rw [hd]; rfl) (by rw [hd]; rfl) hd.symm))
    | false => exact PureC.vc (lld_y p m l _ i a 0 0 false hc (hl _ _ _ (by rw [hd]; rfl) (by rw [hd]; rfl) hd.symm))
def hzLB (p : Pg) (l : List En) (i a : Int) (k : Nat) : Prop := i < (k : Int) ∧ hzB p l i a k
instance (p : Pg) (l : List En) (i a : Int) (k : Nat) : Decidable (hzLB p l i a k) := inferInstanceAs (Decidable (_ ∧ _))
def hzL (p : Pg) (l : List En) (i a : Int) : Nat → Nat → Option Nat
  | _, 0 => none
  | k, j + 1 => if hzLB p l i a k then some k else hzL p l i a (k + 1) j
def lzS (p : Pg) (l : List En) (i a : Int) (k : Nat) : Sm := ⟨[(4, pgP p), (12, enR l), (2, .int .i64 i), (3, .int .i64 a), (13, .int .i64 l.length), (14, .int .i64 k)], [], 0⟩
theorem zO24 (p : Pg) (l : List En) (i : Int) (a : Int) {Z : Prop} (z : Z) : (RF p.ls.length (RR p.ls.length 2 (fun i j => rowL lbC p.ls i j) (RF p.is.length (RR p.is.length 9 (fun i j => rowL inC p.is i j) (RF l.length (RR l.length 8 (fun i j => rowL enC l i j) (RF i (RF a (RF (l.length : Int) Z))))))))) := ⟨rfl, fun _ _ _ _ => rfl, rfl, fun _ _ _ _ => rfl, rfl, fun _ _ _ _ => rfl, rfl, rfl, rfl, z⟩
theorem zO25 (p : Pg) {Z : Prop} (z : Z) : (RF p.W (RF p.win (RF p.fuel (RF p.r0 (RF p.r1 (RF p.r2 (RF p.r3 (RF p.ms.length (RR p.ms.length 3 (fun i j => rowL mmC p.ms i j) Z))))))))) := ⟨rfl, rfl, rfl, rfl, rfl, rfl, rfl, rfl, fun _ _ _ _ => rfl, z⟩
theorem lz_k (p : Pg) (l : List En) (i a : Int) (k : Nat) (hk : k < l.length) (hb : l.length < 1000000) (hi : ¬ i < (k : Int)) : Vc (vcC Try.prog false (ntOf Try.prog 8) (lpC Try.prog 8 0) (lzS p l i a k) [.bd true, .bd false] .nrm [] (lzS p l i a (k + 1))) := vc_by (cj (dt ((k : Int) < (l.length : Int))) (cj (bi (k : Int) (l.length : Int)) (cj (df ((k : Int) > i)) (cj (i6 ((k : Int) + 1)) (zO25 p (zO24 p l i a (cj (rf ((k : Int) + 1)) trivial))))))) (by kernel_rfl)
theorem lz_f (p : Pg) (l : List En) (i a : Int) (k : Nat) (hk : k < l.length) (hb : l.length < 1000000) (hi : i < (k : Int)) (hf : ¬ (l.getD k default).frm < i) : Vc (vcC Try.prog false (ntOf Try.prog 8) (lpC Try.prog 8 0) (lzS p l i a k) [.bd true, .bd true, .bd false] .nrm [] (lzS p l i a (k + 1))) := vc_by (cj (dt ((k : Int) < (l.length : Int))) (cj (bi (k : Int) (l.length : Int)) (cj (dt ((k : Int) > i)) (cj (decide_eq_false hf) (cj (i6 ((k : Int) + 1)) (zO25 p (zO24 p l i a (cj (rf ((k : Int) + 1)) trivial)))))))) (by kernel_rfl)
theorem zO26 (l : List En) (a : Int) (k : Nat) {Z : Prop} (z : Z) : (RF ((l.getD k default).dn) (RF ((l.getD k default).kn) (RF ((l.getD k default).ft) (RF (2 : Int) (RF a Z))))) := ⟨rfl, rfl, rfl, rfl, rfl, z⟩
theorem zO27 (p : Pg) (l : List En) (k : Nat) {Z : Prop} (z : Z) : (RF p.ls.length (RR p.ls.length 2 (fun i j => rowL lbC p.ls i j) (RF p.is.length (RR p.is.length 9 (fun i j => rowL inC p.is i j) (RF ((l.getD k default).pc) (RF ((l.getD k default).val) (RF ((l.getD k default).adr) (RF ((l.getD k default).frm) (RF ((l.getD k default).nxt) Z))))))))) := ⟨rfl, fun _ _ _ _ => rfl, rfl, fun _ _ _ _ => rfl, rfl, rfl, rfl, rfl, rfl, z⟩
theorem lz_g (p : Pg) (l : List En) (i a : Int) (k : Nat) (hk : k < l.length) (hb : l.length < 1000000) (hi : i < (k : Int)) (hf : (l.getD k default).frm < i) (h : PureC Try.prog 14 [.agg (pgA p), .agg (enA (l.getD k default)), .int .i64 2, .int .i64 a] (.bool false) []) : Vc (vcC Try.prog false (ntOf Try.prog 8) (lpC Try.prog 8 0) (lzS p l i a k) [.bd true, .bd true, .bd true, .cl [.agg (pgA p), .agg (enA (l.getD k default)), .int .i64 2, .int .i64 a] (.bool false) []] .nrm [] (lzS p l i a (k + 1))) := vc_by (cj (dt ((k : Int) < (l.length : Int))) (cj (bi (k : Int) (l.length : Int)) (cj (dt ((k : Int) > i)) (cj (decide_eq_true hf) (zO25 p (zO27 p l k (zO26 l a k (cj h (cj (i6 ((k : Int) + 1)) (zO25 p (zO24 p l i a (cj (rf ((k : Int) + 1)) trivial)))))))))))) (by kernel_rfl)
theorem lz_y (p : Pg) (l : List En) (i a : Int) (k : Nat) (hk : k < l.length) (hb : l.length < 1000000) (hi : i < (k : Int)) (hf : (l.getD k default).frm < i) (h : PureC Try.prog 14 [.agg (pgA p), .agg (enA (l.getD k default)), .int .i64 2, .int .i64 a] (.bool true) []) : Vc (vcC Try.prog false (ntOf Try.prog 8) (lpC Try.prog 8 0) (lzS p l i a k) [.bd true, .bd true, .bd true, .cl [.agg (pgA p), .agg (enA (l.getD k default)), .int .i64 2, .int .i64 a] (.bool true) []] .ret [] (vbS 8 9 ((k : Int), true))) := vc_by (cj (dt ((k : Int) < (l.length : Int))) (cj (bi (k : Int) (l.length : Int)) (cj (dt ((k : Int) > i)) (cj (decide_eq_true hf) (zO25 p (zO27 p l k (zO26 l a k (cj h (cj (rf (k : Int)) (cj (rf true) trivial)))))))))) (by kernel_rfl)
theorem lz_end (p : Pg) (l : List En) (i a : Int) : Vc (vcC Try.prog false (ntOf Try.prog 8) (lpC Try.prog 8 0) (lzS p l i a l.length) [.bd false] (.ext 0) [] (lzS p l i a l.length)) := vc_by (cj (df ((l.length : Int) < (l.length : Int))) (zO25 p (zO24 p l i a (cj (rf (l.length : Int)) trivial)))) (by kernel_rfl)
theorem lz_find (p : Pg) (l : List En) (i a : Int) (hb : l.length < 1000000) (q : Nat) : ∀ j k, k + j = l.length → hzL p l i a k j = some q → OkL Try.prog (ntOf Try.prog 8) (lpC Try.prog 8 0) (lzS p l i a k).st .ret (vbS 8 9 ((q : Int), true)).st
  | 0, k, _, h => by cases h
  | j + 1, k, hk, h => by
    unfold hzL at h
    by_cases hz : hzLB p l i a k
    · rw [if_pos hz] at h
      obtain ⟨hi, hk3, hn, ha, hf⟩ := hz
      have hg : hitB p 2 a (l.getD k default) = true := hitB_iff.2 ⟨hk3, hn, ha⟩
      rw [Option.some.injEq] at h
      subst h
      exact OkL.exit (Ok.vc (lz_y p l i a k (by omega) hb hi hf (hitC p 2 a _ true hg))) (by simp)
    · rw [if_neg hz] at h
      refine OkL.step ?_ (lz_find p l i a hb q j (k + 1) (by omega) h)
      by_cases hi : i < (k : Int)
      · by_cases hf : (l.getD k default).frm < i
        · cases hg : hitB p 2 a (l.getD k default) with
          | false => exact Ok.vc (lz_g p l i a k (by omega) hb hi hf (hitC p 2 a _ false hg))
          | true => exact absurd ⟨hi, (hitB_iff.1 hg).1, (hitB_iff.1 hg).2.1, (hitB_iff.1 hg).2.2, hf⟩ hz
        · exact Ok.vc (lz_f p l i a k (by omega) hb hi hf)
      · exact Ok.vc (lz_k p l i a k (by omega) hb hi)
theorem lz_none (p : Pg) (l : List En) (i a : Int) (hb : l.length < 1000000) : ∀ j k, k + j = l.length → hzL p l i a k j = none → OkL Try.prog (ntOf Try.prog 8) (lpC Try.prog 8 0) (lzS p l i a k).st (.ext 0) (lzS p l i a l.length).st
  | 0, k, hk, _ => by
    obtain rfl : k = l.length := by omega
    exact OkL.exit (Ok.vc (lz_end p l i a)) (by simp)
  | j + 1, k, hk, h => by
    unfold hzL at h
    by_cases hz : hzLB p l i a k
    · rw [if_pos hz] at h
      obtain ⟨hi, hk3, hn, ha, hf⟩ := hz
      have hg : hitB p 2 a (l.getD k default) = true := hitB_iff.2 ⟨hk3, hn, ha⟩
      cases h
    · rw [if_neg hz] at h
      refine OkL.step ?_ (lz_none p l i a hb j (k + 1) (by omega) h)
      by_cases hi : i < (k : Int)
      · by_cases hf : (l.getD k default).frm < i
        · cases hg : hitB p 2 a (l.getD k default) with
          | false => exact Ok.vc (lz_g p l i a k (by omega) hb hi hf (hitC p 2 a _ false hg))
          | true => exact absurd ⟨hi, (hitB_iff.1 hg).1, (hitB_iff.1 hg).2.1, (hitB_iff.1 hg).2.2, hf⟩ hz
        · exact Ok.vc (lz_f p l i a k (by omega) hb hi hf)
      · exact Ok.vc (lz_k p l i a k (by omega) hb hi)
theorem hzL_low (p : Pg) (l : List En) (i a : Int) (n : Nat) : ∀ j k, k + j = n → hzL p l i a k j = if k < hz0 i n then hzG p l i a (hz0 i n) (n - hz0 i n) else hzG p l i a k j
  | 0, k, hk => by
    by_cases h : k < hz0 i n
    · rw [if_pos h, show n - hz0 i n = 0 by omega]; rfl
    · rw [if_neg h]; rfl
  | j + 1, k, hk => by
    have ih := hzL_low p l i a n j (k + 1) (by omega)
    unfold hzL
    by_cases h : k < hz0 i n
    · rw [if_pos h]
      have hi : ¬ i < (k : Int) := by unfold hz0 at h; omega
      rw [if_neg fun e => hi e.1, ih]
      by_cases h2 : k + 1 < hz0 i n
      · rw [if_pos h2]
      · rw [if_neg h2, show hz0 i n = k + 1 by omega, show n - (k + 1) = j by omega]
    · rw [if_neg h]
      have hi : i < (k : Int) := by unfold hz0 at h; omega
      rw [if_neg (by omega)] at ih
      rw [ih, show hzG p l i a k (j + 1) = if hzB p l i a k then some k else hzG p l i a (k + 1) j from rfl]
      by_cases hz : hzB p l i a k
      · rw [if_pos hz, if_pos ⟨hi, hz⟩]
      · rw [if_neg hz, if_neg fun e => hz e.2]
theorem hzL_eq (p : Pg) (l : List En) (i a : Int) : hzL p l i a 0 l.length = hzG p l i a (hz0 i l.length) (l.length - hz0 i l.length) := by
  rw [hzL_low p l i a l.length l.length 0 (by omega)]
  by_cases h : 0 < hz0 i l.length
  · rw [if_pos h]
  · rw [if_neg h, show hz0 i l.length = 0 by omega]; rfl
theorem lhaz_y (p : Pg) (l : List En) (i a : Int) (q : Nat) (h : Ok Try.prog (ntOf Try.prog 8) (.loop (lpC Try.prog 8 0)) (lzS p l i a 0).st .ret (vbS 8 9 ((q : Int), true)).st) : Vc (vcFn Try.prog false 8 [.agg (pgA p), enR l, .int .i64 i, .int .i64 a] [.fv, .lp [] (lzS p l i a 0) .ret (vbS 8 9 ((q : Int), true))] [] (.tup [.int .i64 q, .bool true]) []) := vc_by (zO25 p (zO24 p l i a (cj (rf (0 : Int)) (cj h (cj (rf (q : Int)) (cj (rf true) trivial)))))) (by kernel_rfl)
theorem lhaz_n (p : Pg) (l : List En) (i a : Int) (h : Ok Try.prog (ntOf Try.prog 8) (.loop (lpC Try.prog 8 0)) (lzS p l i a 0).st (.ext 0) (lzS p l i a l.length).st) : Vc (vcFn Try.prog false 8 [.agg (pgA p), enR l, .int .i64 i, .int .i64 a] [.fv, .lp [] (lzS p l i a 0) (.ext 0) (lzS p l i a l.length)] [] (.tup [.int .i64 0, .bool false]) []) := vc_by (zO25 p (zO24 p l i a (cj (rf (0 : Int)) (cj h (cj (rf (0 : Int)) (cj (rf false) trivial)))))) (by kernel_rfl)
theorem lhzC (p : Pg) (l : List En) (i a : Int) (hb : l.length < 1000000) : PureC Try.prog 8 [.agg (pgA p), enR l, .int .i64 i, .int .i64 a] (.tup [.int .i64 (hzV p l i a).1, .bool (hzV p l i a).2]) [] := by
  unfold hzV
  rw [← hzL_eq]
  cases h : hzL p l i a 0 l.length with
  | some q => exact PureC.vc (lhaz_y p l i a q (lz_find p l i a hb q _ _ (by omega) h).ok)
  | none => exact PureC.vc (lhaz_n p l i a (lz_none p l i a hb _ _ (by omega) h).ok)
end
end Go.Proofs.Ytdnmfgnpflhcpaa.Px
namespace Go.Proofs.Ytdnmfgnpflhcpaa.Px
section
open Go.RowKit Go.Proofs.Ytdnmfgnpflhcpaa.Rx
def vZ : Vl := ⟨false, 0⟩
def mM (n : Nat) : List Mm := [⟨⟨#[109]⟩, false, n⟩]
def iS : In := ⟨3, 0, 0, vZ, vZ, ⟨#[]⟩, 0⟩
def iL : In := ⟨2, 0, 0, vZ, vZ, ⟨#[]⟩, 0⟩
def pK : Pg := ⟨2, 0, 0, 0, 0, 0, 0, mM 2, [], [iS, iL]⟩
def lK : List En := [⟨0, 3, 1, 0, 0, true, true, false⟩, ⟨0, 0, 0, 0, 0, false, false, false⟩, ⟨1, 0, 1, 0, 0, false, true, false⟩, ⟨0, 0, 1, 0, 0, false, true, false⟩]
theorem sO30  : ∀ (i : Nat), i < 1 → ∀ (j : Nat), j < 3 → List.getD [AV.str (ByteArray.mk (Array.mk [(109 : UInt8)])), AV.bool false, aI (2 : Int)] (i * 3 + j) AV.junk = rowL mmC [Mm.mk (ByteArray.mk (Array.mk [(109 : UInt8)])) false (2 : Nat)] i j := (fun i hi j hj => match i, hi, j, hj with | 0, _, 0, _ => rfl | 0, _, 1, _ => rfl | 0, _, 2, _ => rfl)
theorem sO31  : ∀ (i : Nat), i < 2 → ∀ (j : Nat), j < 9 → List.getD [aI (3 : Int), aI (0 : Int), aI (0 : Int), AV.bool false, aI (0 : Int), AV.bool false, aI (0 : Int), AV.str (ByteArray.mk (Array.mk [])), aI (0 : Int), aI (2 : Int), aI (0 : Int), aI (0 : Int), AV.bool false, aI (0 : Int), AV.bool false, aI (0 : Int), AV.str (ByteArray.mk (Array.mk [])), aI (0 : Int)] (i * 9 + j) AV.junk = rowL inC [iS, iL] i j := (fun i hi j hj => match i, hi, j, hj with | 0, _, 0, _ => rfl | 0, _, 1, _ => rfl | 0, _, 2, _ => rfl | 0, _, 3, _ => rfl | 0, _, 4, _ => rfl | 0, _, 5, _ => rfl | 0, _, 6, _ => rfl | 0, _, 7, _ => rfl | 0, _, 8, _ => rfl | 1, _, 0, _ => rfl | 1, _, 1, _ => rfl | 1, _, 2, _ => rfl | 1, _, 3, _ => rfl | 1, _, 4, _ => rfl | 1, _, 5, _ => rfl | 1, _, 6, _ => rfl | 1, _, 7, _ => rfl | 1, _, 8, _ => rfl)
theorem sO32  : ∀ (i : Nat), i < 2 → ∀ (j : Nat), j < 1 → List.getD [aI (7 : Int), aI (8 : Int)] (i * 1 + j) AV.junk = aI (List.getD [(7 : Int), (8 : Int)] i (0 : Int)) := (fun i hi j hj => match i, hi, j, hj with | 0, _, 0, _ => rfl | 1, _, 0, _ => rfl)
theorem sO33  : ∀ (i : Nat), i < 4 → ∀ (j : Nat), j < 8 → List.getD [aI (0 : Int), aI (3 : Int), aI (1 : Int), aI (0 : Int), aI (0 : Int), AV.bool true, AV.bool true, AV.bool false, aI (0 : Int), aI (0 : Int), aI (0 : Int), aI (0 : Int), aI (0 : Int), AV.bool false, AV.bool false, AV.bool false, aI (1 : Int), aI (0 : Int), aI (1 : Int), aI (0 : Int), aI (0 : Int), AV.bool false, AV.bool true, AV.bool false, aI (0 : Int), aI (0 : Int), aI (1 : Int), aI (0 : Int), aI (0 : Int), AV.bool false, AV.bool true, AV.bool false] (i * 8 + j) AV.junk = rowL enC [En.mk (0 : Int) (3 : Int) (1 : Int) (0 : Int) (0 : Int) true true false, En.mk (0 : Int) (0 : Int) (0 : Int) (0 : Int) (0 : Int) false false false, En.mk (1 : Int) (0 : Int) (1 : Int) (0 : Int) (0 : Int) false true false, En.mk (0 : Int) (0 : Int) (1 : Int) (0 : Int) (0 : Int) false true false] i j := (fun i hi j hj => match i, hi, j, hj with | 0, _, 0, _ => rfl | 0, _, 1, _ => rfl | 0, _, 2, _ => rfl | 0, _, 3, _ => rfl | 0, _, 4, _ => rfl | 0, _, 5, _ => rfl | 0, _, 6, _ => rfl | 0, _, 7, _ => rfl | 1, _, 0, _ => rfl | 1, _, 1, _ => rfl | 1, _, 2, _ => rfl | 1, _, 3, _ => rfl | 1, _, 4, _ => rfl | 1, _, 5, _ => rfl | 1, _, 6, _ => rfl | 1, _, 7, _ => rfl | 2, _, 0, _ => rfl | 2, _, 1, _ => rfl | 2, _, 2, _ => rfl | 2, _, 3, _ => rfl | 2, _, 4, _ => rfl | 2, _, 5, _ => rfl | 2, _, 6, _ => rfl | 2, _, 7, _ => rfl | 3, _, 0, _ => rfl | 3, _, 1, _ => rfl | 3, _, 2, _ => rfl | 3, _, 3, _ => rfl | 3, _, 4, _ => rfl | 3, _, 5, _ => rfl | 3, _, 6, _ => rfl | 3, _, 7, _ => rfl)
theorem zO30  {Z : Prop} (z : Z) : (RF (2 : Int) (RF (0 : Int) (RF (0 : Int) (RF (0 : Int) (RF (0 : Int) (RF (0 : Int) (RF (0 : Int) (RF (1 : Nat) Z)))))))) := ⟨rfl, rfl, rfl, rfl, rfl, rfl, rfl, rfl, z⟩
theorem awake_vc (r1 : PureC Try.prog 6 [.agg (pgA pK), lR [7, 8], enR lK, .int .i64 2, .int .i64 1] (.tup [.int .i64 3, .int .i64 0, .bool true]) []) (r2 : PureC Try.prog 6 [.agg (pgA pK), lR [7, 8], enR lK, .int .i64 2, .int .i64 0] (.tup [.int .i64 7, .int .i64 (-1), .bool true]) []) (r3 : PureC Try.prog 6 [.agg (pgA pK), lR [7, 8], enR lK, .int .i64 4, .int .i64 1] (.tup [.int .i64 0, .int .i64 0, .bool false]) []) (r4 : PureC Try.prog 8 [.agg (pgA pK), enR lK, .int .i64 1, .int .i64 1] (.tup [.int .i64 2, .bool true]) []) (r5 : PureC Try.prog 8 [.agg (pgA pK), enR lK, .int .i64 0, .int .i64 1] (.tup [.int .i64 0, .bool false]) []) : Vc (vcFn Try.prog false 7 [] [.fv, .fv, .fz, .fv, .cl [.agg (pgA pK), lR [7, 8], enR lK, .int .i64 2, .int .i64 1] (.tup [.int .i64 3, .int .i64 0, .bool true]) [], .fv, .cl [.agg (pgA pK), lR [7, 8], enR lK, .int .i64 2, .int .i64 0] (.tup [.int .i64 7, .int .i64 (-1), .bool true]) [], .fv, .cl [.agg (pgA pK), lR [7, 8], enR lK, .int .i64 4, .int .i64 1] (.tup [.int .i64 0, .int .i64 0, .bool false]) [], .cl [.agg (pgA pK), enR lK, .int .i64 1, .int .i64 1] (.tup [.int .i64 2, .bool true]) [], .cl [.agg (pgA pK), enR lK, .int .i64 0, .int .i64 1] (.tup [.int .i64 0, .bool false]) []] [] (.bool true) []) := vc_by (zO30 (cj (sO30 ) (cj (rf (0 : Nat)) (cj (rf (2 : Nat)) (cj (sO31 ) (cj (rf (2 : Nat)) (cj (sO32 ) (cj (rf (4 : Nat)) (cj (sO33 ) (cj (rf (2 : Int)) (cj (rf (1 : Int)) (cj r1 (zO30 (cj (sO30 ) (cj (rf (0 : Nat)) (cj (rf (2 : Nat)) (cj (sO31 ) (cj (rf (2 : Nat)) (cj (sO32 ) (cj (rf (4 : Nat)) (cj (sO33 ) (cj (rf (2 : Int)) (cj (rf (0 : Int)) (cj r2 (zO30 (cj (sO30 ) (cj (rf (0 : Nat)) (cj (rf (2 : Nat)) (cj (sO31 ) (cj (rf (2 : Nat)) (cj (sO32 ) (cj (rf (4 : Nat)) (cj (sO33 ) (cj (rf (4 : Int)) (cj (rf (1 : Int)) (cj r3 (zO30 (cj (sO30 ) (cj (rf (0 : Nat)) (cj (rf (2 : Nat)) (cj (sO31 ) (cj (rf (4 : Nat)) (cj (sO33 ) (cj (rf (1 : Int)) (cj (rf (1 : Int)) (cj r4 (zO30 (cj (sO30 ) (cj (rf (0 : Nat)) (cj (rf (2 : Nat)) (cj (sO31 ) (cj (rf (4 : Nat)) (cj (sO33 ) (cj (rf (0 : Int)) (cj (rf (1 : Int)) (cj r5 (cj (rf true) trivial))))))))))))))))))))))))))))))))))))))))))))))))))))))))) (by kernel_rfl)
theorem awL (i a v r : Int) (b : Bool) (h : ldV pK [7, 8] lK i a = (v, r, b)) : PureC Try.prog 6 [.agg (pgA pK), lR [7, 8], enR lK, .int .i64 i, .int .i64 a] (.tup [.int .i64 v, .int .i64 r, .bool b]) [] := by
  have h1 := lldC pK [7, 8] lK i a (by decide)
  rw [h] at h1
  exact h1
theorem awH (i a v : Int) (b : Bool) (h : hzV pK lK i a = (v, b)) : PureC Try.prog 8 [.agg (pgA pK), enR lK, .int .i64 i, .int .i64 a] (.tup [.int .i64 v, .bool b]) [] := by
  have h1 := lhzC pK lK i a (by decide)
  rw [h] at h1
  exact h1
theorem awakeC11 : PureC Try.prog 7 [] (.bool true) [] := PureC.vc (awake_vc (awL 2 1 3 0 true (by decide)) (awL 2 0 7 (-1) true (by decide)) (awL 4 1 0 0 false (by decide)) (awH 1 1 2 true (by decide)) (awH 0 1 0 false (by decide)))
end
end Go.Proofs.Ytdnmfgnpflhcpaa.Px
namespace Go.Proofs.Ytdnmfgnpflhcpaa.Px
section
open Go.RowKit Go.Proofs.Ytdnmfgnpflhcpaa.Rx
def pushL (l : List Int) (pc : Int) : List Int := (l ++ [pc]).drop (l.length - 1)
def jmpV (p : Pg) (n : Int) : Int := min n (p.is.length : Int)
/-- what returns come to -/
def reG (p : Pg) (l : List En) : Nat → Nat → List Int → Option (List Int)
  | _, 0, st => some st
  | k, j + 1, st => if (enI p l k).kind = 8 then (if 4 ≤ st.length then none else reG p l (k + 1) j (st ++ [(l.getD k default).pc + 1]))
    else if (enI p l k).kind = 9 then (if st.length = 0 then none else reG p l (k + 1) j (st.take (st.length - 1))) else reG p l (k + 1) j st
def reV (p : Pg) (st : List Int) (l : List En) (i : Int) : Option (List Int) := reG p l 0 (cl0 i l.length) st
def reS (p : Pg) (l : List En) (i : Int) (L : List Int) (N : Nat) (g : Nat → Nat → AV) (k : Nat) : Sm := ⟨[(4, pgP p), (2, enR l), (3, .int .i64 i), (10, .own 0 0 1 0 L.length), (11, .int .i64 k), (8, .nils), (9, .bool false)], [(0, ⟨0, false, 3, .rows 1 N g⟩)], 1⟩
def nS : Sm := ⟨[(8, .nils), (9, .bool false)], [], 0⟩
theorem push_ix (l : List Int) : (if (((0 + l.length + 1 : Nat)) : Int) - 2 < 0 then 0 else ((0 + l.length + 1 : Nat) : Int) - 2) = ((l.length - 1 : Nat) : Int) := by split <;> omega
theorem push_ix2 (l : List Int) : Int.toNat (if (((0 + l.length + 1 : Nat)) : Int) - 2 < 0 then 0 else ((0 + l.length + 1 : Nat) : Int) - 2) = l.length - 1 := by rw [push_ix, Int.toNat_natCast]
theorem push_len (l : List Int) (pc : Int) : (pushL l pc).length = l.length + 1 - (l.length - 1) := by unfold pushL; rw [List.length_drop, List.length_append]; rfl
theorem row_snoc {l : List Int} {x : Int} {g : Nat → Nat → AV} (hg : g 0 0 = .int .i64 x) (i : Nat) (hi : i < l.length + 1) (a : AV) (ha : i < l.length → a = .int .i64 (l.getD i 0)) : (bif Nat.blt i l.length then a else g (i - l.length) 0) = .int .i64 ((l ++ [x]).getD i 0) := by
  refine row_if (fun h => ?_) (fun h => ?_)
  · rw [ha h]
    simp [List.getD, List.getElem?_append_left h]
  · obtain rfl : i = l.length := by omega
    rw [Nat.sub_self, hg]
    simp [List.getD]
theorem getD_drop (l : List Int) (n i : Nat) : (l.drop n).getD i 0 = l.getD (i + n) 0 := by
  rw [List.getD_eq_getElem?_getD, List.getD_eq_getElem?_getD, List.getElem?_drop, Nat.add_comm]
theorem push_row (l : List Int) (pc : Int) {g : Nat → Nat → AV} (hg : g 0 0 = .int .i64 pc) {E : Nat} (hE : E = l.length - 1) {i : Nat} (hi : i + E < l.length + 1) : (bif Nat.blt (i + E) (0 + l.length) then (bif Nat.blt (i + E) 0 then AV.junk else .int .i64 (l.getD (i + E - 0) 0)) else g (i + E - (0 + l.length)) 0) = .int .i64 ((pushL l pc).getD i 0) := by
  subst hE
  unfold pushL
  rw [getD_drop, Nat.zero_add]
  exact row_snoc hg _ hi _ fun _ => rfl
theorem push_vc (l : List Int) (pc : Int) (hb : l.length < 1000000) : Vc (vcFn Try.prog false 46 [lR l, .int .i64 pc] [] [] (lR (pushL l pc)) []) := vc_by (cj (ap 0 l.length 8) (cj (ap (0 + l.length) 1 8) (cj (i6 ((↑((0 : Nat) + l.length + 1) : Int) - 2)) (cj (show ((0 : Int) ≤ if (↑((0 : Nat) + l.length + 1) : Int) - 2 < 0 then (0 : Int) else (↑((0 : Nat) + l.length + 1) : Int) - 2) ∧ (if (↑((0 : Nat) + l.length + 1) : Int) - 2 < 0 then (0 : Int) else (↑((0 : Nat) + l.length + 1) : Int) - 2) < (↑((0 : Nat) + l.length + 1) : Int) ∧ (↑((0 : Nat) + l.length + 1) : Int) ≤ (↑((0 : Nat) + l.length + 1) : Int) from by rw [push_ix]; omega) (cj (show (0 : Nat) + l.length + 1 - Int.toNat (if (↑((0 : Nat) + l.length + 1) : Int) - 2 < 0 then (0 : Int) else (↑((0 : Nat) + l.length + 1) : Int) - 2) = (pushL l pc).length from by rw [push_ix2, push_len, Nat.zero_add]) (cj (show ∀ (i : Nat), i < 0 + l.length + 1 - Int.toNat (if (↑((0 : Nat) + l.length + 1) : Int) - 2 < 0 then (0 : Int) else (↑((0 : Nat) + l.length + 1) : Int) - 2) → ∀ (j : Nat), j < 1 → (bif Nat.blt (i + ((0 : Nat) + Int.toNat (if (↑((0 : Nat) + l.length + 1) : Int) - 2 < 0 then (0 : Int) else (↑((0 : Nat) + l.length + 1) : Int) - 2))) ((0 : Nat) + l.length) then aI (l.getD (i + ((0 : Nat) + Int.toNat (if (↑((0 : Nat) + l.length + 1) : Int) - 2 < 0 then (0 : Int) else (↑((0 : Nat) + l.length + 1) : Int) - 2)) - 0) (0 : Int)) else List.getD [aI pc] ((i + ((0 : Nat) + Int.toNat (if (↑((0 : Nat) + l.length + 1) : Int) - 2 < 0 then (0 : Int) else (↑((0 : Nat) + l.length + 1) : Int) - 2)) - ((0 : Nat) + l.length) + 0) * 1 + j) AV.junk) = aI (List.getD (pushL l pc) i (0 : Int)) from (fun i hi j hj => by obtain rfl : j = 0 := (by omega); exact push_row l pc (g := fun a b => [AV.int .i64 pc].getD ((a + 0) * 1 + b) .junk) rfl (by rw [push_ix2, Nat.zero_add]) (by rw [push_ix2] at hi ⊢; omega))) trivial)))))) (by kernel_rfl)
theorem rpushC (l : List Int) (pc : Int) (hb : l.length < 1000000) : PureC Try.prog 46 [lR l, .int .i64 pc] (lR (pushL l pc)) [] := PureC.vc (push_vc l pc hb)
theorem zM30 (p : Pg) (l : List En) (i : Int) {Z : Prop} (z : Z) : (RF p.ms.length (RR p.ms.length 3 (fun i j => rowL mmC p.ms i j) (RF p.ls.length (RR p.ls.length 2 (fun i j => rowL lbC p.ls i j) (RF p.is.length (RR p.is.length 9 (fun i j => rowL inC p.is i j) (RF l.length (RR l.length 8 (fun i j => rowL enC l i j) (RF i Z))))))))) := ⟨rfl, fun _ _ _ _ => rfl, rfl, fun _ _ _ _ => rfl, rfl, fun _ _ _ _ => rfl, rfl, fun _ _ _ _ => rfl, rfl, z⟩
theorem zM31 (p : Pg) (N : Nat) (g : Nat → Nat → AV) {Z : Prop} (z : Z) : (RF N (RR N 1 (fun i j => g i j) (RF p.W (RF p.win (RF p.fuel (RF p.r0 (RF p.r1 (RF p.r2 (RF p.r3 Z))))))))) := ⟨rfl, fun _ _ _ _ => rfl, rfl, rfl, rfl, rfl, rfl, rfl, rfl, z⟩
theorem zM32 (p : Pg) (l : List En) (k : Nat) {Z : Prop} (z : Z) : (RF p.ls.length (RR p.ls.length 2 (fun i j => rowL lbC p.ls i j) (RF p.is.length (RR p.is.length 9 (fun i j => rowL inC p.is i j) (RF ((l.getD k default).pc) Z))))) := ⟨rfl, fun _ _ _ _ => rfl, rfl, fun _ _ _ _ => rfl, rfl, z⟩
theorem zM33 (p : Pg) {Z : Prop} (z : Z) : (RF p.W (RF p.win (RF p.fuel (RF p.r0 (RF p.r1 (RF p.r2 (RF p.r3 (RF p.ms.length (RR p.ms.length 3 (fun i j => rowL mmC p.ms i j) Z))))))))) := ⟨rfl, rfl, rfl, rfl, rfl, rfl, rfl, rfl, fun _ _ _ _ => rfl, z⟩
abbrev oM30 (p : Pg) (l : List En) (k : Nat) : Orc := .cl [.agg (pgA p), .int .i64 (l.getD k default).pc] (.agg (inA (enI p l k))) []
theorem re_o (p : Pg) (l : List En) (i : Int) (L : List Int) (N : Nat) (g : Nat → Nat → AV) (k : Nat) (hk : (k : Int) < i) (hl : k < l.length) (hb : l.length < 1000000) (hL : L.length ≤ 1000000) (hLN : L.length ≤ N) (h8 : ¬ (enI p l k).kind = 8) (h9 : ¬ (enI p l k).kind = 9) : Vc (vcC Try.prog false (ntOf Try.prog 45) (lpC Try.prog 45 0) (reS p l i L N g k) [.bd true, .bd true, oM30 p l k, .bd false, .bd false] .nrm [(0, 0)] (reS p l i L N g (k + 1))) := vc_by (cj (dt ((k : Int) < i)) (cj (dt ((k : Int) < (l.length : Int))) (cj (bi (k : Int) (l.length : Int)) (zM33 p (zM32 p l k (cj (ratC p (l.getD k default).pc) (cj (beq_eq_false_iff_ne.2 h8) (cj (beq_eq_false_iff_ne.2 h9) (cj (i6 ((k : Int) + 1)) (zM31 p N g (zM30 p l i (cj (rf (0 : Nat)) (cj (rf L.length) (cj (rf ((k : Int) + 1)) (cj (rf false) trivial))))))))))))))) (by kernel_rfl)
theorem re_8x (p : Pg) (l : List En) (i : Int) (L : List Int) (N : Nat) (g : Nat → Nat → AV) (k : Nat) (hk : (k : Int) < i) (hl : k < l.length) (hb : l.length < 1000000) (hL : L.length ≤ 1000000) (hLN : L.length ≤ N) (h8 : (enI p l k).kind = 8) (h4 : 4 ≤ L.length) : Vc (vcC Try.prog false (ntOf Try.prog 45) (lpC Try.prog 45 0) (reS p l i L N g k) [.bd true, .bd true, oM30 p l k, .bd true, .bd true] .ret [] nS) := vc_by (cj (dt ((k : Int) < i)) (cj (dt ((k : Int) < (l.length : Int))) (cj (bi (k : Int) (l.length : Int)) (zM33 p (zM32 p l k (cj (ratC p (l.getD k default).pc) (cj (beq_iff_eq.2 h8) (cj (dt ((L.length : Int) ≥ 4)) (cj (rf false) trivial))))))))) (by kernel_rfl)
theorem re_8 (p : Pg) (l : List En) (i : Int) (L : List Int) (N : Nat) (g : Nat → Nat → AV) (k : Nat) (hk : (k : Int) < i) (hl : k < l.length) (hb : l.length < 1000000) (hL : L.length ≤ 1000000) (hLN : L.length ≤ N) (h8 : (enI p l k).kind = 8) (h4 : ¬ 4 ≤ L.length) (hp : -1 ≤ (l.getD k default).pc ∧ (l.getD k default).pc ≤ 1000000) : Vc (vcC Try.prog false (ntOf Try.prog 45) (lpC Try.prog 45 0) (reS p l i L N g k) [.bd true, .bd true, oM30 p l k, .bd true, .bd false, .sh] .nrm [(0, 0)] (reS p l i (L ++ [(l.getD k default).pc + 1]) (L.length + 1) (fun a b => bif Nat.blt a L.length then g a b else [AV.int .i64 ((l.getD k default).pc + 1)].getD ((a - L.length) * 1 + b) .junk) (k + 1))) := vc_by (cj (dt ((k : Int) < i)) (cj (dt ((k : Int) < (l.length : Int))) (cj (bi (k : Int) (l.length : Int)) (zM33 p (zM32 p l k (cj (ratC p (l.getD k default).pc) (cj (beq_iff_eq.2 h8) (cj (df ((L.length : Int) ≥ 4)) (cj (bi (k : Int) (l.length : Int)) (cj (i6 ((l.getD k default).pc + 1)) (cj (ap L.length 1 8) (cj (i6 ((k : Int) + 1)) (cj (rf (L.length + 1)) (cj (rr (L.length + 1) 1 fun i j => bif Nat.blt i L.length then g i j else List.getD [aI ((l.getD k default).pc + 1)] ((i - L.length) * 1 + j) AV.junk) (zM33 p (cj (rf p.ls.length) (cj (rr p.ls.length 2 fun i j => rowL lbC p.ls i j) (cj (rf p.is.length) (cj (rr p.is.length 9 fun i j => rowL inC p.is i j) (cj (rf l.length) (cj (rr l.length 8 fun i j => rowL enC l i j) (cj (rf i) (cj (rf (0 : Nat)) (cj (pv (L.length + 1 = (L ++ [(l.getD k default).pc + 1]).length)) (cj (rf ((k : Int) + 1)) (cj (rf false) trivial)))))))))))))))))))))))))) (by kernel_rfl)
theorem re_9x (p : Pg) (l : List En) (i : Int) (L : List Int) (N : Nat) (g : Nat → Nat → AV) (k : Nat) (hk : (k : Int) < i) (hl : k < l.length) (hb : l.length < 1000000) (hL : L.length ≤ 1000000) (hLN : L.length ≤ N) (h8 : ¬ (enI p l k).kind = 8) (h9 : (enI p l k).kind = 9) (h4 : L.length = 0) : Vc (vcC Try.prog false (ntOf Try.prog 45) (lpC Try.prog 45 0) (reS p l i L N g k) [.bd true, .bd true, oM30 p l k, .bd false, .bd true, .bd true] .ret [] nS) := vc_by (cj (dt ((k : Int) < i)) (cj (dt ((k : Int) < (l.length : Int))) (cj (bi (k : Int) (l.length : Int)) (zM33 p (zM32 p l k (cj (ratC p (l.getD k default).pc) (cj (beq_eq_false_iff_ne.2 h8) (cj (beq_iff_eq.2 h9) (cj (e1 (L.length : Int) 0) (cj (rf false) trivial)))))))))) (by kernel_rfl)
theorem re_9 (p : Pg) (l : List En) (i : Int) (L : List Int) (N : Nat) (g : Nat → Nat → AV) (k : Nat) (hk : (k : Int) < i) (hl : k < l.length) (hb : l.length < 1000000) (hL : L.length ≤ 1000000) (hLN : L.length ≤ N) (h8 : ¬ (enI p l k).kind = 8) (h9 : (enI p l k).kind = 9) (h4 : ¬ L.length = 0) : Vc (vcC Try.prog false (ntOf Try.prog 45) (lpC Try.prog 45 0) (reS p l i L N g k) [.bd true, .bd true, oM30 p l k, .bd false, .bd true, .bd false] .nrm [(0, 0)] (reS p l i (L.take (L.length - 1)) N g (k + 1))) := vc_by (cj (dt ((k : Int) < i)) (cj (dt ((k : Int) < (l.length : Int))) (cj (bi (k : Int) (l.length : Int)) (zM33 p (zM32 p l k (cj (ratC p (l.getD k default).pc) (cj (beq_eq_false_iff_ne.2 h8) (cj (beq_iff_eq.2 h9) (cj (e0 (L.length : Int) 0) (cj (i6 ((L.length : Int) - 1)) (cj (pv ((0 : Int) ≤ (L.length : Int) - 1 ∧ (L.length : Int) - 1 ≤ (L.length : Int))) (cj (i6 ((k : Int) + 1)) (zM31 p N g (zM30 p l i (cj (rf (0 : Nat)) (cj (pv (Int.toNat ((L.length : Int) - 1) = (List.take (L.length - 1) L).length)) (cj (rf ((k : Int) + 1)) (cj (rf false) trivial)))))))))))))))))) (by kernel_rfl)
theorem zM34 (L : List Int) (k : Nat) {Z : Prop} (z : Z) : (RF (0 : Nat) (RF L.length (RF (k : Int) (RF false Z)))) := ⟨rfl, rfl, rfl, rfl, z⟩
theorem re_i (p : Pg) (l : List En) (i : Int) (L : List Int) (N : Nat) (g : Nat → Nat → AV) (k : Nat) (hk : ¬ (k : Int) < i) : Vc (vcC Try.prog false (ntOf Try.prog 45) (lpC Try.prog 45 0) (reS p l i L N g k) [.bd false] (.ext 0) [(0, 0)] (reS p l i L N g k)) := vc_by (cj (df ((k : Int) < i)) (zM31 p N g (zM30 p l i (zM34 L k trivial)))) (by kernel_rfl)
theorem re_l (p : Pg) (l : List En) (i : Int) (L : List Int) (N : Nat) (g : Nat → Nat → AV) (k : Nat) (hk : (k : Int) < i) (hl : ¬ k < l.length) : Vc (vcC Try.prog false (ntOf Try.prog 45) (lpC Try.prog 45 0) (reS p l i L N g k) [.bd true, .bd false] (.ext 0) [(0, 0)] (reS p l i L N g k)) := vc_by (cj (dt ((k : Int) < i)) (cj (df ((k : Int) < (l.length : Int))) (zM31 p N g (zM30 p l i (zM34 L k trivial))))) (by kernel_rfl)
def gOk (L : List Int) (N : Nat) (g : Nat → Nat → AV) : Prop := L.length ≤ N ∧ ∀ a, a < L.length → g a 0 = .int .i64 (L.getD a 0)
theorem gOk_snoc {L : List Int} {N : Nat} {g : Nat → Nat → AV} (h : gOk L N g) (x : Int) : gOk (L ++ [x]) (L.length + 1) (fun a b => bif Nat.blt a L.length then g a b else [AV.int .i64 x].getD ((a - L.length) * 1 + b) .junk) := by
  refine ⟨by simp, fun a ha => ?_⟩
  rw [List.length_append] at ha
  exact row_snoc (g := fun a b => [AV.int .i64 x].getD (a * 1 + b) .junk) rfl a ha _ (h.2 a)
theorem gOk_take {L : List Int} {N : Nat} {g : Nat → Nat → AV} (h : gOk L N g) (n : Nat) : gOk (L.take n) N g := by
  refine ⟨by have := h.1; rw [List.length_take]; omega, fun a ha => ?_⟩
  rw [List.length_take] at ha
  rw [h.2 a (by omega), List.getD_eq_getElem?_getD, List.getD_eq_getElem?_getD, List.getElem?_take, if_pos (by omega)]
theorem pc_bd {l : List En} (h : ∀ e ∈ l, -1 ≤ e.pc ∧ e.pc ≤ 1000000) {k : Nat} (hk : k < l.length) : -1 ≤ (l.getD k default).pc ∧ (l.getD k default).pc ≤ 1000000 := h _ (by simp [List.getD, hk])
theorem re_none (p : Pg) (l : List En) (i : Int) (hb : l.length < 1000000) (hpc : ∀ e ∈ l, -1 ≤ e.pc ∧ e.pc ≤ 1000000) : ∀ j k L N g, k + j = cl0 i l.length → gOk L N g → L.length + j ≤ 1000000 → reG p l k j L = none → OkL Try.prog (ntOf Try.prog 45) (lpC Try.prog 45 0) (reS p l i L N g k).st .ret (nS).st
  | 0, k, L, N, g, _, _, _, h => by cases h
  | j + 1, k, L, N, g, hk, hg, hL, h => by
    have hl := cl0_lt (i := i) (n := l.length) (k := k) (by omega)
    unfold reG at h
    by_cases h8 : (enI p l k).kind = 8
    · rw [if_pos h8] at h
      by_cases h4 : 4 ≤ L.length
      · exact OkL.exit (Ok.vc (re_8x p l i L N g k hl.1 hl.2 hb (by omega) hg.1 h8 h4)) (by simp)
      · rw [if_neg h4] at h
        exact OkL.step (Ok.vc (re_8 p l i L N g k hl.1 hl.2 hb (by omega) hg.1 h8 h4 (pc_bd hpc hl.2))) (re_none p l i hb hpc j (k + 1) _ _ _ (by omega) (gOk_snoc hg _) (by rw [List.length_append, List.length_singleton]; omega) h)
    · rw [if_neg h8] at h
      by_cases h9 : (enI p l k).kind = 9
      · rw [if_pos h9] at h
        by_cases h4 : L.length = 0
        · exact OkL.exit (Ok.vc (re_9x p l i L N g k hl.1 hl.2 hb (by omega) hg.1 h8 h9 h4)) (by simp)
        · rw [if_neg h4] at h
          exact OkL.step (Ok.vc (re_9 p l i L N g k hl.1 hl.2 hb (by omega) hg.1 h8 h9 h4)) (re_none p l i hb hpc j (k + 1) _ _ _ (by omega) (gOk_take hg _) (by rw [List.length_take]; omega) h)
      · rw [if_neg h9] at h
        exact OkL.step (Ok.vc (re_o p l i L N g k hl.1 hl.2 hb (by omega) hg.1 h8 h9)) (re_none p l i hb hpc j (k + 1) _ _ _ (by omega) hg (by omega) h)
theorem re_some (p : Pg) (l : List En) (i : Int) (L' : List Int) (hb : l.length < 1000000) (hpc : ∀ e ∈ l, -1 ≤ e.pc ∧ e.pc ≤ 1000000) : ∀ j k L N g, k + j = cl0 i l.length → gOk L N g → L.length + j ≤ 1000000 → reG p l k j L = some L' → ∃ N' g', gOk L' N' g' ∧ L'.length ≤ 1000000 ∧ OkL Try.prog (ntOf Try.prog 45) (lpC Try.prog 45 0) (reS p l i L N g k).st (.ext 0) (reS p l i L' N' g' (cl0 i l.length)).st
  | 0, k, L, N, g, hk, hg, hL, h => by
    obtain rfl : L = L' := Option.some.inj h
    obtain rfl : k = cl0 i l.length := by omega
    refine ⟨N, g, hg, by omega, ?_⟩
    rcases cl0_end i l.length with h1 | h1
    · exact OkL.exit (Ok.vc (re_i p l i _ N g _ h1)) (by simp)
    · by_cases h2 : ((cl0 i l.length : Nat) : Int) < i
      · exact OkL.exit (Ok.vc (re_l p l i _ N g _ h2 h1)) (by simp)
      · exact OkL.exit (Ok.vc (re_i p l i _ N g _ h2)) (by simp)
  | j + 1, k, L, N, g, hk, hg, hL, h => by
    have hl := cl0_lt (i := i) (n := l.length) (k := k) (by omega)
    unfold reG at h
    by_cases h8 : (enI p l k).kind = 8
    · rw [if_pos h8] at h
      by_cases h4 : 4 ≤ L.length
      · rw [if_pos h4] at h; cases h
      · rw [if_neg h4] at h
        obtain ⟨N', g', q1, q2, q3⟩ := re_some p l i L' hb hpc j (k + 1) _ _ _ (by omega) (gOk_snoc hg _) (by rw [List.length_append, List.length_singleton]; omega) h
        exact ⟨N', g', q1, q2, OkL.step (Ok.vc (re_8 p l i L N g k hl.1 hl.2 hb (by omega) hg.1 h8 h4 (pc_bd hpc hl.2))) q3⟩
    · rw [if_neg h8] at h
      by_cases h9 : (enI p l k).kind = 9
      · rw [if_pos h9] at h
        by_cases h4 : L.length = 0
        · rw [if_pos h4] at h; cases h
        · rw [if_neg h4] at h
          obtain ⟨N', g', q1, q2, q3⟩ := re_some p l i L' hb hpc j (k + 1) _ _ _ (by omega) (gOk_take hg _) (by rw [List.length_take]; omega) h
          exact ⟨N', g', q1, q2, OkL.step (Ok.vc (re_9 p l i L N g k hl.1 hl.2 hb (by omega) hg.1 h8 h9 h4)) q3⟩
      · rw [if_neg h9] at h
        obtain ⟨N', g', q1, q2, q3⟩ := re_some p l i L' hb hpc j (k + 1) _ _ _ (by omega) hg (by omega) h
        exact ⟨N', g', q1, q2, OkL.step (Ok.vc (re_o p l i L N g k hl.1 hl.2 hb (by omega) hg.1 h8 h9)) q3⟩
theorem zM35 (p : Pg) (l : List En) (i : Int) {Z : Prop} (z : Z) : (RR p.ms.length 3 (fun i j => rowL mmC p.ms i j) (RF p.ls.length (RR p.ls.length 2 (fun i j => rowL lbC p.ls i j) (RF p.is.length (RR p.is.length 9 (fun i j => rowL inC p.is i j) (RF l.length (RR l.length 8 (fun i j => rowL enC l i j) (RF i (RF (0 : Nat) Z))))))))) := ⟨fun _ _ _ _ => rfl, rfl, fun _ _ _ _ => rfl, rfl, fun _ _ _ _ => rfl, rfl, fun _ _ _ _ => rfl, rfl, rfl, z⟩
theorem zM36 (p : Pg) (st : List Int) {Z : Prop} (z : Z) : (RR (0 + st.length) 1 (fun i j => aI (st.getD i 0)) (RF p.W (RF p.win (RF p.fuel (RF p.r0 (RF p.r1 (RF p.r2 (RF p.r3 (RF p.ms.length Z))))))))) := ⟨fun _ _ _ _ => rfl, rfl, rfl, rfl, rfl, rfl, rfl, rfl, rfl, z⟩
theorem real_n (p : Pg) (st : List Int) (l : List En) (i : Int) (hst : st.length ≤ 1000000) (h : Ok Try.prog (ntOf Try.prog 45) (.loop (lpC Try.prog 45 0)) (reS p l i st st.length (rowI st) 0).st .ret (nS).st) : Vc (vcFn Try.prog false 45 [.agg (pgA p), lR st, enR l, .int .i64 i] [.fz, .lp [(0, 1)] (reS p l i st st.length (rowI st) 0) .ret nS] [] (.tup [.nils, .bool false]) []) := vc_by (cj (ap 0 st.length 8) (cj (za st.length) (zM36 p st (zM35 p l i (cj (za st.length) (cj (rf (0 : Int)) (cj (rf false) (cj h (cj (rf false) trivial))))))))) (by kernel_rfl)
theorem real_y (p : Pg) (st : List Int) (l : List En) (i : Int) (L : List Int) (N : Nat) (g : Nat → Nat → AV) (n : Nat) (hst : st.length ≤ 1000000) (hg : ∀ a, a < L.length → g a 0 = .int .i64 (L.getD a 0)) (h : Ok Try.prog (ntOf Try.prog 45) (.loop (lpC Try.prog 45 0)) (reS p l i st st.length (rowI st) 0).st (.ext 0) (reS p l i L N g n).st) : Vc (vcFn Try.prog false 45 [.agg (pgA p), lR st, enR l, .int .i64 i] [.fz, .lp [(0, 1)] (reS p l i st st.length (rowI st) 0) (.ext 0) (reS p l i L N g n)] [] (.tup [lR L, .bool true]) []) := vc_by (cj (ap 0 st.length 8) (cj (za st.length) (zM36 p st (zM35 p l i (cj (za st.length) (cj (rf (0 : Int)) (cj (rf false) (cj h (cj (rf L.length) (cj (show ∀ (i : Nat), i < L.length → ∀ (j : Nat), j < 1 → g (i + 0) j = aI (L.getD i 0) from (fun i hi j hj => by obtain rfl : j = 0 := (by omega); exact hg i hi)) (cj (rf true) trivial))))))))))) (by kernel_rfl)
theorem rrealC (p : Pg) (st : List Int) (l : List En) (i : Int) (L : List Int) (hb : l.length < 900000) (hst : st.length ≤ 1000) (hpc : ∀ e ∈ l, -1 ≤ e.pc ∧ e.pc ≤ 1000000) (h : reV p st l i = some L) : PureC Try.prog 45 [.agg (pgA p), lR st, enR l, .int .i64 i] (.tup [lR L, .bool true]) [] := by
  have hle := cl0_le i l.length
  obtain ⟨N', g', q1, q2, q3⟩ := re_some p l i L (by omega) hpc _ 0 st st.length (rowI st) (by omega) ⟨Nat.le_refl _, fun a _ => rfl⟩ (by omega) h
  exact PureC.vc (real_y p st l i L N' g' _ (by omega) q1.2 q3.ok)
theorem rrealC_n (p : Pg) (st : List Int) (l : List En) (i : Int) (hb : l.length < 900000) (hst : st.length ≤ 1000) (hpc : ∀ e ∈ l, -1 ≤ e.pc ∧ e.pc ≤ 1000000) (h : reV p st l i = none) : PureC Try.prog 45 [.agg (pgA p), lR st, enR l, .int .i64 i] (.tup [.nils, .bool false]) [] := by
  have hle := cl0_le i l.length
  exact PureC.vc (real_n p st l i (by omega) (re_none p l i (by omega) hpc _ 0 st st.length (rowI st) (by omega) ⟨Nat.le_refl _, fun a _ => rfl⟩ (by omega) h).ok)
theorem jmp_vc (p : Pg) (n : Int) : Vc (vcFn Try.prog false 49 [.agg (pgA p), .int .i64 n] [.fz] [] (.int .i64 (jmpV p n)) []) := vc_by (cj (show (if (↑p.is.length : Int) < n then (↑p.is.length : Int) else n) = jmpV p n from by unfold jmpV; rw [mnI]) trivial) (by kernel_rfl)
theorem rjmpC (p : Pg) (n : Int) : PureC Try.prog 49 [.agg (pgA p), .int .i64 n] (.int .i64 (jmpV p n)) [] := PureC.vc (jmp_vc p n)
end
end Go.Proofs.Ytdnmfgnpflhcpaa.Px
