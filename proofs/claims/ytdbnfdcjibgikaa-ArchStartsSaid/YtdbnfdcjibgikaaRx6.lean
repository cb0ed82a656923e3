/- Slicing, fields, elements, parts: what they do abstractly they do in memory. -/
import Derived.Test.YtdbnfdcjibgikaaRx5
import Derived.Laws.Tables
set_option linter.unusedVariables false
set_option linter.unusedSimpArgs false
namespace Go.Proofs.Ytdbnfdcjibgikaa.Rx
open Go.RowKit
section
variable {P : Program} {cx : Cx}
theorem run_sliceBound {x : Value} {k : IntKind} {i : Int} (hx : x = .int k i) {y : Nat} {c : BoundsCode} (h0 : 0 ≤ i) (h1 : i ≤ y) (w : World) : (Instr.sliceBound x y c).run P w = .ok i.toNat w := by
  subst hx
  simp [Instr.sliceBound, asIntOf, h0, h1]
/-- the bounds of a slice expression -/
theorem run_bounds {b : Bool} {len cap : Nat} {lo hi : Option Operand} {a : Act} {l u : Int} {d : Int} (hl : (lo = none ∧ l = 0) ∨ ∃ q k, lo = some q ∧ a.eval q = .int k l) (hu : (hi = none ∧ u = len) ∨ ∃ q k, hi = some q ∧ a.eval q = .int k u)
    (h0 : 0 ≤ l) (h1 : l ≤ u) (h2 : u ≤ len) (h3 : len ≤ cap) (w : World) : (Instr.sliceBounds b len cap (lo.map a.eval) (hi.map a.eval) none).run P w = .ok (l.toNat, u.toNat, cap) w := by
  unfold Instr.sliceBounds
  rcases hu with ⟨rfl, rfl⟩ | ⟨q, k, rfl, hq⟩ <;> rcases hl with ⟨rfl, rfl⟩ | ⟨q', k', rfl, hq'⟩
  · simp
  · have e1 := fun (c : BoundsCode) (y : Nat) (hy : l ≤ (y : Int)) => run_sliceBound (P := P) (y := y) (c := c) hq' h0 hy w
    simp [e1 .sliceB len h1]
  · have e1 := fun (c : BoundsCode) (y : Nat) (hy : u ≤ (y : Int)) => run_sliceBound (P := P) (y := y) (c := c) hq (by omega) hy w
    cases b <;> simp [e1 _ cap (by omega)]
  · have e1 := fun (c : BoundsCode) (y : Nat) (hy : u ≤ (y : Int)) => run_sliceBound (P := P) (y := y) (c := c) hq (by omega) hy w
    have e2 := fun (c : BoundsCode) (y : Nat) (hy : l ≤ (y : Int)) => run_sliceBound (P := P) (y := y) (c := c) hq' h0 hy w
    cases b <;> simp [e1 _ cap (by omega), e2 _ u.toNat (by omega)]
theorem run_slice_slice {t e : TypeId} {s : Nat} (ht : P.underlying t = some (.slice e)) (hs : szOf P e = some s) {A : Option Addr} {len cap : Nat} {lo hi : Option Operand} {a : Act} {l u : Int}
    (hl : (lo = none ∧ l = 0) ∨ ∃ q k, lo = some q ∧ a.eval q = .int k l) (hu : (hi = none ∧ u = len) ∨ ∃ q k, hi = some q ∧ a.eval q = .int k u)
    (h0 : 0 ≤ l) (h1 : l ≤ u) (h2 : u ≤ len) (h3 : len ≤ cap) (w : World) :
    (Instr.sliceAt t (.slice A len cap) (lo.map a.eval) (hi.map a.eval) none).run P w = .ok (.slice (if cap = l.toNat then A else A.map (·.add (l.toNat * s))) (u.toNat - l.toNat) (cap - l.toNat)) w := by
  have hb := run_bounds (P := P) (b := true) (cap := cap) (d := 0) hl hu h0 h1 h2 h3 w
  simp [Instr.sliceAt, Instr.slice, run_underlying ht, hb, run_sizeOf' hs]
theorem own_room {id : Nat} {b : Blk} {m n : Nat} {f : Nat → Nat → AV} {g cap : Nat} (hc : CRep cx) (hb : cx.H id = some b) (hr : b.c = .rows m n f) (hg : cx.φ id = some (g, cap)) : n ≤ cap ∧ cap ≤ maxLen := by
  have := hc.hb id b hb
  unfold HB at this
  rw [hr] at this
  rcases this with ⟨h, _⟩ | ⟨g', cap', cur, h, _, _, h1, h2, _⟩
  · rw [hg] at h; cases h
  · rw [hg] at h; cases h; exact ⟨h1, h2⟩
theorem adr_mk (g o n : Nat) : (⟨g, o, none⟩ : Addr).add n = ⟨g, o + n, none⟩ := by unfold Addr.add; split <;> simp_all
theorem sz_match {o : Option Nat} {m : Nat} (h : (match o with | some s => Nat.beq s m | none => false) = true) : o = some m := by
  cases o with
  | none => cases h
  | some s => rw [Nat.eq_of_beq_eq_true h]
theorem curG_some {h : Nat → Option Blk} {id g : Nat} {b : Blk} (hg : curG h id g = true) (hb : h id = some b) : b.gen = g := by
  unfold curG at hg
  rw [hb] at hg
  exact Nat.eq_of_beq_eq_true hg
theorem run_sliceA {md : Bool} {t : TypeId} {x : AV} {ρ : Operand → AV} {a : Act} {lo hi : Option Operand} {orc : List Orc} {r : Pu} (h : sliceA P md t x ρ lo hi cx.H orc = some r) (hc : ∀ p ∈ r.cs, p)
    (hr : ∀ x, Rep cx (ρ x) (a.eval x)) (hcx : CRep cx) {v : Value} (hx : Rep cx x v) (w : World) : ∃ z, (Instr.sliceAt t v (lo.map a.eval) (hi.map a.eval) none).run P w = .ok z w ∧ Rep cx r.v z := by
  unfold sliceA at h
  split at h
  · have e := hx.str_inv
    subst e
    rename_i s
    split at h
    · rename_i hu
      obtain ⟨l, hl, h⟩ := Option.bind_eq_some_iff.1 h
      obtain ⟨u, hh, h⟩ := Option.bind_eq_some_iff.1 h
      obtain ⟨p, hp, rfl⟩ := Option.map_eq_some_iff.1 h
      obtain ⟨h1, h2, h3⟩ := chk_some hp hc
      have hb := run_bounds (P := P) (b := false) (cap := s.size) (d := 0) (run_intO hl hr) (run_intO hh hr) h1 h2 h3 (Nat.le_refl _) w
      refine ⟨_, ?_, .pure (.str _)⟩
      simp [Instr.sliceAt, Instr.slice, run_underlying hu, hb]
    · cases h
  · have e := hx.nils_inv
    subst e
    split at h
    · rename_i e hu
      obtain ⟨s, hs, h⟩ := Option.bind_eq_some_iff.1 h
      obtain ⟨l, hl, h⟩ := Option.bind_eq_some_iff.1 h
      obtain ⟨u, hh, h⟩ := Option.bind_eq_some_iff.1 h
      obtain ⟨p, hp, rfl⟩ := Option.map_eq_some_iff.1 h
      obtain ⟨rfl, rfl⟩ := chk_some hp hc
      have hb := run_slice_slice (A := none) (len := 0) (cap := 0) hu hs (run_intO hl hr) (run_intO hh hr) (Int.le_refl _) (Int.le_refl _) (by simp) (Nat.le_refl _) w
      exact ⟨_, hb, by simpa using Rep.pure .nils⟩
    · cases h
  · rename_i id g m off len
    obtain ⟨b, hb, hle, hO⟩ := hx.own_inv
    split at h
    · rename_i e hu
      obtain ⟨hm, h⟩ := bif_some h
      rw [Bool.and_eq_true] at hm
      have hs := sz_match hm.1
      have hg := curG_some hm.2 hb
      obtain ⟨u, hh, h⟩ := Option.bind_eq_some_iff.1 h
      obtain ⟨n, f, e1, e2, e3⟩ := hO hg
      split at h
      · obtain ⟨p, hp, rfl⟩ := Option.map_eq_some_iff.1 h
        obtain ⟨c1, c2⟩ := chk_some hp hc
        rcases e3 with ⟨p1, rfl, rfl, rfl⟩ | ⟨gg, cap, p1, rfl⟩
        · have hrun := run_slice_slice (lo := none) (l := 0) (A := none) (len := 0) (cap := 0) hu hs (.inl ⟨rfl, rfl⟩) (run_intO hh hr) (Int.le_refl _) c1 c2 (Nat.le_refl _) w
          refine ⟨_, hrun, .own hb hle rfl fun _ => ⟨n, f, e1, by omega, .inl ⟨p1, rfl, by omega, ?_⟩⟩⟩
          simp; omega
        · have hroom := own_room hcx hb e1 p1
          have hrun := run_slice_slice (lo := none) (l := 0) (A := some ⟨gg, off * m, none⟩) (cap := cap - off) hu hs (.inl ⟨rfl, rfl⟩) (run_intO hh hr) (Int.le_refl _) c1 c2 (by omega) w
          refine ⟨_, hrun, .own hb hle rfl fun _ => ⟨n, f, e1, by omega, .inr ⟨gg, cap, p1, ?_⟩⟩⟩
          simp [adr_zero]
      · rename_i lo q'
        obtain ⟨l, hl, h⟩ := Option.bind_eq_some_iff.1 h
        split at h
        · obtain ⟨p, hp, rfl⟩ := Option.map_eq_some_iff.1 h
          obtain ⟨c0, c1, c2⟩ := chk_some hp hc
          subst c1
          rcases e3 with ⟨p1, rfl, rfl, rfl⟩ | ⟨gg, cap, p1, rfl⟩
          · have hrun := run_slice_slice (A := none) (len := 0) (cap := 0) hu hs (run_intO hl hr) (run_intO hh hr) c0 (Int.le_refl _) c2 (Nat.le_refl _) w
            refine ⟨_, hrun, .pure ?_⟩
            rw [show l.toNat - l.toNat = 0 by omega]
            exact .row _ _ (fun _ _ => undef) (Nat.zero_le _) (by omega) (fun h => by simp at h) (fun i hi => by omega) (fun i hi => by omega)
          · have hroom := own_room hcx hb e1 p1
            have hrun := run_slice_slice (A := some ⟨gg, off * m, none⟩) (cap := cap - off) hu hs (run_intO hl hr) (run_intO hh hr) c0 (Int.le_refl _) c2 (by omega) w
            refine ⟨_, hrun, .pure ?_⟩
            rw [show l.toNat - l.toNat = 0 by omega]
            exact .row _ _ (fun _ _ => undef) (Nat.zero_le _) (by omega) (fun h => by simp at h) (fun i hi => by omega) (fun i hi => by omega)
        · obtain ⟨p, hp, rfl⟩ := Option.map_eq_some_iff.1 h
          obtain ⟨c0, c1, c2⟩ := chk_some hp hc
          rcases e3 with ⟨p1, rfl, rfl, rfl⟩ | ⟨gg, cap, p1, rfl⟩
          · omega
          · have hroom := own_room hcx hb e1 p1
            have hrun := run_slice_slice (A := some ⟨gg, off * m, none⟩) (cap := cap - off) hu hs (run_intO hl hr) (run_intO hh hr) c0 (by omega) c2 (by omega) w
            refine ⟨_, hrun, .own hb hle rfl fun _ => ⟨n, f, e1, by omega, .inr ⟨gg, cap, p1, ?_⟩⟩⟩
            rw [if_neg (by omega)]
            simp [adr_mk, Nat.add_mul, Nat.sub_sub]
    · cases h
  · rename_i m n f
    have hx := hx.row_inv
    split at h
    · rename_i e hu
      obtain ⟨hm, h⟩ := bif_some h
      have hs := sz_match hm
      obtain ⟨u, hh, h⟩ := Option.bind_eq_some_iff.1 h
      cases hx with
      | row A cap q hn hcap hA h1 hq =>
        split at h
        · obtain ⟨p, hp, rfl⟩ := Option.map_eq_some_iff.1 h
          obtain ⟨c1, c2⟩ := chk_some hp hc
          have hrun := run_slice_slice (lo := none) (l := 0) (A := A) (cap := cap) hu hs (.inl ⟨rfl, rfl⟩) (run_intO hh hr) (Int.le_refl _) c1 c2 hn w
          refine ⟨_, hrun, .pure ?_⟩
          simp only [Int.toNat_zero, Nat.zero_mul, Nat.sub_zero]
          have e : (if cap = 0 then A else Option.map (fun x => x.add 0) A) = A := by
            split
            · rfl
            · cases A <;> simp [adr_zero]
          rw [e]
          refine .row A cap q (by omega) hcap (fun hp => ?_) (fun i hi j hj => h1 i (by omega) j hj) (fun i hi j hj => hq i (by omega) j hj)
          obtain ⟨g, o, eA, hg, hcell⟩ := hA (Nat.lt_of_lt_of_le hp (Nat.mul_le_mul_right _ (by omega)))
          exact ⟨g, o, eA, hg, fun i hi j hj => hcell i (by omega) j hj⟩
        · rename_i lo q'
          obtain ⟨l, hl, h⟩ := Option.bind_eq_some_iff.1 h
          obtain ⟨p, hp, rfl⟩ := Option.map_eq_some_iff.1 h
          obtain ⟨c0, c1, c2⟩ := chk_some hp hc
          have hrun := run_slice_slice (A := A) (cap := cap) hu hs (run_intO hl hr) (run_intO hh hr) c0 c1 c2 hn w
          refine ⟨_, hrun, .pure ?_⟩
          refine .row _ _ (fun i j => q (i + l.toNat) j) (by omega) (by omega) (fun hp => ?_) (fun i hi j hj => h1 _ (by omega) j hj) (fun i hi j hj => hq _ (by omega) j hj)
          have hpos : 0 < u.toNat - l.toNat := Nat.pos_of_mul_pos_right hp
          have hm0 : 0 < m := Nat.pos_of_mul_pos_left hp
          obtain ⟨g, o, rfl, hg, hcell⟩ := hA (Nat.mul_pos (by omega) hm0)
          refine ⟨g, o + l.toNat * m, ?_, hg, fun i hi j hj => ?_⟩
          · rw [if_neg (by omega)]
            simp [adr_mk]
          · have := hcell (i + l.toNat) (by omega) j hj
            rw [← this]
            congr 2
            rw [Nat.add_mul]
            omega
    · cases h
  · rename_i m cs j
    obtain ⟨g, o, q, rfl, hR, c1, c2, c3⟩ := hx.rptr_inv
    split at h
    · rename_i n e hu
      obtain ⟨s, hs, h⟩ := Option.bind_eq_some_iff.1 h
      obtain ⟨hm, h⟩ := bif_some h
      cases h
      rw [Bool.and_eq_true] at hm
      have hle := Nat.le_of_ble_eq_true hm.1
      have hn := Nat.le_of_ble_eq_true hm.2
      have hlt : ∀ i, i < n → ∀ k, k < s → j + (i * s + k) < m := fun i hi k hk => by
        have := Nat.mul_le_mul_right s (show i + 1 ≤ n by omega)
        rw [Nat.add_mul] at this
        omega
      refine ⟨.slice (some ⟨g, o + j, none⟩) n n, ?_, .pure ?_⟩
      · have e0 : (if n = 0 then (⟨g, o + j, none⟩ : Addr) else (⟨g, o + j, none⟩ : Addr).add (0 * s)) = ⟨g, o + j, none⟩ := by split <;> simp [adr_mk]
        simp [Instr.sliceAt, run_underlying hu, Instr.sureAddr, Instr.sliceBounds, run_sizeOf' hs, adr_mk]
      · refine .row _ n (fun i k => q (j + (i * s + k))) (Nat.le_refl _) (by simp only [maxLen]; omega) (fun _ => ⟨g, o + j, rfl, hR, fun i hi k hk => ?_⟩) (fun i hi k hk => c2 _ (hlt i hi k hk)) (fun i hi k hk => c3 _ (hlt i hi k hk))
        rw [← c1 _ (hlt i hi k hk), Nat.add_assoc]
    · cases h
  · cases h
end
end Go.Proofs.Ytdbnfdcjibgikaa.Rx
