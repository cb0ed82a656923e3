/- Merged: S9e, S9f, S9g. -/
import Derived.Test.YtffghllcgoibdaaMgC
set_option linter.unusedVariables false
set_option linter.unusedSimpArgs false
set_option maxRecDepth 100000
namespace Go.Proofs.Ytffghllcgoibdaa.Px
section
open Go.RowKit Go.Proofs.Ytffghllcgoibdaa.Rx
/-- from what each was forwarded -/
def agF (l : List Int) (k : Nat) : Int := if k < l.length then (bits .and .i64 (l.getD k 0) 255).tmod ((k : Int) + 1) - 1 else -1
def aE (l : List Int) (k : Nat) : En := ⟨100 + (k : Int), 0, 0, agF l k, 0, false, false, false⟩
def agL (l : List Int) : Nat → List En
  | 0 => []
  | k + 1 => agL l k ++ [aE l k]
/-- what is left when so many are gone -/
def En.dn' (k : Nat) (e : En) : En := { e with frm := max (e.frm - k) (-1) }
def goL (l : List Int) (n k : Nat) : List En := ((agL l n).drop k).map (En.dn' k)
def a1S (fr : List Int) (n g : Int) (k : Nat) : Sm := ⟨[(0, .int .i64 n), (1, lR fr), (2, .int .i64 g), (6, .bool false), (7, enR (agL fr k)), (8, .int .i64 k)], [], 0⟩
def a2S (L W : List En) (n g : Int) (k : Nat) : Sm := ⟨[(0, .int .i64 n), (2, .int .i64 g), (6, .bool false), (7, enR L), (12, enR W), (13, .int .i64 k)], [], 0⟩
def a3S (fr : List Int) (n g : Nat) (k : Nat) : Sm := ⟨[(0, .int .i64 n), (2, .int .i64 g), (6, .bool false), (7, enR (goL fr n g)), (12, enR (agL fr n)), (88, .int .i64 ((n - g : Nat) : Int)), (89, .int .i64 k)], [], 0⟩
theorem agL_len (l : List Int) : ∀ k, (agL l k).length = k
  | 0 => rfl
  | k + 1 => by rw [agL, List.length_append, agL_len l k]; rfl
theorem and255 (n : Int) : 0 ≤ bits .and .i64 n 255 ∧ bits .and .i64 n 255 < 256 := by
  have h := Wd.bits_mask n 8 (by omega)
  have h2 : bits .and .i64 n 255 = n % 256 := h
  rw [h2]; omega
theorem tmod_bd {a : Int} {b : Int} (h0 : 0 ≤ a) (hb : 0 < b) : 0 ≤ a.tmod b ∧ a.tmod b < b := ⟨Int.tmod_nonneg _ h0, Int.tmod_lt_of_pos _ hb⟩
theorem agF_in {l : List Int} {k : Nat} (h : k < l.length) : (bits .and .i64 (l.getD k 0) 255).tmod ((k : Int) + 1) - 1 = agF l k := by unfold agF; rw [if_pos h]
theorem agF_out {l : List Int} {k : Nat} (h : ¬ k < l.length) : -1 = agF l k := by unfold agF; rw [if_neg h]
theorem agF_bd (l : List Int) (k : Nat) : -1 ≤ agF l k ∧ agF l k ≤ k := by
  unfold agF
  split
  · have h1 := and255 (l.getD k 0)
    have h2 := tmod_bd (b := (k : Int) + 1) h1.1 (by omega)
    omega
  · omega
theorem agL_get (l : List Int) (n k : Nat) (h : k < n) : (agL l n)[k]? = some (aE l k) := by
  induction n with
  | zero => omega
  | succ n ih =>
    rw [agL]
    by_cases hk : k < n
    · rw [List.getElem?_append_left (by rw [agL_len]; exact hk), ih hk]
    · obtain rfl : k = n := by omega
      rw [List.getElem?_append_right (by rw [agL_len]; omega), agL_len, Nat.sub_self]
      rfl
theorem mv_dn (k : Nat) (e : En) : (En.dn' k e).mv = En.dn' (k + 1) e := by
  have h : mvF (max (e.frm - k) (-1)) = max (e.frm - ((k + 1 : Nat) : Int)) (-1) := by
    unfold mvF
    split <;> omega
  unfold En.dn' En.mv
  simp only [h]
theorem goL_0 (l : List Int) (n : Nat) : goL l n 0 = agL l n := by
  unfold goL
  rw [List.drop_zero]
  have : ∀ e ∈ agL l n, En.dn' 0 e = e := fun e he => by
    obtain ⟨k, hk, rfl⟩ := List.getElem_of_mem he
    rw [agL_len] at hk
    have h1 := agL_get l n k hk
    rw [List.getElem?_eq_getElem (by rw [agL_len]; exact hk), Option.some.injEq] at h1
    rw [h1]
    have hb := (agF_bd l k).1
    unfold En.dn' aE
    simp only [Int.natCast_zero, Int.sub_zero]
    congr 1
    omega
  rw [List.map_congr_left this, List.map_id']
theorem goL_cons (l : List Int) (n k : Nat) (h : k < n) : ∃ r, goL l n k = (aE l k).dn' k :: r ∧ r.map En.mv = goL l n (k + 1) ∧ ∀ x ∈ r, x.frm ≤ n := by
  have hd : (agL l n).drop k = aE l k :: (agL l n).drop (k + 1) := by
    have h1 := agL_get l n k h
    rw [List.getElem?_eq_getElem (by rw [agL_len]; exact h), Option.some.injEq] at h1
    rw [List.drop_eq_getElem_cons (by rw [agL_len]; exact h), h1]
  refine ⟨((agL l n).drop (k + 1)).map (En.dn' k), by unfold goL; rw [hd]; rfl, ?_, fun x hx => ?_⟩
  · unfold goL
    rw [List.map_map]
    exact List.map_congr_left fun e _ => mv_dn k e
  · obtain ⟨e, he, rfl⟩ := List.mem_map.1 hx
    have he := List.mem_of_mem_drop he
    obtain ⟨j, hj, rfl⟩ := List.getElem_of_mem he
    rw [agL_len] at hj
    have h1 := agL_get l n j hj
    rw [List.getElem?_eq_getElem (by rw [agL_len]; exact hj), Option.some.injEq] at h1
    rw [h1]
    have hb := (agF_bd l j).2
    show max (agF l j - k) (-1) ≤ (n : Int)
    omega
theorem goL_len (l : List Int) (n k : Nat) : (goL l n k).length = n - k := by unfold goL; rw [List.length_map, List.length_drop, agL_len]
theorem goL_get (l : List Int) (n g k : Nat) (h : g + k < n) : (goL l n g).getD k default = (aE l (g + k)).dn' g := by
  unfold goL
  rw [List.getD_eq_getElem?_getD, List.getElem?_map, List.getElem?_drop, agL_get l n _ h]
  rfl
def frS9e0 (fr : List Int) (n : Int) (g : Int) (Z : Prop) : Prop := (n = n) ∧ (List.length fr = List.length fr) ∧ (∀ (i : Nat), i < List.length fr → ∀ (j : Nat), j < (1 : Nat) → AV.int IntKind.i64 (List.getD fr i (0 : Int)) = AV.int IntKind.i64 (List.getD fr i (0 : Int))) ∧ (g = g) ∧ (false = false) ∧ Z
theorem frS9e0_mk (fr : List Int) (n : Int) (g : Int) {Z : Prop} (z : Z) : frS9e0 fr n g Z := ⟨rfl, rfl, (fun _ _ _ _ => rfl), rfl, rfl, z⟩
def frS9e1 (n : Int) (Z : Prop) : Prop := ((0 : Int) = (0 : Int)) ∧ (false = false) ∧ (false = false) ∧ (false = false) ∧ (n = n) ∧ Z
theorem frS9e1_mk (n : Int) {Z : Prop} (z : Z) : frS9e1 n Z := ⟨rfl, rfl, rfl, rfl, rfl, z⟩
theorem ag1_in (fr : List Int) (n g : Int) (k : Nat) (hk : (k : Int) < n) (hn : n < 100) (hl : k < fr.length) : Vc (vcC Try.prog false (ntOf Try.prog 3) (lpC Try.prog 3 0) (a1S fr n g k) [.bd true, .bd true, .cl [enR (agL fr k), .agg (enA (aE fr k)), .int .i64 n] (.tup [.own 0 0 8 0 ((agL fr k) ++ [(aE fr k)]).length, .bool true]) [enB ((agL fr k) ++ [(aE fr k)])]] .nrm [] (a1S fr n g (k + 1))) :=
  vc_of (q := (decide ((↑k : Int) < n) = true) ∧ (decide ((↑k : Int) < (↑(List.length fr) : Int)) = true) ∧ ((0 : Int) ≤ (↑k : Int) ∧ (↑k : Int) < (↑(List.length fr) : Int)) ∧ (inK IntKind.i64 ((↑k : Int) + (1 : Int))) ∧ ((↑k : Int) + (1 : Int) ≠ (0 : Int)) ∧ (inK IntKind.i64 (Int.tmod (Go.bits Go.BinOp.and IntKind.i64 (List.getD fr k (0 : Int)) (255 : Int)) ((↑k : Int) + (1 : Int)) - (1 : Int))) ∧ (inK IntKind.i64 ((100 : Int) + (↑k : Int))) ∧ (List.length (agL fr k) = List.length (agL fr k)) ∧ (∀ (i : Nat), i < List.length (agL fr k) → ∀ (j : Nat), j < (8 : Nat) → rowL enC (agL fr k) i j = rowL enC (agL fr k) i j) ∧ ((100 : Int) + (↑k : Int) = (100 : Int) + (↑k : Int)) ∧ ((0 : Int) = (0 : Int)) ∧ ((0 : Int) = (0 : Int)) ∧ (Int.tmod (Go.bits Go.BinOp.and IntKind.i64 (List.getD fr k (0 : Int)) (255 : Int)) ((↑k : Int) + (1 : Int)) - (1 : Int) = agF fr k) ∧ (frS9e1 n ((PureC Try.prog 7 [enR (agL fr k), .agg (enA (aE fr k)), .int .i64 n] (.tup [.own 0 0 8 0 ((agL fr k) ++ [(aE fr k)]).length, .bool true]) [enB ((agL fr k) ++ [(aE fr k)])]) ∧ (inK IntKind.i64 ((↑k : Int) + (1 : Int))) ∧ (frS9e0 fr n g ((List.length (agL fr k ++ [aE fr k]) = List.length (agL fr (k + (1 : Nat)))) ∧ (∀ (i : Nat), i < List.length (agL fr k ++ [aE fr k]) → ∀ (j : Nat), j < (8 : Nat) → rowL enC (agL fr k ++ [aE fr k]) (i + (0 : Nat)) j = rowL enC (agL fr (k + (1 : Nat))) i j) ∧ ((↑k : Int) + (1 : Int) = (↑(k + (1 : Nat)) : Int)) ∧ True))))) (by kernel_rfl)
    ⟨(decide_eq_true (by first | omega | (simp; omega) | (simp; done))),
 (decide_eq_true (by first | omega | (simp; omega) | (simp; done))),
 (by first | omega | rfl),
 (in64 (by omega) (by omega)),
 (by first | omega | rfl | (simp; done) | (simp; omega)),
 (by have h1 := and255 (fr.getD k 0); have h2 := tmod_bd (b := (k : Int) + 1) h1.1 (by omega); exact in64 (by omega) (by omega)),
 (in64 (by omega) (by omega)),
 rfl,
 (fun _ _ _ _ => rfl),
 rfl,
 rfl,
 rfl,
 (agF_in hl), (frS9e1_mk n ⟨pushC_y (agL fr k) (aE fr k) n (by rw [agL_len]; exact hk) (by rw [agL_len]; omega),
 (in64 (by omega) (by omega)), (frS9e0_mk fr n g ⟨rfl,
 (fun _ _ _ _ => rfl),
 (by first | omega | rfl), trivial⟩)⟩)⟩
theorem ag1_out (fr : List Int) (n g : Int) (k : Nat) (hk : (k : Int) < n) (hn : n < 100) (hl : ¬ k < fr.length) : Vc (vcC Try.prog false (ntOf Try.prog 3) (lpC Try.prog 3 0) (a1S fr n g k) [.bd true, .bd false, .cl [enR (agL fr k), .agg (enA (aE fr k)), .int .i64 n] (.tup [.own 0 0 8 0 ((agL fr k) ++ [(aE fr k)]).length, .bool true]) [enB ((agL fr k) ++ [(aE fr k)])]] .nrm [] (a1S fr n g (k + 1))) :=
  vc_of (q := (decide ((↑k : Int) < n) = true) ∧ (decide ((↑k : Int) < (↑(List.length fr) : Int)) = false) ∧ (inK IntKind.i64 ((100 : Int) + (↑k : Int))) ∧ (List.length (agL fr k) = List.length (agL fr k)) ∧ (∀ (i : Nat), i < List.length (agL fr k) → ∀ (j : Nat), j < (8 : Nat) → rowL enC (agL fr k) i j = rowL enC (agL fr k) i j) ∧ ((100 : Int) + (↑k : Int) = (100 : Int) + (↑k : Int)) ∧ ((0 : Int) = (0 : Int)) ∧ ((0 : Int) = (0 : Int)) ∧ ((-1 : Int) = agF fr k) ∧ (frS9e1 n ((PureC Try.prog 7 [enR (agL fr k), .agg (enA (aE fr k)), .int .i64 n] (.tup [.own 0 0 8 0 ((agL fr k) ++ [(aE fr k)]).length, .bool true]) [enB ((agL fr k) ++ [(aE fr k)])]) ∧ (inK IntKind.i64 ((↑k : Int) + (1 : Int))) ∧ (frS9e0 fr n g ((List.length (agL fr k ++ [aE fr k]) = List.length (agL fr (k + (1 : Nat)))) ∧ (∀ (i : Nat), i < List.length (agL fr k ++ [aE fr k]) → ∀ (j : Nat), j < (8 : Nat) → rowL enC (agL fr k ++ [aE fr k]) (i + (0 : Nat)) j = rowL enC (agL fr (k + (1 : Nat))) i j) ∧ ((↑k : Int) + (1 : Int) = (↑(k + (1 : Nat)) : Int)) ∧ True))))) (by kernel_rfl)
    ⟨(decide_eq_true (by first | omega | (simp; omega) | (simp; done))),
 (decide_eq_false (by first | omega | (simp; omega) | (simp; done))),
 (in64 (by omega) (by omega)),
 rfl,
 (fun _ _ _ _ => rfl),
 rfl,
 rfl,
 rfl,
 (agF_out hl), (frS9e1_mk n ⟨pushC_y (agL fr k) (aE fr k) n (by rw [agL_len]; exact hk) (by rw [agL_len]; omega),
 (in64 (by omega) (by omega)), (frS9e0_mk fr n g ⟨rfl,
 (fun _ _ _ _ => rfl),
 (by first | omega | rfl), trivial⟩)⟩)⟩
theorem ag1_end (fr : List Int) (n g : Int) (k : Nat) (hk : n = (k : Int)) : Vc (vcC Try.prog false (ntOf Try.prog 3) (lpC Try.prog 3 0) (a1S fr n g k) [.b false] (.ext 0) [] (a1S fr n g k)) :=
  vc_of (q := (decide ((↑k : Int) < n) = false) ∧ (n = n) ∧ (List.length fr = List.length fr) ∧ (∀ (i : Nat), i < List.length fr → ∀ (j : Nat), j < (1 : Nat) → AV.int IntKind.i64 (List.getD fr i (0 : Int)) = AV.int IntKind.i64 (List.getD fr i (0 : Int))) ∧ (g = g) ∧ (false = false) ∧ (List.length (agL fr k) = List.length (agL fr k)) ∧ (∀ (i : Nat), i < List.length (agL fr k) → ∀ (j : Nat), j < (8 : Nat) → rowL enC (agL fr k) i j = rowL enC (agL fr k) i j) ∧ ((↑k : Int) = (↑k : Int)) ∧ True) (by kernel_rfl)
    ⟨(decide_eq_false (by first | omega | (simp; omega) | (simp; done))),
 rfl,
 rfl,
 (fun _ _ _ _ => rfl),
 rfl,
 rfl,
 rfl,
 (fun _ _ _ _ => rfl),
 rfl, trivial⟩
theorem ag1_loop (fr : List Int) (n g : Int) (N : Nat) (hN : n = (N : Int)) (hn : n < 100) : Ok Try.prog (ntOf Try.prog 3) (.loop (lpC Try.prog 3 0)) (a1S fr n g 0).st (.ext 0) (a1S fr n g N).st :=
  Ok.loop (P := Try.prog) (nt := ntOf Try.prog 3) (c := lpC Try.prog 3 0) (F := fun k => a1S fr n g k) (m := N) (x := .ext 0) (J := a1S fr n g N) (fun k hk => by
    by_cases hl : k < fr.length
    · exact Ok.vc (ag1_in fr n g k (by omega) hn hl)
    · exact Ok.vc (ag1_out fr n g k (by omega) hn hl)) (Ok.vc (ag1_end fr n g N hN)) (by simp)
theorem ag2_step (W r : List En) (x : En) (n g : Int) (k : Nat) (hk : (k : Int) < g) (hg : g < 100) (hx : x.pc = 100 + (k : Int)) (hr : r.length < 1000) (h64 : ∀ y ∈ r, y.frm ≤ 9223372036854775807) : Vc (vcC Try.prog false (ntOf Try.prog 3) (lpC Try.prog 3 1) (a2S (x :: r) W n g k) [.bd true, .cl [enR (x :: r)] (.tup [.agg (enA x), .own 0 0 8 0 (r.map En.mv).length, .bool true]) [enB (r.map En.mv)], .bd false] .nrm [] (a2S (r.map En.mv) W n g (k + 1))) :=
  vc_of (q := (decide ((↑k : Int) < g) = true) ∧ (List.length (x :: r) = List.length (x :: r)) ∧ (∀ (i : Nat), i < List.length (x :: r) → ∀ (j : Nat), j < (8 : Nat) → rowL enC (x :: r) i j = rowL enC (x :: r) i j) ∧ (PureC Try.prog 8 [enR (x :: r)] (.tup [.agg (enA x), .own 0 0 8 0 (r.map En.mv).length, .bool true]) [enB (r.map En.mv)]) ∧ (inK IntKind.i64 ((100 : Int) + (↑k : Int))) ∧ ((En.pc x != (100 : Int) + (↑k : Int)) = false) ∧ (inK IntKind.i64 ((↑k : Int) + (1 : Int))) ∧ (n = n) ∧ (g = g) ∧ (false = false) ∧ (List.length (List.map En.mv r) = List.length (List.map En.mv r)) ∧ (∀ (i : Nat), i < List.length (List.map En.mv r) → ∀ (j : Nat), j < (8 : Nat) → rowL enC (List.map En.mv r) (i + (0 : Nat)) j = rowL enC (List.map En.mv r) i j) ∧ (List.length W = List.length W) ∧ (∀ (i : Nat), i < List.length W → ∀ (j : Nat), j < (8 : Nat) → rowL enC W i j = rowL enC W i j) ∧ ((↑k : Int) + (1 : Int) = (↑(k + (1 : Nat)) : Int)) ∧ True) (by kernel_rfl)
    ⟨(decide_eq_true (by first | omega | (simp; omega) | (simp; done))),
 rfl,
 (fun _ _ _ _ => rfl),
 popC x r (by omega) h64,
 (in64 (by omega) (by omega)),
 (bne_f (by rw [hx])),
 (in64 (by omega) (by omega)),
 rfl,
 rfl,
 rfl,
 rfl,
 (fun _ _ _ _ => rfl),
 rfl,
 (fun _ _ _ _ => rfl),
 (by first | omega | rfl), trivial⟩
theorem ag2_end (L W : List En) (n g : Int) (k : Nat) (hk : g = (k : Int)) : Vc (vcC Try.prog false (ntOf Try.prog 3) (lpC Try.prog 3 1) (a2S L W n g k) [.b false] (.ext 2) [] (a2S L W n g k)) :=
  vc_of (q := (decide ((↑k : Int) < g) = false) ∧ (n = n) ∧ (g = g) ∧ (false = false) ∧ (List.length L = List.length L) ∧ (∀ (i : Nat), i < List.length L → ∀ (j : Nat), j < (8 : Nat) → rowL enC L i j = rowL enC L i j) ∧ (List.length W = List.length W) ∧ (∀ (i : Nat), i < List.length W → ∀ (j : Nat), j < (8 : Nat) → rowL enC W i j = rowL enC W i j) ∧ ((↑k : Int) = (↑k : Int)) ∧ True) (by kernel_rfl)
    ⟨(decide_eq_false (by first | omega | (simp; omega) | (simp; done))),
 rfl,
 rfl,
 rfl,
 rfl,
 (fun _ _ _ _ => rfl),
 rfl,
 (fun _ _ _ _ => rfl),
 rfl, trivial⟩
theorem agL_d (l : List Int) (n k : Nat) (h : k < n) : (agL l n).getD k default = aE l k := by rw [List.getD_eq_getElem?_getD, agL_get l n k h]; rfl
theorem mx1 (a : Int) : (if a < -1 then -1 else a) = max a (-1) := by split <;> omega
theorem ag3_step (fr : List Int) (n g k : Nat) (hk : g + k < n) (hn : n < 100) : Vc (vcC Try.prog false (ntOf Try.prog 3) (lpC Try.prog 3 2) (a3S fr n g k) [.bd true, .bd false, .bd false] .nrm [] (a3S fr n g (k + 1))) :=
  vc_of (q := (decide ((↑k : Int) < (↑(n - g) : Int)) = true) ∧ ((0 : Int) ≤ (↑k : Int) ∧ (↑k : Int) < (↑(List.length (goL fr n g)) : Int)) ∧ (inK IntKind.i64 ((100 : Int) + (↑g : Int))) ∧ (inK IntKind.i64 ((100 : Int) + (↑g : Int) + (↑k : Int))) ∧ ((En.pc (List.getD (goL fr n g) k Inhabited.default) != (100 : Int) + (↑g : Int) + (↑k : Int)) = false) ∧ ((0 : Int) ≤ (↑k : Int) ∧ (↑k : Int) < (↑(List.length (goL fr n g)) : Int)) ∧ (inK IntKind.i64 ((↑g : Int) + (↑k : Int))) ∧ ((0 : Int) ≤ (↑g : Int) + (↑k : Int) ∧ (↑g : Int) + (↑k : Int) < (↑(List.length (agL fr n)) : Int)) ∧ (inK IntKind.i64 (En.frm (List.getD (agL fr n) (g + k) Inhabited.default) - (↑g : Int))) ∧ ((En.frm (List.getD (goL fr n g) k Inhabited.default) != if En.frm (List.getD (agL fr n) (g + k) Inhabited.default) - (↑g : Int) < (-1 : Int) then (-1 : Int) else En.frm (List.getD (agL fr n) (g + k) Inhabited.default) - (↑g : Int)) = false) ∧ (inK IntKind.i64 ((↑k : Int) + (1 : Int))) ∧ ((↑n : Int) = (↑n : Int)) ∧ ((↑g : Int) = (↑g : Int)) ∧ (false = false) ∧ (List.length (goL fr n g) = List.length (goL fr n g)) ∧ (∀ (i : Nat), i < List.length (goL fr n g) → ∀ (j : Nat), j < (8 : Nat) → rowL enC (goL fr n g) i j = rowL enC (goL fr n g) i j) ∧ (List.length (agL fr n) = List.length (agL fr n)) ∧ (∀ (i : Nat), i < List.length (agL fr n) → ∀ (j : Nat), j < (8 : Nat) → rowL enC (agL fr n) i j = rowL enC (agL fr n) i j) ∧ ((↑(n - g) : Int) = (↑(n - g) : Int)) ∧ ((↑k : Int) + (1 : Int) = (↑(k + (1 : Nat)) : Int)) ∧ True) (by kernel_rfl)
    ⟨(decide_eq_true (by first | omega | (simp; omega) | (simp; done))),
 (by rw [goL_len]; omega),
 (in64 (by omega) (by omega)),
 (in64 (by omega) (by omega)),
 (bne_f (by rw [goL_get fr n g k hk]; show (100 : Int) + ((g + k : Nat) : Int) = _; omega)),
 (by rw [goL_len]; omega),
 (in64 (by omega) (by omega)),
 (by rw [agL_len]; omega),
 (by rw [agL_d fr n (g + k) hk]; have := agF_bd fr (g + k); exact in64 (by show _ ≤ agF fr (g + k) - _; omega) (by show agF fr (g + k) - _ ≤ _; omega)),
 (bne_f (by rw [goL_get fr n g k hk, agL_d fr n (g + k) hk, mx1]; rfl)),
 (in64 (by omega) (by omega)),
 rfl,
 rfl,
 rfl,
 rfl,
 (fun _ _ _ _ => rfl),
 rfl,
 (fun _ _ _ _ => rfl),
 rfl,
 (by first | omega | rfl), trivial⟩
theorem ag3_end (fr : List Int) (n g k : Nat) (hk : k = n - g) : Vc (vcC Try.prog false (ntOf Try.prog 3) (lpC Try.prog 3 2) (a3S fr n g k) [.b false] (.ext 4) [] (a3S fr n g k)) :=
  vc_of (q := (decide ((↑k : Int) < (↑(n - g) : Int)) = false) ∧ ((↑n : Int) = (↑n : Int)) ∧ ((↑g : Int) = (↑g : Int)) ∧ (false = false) ∧ (List.length (goL fr n g) = List.length (goL fr n g)) ∧ (∀ (i : Nat), i < List.length (goL fr n g) → ∀ (j : Nat), j < (8 : Nat) → rowL enC (goL fr n g) i j = rowL enC (goL fr n g) i j) ∧ (List.length (agL fr n) = List.length (agL fr n)) ∧ (∀ (i : Nat), i < List.length (agL fr n) → ∀ (j : Nat), j < (8 : Nat) → rowL enC (agL fr n) i j = rowL enC (agL fr n) i j) ∧ ((↑(n - g) : Int) = (↑(n - g) : Int)) ∧ ((↑k : Int) = (↑k : Int)) ∧ True) (by kernel_rfl)
    ⟨(decide_eq_false (by first | omega | (simp; omega) | (simp; done))),
 rfl,
 rfl,
 rfl,
 rfl,
 (fun _ _ _ _ => rfl),
 rfl,
 (fun _ _ _ _ => rfl),
 rfl,
 rfl, trivial⟩
theorem ag2_loop (fr : List Int) (N G : Nat) (n g : Int) (hg : g = (G : Int)) (hG : G ≤ N) (hN : N < 100) : Ok Try.prog (ntOf Try.prog 3) (.loop (lpC Try.prog 3 1)) (a2S (goL fr N 0) (agL fr N) n g 0).st (.ext 2) (a2S (goL fr N G) (agL fr N) n g G).st :=
  Ok.loop (P := Try.prog) (nt := ntOf Try.prog 3) (c := lpC Try.prog 3 1) (F := fun k => a2S (goL fr N k) (agL fr N) n g k) (m := G) (x := .ext 2) (J := a2S (goL fr N G) (agL fr N) n g G) (fun k hk => by
    obtain ⟨r, e1, e2, e3⟩ := goL_cons fr N k (by omega)
    have hl := goL_len fr N k
    rw [e1, List.length_cons] at hl
    show Ok _ _ _ (a2S (goL fr N k) (agL fr N) n g k).st _ (a2S (goL fr N (k + 1)) (agL fr N) n g (k + 1)).st
    rw [e1, ← e2]
    exact Ok.vc (ag2_step (agL fr N) r _ n g k (by omega) (by omega) rfl (by omega) (fun y hy => by have := e3 y hy; omega))) (Ok.vc (ag2_end _ _ n g G hg)) (by simp)
theorem ag3_loop (fr : List Int) (N G : Nat) (hG : G ≤ N) (hN : N < 100) : Ok Try.prog (ntOf Try.prog 3) (.loop (lpC Try.prog 3 2)) (a3S fr N G 0).st (.ext 4) (a3S fr N G (N - G)).st :=
  Ok.loop (P := Try.prog) (nt := ntOf Try.prog 3) (c := lpC Try.prog 3 2) (F := fun k => a3S fr N G k) (m := N - G) (x := .ext 4) (J := a3S fr N G (N - G)) (fun k hk => Ok.vc (ag3_step fr N G k (by omega) hN)) (Ok.vc (ag3_end fr N G _ rfl)) (by simp)
theorem ages_vc (n0 g0 : Int) (fr : List Int) (N G : Nat) (h1 : bits .and .i64 n0 15 + 1 = N) (h2 : (bits .and .i64 g0 255).tmod ((N : Int) + 1) = G) (hN : N < 20) (hG : G ≤ N) : Vc (vcFn Try.prog false 3 [.int .i64 n0, lR fr, .int .i64 g0] [.lp [] (a1S fr N G 0) (.ext 0) (a1S fr N G N), .lp [] (a2S (goL fr N 0) (agL fr N) N G 0) (.ext 2) (a2S (goL fr N G) (agL fr N) N G G), .bd false, .lp [] (a3S fr N G 0) (.ext 4) (a3S fr N G (N - G)), .cl [] (.bool true) []] [] (.bool true) []) :=
  vc_of (q := (inK IntKind.i64 (Go.bits Go.BinOp.and IntKind.i64 n0 (15 : Int) + (1 : Int))) ∧ (inK IntKind.i64 (Go.bits Go.BinOp.and IntKind.i64 n0 (15 : Int) + (1 : Int) + (1 : Int))) ∧ (Go.bits Go.BinOp.and IntKind.i64 n0 (15 : Int) + (1 : Int) + (1 : Int) ≠ (0 : Int)) ∧ (Go.bits Go.BinOp.and IntKind.i64 n0 (15 : Int) + (1 : Int) = (↑N : Int)) ∧ (List.length fr = List.length fr) ∧ (∀ (i : Nat), i < List.length fr → ∀ (j : Nat), j < (1 : Nat) → AV.int IntKind.i64 (List.getD fr i (0 : Int)) = AV.int IntKind.i64 (List.getD fr i (0 : Int))) ∧ (Int.tmod (Go.bits Go.BinOp.and IntKind.i64 g0 (255 : Int)) (Go.bits Go.BinOp.and IntKind.i64 n0 (15 : Int) + (1 : Int) + (1 : Int)) = (↑G : Int)) ∧ (false = false) ∧ ((0 : Nat) = (0 : Nat)) ∧ ((0 : Int) = (↑(0 : Nat) : Int)) ∧ (Ok Try.prog (ntOf Try.prog 3) (.loop (lpC Try.prog 3 0)) (a1S fr N G 0).st (.ext 0) (a1S fr N G N).st) ∧ ((0 : Nat) = (0 : Nat) ∧ (0 : Nat) = (0 : Nat) ∧ ((0 : Nat) + List.length (agL fr N)) * (48 : Nat) ≤ (140737488355328 : Nat) ∧ (0 : Nat) + List.length (agL fr N) ≤ (140737488355328 : Nat)) ∧ ((↑N : Int) = (↑N : Int)) ∧ ((↑G : Int) = (↑G : Int)) ∧ (false = false) ∧ (List.length (agL fr N) = List.length (goL fr N (0 : Nat))) ∧ (∀ (i : Nat), i < List.length (agL fr N) → ∀ (j : Nat), j < (8 : Nat) → rowL enC (agL fr N) i j = rowL enC (goL fr N (0 : Nat)) i j) ∧ ((0 : Nat) + List.length (agL fr N) = List.length (agL fr N)) ∧ (∀ (i : Nat), i < (0 : Nat) + List.length (agL fr N) → ∀ (j : Nat), j < (8 : Nat) → (bif Nat.blt (i + (0 : Nat)) (0 : Nat) then AV.junk else rowL enC (agL fr N) (i + (0 : Nat) - (0 : Nat)) j) = rowL enC (agL fr N) i j) ∧ ((0 : Int) = (↑(0 : Nat) : Int)) ∧ (Ok Try.prog (ntOf Try.prog 3) (.loop (lpC Try.prog 3 1)) (a2S (goL fr N 0) (agL fr N) N G 0).st (.ext 2) (a2S (goL fr N G) (agL fr N) N G G).st) ∧ (inK IntKind.i64 ((↑N : Int) - (↑G : Int))) ∧ (((↑(List.length (goL fr N G)) : Int) != (↑N : Int) - (↑G : Int)) = false) ∧ ((↑N : Int) = (↑N : Int)) ∧ ((↑G : Int) = (↑G : Int)) ∧ (false = false) ∧ (List.length (goL fr N G) = List.length (goL fr N G)) ∧ (∀ (i : Nat), i < List.length (goL fr N G) → ∀ (j : Nat), j < (8 : Nat) → rowL enC (goL fr N G) i j = rowL enC (goL fr N G) i j) ∧ (List.length (agL fr N) = List.length (agL fr N)) ∧ (∀ (i : Nat), i < List.length (agL fr N) → ∀ (j : Nat), j < (8 : Nat) → rowL enC (agL fr N) i j = rowL enC (agL fr N) i j) ∧ ((↑(List.length (goL fr N G)) : Int) = (↑(N - G) : Int)) ∧ ((0 : Int) = (↑(0 : Nat) : Int)) ∧ (Ok Try.prog (ntOf Try.prog 3) (.loop (lpC Try.prog 3 2)) (a3S fr N G 0).st (.ext 4) (a3S fr N G (N - G)).st) ∧ (PureC Try.prog 9 [] (.bool true) []) ∧ (true = true) ∧ True) (by kernel_rfl)
    ⟨(in64 (by omega) (by omega)),
 (in64 (by omega) (by omega)),
 (by first | omega | rfl | (simp; done) | (simp; omega)),
 (by first | omega | rfl),
 rfl,
 (fun _ _ _ _ => rfl),
 (by rw [h1]; exact h2),
 rfl,
 rfl,
 (by first | omega | rfl),
 ag1_loop fr N G N rfl (by omega),
 (by rw [agL_len]; omega),
 rfl,
 rfl,
 rfl,
 (by rw [goL_0]),
 (by rw [goL_0]; exact fun _ _ _ _ => rfl),
 (Nat.zero_add _),
 (fun _ _ _ _ => rfl),
 (by first | omega | rfl),
 ag2_loop fr N G N G rfl hG (by omega),
 (in64 (by omega) (by omega)),
 (bne_f (by rw [goL_len]; omega)),
 rfl,
 rfl,
 rfl,
 rfl,
 (fun _ _ _ _ => rfl),
 rfl,
 (fun _ _ _ _ => rfl),
 (by rw [goL_len]),
 (by first | omega | rfl),
 ag3_loop fr N G hG (by omega),
 awakeC9,
 rfl, trivial⟩
theorem robqAgesC (n0 g0 : Int) (fr : List Int) : PureC Try.prog 3 [.int .i64 n0, lR fr, .int .i64 g0] (.bool true) [] := by
  have hn := and15 n0
  have hg := and255 g0
  obtain ⟨N, eN⟩ : ∃ N : Nat, bits .and .i64 n0 15 + 1 = N := ⟨(bits .and .i64 n0 15 + 1).toNat, by omega⟩
  have hb := tmod_bd (b := (N : Int) + 1) hg.1 (by omega)
  obtain ⟨G, eG⟩ : ∃ G : Nat, (bits .and .i64 g0 255).tmod ((N : Int) + 1) = G := ⟨_, (Int.toNat_of_nonneg hb.1).symm⟩
  exact PureC.vc (ages_vc n0 g0 fr N G eN eG (by omega) (by omega))
theorem walk_RobqAges (a0 : Int) (A1 : Option Addr) (c1 : Nat) (z1 : List Int) (a2 : Int) (W : World) (hc1 : z1.length ≤ c1) (hm1 : c1 ≤ maxLen) (hr1 : Rd W W.heap.size A1 (z1.map (Value.int .i64))) : Calls Try.prog 3 #[.int .i64 a0, .slice A1 z1.length c1, .int .i64 a2] W (RetB (.bool true) W) :=
  (robqAgesC a0 a2 z1).lawB (R := fun g => g < W.heap.size) (fun _ h => h) rfl (fun j x v hx hv => match j, hx, hv with
    | 0, rfl, rfl => .int _ _
    | 1, rfl, rfl => .ofRd hr1 hc1 hm1
    | 2, rfl, rfl => .int _ _)
end
end Go.Proofs.Ytffghllcgoibdaa.Px
namespace Go.Proofs.Ytffghllcgoibdaa.Px
section
open Go.RowKit Go.Proofs.Ytffghllcgoibdaa.Rx
def pS (l : List En) (e : En) (most i : Int) (q : Nat) : Sm := ⟨[(0, enR l), (2, .int .i64 most), (3, .int .i64 i), (5, .rptr 8 (enC e) 0), (8, .bool false), (9, .int .i64 q)], [], 0⟩
def pbS (l : List En) (e : En) (most : Int) (I q k : Nat) : Sm := ⟨[(0, enR l), (2, .int .i64 most), (3, .int .i64 I), (5, .rptr 8 (enC e) 0), (8, .bool false), (9, .int .i64 q), (10, enR l), (17, enR (l.set I e)), (153, .int .i64 l.length), (154, .int .i64 k)], [], 0⟩
theorem set_ne {l : List En} {e : En} {I k : Nat} (h : ¬ k = I) : (l.set I e).getD k default = l.getD k default := by
  simp [List.getD, List.getElem?_set, show ¬ I = k from fun e => h e.symm]
theorem set_eq {l : List En} {e : En} {k : Nat} (h : k < l.length) : (l.set k e).getD k default = e := by simp [List.getD, h]
def frS9f0 (l : List En) (e : En) (I : Nat) (q : Nat) (Z : Prop) : Prop := (En.dn e = En.dn e) ∧ (En.kn e = En.kn e) ∧ (En.ft e = En.ft e) ∧ (false = false) ∧ ((↑q : Int) = (↑q : Int)) ∧ (List.length l = List.length l) ∧ (∀ (i : Nat), i < List.length l → ∀ (j : Nat), j < (8 : Nat) → rowL enC l i j = rowL enC l i j) ∧ (List.length (List.set l I e) = List.length (List.set l I e)) ∧ Z
theorem frS9f0_mk (l : List En) (e : En) (I : Nat) (q : Nat) {Z : Prop} (z : Z) : frS9f0 l e I q Z := ⟨rfl, rfl, rfl, rfl, rfl, rfl, (fun _ _ _ _ => rfl), rfl, z⟩
def frS9f1 (l : List En) (e : En) (most : Int) (I : Nat) (Z : Prop) : Prop := (List.length l = List.length l) ∧ (∀ (i : Nat), i < List.length l → ∀ (j : Nat), j < (8 : Nat) → rowL enC l i j = rowL enC l i j) ∧ (most = most) ∧ ((↑I : Int) = (↑I : Int)) ∧ (En.pc e = En.pc e) ∧ (En.val e = En.val e) ∧ (En.adr e = En.adr e) ∧ (En.frm e = En.frm e) ∧ (En.nxt e = En.nxt e) ∧ Z
theorem frS9f1_mk (l : List En) (e : En) (most : Int) (I : Nat) {Z : Prop} (z : Z) : frS9f1 l e most I Z := ⟨rfl, (fun _ _ _ _ => rfl), rfl, rfl, rfl, rfl, rfl, rfl, rfl, z⟩
theorem pb_ne (l : List En) (e : En) (most : Int) (I q k : Nat) (hk : k < l.length) (hb : l.length < 1000000) (hn : ¬ k = I) : Vc (vcC Try.prog false (ntOf Try.prog 6) (lpC Try.prog 6 1) (pbS l e most I q k) [.bd true, .bd true, .bd false, .bd false] .nrm [] (pbS l e most I q (k + 1))) :=
  vc_of (q := (decide ((↑k : Int) < (↑(List.length l) : Int)) = true) ∧ (((↑k : Int) != (↑I : Int)) = true) ∧ ((0 : Int) ≤ (↑k : Int) ∧ (↑k : Int) < (↑(List.length (List.set l I e)) : Int)) ∧ ((0 : Int) ≤ (↑k : Int) ∧ (↑k : Int) < (↑(List.length l) : Int)) ∧ ((!bif En.pc (List.getD (List.set l I e) k Inhabited.default) == En.pc (List.getD l k Inhabited.default) then bif En.val (List.getD (List.set l I e) k Inhabited.default) == En.val (List.getD l k Inhabited.default) then bif En.adr (List.getD (List.set l I e) k Inhabited.default) == En.adr (List.getD l k Inhabited.default) then bif En.frm (List.getD (List.set l I e) k Inhabited.default) == En.frm (List.getD l k Inhabited.default) then bif En.nxt (List.getD (List.set l I e) k Inhabited.default) == En.nxt (List.getD l k Inhabited.default) then bif En.dn (List.getD (List.set l I e) k Inhabited.default) == En.dn (List.getD l k Inhabited.default) then bif En.kn (List.getD (List.set l I e) k Inhabited.default) == En.kn (List.getD l k Inhabited.default) then bif En.ft (List.getD (List.set l I e) k Inhabited.default) == En.ft (List.getD l k Inhabited.default) then true else false else false else false else false else false else false else false else false) = false) ∧ (((↑k : Int) == (↑I : Int)) = false) ∧ (inK IntKind.i64 ((↑k : Int) + (1 : Int))) ∧ (frS9f1 l e most I ((frS9f0 l e I q ((∀ (i : Nat), i < List.length (List.set l I e) → ∀ (j : Nat), j < (8 : Nat) → rowL enC (List.set l I e) i j = rowL enC (List.set l I e) i j) ∧ ((↑(List.length l) : Int) = (↑(List.length l) : Int)) ∧ ((↑k : Int) + (1 : Int) = (↑(k + (1 : Nat)) : Int)) ∧ True))))) (by kernel_rfl)
    ⟨(decide_eq_true (by first | omega | (simp; omega) | (simp; done))),
 (bne_iff_ne.2 (by omega)),
 (by rw [List.length_set]; omega),
 (by first | omega | rfl),
 (by rw [set_ne hn]; simp),
 (beq_eq_false_iff_ne.2 (by omega)),
 (in64 (by omega) (by omega)), (frS9f1_mk l e most I (frS9f0_mk l e I q ⟨(fun _ _ _ _ => rfl),
 rfl,
 (by first | omega | rfl), trivial⟩))⟩
def frS9f2 (e : En) (Z : Prop) : Prop := (En.pc e = En.pc e) ∧ (En.val e = En.val e) ∧ (En.adr e = En.adr e) ∧ (En.frm e = En.frm e) ∧ (En.nxt e = En.nxt e) ∧ (En.dn e = En.dn e) ∧ (En.kn e = En.kn e) ∧ (En.ft e = En.ft e) ∧ (false = false) ∧ Z
theorem frS9f2_mk (e : En) {Z : Prop} (z : Z) : frS9f2 e Z := ⟨rfl, rfl, rfl, rfl, rfl, rfl, rfl, rfl, rfl, z⟩
theorem pb_eq (l : List En) (e : En) (most : Int) (q k : Nat) (hk : k < l.length) (hb : l.length < 1000000) : Vc (vcC Try.prog false (ntOf Try.prog 6) (lpC Try.prog 6 1) (pbS l e most k q k) [.bd true, .bd false, .bd true, .bd false] .nrm [] (pbS l e most k q (k + 1))) :=
  vc_of (q := (decide ((↑k : Int) < (↑(List.length l) : Int)) = true) ∧ (((↑k : Int) != (↑k : Int)) = false) ∧ (((↑k : Int) == (↑k : Int)) = true) ∧ ((0 : Int) ≤ (↑k : Int) ∧ (↑k : Int) < (↑(List.length (List.set l k e)) : Int)) ∧ ((!bif En.pc (List.getD (List.set l k e) k Inhabited.default) == En.pc e then bif En.val (List.getD (List.set l k e) k Inhabited.default) == En.val e then bif En.adr (List.getD (List.set l k e) k Inhabited.default) == En.adr e then bif En.frm (List.getD (List.set l k e) k Inhabited.default) == En.frm e then bif En.nxt (List.getD (List.set l k e) k Inhabited.default) == En.nxt e then bif En.dn (List.getD (List.set l k e) k Inhabited.default) == En.dn e then bif En.kn (List.getD (List.set l k e) k Inhabited.default) == En.kn e then bif En.ft (List.getD (List.set l k e) k Inhabited.default) == En.ft e then true else false else false else false else false else false else false else false else false) = false) ∧ (inK IntKind.i64 ((↑k : Int) + (1 : Int))) ∧ (List.length l = List.length l) ∧ (∀ (i : Nat), i < List.length l → ∀ (j : Nat), j < (8 : Nat) → rowL enC l i j = rowL enC l i j) ∧ (most = most) ∧ ((↑k : Int) = (↑k : Int)) ∧ (frS9f2 e (((↑q : Int) = (↑q : Int)) ∧ (List.length l = List.length l) ∧ (∀ (i : Nat), i < List.length l → ∀ (j : Nat), j < (8 : Nat) → rowL enC l i j = rowL enC l i j) ∧ (List.length (List.set l k e) = List.length (List.set l k e)) ∧ (∀ (i : Nat), i < List.length (List.set l k e) → ∀ (j : Nat), j < (8 : Nat) → rowL enC (List.set l k e) i j = rowL enC (List.set l k e) i j) ∧ ((↑(List.length l) : Int) = (↑(List.length l) : Int)) ∧ ((↑k : Int) + (1 : Int) = (↑(k + (1 : Nat)) : Int)) ∧ True))) (by kernel_rfl)
    ⟨(decide_eq_true (by first | omega | (simp; omega) | (simp; done))),
 (bne_f rfl),
 (by simp),
 (by rw [List.length_set]; omega),
 (by rw [set_eq hk]; simp),
 (in64 (by omega) (by omega)),
 rfl,
 (fun _ _ _ _ => rfl),
 rfl,
 rfl, (frS9f2_mk e ⟨rfl,
 rfl,
 (fun _ _ _ _ => rfl),
 rfl,
 (fun _ _ _ _ => rfl),
 rfl,
 (by first | omega | rfl), trivial⟩)⟩
theorem pb_end (l : List En) (e : En) (most : Int) (I q : Nat) : Vc (vcC Try.prog false (ntOf Try.prog 6) (lpC Try.prog 6 1) (pbS l e most I q l.length) [.b false] (.ext 2) [] (pbS l e most I q l.length)) :=
  vc_of (q := (decide ((↑(List.length l) : Int) < (↑(List.length l) : Int)) = false) ∧ (frS9f1 l e most I ((frS9f0 l e I q ((∀ (i : Nat), i < List.length (List.set l I e) → ∀ (j : Nat), j < (8 : Nat) → rowL enC (List.set l I e) i j = rowL enC (List.set l I e) i j) ∧ ((↑(List.length l) : Int) = (↑(List.length l) : Int)) ∧ ((↑(List.length l) : Int) = (↑(List.length l) : Int)) ∧ True))))) (by kernel_rfl)
    ⟨(decide_eq_false (by first | omega | (simp; omega) | (simp; done))), (frS9f1_mk l e most I (frS9f0_mk l e I q ⟨(fun _ _ _ _ => rfl),
 rfl,
 rfl, trivial⟩))⟩
theorem pb_loop (l : List En) (e : En) (most : Int) (I q : Nat) (hb : l.length < 1000000) : Ok Try.prog (ntOf Try.prog 6) (.loop (lpC Try.prog 6 1)) (pbS l e most I q 0).st (.ext 2) (pbS l e most I q l.length).st :=
  Ok.loop (P := Try.prog) (nt := ntOf Try.prog 6) (c := lpC Try.prog 6 1) (F := fun k => pbS l e most I q k) (m := l.length) (x := .ext 2) (J := pbS l e most I q l.length) (fun k hk => by
    by_cases h : k = I
    · subst h; exact Ok.vc (pb_eq l e most q k hk hb)
    · exact Ok.vc (pb_ne l e most I q k hk hb h)) (Ok.vc (pb_end l e most I q)) (by simp)
theorem le_take {l : List En} {k i : Nat} (h : i < k) (j : Nat) : rowL enC l i j = rowL enC (l.take k) i j := rowL_take h
theorem ap_take {l : List En} {e : En} {i : Nat} (h : i < l.length) (j : Nat) : rowL enC (l ++ [e]) i j = rowL enC l i j := rowL_left h
theorem ap_get {l : List En} {e : En} : (l ++ [e]).getD (l.length + 0) default = e := by simp [List.getD]
def frS9f3 (e : En) (Z : Prop) : Prop := (En.dn e = En.dn e) ∧ (En.kn e = En.kn e) ∧ (En.ft e = En.ft e) ∧ (false = false) ∧ Z
theorem frS9f3_mk (e : En) {Z : Prop} (z : Z) : frS9f3 e Z := ⟨rfl, rfl, rfl, rfl, z⟩
def frS9f4 (l : List En) (e : En) (i : Int) (most : Int) (Z : Prop) : Prop := (List.length l = List.length l) ∧ (∀ (i : Nat), i < List.length l → ∀ (j : Nat), j < (8 : Nat) → rowL enC l i j = rowL enC l i j) ∧ (Go.bits Go.BinOp.and IntKind.i64 most (7 : Int) = Go.bits Go.BinOp.and IntKind.i64 most (7 : Int)) ∧ (Go.bits Go.BinOp.and IntKind.i64 i (7 : Int) - (1 : Int) = Go.bits Go.BinOp.and IntKind.i64 i (7 : Int) - (1 : Int)) ∧ (En.pc e = En.pc e) ∧ (En.val e = En.val e) ∧ (En.adr e = En.adr e) ∧ (En.frm e = En.frm e) ∧ (En.nxt e = En.nxt e) ∧ Z
theorem frS9f4_mk (l : List En) (e : En) (i : Int) (most : Int) {Z : Prop} (z : Z) : frS9f4 l e i most Z := ⟨rfl, (fun _ _ _ _ => rfl), rfl, rfl, rfl, rfl, rfl, rfl, rfl, z⟩
abbrev cS9f0 (l : List En) : Prop := ((0 : Nat) + List.length l = List.length l)
abbrev cS9f1 (l : List En) (e : En) (i : Int) : Prop := (PureC Try.prog 11 [enR l, .int .i64 i, .agg (enA e)] (.tup [.nils, .bool false]) [])
def frS9f5 (l : List En) (e : En) (i : Int) (Z : Prop) : Prop := (List.length l = List.length l) ∧ (∀ (i : Nat), i < List.length l → ∀ (j : Nat), j < (8 : Nat) → rowL enC l i j = rowL enC l i j) ∧ (i = i) ∧ (En.pc e = En.pc e) ∧ (En.val e = En.val e) ∧ (En.adr e = En.adr e) ∧ (En.frm e = En.frm e) ∧ (En.nxt e = En.nxt e) ∧ (En.dn e = En.dn e) ∧ Z
theorem frS9f5_mk (l : List En) (e : En) (i : Int) {Z : Prop} (z : Z) : frS9f5 l e i Z := ⟨rfl, (fun _ _ _ _ => rfl), rfl, rfl, rfl, rfl, rfl, rfl, rfl, z⟩
abbrev cS9f2 (l : List En) (i : Int) (k : Nat) : Prop := (PureC Try.prog 10 [enR l, .int .i64 i] (.own 0 0 8 0 (l.take k).length) [enB (l.take k)])
def frS9f6 (l : List En) (e : En) (Z : Prop) : Prop := (List.length l = List.length l) ∧ (∀ (i : Nat), i < List.length l → ∀ (j : Nat), j < (8 : Nat) → rowL enC l i j = rowL enC l i j) ∧ (En.pc e = En.pc e) ∧ (En.val e = En.val e) ∧ (En.adr e = En.adr e) ∧ (En.frm e = En.frm e) ∧ (En.nxt e = En.nxt e) ∧ (En.dn e = En.dn e) ∧ (En.kn e = En.kn e) ∧ Z
theorem frS9f6_mk (l : List En) (e : En) {Z : Prop} (z : Z) : frS9f6 l e Z := ⟨rfl, (fun _ _ _ _ => rfl), rfl, rfl, rfl, rfl, rfl, rfl, rfl, z⟩
theorem pl_ey_neg (l : List En) (e : En) (i : Int) (most : Int) (q k : Nat) (hq : q < 2) (hb : l.length < 1000000) (hp : (l.length : Int) < most) (hk : (k : Int) = min (max i 0) (l.length : Int)) (h7 : 0 ≤ bits .and .i64 i 7 ∧ bits .and .i64 i 7 < 8) (he : l.length = 0) (hpop : PureC Try.prog 8 [enR l] (.tup [.agg (enA En0), .nils, .bool false]) [])  (hi : ¬ (0 ≤ i ∧ i < l.length)) (hs : i < 0) : Vc (vcC Try.prog false (ntOf Try.prog 6) (lpC Try.prog 6 0) (pS l e most i q) [.bd true, .cl [enR l, .agg (enA e), .int .i64 most] (.tup [.own 0 0 8 0 (l ++ [e]).length, .bool true]) [enB (l ++ [e])], .cl [enR l] (.tup [.agg (enA En0), .nils, .bool false]) [], .cl [enR l, .int .i64 i] (.own 0 0 8 0 (l.take k).length) [enB (l.take k)], .cl [enR l, .int .i64 i, .agg (enA e)] (.tup [.nils, .bool false]) [], .bd true, .bd false, .bd false, .bd false, .cp [enR l, enR l] (.bool true), .bd false, .bd false, .cp [enR (l.take k), enR (l.take k)] (.bool true), .bd false, .bd false, .bd false, .cl [enR l, enR l] (.bool true) []] .nrm [] (pS l e (bits .and .i64 most 7) (bits .and .i64 i 7 - 1) (q + 1))) :=
  vc_of (q := (decide ((↑q : Int) < (2 : Int)) = true) ∧ ((0 : Nat) = (0 : Nat) ∧ (0 : Nat) = (0 : Nat) ∧ ((0 : Nat) + List.length l) * (48 : Nat) ≤ (140737488355328 : Nat) ∧ (0 : Nat) + List.length l ≤ (140737488355328 : Nat)) ∧ (frS9f6 l e ((En.ft e = En.ft e) ∧ (most = most) ∧ (PureC Try.prog 7 [enR l, .agg (enA e), .int .i64 most] (.tup [.own 0 0 8 0 (l ++ [e]).length, .bool true]) [enB (l ++ [e])]) ∧ (List.length l = List.length l) ∧ (∀ (i : Nat), i < List.length l → ∀ (j : Nat), j < (8 : Nat) → rowL enC l i j = rowL enC l i j) ∧ (PureC Try.prog 8 [enR l] (.tup [.agg (enA En0), .nils, .bool false]) []) ∧ (List.length l = List.length l) ∧ (∀ (i : Nat), i < List.length l → ∀ (j : Nat), j < (8 : Nat) → rowL enC l i j = rowL enC l i j) ∧ (i = i) ∧ cS9f2 l i k ∧ (frS9f5 l e i ((En.kn e = En.kn e) ∧ (En.ft e = En.ft e) ∧ cS9f1 l e i ∧ (decide ((↑(List.length l) : Int) < most) = true) ∧ ((!true == true) = false) ∧ (inK IntKind.i64 ((↑(List.length l) : Int) + (1 : Int))) ∧ (((↑(List.length (l ++ [e])) : Int) != (↑(List.length l) : Int) + (1 : Int)) = false) ∧ ((0 : Int) ≤ (↑(List.length l) : Int) ∧ (↑(List.length l) : Int) < (↑(List.length (l ++ [e])) : Int)) ∧ (List.length l + (0 : Nat) < List.length (l ++ [e])) ∧ ((!bif En.pc (List.getD (l ++ [e]) (List.length l + (0 : Nat)) Inhabited.default) == En.pc e then bif En.val (List.getD (l ++ [e]) (List.length l + (0 : Nat)) Inhabited.default) == En.val e then bif En.adr (List.getD (l ++ [e]) (List.length l + (0 : Nat)) Inhabited.default) == En.adr e then bif En.frm (List.getD (l ++ [e]) (List.length l + (0 : Nat)) Inhabited.default) == En.frm e then bif En.nxt (List.getD (l ++ [e]) (List.length l + (0 : Nat)) Inhabited.default) == En.nxt e then bif En.dn (List.getD (l ++ [e]) (List.length l + (0 : Nat)) Inhabited.default) == En.dn e then bif En.kn (List.getD (l ++ [e]) (List.length l + (0 : Nat)) Inhabited.default) == En.kn e then bif En.ft (List.getD (l ++ [e]) (List.length l + (0 : Nat)) Inhabited.default) == En.ft e then true else false else false else false else false else false else false else false else false) = false) ∧ ((0 : Int) ≤ (↑(List.length l) : Int) ∧ (↑(List.length l) : Int) ≤ (↑(List.length (l ++ [e])) : Int)) ∧ (List.length l = List.length l) ∧ (∀ (i : Nat), i < List.length l → ∀ (j : Nat), j < (8 : Nat) → rowL enC (l ++ [e]) (i + (0 : Nat)) j = rowL enC l i j) ∧ (List.length l = List.length l) ∧ (∀ (i : Nat), i < List.length l → ∀ (j : Nat), j < (8 : Nat) → rowL enC l i j = rowL enC l i j) ∧ (PureC Try.prog 12 [enR l, enR l] (.bool true) []) ∧ (decide ((↑(List.length l) : Int) > (0 : Int)) = false) ∧ ((!false == false) = false) ∧ (((0 : Int) ≤ if (↑(List.length l) : Int) < if i < (0 : Int) then (0 : Int) else i then (↑(List.length l) : Int) else if i < (0 : Int) then (0 : Int) else i) ∧ (if (↑(List.length l) : Int) < if i < (0 : Int) then (0 : Int) else i then (↑(List.length l) : Int) else if i < (0 : Int) then (0 : Int) else i) ≤ (↑(List.length l) : Int)) ∧ (List.length (List.take k l) = List.length (List.take k l)) ∧ (∀ (i : Nat), i < List.length (List.take k l) → ∀ (j : Nat), j < (8 : Nat) → rowL enC (List.take k l) (i + (0 : Nat)) j = rowL enC (List.take k l) i j) ∧ (Int.toNat (if (↑(List.length l) : Int) < if i < (0 : Int) then (0 : Int) else i then (↑(List.length l) : Int) else if i < (0 : Int) then (0 : Int) else i) = List.length (List.take k l)) ∧ (∀ (i_1 : Nat), i_1 < Int.toNat (if (↑(List.length l) : Int) < if i < (0 : Int) then (0 : Int) else i then (↑(List.length l) : Int) else if i < (0 : Int) then (0 : Int) else i) → ∀ (j : Nat), j < (8 : Nat) → rowL enC l i_1 j = rowL enC (List.take k l) i_1 j) ∧ (PureC Try.prog 12 [enR (l.take k), enR (l.take k)] (.bool true) []) ∧ (decide (i ≥ (0 : Int)) = false) ∧ ((!false == false) = false) ∧ (((0 : Int) != (0 : Int)) = false) ∧ (List.length l = List.length l) ∧ (∀ (i : Nat), i < List.length l → ∀ (j : Nat), j < (8 : Nat) → rowL enC l i j = rowL enC l i j) ∧ cS9f0 l ∧ (∀ (i : Nat), i < (0 : Nat) + List.length l → ∀ (j : Nat), j < (8 : Nat) → (bif Nat.blt (i + (0 : Nat)) (0 : Nat) then AV.junk else rowL enC l (i + (0 : Nat) - (0 : Nat)) j) = rowL enC l i j) ∧ (PureC Try.prog 12 [enR l, enR l] (.bool true) []) ∧ (inK IntKind.i64 (Go.bits Go.BinOp.and IntKind.i64 i (7 : Int) - (1 : Int))) ∧ (inK IntKind.i64 ((↑q : Int) + (1 : Int))) ∧ (frS9f4 l e i most ((frS9f3 e (((↑q : Int) + (1 : Int) = (↑(q + (1 : Nat)) : Int)) ∧ True))))))))) (by kernel_rfl)
    ⟨(decide_eq_true (by first | omega | (simp; omega) | (simp; done))),
 (by first | omega | rfl), (frS9f6_mk l e ⟨rfl,
 rfl,
 pushC_y l e most hp hb,
 rfl,
 (fun _ _ _ _ => rfl),
 hpop,
 rfl,
 (fun _ _ _ _ => rfl),
 rfl,
 cutC l i k hk hb, (frS9f5_mk l e i ⟨rfl,
 rfl,
 putC_n l e i hi,
 (decide_eq_true (by first | omega | (simp; omega) | (simp; done))),
 rfl,
 (in64 (by omega) (by omega)),
 (bne_f (by simp)),
 (by have : (l ++ [e]).length = l.length + 1 := List.length_append ..; omega),
 (by have : (l ++ [e]).length = l.length + 1 := List.length_append ..; omega),
 (by rw [ap_get]; simp),
 (by have : (l ++ [e]).length = l.length + 1 := List.length_append ..; omega),
 rfl,
 (fun i hi j hj => ap_take hi j),
 rfl,
 (fun _ _ _ _ => rfl),
 saC l (by omega),
 (decide_eq_false (by first | omega | (simp; omega) | (simp; done))),
 rfl,
 (by simp only [mx0, mnI]; omega),
 rfl,
 (fun _ _ _ _ => rfl),
 (by simp only [mx0, mnI, List.length_take]; omega),
 (fun i hi j hj => le_take (k := k) (by simp only [mx0, mnI] at hi; omega) j),
 saC (l.take k) (by rw [List.length_take]; omega),
 (decide_eq_false (by first | omega | (simp; omega) | (simp; done))),
 rfl,
 (by first | omega | rfl | (simp; done) | (simp; omega)),
 rfl,
 (fun _ _ _ _ => rfl),
 (Nat.zero_add _),
 (fun _ _ _ _ => rfl),
 saC l (by omega),
 (in64 (by omega) (by omega)),
 (in64 (by omega) (by omega)), (frS9f4_mk l e i most (frS9f3_mk e ⟨(by first | omega | rfl), trivial⟩))⟩)⟩)⟩
theorem pl_ey_out (l : List En) (e : En) (i : Int) (most : Int) (q k : Nat) (hq : q < 2) (hb : l.length < 1000000) (hp : (l.length : Int) < most) (hk : (k : Int) = min (max i 0) (l.length : Int)) (h7 : 0 ≤ bits .and .i64 i 7 ∧ bits .and .i64 i 7 < 8) (he : l.length = 0) (hpop : PureC Try.prog 8 [enR l] (.tup [.agg (enA En0), .nils, .bool false]) [])  (hi : ¬ (0 ≤ i ∧ i < l.length)) (hs : 0 ≤ i) : Vc (vcC Try.prog false (ntOf Try.prog 6) (lpC Try.prog 6 0) (pS l e most i q) [.bd true, .cl [enR l, .agg (enA e), .int .i64 most] (.tup [.own 0 0 8 0 (l ++ [e]).length, .bool true]) [enB (l ++ [e])], .cl [enR l] (.tup [.agg (enA En0), .nils, .bool false]) [], .cl [enR l, .int .i64 i] (.own 0 0 8 0 (l.take k).length) [enB (l.take k)], .cl [enR l, .int .i64 i, .agg (enA e)] (.tup [.nils, .bool false]) [], .bd true, .bd false, .bd false, .bd false, .cp [enR l, enR l] (.bool true), .bd false, .bd false, .cp [enR (l.take k), enR (l.take k)] (.bool true), .bd true, .bd false, .bd false, .bd false, .cl [enR l, enR l] (.bool true) []] .nrm [] (pS l e (bits .and .i64 most 7) (bits .and .i64 i 7 - 1) (q + 1))) :=
  vc_of (q := (decide ((↑q : Int) < (2 : Int)) = true) ∧ ((0 : Nat) = (0 : Nat) ∧ (0 : Nat) = (0 : Nat) ∧ ((0 : Nat) + List.length l) * (48 : Nat) ≤ (140737488355328 : Nat) ∧ (0 : Nat) + List.length l ≤ (140737488355328 : Nat)) ∧ (frS9f6 l e ((En.ft e = En.ft e) ∧ (most = most) ∧ (PureC Try.prog 7 [enR l, .agg (enA e), .int .i64 most] (.tup [.own 0 0 8 0 (l ++ [e]).length, .bool true]) [enB (l ++ [e])]) ∧ (List.length l = List.length l) ∧ (∀ (i : Nat), i < List.length l → ∀ (j : Nat), j < (8 : Nat) → rowL enC l i j = rowL enC l i j) ∧ (PureC Try.prog 8 [enR l] (.tup [.agg (enA En0), .nils, .bool false]) []) ∧ (List.length l = List.length l) ∧ (∀ (i : Nat), i < List.length l → ∀ (j : Nat), j < (8 : Nat) → rowL enC l i j = rowL enC l i j) ∧ (i = i) ∧ cS9f2 l i k ∧ (frS9f5 l e i ((En.kn e = En.kn e) ∧ (En.ft e = En.ft e) ∧ cS9f1 l e i ∧ (decide ((↑(List.length l) : Int) < most) = true) ∧ ((!true == true) = false) ∧ (inK IntKind.i64 ((↑(List.length l) : Int) + (1 : Int))) ∧ (((↑(List.length (l ++ [e])) : Int) != (↑(List.length l) : Int) + (1 : Int)) = false) ∧ ((0 : Int) ≤ (↑(List.length l) : Int) ∧ (↑(List.length l) : Int) < (↑(List.length (l ++ [e])) : Int)) ∧ (List.length l + (0 : Nat) < List.length (l ++ [e])) ∧ ((!bif En.pc (List.getD (l ++ [e]) (List.length l + (0 : Nat)) Inhabited.default) == En.pc e then bif En.val (List.getD (l ++ [e]) (List.length l + (0 : Nat)) Inhabited.default) == En.val e then bif En.adr (List.getD (l ++ [e]) (List.length l + (0 : Nat)) Inhabited.default) == En.adr e then bif En.frm (List.getD (l ++ [e]) (List.length l + (0 : Nat)) Inhabited.default) == En.frm e then bif En.nxt (List.getD (l ++ [e]) (List.length l + (0 : Nat)) Inhabited.default) == En.nxt e then bif En.dn (List.getD (l ++ [e]) (List.length l + (0 : Nat)) Inhabited.default) == En.dn e then bif En.kn (List.getD (l ++ [e]) (List.length l + (0 : Nat)) Inhabited.default) == En.kn e then bif En.ft (List.getD (l ++ [e]) (List.length l + (0 : Nat)) Inhabited.default) == En.ft e then true else false else false else false else false else false else false else false else false) = false) ∧ ((0 : Int) ≤ (↑(List.length l) : Int) ∧ (↑(List.length l) : Int) ≤ (↑(List.length (l ++ [e])) : Int)) ∧ (List.length l = List.length l) ∧ (∀ (i : Nat), i < List.length l → ∀ (j : Nat), j < (8 : Nat) → rowL enC (l ++ [e]) (i + (0 : Nat)) j = rowL enC l i j) ∧ (List.length l = List.length l) ∧ (∀ (i : Nat), i < List.length l → ∀ (j : Nat), j < (8 : Nat) → rowL enC l i j = rowL enC l i j) ∧ (PureC Try.prog 12 [enR l, enR l] (.bool true) []) ∧ (decide ((↑(List.length l) : Int) > (0 : Int)) = false) ∧ ((!false == false) = false) ∧ (((0 : Int) ≤ if (↑(List.length l) : Int) < if i < (0 : Int) then (0 : Int) else i then (↑(List.length l) : Int) else if i < (0 : Int) then (0 : Int) else i) ∧ (if (↑(List.length l) : Int) < if i < (0 : Int) then (0 : Int) else i then (↑(List.length l) : Int) else if i < (0 : Int) then (0 : Int) else i) ≤ (↑(List.length l) : Int)) ∧ (List.length (List.take k l) = List.length (List.take k l)) ∧ (∀ (i : Nat), i < List.length (List.take k l) → ∀ (j : Nat), j < (8 : Nat) → rowL enC (List.take k l) (i + (0 : Nat)) j = rowL enC (List.take k l) i j) ∧ (Int.toNat (if (↑(List.length l) : Int) < if i < (0 : Int) then (0 : Int) else i then (↑(List.length l) : Int) else if i < (0 : Int) then (0 : Int) else i) = List.length (List.take k l)) ∧ (∀ (i_1 : Nat), i_1 < Int.toNat (if (↑(List.length l) : Int) < if i < (0 : Int) then (0 : Int) else i then (↑(List.length l) : Int) else if i < (0 : Int) then (0 : Int) else i) → ∀ (j : Nat), j < (8 : Nat) → rowL enC l i_1 j = rowL enC (List.take k l) i_1 j) ∧ (PureC Try.prog 12 [enR (l.take k), enR (l.take k)] (.bool true) []) ∧ (decide (i ≥ (0 : Int)) = true) ∧ (decide (i < (↑(List.length l) : Int)) = false) ∧ ((!false == bif true then false else false) = false) ∧ (((0 : Int) != (0 : Int)) = false) ∧ (List.length l = List.length l) ∧ (∀ (i : Nat), i < List.length l → ∀ (j : Nat), j < (8 : Nat) → rowL enC l i j = rowL enC l i j) ∧ cS9f0 l ∧ (∀ (i : Nat), i < (0 : Nat) + List.length l → ∀ (j : Nat), j < (8 : Nat) → (bif Nat.blt (i + (0 : Nat)) (0 : Nat) then AV.junk else rowL enC l (i + (0 : Nat) - (0 : Nat)) j) = rowL enC l i j) ∧ (PureC Try.prog 12 [enR l, enR l] (.bool true) []) ∧ (inK IntKind.i64 (Go.bits Go.BinOp.and IntKind.i64 i (7 : Int) - (1 : Int))) ∧ (inK IntKind.i64 ((↑q : Int) + (1 : Int))) ∧ (frS9f4 l e i most ((frS9f3 e (((↑q : Int) + (1 : Int) = (↑(q + (1 : Nat)) : Int)) ∧ True))))))))) (by kernel_rfl)
    ⟨(decide_eq_true (by first | omega | (simp; omega) | (simp; done))),
 (by first | omega | rfl), (frS9f6_mk l e ⟨rfl,
 rfl,
 pushC_y l e most hp hb,
 rfl,
 (fun _ _ _ _ => rfl),
 hpop,
 rfl,
 (fun _ _ _ _ => rfl),
 rfl,
 cutC l i k hk hb, (frS9f5_mk l e i ⟨rfl,
 rfl,
 putC_n l e i hi,
 (decide_eq_true (by first | omega | (simp; omega) | (simp; done))),
 rfl,
 (in64 (by omega) (by omega)),
 (bne_f (by simp)),
 (by have : (l ++ [e]).length = l.length + 1 := List.length_append ..; omega),
 (by have : (l ++ [e]).length = l.length + 1 := List.length_append ..; omega),
 (by rw [ap_get]; simp),
 (by have : (l ++ [e]).length = l.length + 1 := List.length_append ..; omega),
 rfl,
 (fun i hi j hj => ap_take hi j),
 rfl,
 (fun _ _ _ _ => rfl),
 saC l (by omega),
 (decide_eq_false (by first | omega | (simp; omega) | (simp; done))),
 rfl,
 (by simp only [mx0, mnI]; omega),
 rfl,
 (fun _ _ _ _ => rfl),
 (by simp only [mx0, mnI, List.length_take]; omega),
 (fun i hi j hj => le_take (k := k) (by simp only [mx0, mnI] at hi; omega) j),
 saC (l.take k) (by rw [List.length_take]; omega),
 (decide_eq_true (by first | omega | (simp; omega) | (simp; done))),
 (decide_eq_false (by first | omega | (simp; omega) | (simp; done))),
 rfl,
 (by first | omega | rfl | (simp; done) | (simp; omega)),
 rfl,
 (fun _ _ _ _ => rfl),
 (Nat.zero_add _),
 (fun _ _ _ _ => rfl),
 saC l (by omega),
 (in64 (by omega) (by omega)),
 (in64 (by omega) (by omega)), (frS9f4_mk l e i most (frS9f3_mk e ⟨(by first | omega | rfl), trivial⟩))⟩)⟩)⟩
theorem pl_en_neg (l : List En) (e : En) (i : Int) (most : Int) (q k : Nat) (hq : q < 2) (hb : l.length < 1000000) (hp : ¬ (l.length : Int) < most) (hk : (k : Int) = min (max i 0) (l.length : Int)) (h7 : 0 ≤ bits .and .i64 i 7 ∧ bits .and .i64 i 7 < 8) (he : l.length = 0) (hpop : PureC Try.prog 8 [enR l] (.tup [.agg (enA En0), .nils, .bool false]) [])  (hi : ¬ (0 ≤ i ∧ i < l.length)) (hs : i < 0) : Vc (vcC Try.prog false (ntOf Try.prog 6) (lpC Try.prog 6 0) (pS l e most i q) [.bd true, .cl [enR l, .agg (enA e), .int .i64 most] (.tup [.nils, .bool false]) [], .cl [enR l] (.tup [.agg (enA En0), .nils, .bool false]) [], .cl [enR l, .int .i64 i] (.own 0 0 8 0 (l.take k).length) [enB (l.take k)], .cl [enR l, .int .i64 i, .agg (enA e)] (.tup [.nils, .bool false]) [], .bd false, .bd false, .bd false, .bd false, .bd false, .cp [enR (l.take k), enR (l.take k)] (.bool true), .bd false, .bd false, .bd false, .cl [enR l, enR l] (.bool true) []] .nrm [] (pS l e (bits .and .i64 most 7) (bits .and .i64 i 7 - 1) (q + 1))) :=
  vc_of (q := (decide ((↑q : Int) < (2 : Int)) = true) ∧ ((0 : Nat) = (0 : Nat) ∧ (0 : Nat) = (0 : Nat) ∧ ((0 : Nat) + List.length l) * (48 : Nat) ≤ (140737488355328 : Nat) ∧ (0 : Nat) + List.length l ≤ (140737488355328 : Nat)) ∧ (frS9f6 l e ((En.ft e = En.ft e) ∧ (most = most) ∧ (PureC Try.prog 7 [enR l, .agg (enA e), .int .i64 most] (.tup [.nils, .bool false]) []) ∧ (List.length l = List.length l) ∧ (∀ (i : Nat), i < List.length l → ∀ (j : Nat), j < (8 : Nat) → rowL enC l i j = rowL enC l i j) ∧ (PureC Try.prog 8 [enR l] (.tup [.agg (enA En0), .nils, .bool false]) []) ∧ (List.length l = List.length l) ∧ (∀ (i : Nat), i < List.length l → ∀ (j : Nat), j < (8 : Nat) → rowL enC l i j = rowL enC l i j) ∧ (i = i) ∧ cS9f2 l i k ∧ (frS9f5 l e i ((En.kn e = En.kn e) ∧ (En.ft e = En.ft e) ∧ cS9f1 l e i ∧ (decide ((↑(List.length l) : Int) < most) = false) ∧ ((!false == false) = false) ∧ (((0 : Int) != (0 : Int)) = false) ∧ (decide ((↑(List.length l) : Int) > (0 : Int)) = false) ∧ ((!false == false) = false) ∧ (((0 : Int) ≤ if (↑(List.length l) : Int) < if i < (0 : Int) then (0 : Int) else i then (↑(List.length l) : Int) else if i < (0 : Int) then (0 : Int) else i) ∧ (if (↑(List.length l) : Int) < if i < (0 : Int) then (0 : Int) else i then (↑(List.length l) : Int) else if i < (0 : Int) then (0 : Int) else i) ≤ (↑(List.length l) : Int)) ∧ (List.length (List.take k l) = List.length (List.take k l)) ∧ (∀ (i : Nat), i < List.length (List.take k l) → ∀ (j : Nat), j < (8 : Nat) → rowL enC (List.take k l) (i + (0 : Nat)) j = rowL enC (List.take k l) i j) ∧ (Int.toNat (if (↑(List.length l) : Int) < if i < (0 : Int) then (0 : Int) else i then (↑(List.length l) : Int) else if i < (0 : Int) then (0 : Int) else i) = List.length (List.take k l)) ∧ (∀ (i_1 : Nat), i_1 < Int.toNat (if (↑(List.length l) : Int) < if i < (0 : Int) then (0 : Int) else i then (↑(List.length l) : Int) else if i < (0 : Int) then (0 : Int) else i) → ∀ (j : Nat), j < (8 : Nat) → rowL enC l i_1 j = rowL enC (List.take k l) i_1 j) ∧ (PureC Try.prog 12 [enR (l.take k), enR (l.take k)] (.bool true) []) ∧ (decide (i ≥ (0 : Int)) = false) ∧ ((!false == false) = false) ∧ (((0 : Int) != (0 : Int)) = false) ∧ (List.length l = List.length l) ∧ (∀ (i : Nat), i < List.length l → ∀ (j : Nat), j < (8 : Nat) → rowL enC l i j = rowL enC l i j) ∧ cS9f0 l ∧ (∀ (i : Nat), i < (0 : Nat) + List.length l → ∀ (j : Nat), j < (8 : Nat) → (bif Nat.blt (i + (0 : Nat)) (0 : Nat) then AV.junk else rowL enC l (i + (0 : Nat) - (0 : Nat)) j) = rowL enC l i j) ∧ (PureC Try.prog 12 [enR l, enR l] (.bool true) []) ∧ (inK IntKind.i64 (Go.bits Go.BinOp.and IntKind.i64 i (7 : Int) - (1 : Int))) ∧ (inK IntKind.i64 ((↑q : Int) + (1 : Int))) ∧ (frS9f4 l e i most ((frS9f3 e (((↑q : Int) + (1 : Int) = (↑(q + (1 : Nat)) : Int)) ∧ True))))))))) (by kernel_rfl)
    ⟨(decide_eq_true (by first | omega | (simp; omega) | (simp; done))),
 (by first | omega | rfl), (frS9f6_mk l e ⟨rfl,
 rfl,
 pushC_n l e most hp,
 rfl,
 (fun _ _ _ _ => rfl),
 hpop,
 rfl,
 (fun _ _ _ _ => rfl),
 rfl,
 cutC l i k hk hb, (frS9f5_mk l e i ⟨rfl,
 rfl,
 putC_n l e i hi,
 (decide_eq_false (by first | omega | (simp; omega) | (simp; done))),
 rfl,
 (by first | omega | rfl | (simp; done) | (simp; omega)),
 (decide_eq_false (by first | omega | (simp; omega) | (simp; done))),
 rfl,
 (by simp only [mx0, mnI]; omega),
 rfl,
 (fun _ _ _ _ => rfl),
 (by simp only [mx0, mnI, List.length_take]; omega),
 (fun i hi j hj => le_take (k := k) (by simp only [mx0, mnI] at hi; omega) j),
 saC (l.take k) (by rw [List.length_take]; omega),
 (decide_eq_false (by first | omega | (simp; omega) | (simp; done))),
 rfl,
 (by first | omega | rfl | (simp; done) | (simp; omega)),
 rfl,
 (fun _ _ _ _ => rfl),
 (Nat.zero_add _),
 (fun _ _ _ _ => rfl),
 saC l (by omega),
 (in64 (by omega) (by omega)),
 (in64 (by omega) (by omega)), (frS9f4_mk l e i most (frS9f3_mk e ⟨(by first | omega | rfl), trivial⟩))⟩)⟩)⟩
theorem pl_en_out (l : List En) (e : En) (i : Int) (most : Int) (q k : Nat) (hq : q < 2) (hb : l.length < 1000000) (hp : ¬ (l.length : Int) < most) (hk : (k : Int) = min (max i 0) (l.length : Int)) (h7 : 0 ≤ bits .and .i64 i 7 ∧ bits .and .i64 i 7 < 8) (he : l.length = 0) (hpop : PureC Try.prog 8 [enR l] (.tup [.agg (enA En0), .nils, .bool false]) [])  (hi : ¬ (0 ≤ i ∧ i < l.length)) (hs : 0 ≤ i) : Vc (vcC Try.prog false (ntOf Try.prog 6) (lpC Try.prog 6 0) (pS l e most i q) [.bd true, .cl [enR l, .agg (enA e), .int .i64 most] (.tup [.nils, .bool false]) [], .cl [enR l] (.tup [.agg (enA En0), .nils, .bool false]) [], .cl [enR l, .int .i64 i] (.own 0 0 8 0 (l.take k).length) [enB (l.take k)], .cl [enR l, .int .i64 i, .agg (enA e)] (.tup [.nils, .bool false]) [], .bd false, .bd false, .bd false, .bd false, .bd false, .cp [enR (l.take k), enR (l.take k)] (.bool true), .bd true, .bd false, .bd false, .bd false, .cl [enR l, enR l] (.bool true) []] .nrm [] (pS l e (bits .and .i64 most 7) (bits .and .i64 i 7 - 1) (q + 1))) :=
  vc_of (q := (decide ((↑q : Int) < (2 : Int)) = true) ∧ ((0 : Nat) = (0 : Nat) ∧ (0 : Nat) = (0 : Nat) ∧ ((0 : Nat) + List.length l) * (48 : Nat) ≤ (140737488355328 : Nat) ∧ (0 : Nat) + List.length l ≤ (140737488355328 : Nat)) ∧ (frS9f6 l e ((En.ft e = En.ft e) ∧ (most = most) ∧ (PureC Try.prog 7 [enR l, .agg (enA e), .int .i64 most] (.tup [.nils, .bool false]) []) ∧ (List.length l = List.length l) ∧ (∀ (i : Nat), i < List.length l → ∀ (j : Nat), j < (8 : Nat) → rowL enC l i j = rowL enC l i j) ∧ (PureC Try.prog 8 [enR l] (.tup [.agg (enA En0), .nils, .bool false]) []) ∧ (List.length l = List.length l) ∧ (∀ (i : Nat), i < List.length l → ∀ (j : Nat), j < (8 : Nat) → rowL enC l i j = rowL enC l i j) ∧ (i = i) ∧ cS9f2 l i k ∧ (frS9f5 l e i ((En.kn e = En.kn e) ∧ (En.ft e = En.ft e) ∧ cS9f1 l e i ∧ (decide ((↑(List.length l) : Int) < most) = false) ∧ ((!false == false) = false) ∧ (((0 : Int) != (0 : Int)) = false) ∧ (decide ((↑(List.length l) : Int) > (0 : Int)) = false) ∧ ((!false == false) = false) ∧ (((0 : Int) ≤ if (↑(List.length l) : Int) < if i < (0 : Int) then (0 : Int) else i then (↑(List.length l) : Int) else if i < (0 : Int) then (0 : Int) else i) ∧ (if (↑(List.length l) : Int) < if i < (0 : Int) then (0 : Int) else i then (↑(List.length l) : Int) else if i < (0 : Int) then (0 : Int) else i) ≤ (↑(List.length l) : Int)) ∧ (List.length (List.take k l) = List.length (List.take k l)) ∧ (∀ (i : Nat), i < List.length (List.take k l) → ∀ (j : Nat), j < (8 : Nat) → rowL enC (List.take k l) (i + (0 : Nat)) j = rowL enC (List.take k l) i j) ∧ (Int.toNat (if (↑(List.length l) : Int) < if i < (0 : Int) then (0 : Int) else i then (↑(List.length l) : Int) else if i < (0 : Int) then (0 : Int) else i) = List.length (List.take k l)) ∧ (∀ (i_1 : Nat), i_1 < Int.toNat (if (↑(List.length l) : Int) < if i < (0 : Int) then (0 : Int) else i then (↑(List.length l) : Int) else if i < (0 : Int) then (0 : Int) else i) → ∀ (j : Nat), j < (8 : Nat) → rowL enC l i_1 j = rowL enC (List.take k l) i_1 j) ∧ (PureC Try.prog 12 [enR (l.take k), enR (l.take k)] (.bool true) []) ∧ (decide (i ≥ (0 : Int)) = true) ∧ (decide (i < (↑(List.length l) : Int)) = false) ∧ ((!false == bif true then false else false) = false) ∧ (((0 : Int) != (0 : Int)) = false) ∧ (List.length l = List.length l) ∧ (∀ (i : Nat), i < List.length l → ∀ (j : Nat), j < (8 : Nat) → rowL enC l i j = rowL enC l i j) ∧ cS9f0 l ∧ (∀ (i : Nat), i < (0 : Nat) + List.length l → ∀ (j : Nat), j < (8 : Nat) → (bif Nat.blt (i + (0 : Nat)) (0 : Nat) then AV.junk else rowL enC l (i + (0 : Nat) - (0 : Nat)) j) = rowL enC l i j) ∧ (PureC Try.prog 12 [enR l, enR l] (.bool true) []) ∧ (inK IntKind.i64 (Go.bits Go.BinOp.and IntKind.i64 i (7 : Int) - (1 : Int))) ∧ (inK IntKind.i64 ((↑q : Int) + (1 : Int))) ∧ (frS9f4 l e i most ((frS9f3 e (((↑q : Int) + (1 : Int) = (↑(q + (1 : Nat)) : Int)) ∧ True))))))))) (by kernel_rfl)
    ⟨(decide_eq_true (by first | omega | (simp; omega) | (simp; done))),
 (by first | omega | rfl), (frS9f6_mk l e ⟨rfl,
 rfl,
 pushC_n l e most hp,
 rfl,
 (fun _ _ _ _ => rfl),
 hpop,
 rfl,
 (fun _ _ _ _ => rfl),
 rfl,
 cutC l i k hk hb, (frS9f5_mk l e i ⟨rfl,
 rfl,
 putC_n l e i hi,
 (decide_eq_false (by first | omega | (simp; omega) | (simp; done))),
 rfl,
 (by first | omega | rfl | (simp; done) | (simp; omega)),
 (decide_eq_false (by first | omega | (simp; omega) | (simp; done))),
 rfl,
 (by simp only [mx0, mnI]; omega),
 rfl,
 (fun _ _ _ _ => rfl),
 (by simp only [mx0, mnI, List.length_take]; omega),
 (fun i hi j hj => le_take (k := k) (by simp only [mx0, mnI] at hi; omega) j),
 saC (l.take k) (by rw [List.length_take]; omega),
 (decide_eq_true (by first | omega | (simp; omega) | (simp; done))),
 (decide_eq_false (by first | omega | (simp; omega) | (simp; done))),
 rfl,
 (by first | omega | rfl | (simp; done) | (simp; omega)),
 rfl,
 (fun _ _ _ _ => rfl),
 (Nat.zero_add _),
 (fun _ _ _ _ => rfl),
 saC l (by omega),
 (in64 (by omega) (by omega)),
 (in64 (by omega) (by omega)), (frS9f4_mk l e i most (frS9f3_mk e ⟨(by first | omega | rfl), trivial⟩))⟩)⟩)⟩
def frS9f7 (l : List En) (Z : Prop) : Prop := (List.length l = List.length l) ∧ (∀ (i : Nat), i < List.length l → ∀ (j : Nat), j < (8 : Nat) → rowL enC l i j = rowL enC l i j) ∧ (List.length l = List.length l) ∧ (∀ (i : Nat), i < List.length l → ∀ (j : Nat), j < (8 : Nat) → rowL enC l i j = rowL enC l i j) ∧ Z
theorem frS9f7_mk (l : List En) {Z : Prop} (z : Z) : frS9f7 l Z := ⟨rfl, (fun _ _ _ _ => rfl), rfl, (fun _ _ _ _ => rfl), z⟩
def frS9f8 (e : En) (q : Nat) (Z : Prop) : Prop := (En.dn e = En.dn e) ∧ (En.kn e = En.kn e) ∧ (En.ft e = En.ft e) ∧ (false = false) ∧ ((↑q : Int) = (↑q : Int)) ∧ Z
theorem frS9f8_mk (e : En) (q : Nat) {Z : Prop} (z : Z) : frS9f8 e q Z := ⟨rfl, rfl, rfl, rfl, rfl, z⟩
def frS9f9 (R : List En) (Z : Prop) : Prop := (List.length R = List.length R) ∧ (∀ (i : Nat), i < List.length R → ∀ (j : Nat), j < (8 : Nat) → rowL enC R (i + (0 : Nat)) j = rowL enC R i j) ∧ (List.length R = List.length R) ∧ (∀ (i : Nat), i < List.length R → ∀ (j : Nat), j < (8 : Nat) → rowL enC R (i + (0 : Nat)) j = rowL enC R i j) ∧ Z
theorem frS9f9_mk (R : List En) {Z : Prop} (z : Z) : frS9f9 R Z := ⟨rfl, (fun _ _ _ _ => rfl), rfl, (fun _ _ _ _ => rfl), z⟩
abbrev cS9f3 (l : List En) (R : List En) : Prop := (PureC Try.prog 13 [enR l] (.own 0 0 8 0 R.length) [enB R])
def frS9f10 (l : List En) (e : En) (I : Nat) (Z : Prop) : Prop := (List.length l = List.length l) ∧ (∀ (i : Nat), i < List.length l → ∀ (j : Nat), j < (8 : Nat) → rowL enC l i j = rowL enC l i j) ∧ ((↑I : Int) = (↑I : Int)) ∧ (En.pc e = En.pc e) ∧ (En.val e = En.val e) ∧ (En.adr e = En.adr e) ∧ (En.frm e = En.frm e) ∧ (En.nxt e = En.nxt e) ∧ (En.dn e = En.dn e) ∧ Z
theorem frS9f10_mk (l : List En) (e : En) (I : Nat) {Z : Prop} (z : Z) : frS9f10 l e I Z := ⟨rfl, (fun _ _ _ _ => rfl), rfl, rfl, rfl, rfl, rfl, rfl, rfl, z⟩
abbrev cS9f4 (l : List En) (x : En) (R : List En) : Prop := (PureC Try.prog 8 [enR l] (.tup [.agg (enA x), .own 0 0 8 0 R.length, .bool true]) [enB R])
theorem pl_cy_in (l : List En) (e : En) (I : Nat) (most : Int) (q k : Nat) (hq : q < 2) (hb : l.length < 1000000) (hp : (l.length : Int) < most) (hk : (k : Int) = min (max (I : Int) 0) (l.length : Int)) (h7 : 0 ≤ bits .and .i64 (I : Int) 7 ∧ bits .and .i64 (I : Int) 7 < 8) (x : En) (R : List En) (he : 0 < l.length) (hR : R.length < 1000000) (hx0 : l.getD 0 default = x) (hpop : PureC Try.prog 8 [enR l] (.tup [.agg (enA x), .own 0 0 8 0 R.length, .bool true]) [enB R]) (hrp : PureC Try.prog 13 [enR l] (.own 0 0 8 0 R.length) [enB R])  (hi : I < l.length) : Vc (vcC Try.prog false (ntOf Try.prog 6) (lpC Try.prog 6 0) (pS l e most (I : Int) q) [.bd true, .cl [enR l, .agg (enA e), .int .i64 most] (.tup [.own 0 0 8 0 (l ++ [e]).length, .bool true]) [enB (l ++ [e])], .cl [enR l] (.tup [.agg (enA x), .own 0 0 8 0 R.length, .bool true]) [enB R], .cl [enR l, .int .i64 (I : Int)] (.own 0 0 8 0 (l.take k).length) [enB (l.take k)], .cl [enR l, .int .i64 I, .agg (enA e)] (.tup [.own 0 0 8 0 (l.set (I : Int).toNat e).length, .bool true]) [enB (l.set (I : Int).toNat e)], .bd true, .bd false, .bd false, .bd false, .cp [enR l, enR l] (.bool true), .bd true, .bd false, .bd false, .cl [enR l] (.own 0 0 8 0 R.length) [enB R], .cp [enR R, enR R] (.bool true), .cp [enR (l.take k), enR (l.take k)] (.bool true), .bd true, .bd true, .bd false, .lp [] (pbS l e most I q 0) (.ext 2) (pbS l e most I q l.length), .bd false, .cl [enR l, enR l] (.bool true) []] .nrm [] (pS l e (bits .and .i64 most 7) (bits .and .i64 (I : Int) 7 - 1) (q + 1))) :=
  vc_of (q := (decide ((↑q : Int) < (2 : Int)) = true) ∧ ((0 : Nat) = (0 : Nat) ∧ (0 : Nat) = (0 : Nat) ∧ ((0 : Nat) + List.length l) * (48 : Nat) ≤ (140737488355328 : Nat) ∧ (0 : Nat) + List.length l ≤ (140737488355328 : Nat)) ∧ (frS9f6 l e ((En.ft e = En.ft e) ∧ (most = most) ∧ (PureC Try.prog 7 [enR l, .agg (enA e), .int .i64 most] (.tup [.own 0 0 8 0 (l ++ [e]).length, .bool true]) [enB (l ++ [e])]) ∧ (List.length l = List.length l) ∧ (∀ (i : Nat), i < List.length l → ∀ (j : Nat), j < (8 : Nat) → rowL enC l i j = rowL enC l i j) ∧ cS9f4 l x R ∧ (List.length l = List.length l) ∧ (∀ (i : Nat), i < List.length l → ∀ (j : Nat), j < (8 : Nat) → rowL enC l i j = rowL enC l i j) ∧ ((↑I : Int) = (↑I : Int)) ∧ (PureC Try.prog 10 [enR l, .int .i64 (I : Int)] (.own 0 0 8 0 (l.take k).length) [enB (l.take k)]) ∧ (frS9f10 l e I ((En.kn e = En.kn e) ∧ (En.ft e = En.ft e) ∧ (PureC Try.prog 11 [enR l, .int .i64 I, .agg (enA e)] (.tup [.own 0 0 8 0 (l.set (I : Int).toNat e).length, .bool true]) [enB (l.set (I : Int).toNat e)]) ∧ (decide ((↑(List.length l) : Int) < most) = true) ∧ ((!true == true) = false) ∧ (inK IntKind.i64 ((↑(List.length l) : Int) + (1 : Int))) ∧ (((↑(List.length (l ++ [e])) : Int) != (↑(List.length l) : Int) + (1 : Int)) = false) ∧ ((0 : Int) ≤ (↑(List.length l) : Int) ∧ (↑(List.length l) : Int) < (↑(List.length (l ++ [e])) : Int)) ∧ (List.length l + (0 : Nat) < List.length (l ++ [e])) ∧ ((!bif En.pc (List.getD (l ++ [e]) (List.length l + (0 : Nat)) Inhabited.default) == En.pc e then bif En.val (List.getD (l ++ [e]) (List.length l + (0 : Nat)) Inhabited.default) == En.val e then bif En.adr (List.getD (l ++ [e]) (List.length l + (0 : Nat)) Inhabited.default) == En.adr e then bif En.frm (List.getD (l ++ [e]) (List.length l + (0 : Nat)) Inhabited.default) == En.frm e then bif En.nxt (List.getD (l ++ [e]) (List.length l + (0 : Nat)) Inhabited.default) == En.nxt e then bif En.dn (List.getD (l ++ [e]) (List.length l + (0 : Nat)) Inhabited.default) == En.dn e then bif En.kn (List.getD (l ++ [e]) (List.length l + (0 : Nat)) Inhabited.default) == En.kn e then bif En.ft (List.getD (l ++ [e]) (List.length l + (0 : Nat)) Inhabited.default) == En.ft e then true else false else false else false else false else false else false else false else false) = false) ∧ ((0 : Int) ≤ (↑(List.length l) : Int) ∧ (↑(List.length l) : Int) ≤ (↑(List.length (l ++ [e])) : Int)) ∧ (List.length l = List.length l) ∧ (∀ (i : Nat), i < List.length l → ∀ (j : Nat), j < (8 : Nat) → rowL enC (l ++ [e]) (i + (0 : Nat)) j = rowL enC l i j) ∧ (List.length l = List.length l) ∧ (∀ (i : Nat), i < List.length l → ∀ (j : Nat), j < (8 : Nat) → rowL enC l i j = rowL enC l i j) ∧ (PureC Try.prog 12 [enR l, enR l] (.bool true) []) ∧ (decide ((↑(List.length l) : Int) > (0 : Int)) = true) ∧ ((!true == true) = false) ∧ ((0 : Int) ≤ (0 : Int) ∧ (0 : Int) < (↑(List.length l) : Int)) ∧ ((!bif En.pc x == En.pc (List.getD l (0 : Nat) Inhabited.default) then bif En.val x == En.val (List.getD l (0 : Nat) Inhabited.default) then bif En.adr x == En.adr (List.getD l (0 : Nat) Inhabited.default) then bif En.frm x == En.frm (List.getD l (0 : Nat) Inhabited.default) then bif En.nxt x == En.nxt (List.getD l (0 : Nat) Inhabited.default) then bif En.dn x == En.dn (List.getD l (0 : Nat) Inhabited.default) then bif En.kn x == En.kn (List.getD l (0 : Nat) Inhabited.default) then bif En.ft x == En.ft (List.getD l (0 : Nat) Inhabited.default) then true else false else false else false else false else false else false else false else false) = false) ∧ (List.length l = List.length l) ∧ (∀ (i : Nat), i < List.length l → ∀ (j : Nat), j < (8 : Nat) → rowL enC l i j = rowL enC l i j) ∧ cS9f3 l R ∧ (frS9f9 R ((PureC Try.prog 12 [enR R, enR R] (.bool true) []) ∧ (((0 : Int) ≤ if (↑(List.length l) : Int) < if (↑I : Int) < (0 : Int) then (0 : Int) else (↑I : Int) then (↑(List.length l) : Int) else if (↑I : Int) < (0 : Int) then (0 : Int) else (↑I : Int)) ∧ (if (↑(List.length l) : Int) < if (↑I : Int) < (0 : Int) then (0 : Int) else (↑I : Int) then (↑(List.length l) : Int) else if (↑I : Int) < (0 : Int) then (0 : Int) else (↑I : Int)) ≤ (↑(List.length l) : Int)) ∧ (List.length (List.take k l) = List.length (List.take k l)) ∧ (∀ (i : Nat), i < List.length (List.take k l) → ∀ (j : Nat), j < (8 : Nat) → rowL enC (List.take k l) (i + (0 : Nat)) j = rowL enC (List.take k l) i j) ∧ (Int.toNat (if (↑(List.length l) : Int) < if (↑I : Int) < (0 : Int) then (0 : Int) else (↑I : Int) then (↑(List.length l) : Int) else if (↑I : Int) < (0 : Int) then (0 : Int) else (↑I : Int)) = List.length (List.take k l)) ∧ (∀ (i : Nat), i < Int.toNat (if (↑(List.length l) : Int) < if (↑I : Int) < (0 : Int) then (0 : Int) else (↑I : Int) then (↑(List.length l) : Int) else if (↑I : Int) < (0 : Int) then (0 : Int) else (↑I : Int)) → ∀ (j : Nat), j < (8 : Nat) → rowL enC l i j = rowL enC (List.take k l) i j) ∧ (PureC Try.prog 12 [enR (l.take k), enR (l.take k)] (.bool true) []) ∧ (decide ((↑I : Int) ≥ (0 : Int)) = true) ∧ (decide ((↑I : Int) < (↑(List.length l) : Int)) = true) ∧ ((!true == bif true then true else false) = false) ∧ (frS9f1 l e most I ((frS9f8 e q (cS9f0 l ∧ (∀ (i : Nat), i < (0 : Nat) + List.length l → ∀ (j : Nat), j < (8 : Nat) → (bif Nat.blt (i + (0 : Nat)) (0 : Nat) then AV.junk else rowL enC l (i + (0 : Nat) - (0 : Nat)) j) = rowL enC l i j) ∧ (List.length (List.set l I e) = List.length (List.set l I e)) ∧ (∀ (i : Nat), i < List.length (List.set l I e) → ∀ (j : Nat), j < (8 : Nat) → rowL enC (List.set l I e) (i + (0 : Nat)) j = rowL enC (List.set l I e) i j) ∧ ((↑(List.length (List.set l I e)) : Int) = (↑(List.length l) : Int)) ∧ ((0 : Int) = (↑(0 : Nat) : Int)) ∧ (Ok Try.prog (ntOf Try.prog 6) (.loop (lpC Try.prog 6 1)) (pbS l e most I q 0).st (.ext 2) (pbS l e most I q l.length).st) ∧ (((↑(List.length (List.set l I e)) : Int) != (↑(List.length l) : Int)) = false) ∧ (frS9f7 l ((PureC Try.prog 12 [enR l, enR l] (.bool true) []) ∧ (inK IntKind.i64 (Go.bits Go.BinOp.and IntKind.i64 (↑I : Int) (7 : Int) - (1 : Int))) ∧ (inK IntKind.i64 ((↑q : Int) + (1 : Int))) ∧ (List.length l = List.length l) ∧ (∀ (i : Nat), i < List.length l → ∀ (j : Nat), j < (8 : Nat) → rowL enC l i j = rowL enC l i j) ∧ (Go.bits Go.BinOp.and IntKind.i64 most (7 : Int) = Go.bits Go.BinOp.and IntKind.i64 most (7 : Int)) ∧ (Go.bits Go.BinOp.and IntKind.i64 (↑I : Int) (7 : Int) - (1 : Int) = Go.bits Go.BinOp.and IntKind.i64 (↑I : Int) (7 : Int) - (1 : Int)) ∧ (frS9f2 e (((↑q : Int) + (1 : Int) = (↑(q + (1 : Nat)) : Int)) ∧ True))))))))))))))) (by kernel_rfl)
    ⟨(decide_eq_true (by first | omega | (simp; omega) | (simp; done))),
 (by first | omega | rfl), (frS9f6_mk l e ⟨rfl,
 rfl,
 pushC_y l e most hp hb,
 rfl,
 (fun _ _ _ _ => rfl),
 hpop,
 rfl,
 (fun _ _ _ _ => rfl),
 rfl,
 cutC l (I : Int) k hk hb, (frS9f10_mk l e I ⟨rfl,
 rfl,
 putC_y l e (I : Int) (by omega) (by omega) hb,
 (decide_eq_true (by first | omega | (simp; omega) | (simp; done))),
 rfl,
 (in64 (by omega) (by omega)),
 (bne_f (by simp)),
 (by have : (l ++ [e]).length = l.length + 1 := List.length_append ..; omega),
 (by have : (l ++ [e]).length = l.length + 1 := List.length_append ..; omega),
 (by rw [ap_get]; simp),
 (by have : (l ++ [e]).length = l.length + 1 := List.length_append ..; omega),
 rfl,
 (fun i hi j hj => ap_take hi j),
 rfl,
 (fun _ _ _ _ => rfl),
 saC l (by omega),
 (decide_eq_true (by first | omega | (simp; omega) | (simp; done))),
 rfl,
 (by first | omega | rfl),
 (by rw [hx0]; simp),
 rfl,
 (fun _ _ _ _ => rfl),
 hrp, (frS9f9_mk R ⟨saC R (by omega),
 (by simp only [mx0, mnI]; omega),
 rfl,
 (fun _ _ _ _ => rfl),
 (by simp only [mx0, mnI, List.length_take]; omega),
 (fun i hi j hj => le_take (k := k) (by simp only [mx0, mnI] at hi; omega) j),
 saC (l.take k) (by rw [List.length_take]; omega),
 (decide_eq_true (by first | omega | (simp; omega) | (simp; done))),
 (decide_eq_true (by first | omega | (simp; omega) | (simp; done))),
 rfl, (frS9f1_mk l e most I (frS9f8_mk e q ⟨(Nat.zero_add _),
 (fun _ _ _ _ => rfl),
 rfl,
 (fun _ _ _ _ => rfl),
 (by rw [List.length_set]),
 (by first | omega | rfl),
 pb_loop l e most I q hb,
 (bne_f (by rw [List.length_set])), (frS9f7_mk l ⟨saC l (by omega),
 (in64 (by omega) (by omega)),
 (in64 (by omega) (by omega)),
 rfl,
 (fun _ _ _ _ => rfl),
 rfl,
 rfl, (frS9f2_mk e ⟨(by first | omega | rfl), trivial⟩)⟩)⟩))⟩)⟩)⟩)⟩
theorem pl_cy_neg (l : List En) (e : En) (i : Int) (most : Int) (q k : Nat) (hq : q < 2) (hb : l.length < 1000000) (hp : (l.length : Int) < most) (hk : (k : Int) = min (max i 0) (l.length : Int)) (h7 : 0 ≤ bits .and .i64 i 7 ∧ bits .and .i64 i 7 < 8) (x : En) (R : List En) (he : 0 < l.length) (hR : R.length < 1000000) (hx0 : l.getD 0 default = x) (hpop : PureC Try.prog 8 [enR l] (.tup [.agg (enA x), .own 0 0 8 0 R.length, .bool true]) [enB R]) (hrp : PureC Try.prog 13 [enR l] (.own 0 0 8 0 R.length) [enB R])  (hi : ¬ (0 ≤ i ∧ i < l.length)) (hs : i < 0) : Vc (vcC Try.prog false (ntOf Try.prog 6) (lpC Try.prog 6 0) (pS l e most i q) [.bd true, .cl [enR l, .agg (enA e), .int .i64 most] (.tup [.own 0 0 8 0 (l ++ [e]).length, .bool true]) [enB (l ++ [e])], .cl [enR l] (.tup [.agg (enA x), .own 0 0 8 0 R.length, .bool true]) [enB R], .cl [enR l, .int .i64 i] (.own 0 0 8 0 (l.take k).length) [enB (l.take k)], .cl [enR l, .int .i64 i, .agg (enA e)] (.tup [.nils, .bool false]) [], .bd true, .bd false, .bd false, .bd false, .cp [enR l, enR l] (.bool true), .bd true, .bd false, .bd false, .cl [enR l] (.own 0 0 8 0 R.length) [enB R], .cp [enR R, enR R] (.bool true), .cp [enR (l.take k), enR (l.take k)] (.bool true), .bd false, .bd false, .bd false, .cl [enR l, enR l] (.bool true) []] .nrm [] (pS l e (bits .and .i64 most 7) (bits .and .i64 i 7 - 1) (q + 1))) :=
  vc_of (q := (decide ((↑q : Int) < (2 : Int)) = true) ∧ ((0 : Nat) = (0 : Nat) ∧ (0 : Nat) = (0 : Nat) ∧ ((0 : Nat) + List.length l) * (48 : Nat) ≤ (140737488355328 : Nat) ∧ (0 : Nat) + List.length l ≤ (140737488355328 : Nat)) ∧ (frS9f6 l e ((En.ft e = En.ft e) ∧ (most = most) ∧ (PureC Try.prog 7 [enR l, .agg (enA e), .int .i64 most] (.tup [.own 0 0 8 0 (l ++ [e]).length, .bool true]) [enB (l ++ [e])]) ∧ (List.length l = List.length l) ∧ (∀ (i : Nat), i < List.length l → ∀ (j : Nat), j < (8 : Nat) → rowL enC l i j = rowL enC l i j) ∧ cS9f4 l x R ∧ (List.length l = List.length l) ∧ (∀ (i : Nat), i < List.length l → ∀ (j : Nat), j < (8 : Nat) → rowL enC l i j = rowL enC l i j) ∧ (i = i) ∧ cS9f2 l i k ∧ (frS9f5 l e i ((En.kn e = En.kn e) ∧ (En.ft e = En.ft e) ∧ cS9f1 l e i ∧ (decide ((↑(List.length l) : Int) < most) = true) ∧ ((!true == true) = false) ∧ (inK IntKind.i64 ((↑(List.length l) : Int) + (1 : Int))) ∧ (((↑(List.length (l ++ [e])) : Int) != (↑(List.length l) : Int) + (1 : Int)) = false) ∧ ((0 : Int) ≤ (↑(List.length l) : Int) ∧ (↑(List.length l) : Int) < (↑(List.length (l ++ [e])) : Int)) ∧ (List.length l + (0 : Nat) < List.length (l ++ [e])) ∧ ((!bif En.pc (List.getD (l ++ [e]) (List.length l + (0 : Nat)) Inhabited.default) == En.pc e then bif En.val (List.getD (l ++ [e]) (List.length l + (0 : Nat)) Inhabited.default) == En.val e then bif En.adr (List.getD (l ++ [e]) (List.length l + (0 : Nat)) Inhabited.default) == En.adr e then bif En.frm (List.getD (l ++ [e]) (List.length l + (0 : Nat)) Inhabited.default) == En.frm e then bif En.nxt (List.getD (l ++ [e]) (List.length l + (0 : Nat)) Inhabited.default) == En.nxt e then bif En.dn (List.getD (l ++ [e]) (List.length l + (0 : Nat)) Inhabited.default) == En.dn e then bif En.kn (List.getD (l ++ [e]) (List.length l + (0 : Nat)) Inhabited.default) == En.kn e then bif En.ft (List.getD (l ++ [e]) (List.length l + (0 : Nat)) Inhabited.default) == En.ft e then true else false else false else false else false else false else false else false else false) = false) ∧ ((0 : Int) ≤ (↑(List.length l) : Int) ∧ (↑(List.length l) : Int) ≤ (↑(List.length (l ++ [e])) : Int)) ∧ (List.length l = List.length l) ∧ (∀ (i : Nat), i < List.length l → ∀ (j : Nat), j < (8 : Nat) → rowL enC (l ++ [e]) (i + (0 : Nat)) j = rowL enC l i j) ∧ (List.length l = List.length l) ∧ (∀ (i : Nat), i < List.length l → ∀ (j : Nat), j < (8 : Nat) → rowL enC l i j = rowL enC l i j) ∧ (PureC Try.prog 12 [enR l, enR l] (.bool true) []) ∧ (decide ((↑(List.length l) : Int) > (0 : Int)) = true) ∧ ((!true == true) = false) ∧ ((0 : Int) ≤ (0 : Int) ∧ (0 : Int) < (↑(List.length l) : Int)) ∧ ((!bif En.pc x == En.pc (List.getD l (0 : Nat) Inhabited.default) then bif En.val x == En.val (List.getD l (0 : Nat) Inhabited.default) then bif En.adr x == En.adr (List.getD l (0 : Nat) Inhabited.default) then bif En.frm x == En.frm (List.getD l (0 : Nat) Inhabited.default) then bif En.nxt x == En.nxt (List.getD l (0 : Nat) Inhabited.default) then bif En.dn x == En.dn (List.getD l (0 : Nat) Inhabited.default) then bif En.kn x == En.kn (List.getD l (0 : Nat) Inhabited.default) then bif En.ft x == En.ft (List.getD l (0 : Nat) Inhabited.default) then true else false else false else false else false else false else false else false else false) = false) ∧ (List.length l = List.length l) ∧ (∀ (i : Nat), i < List.length l → ∀ (j : Nat), j < (8 : Nat) → rowL enC l i j = rowL enC l i j) ∧ cS9f3 l R ∧ (frS9f9 R ((PureC Try.prog 12 [enR R, enR R] (.bool true) []) ∧ (((0 : Int) ≤ if (↑(List.length l) : Int) < if i < (0 : Int) then (0 : Int) else i then (↑(List.length l) : Int) else if i < (0 : Int) then (0 : Int) else i) ∧ (if (↑(List.length l) : Int) < if i < (0 : Int) then (0 : Int) else i then (↑(List.length l) : Int) else if i < (0 : Int) then (0 : Int) else i) ≤ (↑(List.length l) : Int)) ∧ (List.length (List.take k l) = List.length (List.take k l)) ∧ (∀ (i : Nat), i < List.length (List.take k l) → ∀ (j : Nat), j < (8 : Nat) → rowL enC (List.take k l) (i + (0 : Nat)) j = rowL enC (List.take k l) i j) ∧ (Int.toNat (if (↑(List.length l) : Int) < if i < (0 : Int) then (0 : Int) else i then (↑(List.length l) : Int) else if i < (0 : Int) then (0 : Int) else i) = List.length (List.take k l)) ∧ (∀ (i_1 : Nat), i_1 < Int.toNat (if (↑(List.length l) : Int) < if i < (0 : Int) then (0 : Int) else i then (↑(List.length l) : Int) else if i < (0 : Int) then (0 : Int) else i) → ∀ (j : Nat), j < (8 : Nat) → rowL enC l i_1 j = rowL enC (List.take k l) i_1 j) ∧ (PureC Try.prog 12 [enR (l.take k), enR (l.take k)] (.bool true) []) ∧ (decide (i ≥ (0 : Int)) = false) ∧ ((!false == false) = false) ∧ (((0 : Int) != (0 : Int)) = false) ∧ (List.length l = List.length l) ∧ (∀ (i : Nat), i < List.length l → ∀ (j : Nat), j < (8 : Nat) → rowL enC l i j = rowL enC l i j) ∧ cS9f0 l ∧ (∀ (i : Nat), i < (0 : Nat) + List.length l → ∀ (j : Nat), j < (8 : Nat) → (bif Nat.blt (i + (0 : Nat)) (0 : Nat) then AV.junk else rowL enC l (i + (0 : Nat) - (0 : Nat)) j) = rowL enC l i j) ∧ (PureC Try.prog 12 [enR l, enR l] (.bool true) []) ∧ (inK IntKind.i64 (Go.bits Go.BinOp.and IntKind.i64 i (7 : Int) - (1 : Int))) ∧ (inK IntKind.i64 ((↑q : Int) + (1 : Int))) ∧ (frS9f4 l e i most ((frS9f3 e (((↑q : Int) + (1 : Int) = (↑(q + (1 : Nat)) : Int)) ∧ True))))))))))) (by kernel_rfl)
    ⟨(decide_eq_true (by first | omega | (simp; omega) | (simp; done))),
 (by first | omega | rfl), (frS9f6_mk l e ⟨rfl,
 rfl,
 pushC_y l e most hp hb,
 rfl,
 (fun _ _ _ _ => rfl),
 hpop,
 rfl,
 (fun _ _ _ _ => rfl),
 rfl,
 cutC l i k hk hb, (frS9f5_mk l e i ⟨rfl,
 rfl,
 putC_n l e i hi,
 (decide_eq_true (by first | omega | (simp; omega) | (simp; done))),
 rfl,
 (in64 (by omega) (by omega)),
 (bne_f (by simp)),
 (by have : (l ++ [e]).length = l.length + 1 := List.length_append ..; omega),
 (by have : (l ++ [e]).length = l.length + 1 := List.length_append ..; omega),
 (by rw [ap_get]; simp),
 (by have : (l ++ [e]).length = l.length + 1 := List.length_append ..; omega),
 rfl,
 (fun i hi j hj => ap_take hi j),
 rfl,
 (fun _ _ _ _ => rfl),
 saC l (by omega),
 (decide_eq_true (by first | omega | (simp; omega) | (simp; done))),
 rfl,
 (by first | omega | rfl),
 (by rw [hx0]; simp),
 rfl,
 (fun _ _ _ _ => rfl),
 hrp, (frS9f9_mk R ⟨saC R (by omega),
 (by simp only [mx0, mnI]; omega),
 rfl,
 (fun _ _ _ _ => rfl),
 (by simp only [mx0, mnI, List.length_take]; omega),
 (fun i hi j hj => le_take (k := k) (by simp only [mx0, mnI] at hi; omega) j),
 saC (l.take k) (by rw [List.length_take]; omega),
 (decide_eq_false (by first | omega | (simp; omega) | (simp; done))),
 rfl,
 (by first | omega | rfl | (simp; done) | (simp; omega)),
 rfl,
 (fun _ _ _ _ => rfl),
 (Nat.zero_add _),
 (fun _ _ _ _ => rfl),
 saC l (by omega),
 (in64 (by omega) (by omega)),
 (in64 (by omega) (by omega)), (frS9f4_mk l e i most (frS9f3_mk e ⟨(by first | omega | rfl), trivial⟩))⟩)⟩)⟩)⟩
theorem pl_cy_out (l : List En) (e : En) (i : Int) (most : Int) (q k : Nat) (hq : q < 2) (hb : l.length < 1000000) (hp : (l.length : Int) < most) (hk : (k : Int) = min (max i 0) (l.length : Int)) (h7 : 0 ≤ bits .and .i64 i 7 ∧ bits .and .i64 i 7 < 8) (x : En) (R : List En) (he : 0 < l.length) (hR : R.length < 1000000) (hx0 : l.getD 0 default = x) (hpop : PureC Try.prog 8 [enR l] (.tup [.agg (enA x), .own 0 0 8 0 R.length, .bool true]) [enB R]) (hrp : PureC Try.prog 13 [enR l] (.own 0 0 8 0 R.length) [enB R])  (hi : ¬ (0 ≤ i ∧ i < l.length)) (hs : 0 ≤ i) : Vc (vcC Try.prog false (ntOf Try.prog 6) (lpC Try.prog 6 0) (pS l e most i q) [.bd true, .cl [enR l, .agg (enA e), .int .i64 most] (.tup [.own 0 0 8 0 (l ++ [e]).length, .bool true]) [enB (l ++ [e])], .cl [enR l] (.tup [.agg (enA x), .own 0 0 8 0 R.length, .bool true]) [enB R], .cl [enR l, .int .i64 i] (.own 0 0 8 0 (l.take k).length) [enB (l.take k)], .cl [enR l, .int .i64 i, .agg (enA e)] (.tup [.nils, .bool false]) [], .bd true, .bd false, .bd false, .bd false, .cp [enR l, enR l] (.bool true), .bd true, .bd false, .bd false, .cl [enR l] (.own 0 0 8 0 R.length) [enB R], .cp [enR R, enR R] (.bool true), .cp [enR (l.take k), enR (l.take k)] (.bool true), .bd true, .bd false, .bd false, .bd false, .cl [enR l, enR l] (.bool true) []] .nrm [] (pS l e (bits .and .i64 most 7) (bits .and .i64 i 7 - 1) (q + 1))) :=
  vc_of (q := (decide ((↑q : Int) < (2 : Int)) = true) ∧ ((0 : Nat) = (0 : Nat) ∧ (0 : Nat) = (0 : Nat) ∧ ((0 : Nat) + List.length l) * (48 : Nat) ≤ (140737488355328 : Nat) ∧ (0 : Nat) + List.length l ≤ (140737488355328 : Nat)) ∧ (frS9f6 l e ((En.ft e = En.ft e) ∧ (most = most) ∧ (PureC Try.prog 7 [enR l, .agg (enA e), .int .i64 most] (.tup [.own 0 0 8 0 (l ++ [e]).length, .bool true]) [enB (l ++ [e])]) ∧ (List.length l = List.length l) ∧ (∀ (i : Nat), i < List.length l → ∀ (j : Nat), j < (8 : Nat) → rowL enC l i j = rowL enC l i j) ∧ cS9f4 l x R ∧ (List.length l = List.length l) ∧ (∀ (i : Nat), i < List.length l → ∀ (j : Nat), j < (8 : Nat) → rowL enC l i j = rowL enC l i j) ∧ (i = i) ∧ cS9f2 l i k ∧ (frS9f5 l e i ((En.kn e = En.kn e) ∧ (En.ft e = En.ft e) ∧ cS9f1 l e i ∧ (decide ((↑(List.length l) : Int) < most) = true) ∧ ((!true == true) = false) ∧ (inK IntKind.i64 ((↑(List.length l) : Int) + (1 : Int))) ∧ (((↑(List.length (l ++ [e])) : Int) != (↑(List.length l) : Int) + (1 : Int)) = false) ∧ ((0 : Int) ≤ (↑(List.length l) : Int) ∧ (↑(List.length l) : Int) < (↑(List.length (l ++ [e])) : Int)) ∧ (List.length l + (0 : Nat) < List.length (l ++ [e])) ∧ ((!bif En.pc (List.getD (l ++ [e]) (List.length l + (0 : Nat)) Inhabited.default) == En.pc e then bif En.val (List.getD (l ++ [e]) (List.length l + (0 : Nat)) Inhabited.default) == En.val e then bif En.adr (List.getD (l ++ [e]) (List.length l + (0 : Nat)) Inhabited.default) == En.adr e then bif En.frm (List.getD (l ++ [e]) (List.length l + (0 : Nat)) Inhabited.default) == En.frm e then bif En.nxt (List.getD (l ++ [e]) (List.length l + (0 : Nat)) Inhabited.default) == En.nxt e then bif En.dn (List.getD (l ++ [e]) (List.length l + (0 : Nat)) Inhabited.default) == En.dn e then bif En.kn (List.getD (l ++ [e]) (List.length l + (0 : Nat)) Inhabited.default) == En.kn e then bif En.ft (List.getD (l ++ [e]) (List.length l + (0 : Nat)) Inhabited.default) == En.ft e then true else false else false else false else false else false else false else false else false) = false) ∧ ((0 : Int) ≤ (↑(List.length l) : Int) ∧ (↑(List.length l) : Int) ≤ (↑(List.length (l ++ [e])) : Int)) ∧ (List.length l = List.length l) ∧ (∀ (i : Nat), i < List.length l → ∀ (j : Nat), j < (8 : Nat) → rowL enC (l ++ [e]) (i + (0 : Nat)) j = rowL enC l i j) ∧ (List.length l = List.length l) ∧ (∀ (i : Nat), i < List.length l → ∀ (j : Nat), j < (8 : Nat) → rowL enC l i j = rowL enC l i j) ∧ (PureC Try.prog 12 [enR l, enR l] (.bool true) []) ∧ (decide ((↑(List.length l) : Int) > (0 : Int)) = true) ∧ ((!true == true) = false) ∧ ((0 : Int) ≤ (0 : Int) ∧ (0 : Int) < (↑(List.length l) : Int)) ∧ ((!bif En.pc x == En.pc (List.getD l (0 : Nat) Inhabited.default) then bif En.val x == En.val (List.getD l (0 : Nat) Inhabited.default) then bif En.adr x == En.adr (List.getD l (0 : Nat) Inhabited.default) then bif En.frm x == En.frm (List.getD l (0 : Nat) Inhabited.default) then bif En.nxt x == En.nxt (List.getD l (0 : Nat) Inhabited.default) then bif En.dn x == En.dn (List.getD l (0 : Nat) Inhabited.default) then bif En.kn x == En.kn (List.getD l (0 : Nat) Inhabited.default) then bif En.ft x == En.ft (List.getD l (0 : Nat) Inhabited.default) then true else false else false else false else false else false else false else false else false) = false) ∧ (List.length l = List.length l) ∧ (∀ (i : Nat), i < List.length l → ∀ (j : Nat), j < (8 : Nat) → rowL enC l i j = rowL enC l i j) ∧ cS9f3 l R ∧ (frS9f9 R ((PureC Try.prog 12 [enR R, enR R] (.bool true) []) ∧ (((0 : Int) ≤ if (↑(List.length l) : Int) < if i < (0 : Int) then (0 : Int) else i then (↑(List.length l) : Int) else if i < (0 : Int) then (0 : Int) else i) ∧ (if (↑(List.length l) : Int) < if i < (0 : Int) then (0 : Int) else i then (↑(List.length l) : Int) else if i < (0 : Int) then (0 : Int) else i) ≤ (↑(List.length l) : Int)) ∧ (List.length (List.take k l) = List.length (List.take k l)) ∧ (∀ (i : Nat), i < List.length (List.take k l) → ∀ (j : Nat), j < (8 : Nat) → rowL enC (List.take k l) (i + (0 : Nat)) j = rowL enC (List.take k l) i j) ∧ (Int.toNat (if (↑(List.length l) : Int) < if i < (0 : Int) then (0 : Int) else i then (↑(List.length l) : Int) else if i < (0 : Int) then (0 : Int) else i) = List.length (List.take k l)) ∧ (∀ (i_1 : Nat), i_1 < Int.toNat (if (↑(List.length l) : Int) < if i < (0 : Int) then (0 : Int) else i then (↑(List.length l) : Int) else if i < (0 : Int) then (0 : Int) else i) → ∀ (j : Nat), j < (8 : Nat) → rowL enC l i_1 j = rowL enC (List.take k l) i_1 j) ∧ (PureC Try.prog 12 [enR (l.take k), enR (l.take k)] (.bool true) []) ∧ (decide (i ≥ (0 : Int)) = true) ∧ (decide (i < (↑(List.length l) : Int)) = false) ∧ ((!false == bif true then false else false) = false) ∧ (((0 : Int) != (0 : Int)) = false) ∧ (List.length l = List.length l) ∧ (∀ (i : Nat), i < List.length l → ∀ (j : Nat), j < (8 : Nat) → rowL enC l i j = rowL enC l i j) ∧ cS9f0 l ∧ (∀ (i : Nat), i < (0 : Nat) + List.length l → ∀ (j : Nat), j < (8 : Nat) → (bif Nat.blt (i + (0 : Nat)) (0 : Nat) then AV.junk else rowL enC l (i + (0 : Nat) - (0 : Nat)) j) = rowL enC l i j) ∧ (PureC Try.prog 12 [enR l, enR l] (.bool true) []) ∧ (inK IntKind.i64 (Go.bits Go.BinOp.and IntKind.i64 i (7 : Int) - (1 : Int))) ∧ (inK IntKind.i64 ((↑q : Int) + (1 : Int))) ∧ (frS9f4 l e i most ((frS9f3 e (((↑q : Int) + (1 : Int) = (↑(q + (1 : Nat)) : Int)) ∧ True))))))))))) (by kernel_rfl)
    ⟨(decide_eq_true (by first | omega | (simp; omega) | (simp; done))),
 (by first | omega | rfl), (frS9f6_mk l e ⟨rfl,
 rfl,
 pushC_y l e most hp hb,
 rfl,
 (fun _ _ _ _ => rfl),
 hpop,
 rfl,
 (fun _ _ _ _ => rfl),
 rfl,
 cutC l i k hk hb, (frS9f5_mk l e i ⟨rfl,
 rfl,
 putC_n l e i hi,
 (decide_eq_true (by first | omega | (simp; omega) | (simp; done))),
 rfl,
 (in64 (by omega) (by omega)),
 (bne_f (by simp)),
 (by have : (l ++ [e]).length = l.length + 1 := List.length_append ..; omega),
 (by have : (l ++ [e]).length = l.length + 1 := List.length_append ..; omega),
 (by rw [ap_get]; simp),
 (by have : (l ++ [e]).length = l.length + 1 := List.length_append ..; omega),
 rfl,
 (fun i hi j hj => ap_take hi j),
 rfl,
 (fun _ _ _ _ => rfl),
 saC l (by omega),
 (decide_eq_true (by first | omega | (simp; omega) | (simp; done))),
 rfl,
 (by first | omega | rfl),
 (by rw [hx0]; simp),
 rfl,
 (fun _ _ _ _ => rfl),
 hrp, (frS9f9_mk R ⟨saC R (by omega),
 (by simp only [mx0, mnI]; omega),
 rfl,
 (fun _ _ _ _ => rfl),
 (by simp only [mx0, mnI, List.length_take]; omega),
 (fun i hi j hj => le_take (k := k) (by simp only [mx0, mnI] at hi; omega) j),
 saC (l.take k) (by rw [List.length_take]; omega),
 (decide_eq_true (by first | omega | (simp; omega) | (simp; done))),
 (decide_eq_false (by first | omega | (simp; omega) | (simp; done))),
 rfl,
 (by first | omega | rfl | (simp; done) | (simp; omega)),
 rfl,
 (fun _ _ _ _ => rfl),
 (Nat.zero_add _),
 (fun _ _ _ _ => rfl),
 saC l (by omega),
 (in64 (by omega) (by omega)),
 (in64 (by omega) (by omega)), (frS9f4_mk l e i most (frS9f3_mk e ⟨(by first | omega | rfl), trivial⟩))⟩)⟩)⟩)⟩
theorem pl_cn_in (l : List En) (e : En) (I : Nat) (most : Int) (q k : Nat) (hq : q < 2) (hb : l.length < 1000000) (hp : ¬ (l.length : Int) < most) (hk : (k : Int) = min (max (I : Int) 0) (l.length : Int)) (h7 : 0 ≤ bits .and .i64 (I : Int) 7 ∧ bits .and .i64 (I : Int) 7 < 8) (x : En) (R : List En) (he : 0 < l.length) (hR : R.length < 1000000) (hx0 : l.getD 0 default = x) (hpop : PureC Try.prog 8 [enR l] (.tup [.agg (enA x), .own 0 0 8 0 R.length, .bool true]) [enB R]) (hrp : PureC Try.prog 13 [enR l] (.own 0 0 8 0 R.length) [enB R])  (hi : I < l.length) : Vc (vcC Try.prog false (ntOf Try.prog 6) (lpC Try.prog 6 0) (pS l e most (I : Int) q) [.bd true, .cl [enR l, .agg (enA e), .int .i64 most] (.tup [.nils, .bool false]) [], .cl [enR l] (.tup [.agg (enA x), .own 0 0 8 0 R.length, .bool true]) [enB R], .cl [enR l, .int .i64 (I : Int)] (.own 0 0 8 0 (l.take k).length) [enB (l.take k)], .cl [enR l, .int .i64 I, .agg (enA e)] (.tup [.own 0 0 8 0 (l.set (I : Int).toNat e).length, .bool true]) [enB (l.set (I : Int).toNat e)], .bd false, .bd false, .bd false, .bd true, .bd false, .bd false, .cl [enR l] (.own 0 0 8 0 R.length) [enB R], .cp [enR R, enR R] (.bool true), .cp [enR (l.take k), enR (l.take k)] (.bool true), .bd true, .bd true, .bd false, .lp [] (pbS l e most I q 0) (.ext 2) (pbS l e most I q l.length), .bd false, .cl [enR l, enR l] (.bool true) []] .nrm [] (pS l e (bits .and .i64 most 7) (bits .and .i64 (I : Int) 7 - 1) (q + 1))) :=
  vc_of (q := (decide ((↑q : Int) < (2 : Int)) = true) ∧ ((0 : Nat) = (0 : Nat) ∧ (0 : Nat) = (0 : Nat) ∧ ((0 : Nat) + List.length l) * (48 : Nat) ≤ (140737488355328 : Nat) ∧ (0 : Nat) + List.length l ≤ (140737488355328 : Nat)) ∧ (frS9f6 l e ((En.ft e = En.ft e) ∧ (most = most) ∧ (PureC Try.prog 7 [enR l, .agg (enA e), .int .i64 most] (.tup [.nils, .bool false]) []) ∧ (List.length l = List.length l) ∧ (∀ (i : Nat), i < List.length l → ∀ (j : Nat), j < (8 : Nat) → rowL enC l i j = rowL enC l i j) ∧ cS9f4 l x R ∧ (List.length l = List.length l) ∧ (∀ (i : Nat), i < List.length l → ∀ (j : Nat), j < (8 : Nat) → rowL enC l i j = rowL enC l i j) ∧ ((↑I : Int) = (↑I : Int)) ∧ (PureC Try.prog 10 [enR l, .int .i64 (I : Int)] (.own 0 0 8 0 (l.take k).length) [enB (l.take k)]) ∧ (frS9f10 l e I ((En.kn e = En.kn e) ∧ (En.ft e = En.ft e) ∧ (PureC Try.prog 11 [enR l, .int .i64 I, .agg (enA e)] (.tup [.own 0 0 8 0 (l.set (I : Int).toNat e).length, .bool true]) [enB (l.set (I : Int).toNat e)]) ∧ (decide ((↑(List.length l) : Int) < most) = false) ∧ ((!false == false) = false) ∧ (((0 : Int) != (0 : Int)) = false) ∧ (decide ((↑(List.length l) : Int) > (0 : Int)) = true) ∧ ((!true == true) = false) ∧ ((0 : Int) ≤ (0 : Int) ∧ (0 : Int) < (↑(List.length l) : Int)) ∧ ((!bif En.pc x == En.pc (List.getD l (0 : Nat) Inhabited.default) then bif En.val x == En.val (List.getD l (0 : Nat) Inhabited.default) then bif En.adr x == En.adr (List.getD l (0 : Nat) Inhabited.default) then bif En.frm x == En.frm (List.getD l (0 : Nat) Inhabited.default) then bif En.nxt x == En.nxt (List.getD l (0 : Nat) Inhabited.default) then bif En.dn x == En.dn (List.getD l (0 : Nat) Inhabited.default) then bif En.kn x == En.kn (List.getD l (0 : Nat) Inhabited.default) then bif En.ft x == En.ft (List.getD l (0 : Nat) Inhabited.default) then true else false else false else false else false else false else false else false else false) = false) ∧ (List.length l = List.length l) ∧ (∀ (i : Nat), i < List.length l → ∀ (j : Nat), j < (8 : Nat) → rowL enC l i j = rowL enC l i j) ∧ cS9f3 l R ∧ (frS9f9 R ((PureC Try.prog 12 [enR R, enR R] (.bool true) []) ∧ (((0 : Int) ≤ if (↑(List.length l) : Int) < if (↑I : Int) < (0 : Int) then (0 : Int) else (↑I : Int) then (↑(List.length l) : Int) else if (↑I : Int) < (0 : Int) then (0 : Int) else (↑I : Int)) ∧ (if (↑(List.length l) : Int) < if (↑I : Int) < (0 : Int) then (0 : Int) else (↑I : Int) then (↑(List.length l) : Int) else if (↑I : Int) < (0 : Int) then (0 : Int) else (↑I : Int)) ≤ (↑(List.length l) : Int)) ∧ (List.length (List.take k l) = List.length (List.take k l)) ∧ (∀ (i : Nat), i < List.length (List.take k l) → ∀ (j : Nat), j < (8 : Nat) → rowL enC (List.take k l) (i + (0 : Nat)) j = rowL enC (List.take k l) i j) ∧ (Int.toNat (if (↑(List.length l) : Int) < if (↑I : Int) < (0 : Int) then (0 : Int) else (↑I : Int) then (↑(List.length l) : Int) else if (↑I : Int) < (0 : Int) then (0 : Int) else (↑I : Int)) = List.length (List.take k l)) ∧ (∀ (i : Nat), i < Int.toNat (if (↑(List.length l) : Int) < if (↑I : Int) < (0 : Int) then (0 : Int) else (↑I : Int) then (↑(List.length l) : Int) else if (↑I : Int) < (0 : Int) then (0 : Int) else (↑I : Int)) → ∀ (j : Nat), j < (8 : Nat) → rowL enC l i j = rowL enC (List.take k l) i j) ∧ (PureC Try.prog 12 [enR (l.take k), enR (l.take k)] (.bool true) []) ∧ (decide ((↑I : Int) ≥ (0 : Int)) = true) ∧ (decide ((↑I : Int) < (↑(List.length l) : Int)) = true) ∧ ((!true == bif true then true else false) = false) ∧ (frS9f1 l e most I ((frS9f8 e q (cS9f0 l ∧ (∀ (i : Nat), i < (0 : Nat) + List.length l → ∀ (j : Nat), j < (8 : Nat) → (bif Nat.blt (i + (0 : Nat)) (0 : Nat) then AV.junk else rowL enC l (i + (0 : Nat) - (0 : Nat)) j) = rowL enC l i j) ∧ (List.length (List.set l I e) = List.length (List.set l I e)) ∧ (∀ (i : Nat), i < List.length (List.set l I e) → ∀ (j : Nat), j < (8 : Nat) → rowL enC (List.set l I e) (i + (0 : Nat)) j = rowL enC (List.set l I e) i j) ∧ ((↑(List.length (List.set l I e)) : Int) = (↑(List.length l) : Int)) ∧ ((0 : Int) = (↑(0 : Nat) : Int)) ∧ (Ok Try.prog (ntOf Try.prog 6) (.loop (lpC Try.prog 6 1)) (pbS l e most I q 0).st (.ext 2) (pbS l e most I q l.length).st) ∧ (((↑(List.length (List.set l I e)) : Int) != (↑(List.length l) : Int)) = false) ∧ (frS9f7 l ((PureC Try.prog 12 [enR l, enR l] (.bool true) []) ∧ (inK IntKind.i64 (Go.bits Go.BinOp.and IntKind.i64 (↑I : Int) (7 : Int) - (1 : Int))) ∧ (inK IntKind.i64 ((↑q : Int) + (1 : Int))) ∧ (List.length l = List.length l) ∧ (∀ (i : Nat), i < List.length l → ∀ (j : Nat), j < (8 : Nat) → rowL enC l i j = rowL enC l i j) ∧ (Go.bits Go.BinOp.and IntKind.i64 most (7 : Int) = Go.bits Go.BinOp.and IntKind.i64 most (7 : Int)) ∧ (Go.bits Go.BinOp.and IntKind.i64 (↑I : Int) (7 : Int) - (1 : Int) = Go.bits Go.BinOp.and IntKind.i64 (↑I : Int) (7 : Int) - (1 : Int)) ∧ (frS9f2 e (((↑q : Int) + (1 : Int) = (↑(q + (1 : Nat)) : Int)) ∧ True))))))))))))))) (by kernel_rfl)
    ⟨(decide_eq_true (by first | omega | (simp; omega) | (simp; done))),
 (by first | omega | rfl), (frS9f6_mk l e ⟨rfl,
 rfl,
 pushC_n l e most hp,
 rfl,
 (fun _ _ _ _ => rfl),
 hpop,
 rfl,
 (fun _ _ _ _ => rfl),
 rfl,
 cutC l (I : Int) k hk hb, (frS9f10_mk l e I ⟨rfl,
 rfl,
 putC_y l e (I : Int) (by omega) (by omega) hb,
 (decide_eq_false (by first | omega | (simp; omega) | (simp; done))),
 rfl,
 (by first | omega | rfl | (simp; done) | (simp; omega)),
 (decide_eq_true (by first | omega | (simp; omega) | (simp; done))),
 rfl,
 (by first | omega | rfl),
 (by rw [hx0]; simp),
 rfl,
 (fun _ _ _ _ => rfl),
 hrp, (frS9f9_mk R ⟨saC R (by omega),
 (by simp only [mx0, mnI]; omega),
 rfl,
 (fun _ _ _ _ => rfl),
 (by simp only [mx0, mnI, List.length_take]; omega),
 (fun i hi j hj => le_take (k := k) (by simp only [mx0, mnI] at hi; omega) j),
 saC (l.take k) (by rw [List.length_take]; omega),
 (decide_eq_true (by first | omega | (simp; omega) | (simp; done))),
 (decide_eq_true (by first | omega | (simp; omega) | (simp; done))),
 rfl, (frS9f1_mk l e most I (frS9f8_mk e q ⟨(Nat.zero_add _),
 (fun _ _ _ _ => rfl),
 rfl,
 (fun _ _ _ _ => rfl),
 (by rw [List.length_set]),
 (by first | omega | rfl),
 pb_loop l e most I q hb,
 (bne_f (by rw [List.length_set])), (frS9f7_mk l ⟨saC l (by omega),
 (in64 (by omega) (by omega)),
 (in64 (by omega) (by omega)),
 rfl,
 (fun _ _ _ _ => rfl),
 rfl,
 rfl, (frS9f2_mk e ⟨(by first | omega | rfl), trivial⟩)⟩)⟩))⟩)⟩)⟩)⟩
theorem pl_cn_neg (l : List En) (e : En) (i : Int) (most : Int) (q k : Nat) (hq : q < 2) (hb : l.length < 1000000) (hp : ¬ (l.length : Int) < most) (hk : (k : Int) = min (max i 0) (l.length : Int)) (h7 : 0 ≤ bits .and .i64 i 7 ∧ bits .and .i64 i 7 < 8) (x : En) (R : List En) (he : 0 < l.length) (hR : R.length < 1000000) (hx0 : l.getD 0 default = x) (hpop : PureC Try.prog 8 [enR l] (.tup [.agg (enA x), .own 0 0 8 0 R.length, .bool true]) [enB R]) (hrp : PureC Try.prog 13 [enR l] (.own 0 0 8 0 R.length) [enB R])  (hi : ¬ (0 ≤ i ∧ i < l.length)) (hs : i < 0) : Vc (vcC Try.prog false (ntOf Try.prog 6) (lpC Try.prog 6 0) (pS l e most i q) [.bd true, .cl [enR l, .agg (enA e), .int .i64 most] (.tup [.nils, .bool false]) [], .cl [enR l] (.tup [.agg (enA x), .own 0 0 8 0 R.length, .bool true]) [enB R], .cl [enR l, .int .i64 i] (.own 0 0 8 0 (l.take k).length) [enB (l.take k)], .cl [enR l, .int .i64 i, .agg (enA e)] (.tup [.nils, .bool false]) [], .bd false, .bd false, .bd false, .bd true, .bd false, .bd false, .cl [enR l] (.own 0 0 8 0 R.length) [enB R], .cp [enR R, enR R] (.bool true), .cp [enR (l.take k), enR (l.take k)] (.bool true), .bd false, .bd false, .bd false, .cl [enR l, enR l] (.bool true) []] .nrm [] (pS l e (bits .and .i64 most 7) (bits .and .i64 i 7 - 1) (q + 1))) :=
  vc_of (q := (decide ((↑q : Int) < (2 : Int)) = true) ∧ ((0 : Nat) = (0 : Nat) ∧ (0 : Nat) = (0 : Nat) ∧ ((0 : Nat) + List.length l) * (48 : Nat) ≤ (140737488355328 : Nat) ∧ (0 : Nat) + List.length l ≤ (140737488355328 : Nat)) ∧ (frS9f6 l e ((En.ft e = En.ft e) ∧ (most = most) ∧ (PureC Try.prog 7 [enR l, .agg (enA e), .int .i64 most] (.tup [.nils, .bool false]) []) ∧ (List.length l = List.length l) ∧ (∀ (i : Nat), i < List.length l → ∀ (j : Nat), j < (8 : Nat) → rowL enC l i j = rowL enC l i j) ∧ cS9f4 l x R ∧ (List.length l = List.length l) ∧ (∀ (i : Nat), i < List.length l → ∀ (j : Nat), j < (8 : Nat) → rowL enC l i j = rowL enC l i j) ∧ (i = i) ∧ cS9f2 l i k ∧ (frS9f5 l e i ((En.kn e = En.kn e) ∧ (En.ft e = En.ft e) ∧ cS9f1 l e i ∧ (decide ((↑(List.length l) : Int) < most) = false) ∧ ((!false == false) = false) ∧ (((0 : Int) != (0 : Int)) = false) ∧ (decide ((↑(List.length l) : Int) > (0 : Int)) = true) ∧ ((!true == true) = false) ∧ ((0 : Int) ≤ (0 : Int) ∧ (0 : Int) < (↑(List.length l) : Int)) ∧ ((!bif En.pc x == En.pc (List.getD l (0 : Nat) Inhabited.default) then bif En.val x == En.val (List.getD l (0 : Nat) Inhabited.default) then bif En.adr x == En.adr (List.getD l (0 : Nat) Inhabited.default) then bif En.frm x == En.frm (List.getD l (0 : Nat) Inhabited.default) then bif En.nxt x == En.nxt (List.getD l (0 : Nat) Inhabited.default) then bif En.dn x == En.dn (List.getD l (0 : Nat) Inhabited.default) then bif En.kn x == En.kn (List.getD l (0 : Nat) Inhabited.default) then bif En.ft x == En.ft (List.getD l (0 : Nat) Inhabited.default) then true else false else false else false else false else false else false else false else false) = false) ∧ (List.length l = List.length l) ∧ (∀ (i : Nat), i < List.length l → ∀ (j : Nat), j < (8 : Nat) → rowL enC l i j = rowL enC l i j) ∧ cS9f3 l R ∧ (frS9f9 R ((PureC Try.prog 12 [enR R, enR R] (.bool true) []) ∧ (((0 : Int) ≤ if (↑(List.length l) : Int) < if i < (0 : Int) then (0 : Int) else i then (↑(List.length l) : Int) else if i < (0 : Int) then (0 : Int) else i) ∧ (if (↑(List.length l) : Int) < if i < (0 : Int) then (0 : Int) else i then (↑(List.length l) : Int) else if i < (0 : Int) then (0 : Int) else i) ≤ (↑(List.length l) : Int)) ∧ (List.length (List.take k l) = List.length (List.take k l)) ∧ (∀ (i : Nat), i < List.length (List.take k l) → ∀ (j : Nat), j < (8 : Nat) → rowL enC (List.take k l) (i + (0 : Nat)) j = rowL enC (List.take k l) i j) ∧ (Int.toNat (if (↑(List.length l) : Int) < if i < (0 : Int) then (0 : Int) else i then (↑(List.length l) : Int) else if i < (0 : Int) then (0 : Int) else i) = List.length (List.take k l)) ∧ (∀ (i_1 : Nat), i_1 < Int.toNat (if (↑(List.length l) : Int) < if i < (0 : Int) then (0 : Int) else i then (↑(List.length l) : Int) else if i < (0 : Int) then (0 : Int) else i) → ∀ (j : Nat), j < (8 : Nat) → rowL enC l i_1 j = rowL enC (List.take k l) i_1 j) ∧ (PureC Try.prog 12 [enR (l.take k), enR (l.take k)] (.bool true) []) ∧ (decide (i ≥ (0 : Int)) = false) ∧ ((!false == false) = false) ∧ (((0 : Int) != (0 : Int)) = false) ∧ (List.length l = List.length l) ∧ (∀ (i : Nat), i < List.length l → ∀ (j : Nat), j < (8 : Nat) → rowL enC l i j = rowL enC l i j) ∧ cS9f0 l ∧ (∀ (i : Nat), i < (0 : Nat) + List.length l → ∀ (j : Nat), j < (8 : Nat) → (bif Nat.blt (i + (0 : Nat)) (0 : Nat) then AV.junk else rowL enC l (i + (0 : Nat) - (0 : Nat)) j) = rowL enC l i j) ∧ (PureC Try.prog 12 [enR l, enR l] (.bool true) []) ∧ (inK IntKind.i64 (Go.bits Go.BinOp.and IntKind.i64 i (7 : Int) - (1 : Int))) ∧ (inK IntKind.i64 ((↑q : Int) + (1 : Int))) ∧ (frS9f4 l e i most ((frS9f3 e (((↑q : Int) + (1 : Int) = (↑(q + (1 : Nat)) : Int)) ∧ True))))))))))) (by kernel_rfl)
    ⟨(decide_eq_true (by first | omega | (simp; omega) | (simp; done))),
 (by first | omega | rfl), (frS9f6_mk l e ⟨rfl,
 rfl,
 pushC_n l e most hp,
 rfl,
 (fun _ _ _ _ => rfl),
 hpop,
 rfl,
 (fun _ _ _ _ => rfl),
 rfl,
 cutC l i k hk hb, (frS9f5_mk l e i ⟨rfl,
 rfl,
 putC_n l e i hi,
 (decide_eq_false (by first | omega | (simp; omega) | (simp; done))),
 rfl,
 (by first | omega | rfl | (simp; done) | (simp; omega)),
 (decide_eq_true (by first | omega | (simp; omega) | (simp; done))),
 rfl,
 (by first | omega | rfl),
 (by rw [hx0]; simp),
 rfl,
 (fun _ _ _ _ => rfl),
 hrp, (frS9f9_mk R ⟨saC R (by omega),
 (by simp only [mx0, mnI]; omega),
 rfl,
 (fun _ _ _ _ => rfl),
 (by simp only [mx0, mnI, List.length_take]; omega),
 (fun i hi j hj => le_take (k := k) (by simp only [mx0, mnI] at hi; omega) j),
 saC (l.take k) (by rw [List.length_take]; omega),
 (decide_eq_false (by first | omega | (simp; omega) | (simp; done))),
 rfl,
 (by first | omega | rfl | (simp; done) | (simp; omega)),
 rfl,
 (fun _ _ _ _ => rfl),
 (Nat.zero_add _),
 (fun _ _ _ _ => rfl),
 saC l (by omega),
 (in64 (by omega) (by omega)),
 (in64 (by omega) (by omega)), (frS9f4_mk l e i most (frS9f3_mk e ⟨(by first | omega | rfl), trivial⟩))⟩)⟩)⟩)⟩
theorem pl_cn_out (l : List En) (e : En) (i : Int) (most : Int) (q k : Nat) (hq : q < 2) (hb : l.length < 1000000) (hp : ¬ (l.length : Int) < most) (hk : (k : Int) = min (max i 0) (l.length : Int)) (h7 : 0 ≤ bits .and .i64 i 7 ∧ bits .and .i64 i 7 < 8) (x : En) (R : List En) (he : 0 < l.length) (hR : R.length < 1000000) (hx0 : l.getD 0 default = x) (hpop : PureC Try.prog 8 [enR l] (.tup [.agg (enA x), .own 0 0 8 0 R.length, .bool true]) [enB R]) (hrp : PureC Try.prog 13 [enR l] (.own 0 0 8 0 R.length) [enB R])  (hi : ¬ (0 ≤ i ∧ i < l.length)) (hs : 0 ≤ i) : Vc (vcC Try.prog false (ntOf Try.prog 6) (lpC Try.prog 6 0) (pS l e most i q) [.bd true, .cl [enR l, .agg (enA e), .int .i64 most] (.tup [.nils, .bool false]) [], .cl [enR l] (.tup [.agg (enA x), .own 0 0 8 0 R.length, .bool true]) [enB R], .cl [enR l, .int .i64 i] (.own 0 0 8 0 (l.take k).length) [enB (l.take k)], .cl [enR l, .int .i64 i, .agg (enA e)] (.tup [.nils, .bool false]) [], .bd false, .bd false, .bd false, .bd true, .bd false, .bd false, .cl [enR l] (.own 0 0 8 0 R.length) [enB R], .cp [enR R, enR R] (.bool true), .cp [enR (l.take k), enR (l.take k)] (.bool true), .bd true, .bd false, .bd false, .bd false, .cl [enR l, enR l] (.bool true) []] .nrm [] (pS l e (bits .and .i64 most 7) (bits .and .i64 i 7 - 1) (q + 1))) :=
  vc_of (q := (decide ((↑q : Int) < (2 : Int)) = true) ∧ ((0 : Nat) = (0 : Nat) ∧ (0 : Nat) = (0 : Nat) ∧ ((0 : Nat) + List.length l) * (48 : Nat) ≤ (140737488355328 : Nat) ∧ (0 : Nat) + List.length l ≤ (140737488355328 : Nat)) ∧ (frS9f6 l e ((En.ft e = En.ft e) ∧ (most = most) ∧ (PureC Try.prog 7 [enR l, .agg (enA e), .int .i64 most] (.tup [.nils, .bool false]) []) ∧ (List.length l = List.length l) ∧ (∀ (i : Nat), i < List.length l → ∀ (j : Nat), j < (8 : Nat) → rowL enC l i j = rowL enC l i j) ∧ cS9f4 l x R ∧ (List.length l = List.length l) ∧ (∀ (i : Nat), i < List.length l → ∀ (j : Nat), j < (8 : Nat) → rowL enC l i j = rowL enC l i j) ∧ (i = i) ∧ cS9f2 l i k ∧ (frS9f5 l e i ((En.kn e = En.kn e) ∧ (En.ft e = En.ft e) ∧ cS9f1 l e i ∧ (decide ((↑(List.length l) : Int) < most) = false) ∧ ((!false == false) = false) ∧ (((0 : Int) != (0 : Int)) = false) ∧ (decide ((↑(List.length l) : Int) > (0 : Int)) = true) ∧ ((!true == true) = false) ∧ ((0 : Int) ≤ (0 : Int) ∧ (0 : Int) < (↑(List.length l) : Int)) ∧ ((!bif En.pc x == En.pc (List.getD l (0 : Nat) Inhabited.default) then bif En.val x == En.val (List.getD l (0 : Nat) Inhabited.default) then bif En.adr x == En.adr (List.getD l (0 : Nat) Inhabited.default) then bif En.frm x == En.frm (List.getD l (0 : Nat) Inhabited.default) then bif En.nxt x == En.nxt (List.getD l (0 : Nat) Inhabited.default) then bif En.dn x == En.dn (List.getD l (0 : Nat) Inhabited.default) then bif En.kn x == En.kn (List.getD l (0 : Nat) Inhabited.default) then bif En.ft x == En.ft (List.getD l (0 : Nat) Inhabited.default) then true else false else false else false else false else false else false else false else false) = false) ∧ (List.length l = List.length l) ∧ (∀ (i : Nat), i < List.length l → ∀ (j : Nat), j < (8 : Nat) → rowL enC l i j = rowL enC l i j) ∧ cS9f3 l R ∧ (frS9f9 R ((PureC Try.prog 12 [enR R, enR R] (.bool true) []) ∧ (((0 : Int) ≤ if (↑(List.length l) : Int) < if i < (0 : Int) then (0 : Int) else i then (↑(List.length l) : Int) else if i < (0 : Int) then (0 : Int) else i) ∧ (if (↑(List.length l) : Int) < if i < (0 : Int) then (0 : Int) else i then (↑(List.length l) : Int) else if i < (0 : Int) then (0 : Int) else i) ≤ (↑(List.length l) : Int)) ∧ (List.length (List.take k l) = List.length (List.take k l)) ∧ (∀ (i : Nat), i < List.length (List.take k l) → ∀ (j : Nat), j < (8 : Nat) → rowL enC (List.take k l) (i + (0 : Nat)) j = rowL enC (List.take k l) i j) ∧ (Int.toNat (if (↑(List.length l) : Int) < if i < (0 : Int) then (0 : Int) else i then (↑(List.length l) : Int) else if i < (0 : Int) then (0 : Int) else i) = List.length (List.take k l)) ∧ (∀ (i_1 : Nat), i_1 < Int.toNat (if (↑(List.length l) : Int) < if i < (0 : Int) then (0 : Int) else i then (↑(List.length l) : Int) else if i < (0 : Int) then (0 : Int) else i) → ∀ (j : Nat), j < (8 : Nat) → rowL enC l i_1 j = rowL enC (List.take k l) i_1 j) ∧ (PureC Try.prog 12 [enR (l.take k), enR (l.take k)] (.bool true) []) ∧ (decide (i ≥ (0 : Int)) = true) ∧ (decide (i < (↑(List.length l) : Int)) = false) ∧ ((!false == bif true then false else false) = false) ∧ (((0 : Int) != (0 : Int)) = false) ∧ (List.length l = List.length l) ∧ (∀ (i : Nat), i < List.length l → ∀ (j : Nat), j < (8 : Nat) → rowL enC l i j = rowL enC l i j) ∧ cS9f0 l ∧ (∀ (i : Nat), i < (0 : Nat) + List.length l → ∀ (j : Nat), j < (8 : Nat) → (bif Nat.blt (i + (0 : Nat)) (0 : Nat) then AV.junk else rowL enC l (i + (0 : Nat) - (0 : Nat)) j) = rowL enC l i j) ∧ (PureC Try.prog 12 [enR l, enR l] (.bool true) []) ∧ (inK IntKind.i64 (Go.bits Go.BinOp.and IntKind.i64 i (7 : Int) - (1 : Int))) ∧ (inK IntKind.i64 ((↑q : Int) + (1 : Int))) ∧ (frS9f4 l e i most ((frS9f3 e (((↑q : Int) + (1 : Int) = (↑(q + (1 : Nat)) : Int)) ∧ True))))))))))) (by kernel_rfl)
    ⟨(decide_eq_true (by first | omega | (simp; omega) | (simp; done))),
 (by first | omega | rfl), (frS9f6_mk l e ⟨rfl,
 rfl,
 pushC_n l e most hp,
 rfl,
 (fun _ _ _ _ => rfl),
 hpop,
 rfl,
 (fun _ _ _ _ => rfl),
 rfl,
 cutC l i k hk hb, (frS9f5_mk l e i ⟨rfl,
 rfl,
 putC_n l e i hi,
 (decide_eq_false (by first | omega | (simp; omega) | (simp; done))),
 rfl,
 (by first | omega | rfl | (simp; done) | (simp; omega)),
 (decide_eq_true (by first | omega | (simp; omega) | (simp; done))),
 rfl,
 (by first | omega | rfl),
 (by rw [hx0]; simp),
 rfl,
 (fun _ _ _ _ => rfl),
 hrp, (frS9f9_mk R ⟨saC R (by omega),
 (by simp only [mx0, mnI]; omega),
 rfl,
 (fun _ _ _ _ => rfl),
 (by simp only [mx0, mnI, List.length_take]; omega),
 (fun i hi j hj => le_take (k := k) (by simp only [mx0, mnI] at hi; omega) j),
 saC (l.take k) (by rw [List.length_take]; omega),
 (decide_eq_true (by first | omega | (simp; omega) | (simp; done))),
 (decide_eq_false (by first | omega | (simp; omega) | (simp; done))),
 rfl,
 (by first | omega | rfl | (simp; done) | (simp; omega)),
 rfl,
 (fun _ _ _ _ => rfl),
 (Nat.zero_add _),
 (fun _ _ _ _ => rfl),
 saC l (by omega),
 (in64 (by omega) (by omega)),
 (in64 (by omega) (by omega)), (frS9f4_mk l e i most (frS9f3_mk e ⟨(by first | omega | rfl), trivial⟩))⟩)⟩)⟩)⟩
def frS9f11 (l : List En) (e : En) (most : Int) (i : Int) (Z : Prop) : Prop := (List.length l = List.length l) ∧ (∀ (i : Nat), i < List.length l → ∀ (j : Nat), j < (8 : Nat) → rowL enC l i j = rowL enC l i j) ∧ (most = most) ∧ (i = i) ∧ (En.pc e = En.pc e) ∧ (En.val e = En.val e) ∧ (En.adr e = En.adr e) ∧ (En.frm e = En.frm e) ∧ (En.nxt e = En.nxt e) ∧ Z
theorem frS9f11_mk (l : List En) (e : En) (most : Int) (i : Int) {Z : Prop} (z : Z) : frS9f11 l e most i Z := ⟨rfl, (fun _ _ _ _ => rfl), rfl, rfl, rfl, rfl, rfl, rfl, rfl, z⟩
theorem pl_end (l : List En) (e : En) (most i : Int) : Vc (vcC Try.prog false (ntOf Try.prog 6) (lpC Try.prog 6 0) (pS l e most i 2) [.b false] (.ext 0) [] (pS l e most i 2)) :=
  vc_of (q := (decide ((↑(2 : Nat) : Int) < (2 : Int)) = false) ∧ (frS9f11 l e most i ((frS9f3 e (((↑(2 : Nat) : Int) = (↑(2 : Nat) : Int)) ∧ True))))) (by kernel_rfl)
    ⟨(decide_eq_false (by first | omega | (simp; omega) | (simp; done))), (frS9f11_mk l e most i (frS9f3_mk e ⟨rfl, trivial⟩))⟩
def moQ (most : Int) : Nat → Int
  | 0 => most
  | q + 1 => bits .and .i64 (moQ most q) 7
def iiQ (i : Int) : Nat → Int
  | 0 => i
  | q + 1 => bits .and .i64 (iiQ i q) 7 - 1
theorem and7 (n : Int) : 0 ≤ bits .and .i64 n 7 ∧ bits .and .i64 n 7 < 8 := by
  have h := Wd.bits_mask n 3 (by omega)
  have h2 : bits .and .i64 n 7 = n % 8 := h
  rw [h2]; omega
theorem pl_body (l : List En) (e : En) (most i : Int) (q : Nat) (hq : q < 2) (hl : l.length ≤ 40) (h64 : ∀ y ∈ l, y.frm ≤ 9223372036854775807) : Ok Try.prog (ntOf Try.prog 6) (lpC Try.prog 6 0) (pS l e most i q).st .nrm (pS l e (bits .and .i64 most 7) (bits .and .i64 i 7 - 1) (q + 1)).st := by
  have hb : l.length < 1000000 := by omega
  have h7 := and7 i
  obtain ⟨k, hk⟩ : ∃ k : Nat, (k : Int) = min (max i 0) (l.length : Int) := ⟨(min (max i 0) (l.length : Int)).toNat, by omega⟩
  cases l with
  | nil =>
    have he : ([] : List En).length = 0 := rfl
    have hi : ¬ (0 ≤ i ∧ i < (([] : List En).length : Int)) := by rw [he]; omega
    by_cases hp : (([] : List En).length : Int) < most
    · by_cases hs : i < 0
      · exact Ok.vc (pl_ey_neg [] e i most q k hq hb hp hk h7 he popC_n hi hs)
      · exact Ok.vc (pl_ey_out [] e i most q k hq hb hp hk h7 he popC_n hi (by omega))
    · by_cases hs : i < 0
      · exact Ok.vc (pl_en_neg [] e i most q k hq hb hp hk h7 he popC_n hi hs)
      · exact Ok.vc (pl_en_out [] e i most q k hq hb hp hk h7 he popC_n hi (by omega))
  | cons x r =>
    have he : 0 < (x :: r).length := by rw [List.length_cons]; omega
    have h64 : ∀ y ∈ r, y.frm ≤ 9223372036854775807 := fun y hy => h64 y (List.mem_cons_of_mem _ hy)
    by_cases hp : ((x :: r).length : Int) < most
    · by_cases hs : i < 0
      · have hi : ¬ (0 ≤ i ∧ i < ((x :: r).length : Int)) := by omega
        exact Ok.vc (pl_cy_neg (x :: r) e i most q k hq hb hp hk h7 _ (r.map En.mv) he (by rw [List.length_map]; rw [List.length_cons] at hl; omega) rfl (popC x r (by rw [List.length_cons] at hl; omega) h64) (rpopC x r (by rw [List.length_cons] at hl; omega) h64) hi hs)
      · by_cases hi : i < ((x :: r).length : Int)
        · obtain ⟨I, rfl⟩ : ∃ I : Nat, i = (I : Int) := ⟨i.toNat, by omega⟩
          exact Ok.vc (pl_cy_in (x :: r) e I most q k hq hb hp hk h7 _ (r.map En.mv) he (by rw [List.length_map]; rw [List.length_cons] at hl; omega) rfl (popC x r (by rw [List.length_cons] at hl; omega) h64) (rpopC x r (by rw [List.length_cons] at hl; omega) h64) (by omega))
        · exact Ok.vc (pl_cy_out (x :: r) e i most q k hq hb hp hk h7 _ (r.map En.mv) he (by rw [List.length_map]; rw [List.length_cons] at hl; omega) rfl (popC x r (by rw [List.length_cons] at hl; omega) h64) (rpopC x r (by rw [List.length_cons] at hl; omega) h64) (by omega) (by omega))
    · by_cases hs : i < 0
      · have hi : ¬ (0 ≤ i ∧ i < ((x :: r).length : Int)) := by omega
        exact Ok.vc (pl_cn_neg (x :: r) e i most q k hq hb hp hk h7 _ (r.map En.mv) he (by rw [List.length_map]; rw [List.length_cons] at hl; omega) rfl (popC x r (by rw [List.length_cons] at hl; omega) h64) (rpopC x r (by rw [List.length_cons] at hl; omega) h64) hi hs)
      · by_cases hi : i < ((x :: r).length : Int)
        · obtain ⟨I, rfl⟩ : ∃ I : Nat, i = (I : Int) := ⟨i.toNat, by omega⟩
          exact Ok.vc (pl_cn_in (x :: r) e I most q k hq hb hp hk h7 _ (r.map En.mv) he (by rw [List.length_map]; rw [List.length_cons] at hl; omega) rfl (popC x r (by rw [List.length_cons] at hl; omega) h64) (rpopC x r (by rw [List.length_cons] at hl; omega) h64) (by omega))
        · exact Ok.vc (pl_cn_out (x :: r) e i most q k hq hb hp hk h7 _ (r.map En.mv) he (by rw [List.length_map]; rw [List.length_cons] at hl; omega) rfl (popC x r (by rw [List.length_cons] at hl; omega) h64) (rpopC x r (by rw [List.length_cons] at hl; omega) h64) (by omega) (by omega))
theorem pl_loop (l : List En) (e : En) (most i : Int) (hl : l.length ≤ 40) (h64 : ∀ y ∈ l, y.frm ≤ 9223372036854775807) : Ok Try.prog (ntOf Try.prog 6) (.loop (lpC Try.prog 6 0)) (pS l e most i 0).st (.ext 0) (pS l e (moQ most 2) (iiQ i 2) 2).st :=
  Ok.loop (P := Try.prog) (nt := ntOf Try.prog 6) (c := lpC Try.prog 6 0) (F := fun q => pS l e (moQ most q) (iiQ i q) q) (m := 2) (x := .ext 0) (J := pS l e (moQ most 2) (iiQ i 2) 2) (fun q hq => pl_body l e _ _ q hq hl h64) (Ok.vc (pl_end l e _ _)) (by simp)
theorem plays_big (l : List En) (e : En) (most i : Int) (hl : 40 < l.length) : Vc (vcFn Try.prog false 6 [enR l, .agg (enA e), .int .i64 most, .int .i64 i] [.fz, .bd true, .cl [] (.bool true) []] [] (.bool true) []) :=
  vc_of (q := (decide ((↑(List.length l) : Int) > (40 : Int)) = true) ∧ (PureC Try.prog 9 [] (.bool true) []) ∧ (true = true) ∧ True) (by kernel_rfl)
    ⟨(decide_eq_true (by first | omega | (simp; omega) | (simp; done))),
 awakeC9,
 rfl, trivial⟩
theorem plays_vc (l : List En) (e : En) (most i m2 i2 : Int) (hl : ¬ 40 < l.length) (hlp : Ok Try.prog (ntOf Try.prog 6) (.loop (lpC Try.prog 6 0)) (pS l e most i 0).st (.ext 0) (pS l e m2 i2 2).st) : Vc (vcFn Try.prog false 6 [enR l, .agg (enA e), .int .i64 most, .int .i64 i] [.fz, .bd false, .lp [] (pS l e most i 0) (.ext 0) (pS l e m2 i2 2), .cl [] (.bool true) []] [] (.bool true) []) :=
  vc_of (q := (decide ((↑(List.length l) : Int) > (40 : Int)) = false) ∧ (frS9f11 l e most i ((frS9f3 e (((0 : Int) = (↑(0 : Nat) : Int)) ∧ (Ok Try.prog (ntOf Try.prog 6) (.loop (lpC Try.prog 6 0)) (pS l e most i 0).st (.ext 0) (pS l e m2 i2 2).st) ∧ (PureC Try.prog 9 [] (.bool true) []) ∧ (true = true) ∧ True))))) (by kernel_rfl)
    ⟨(decide_eq_false (by first | omega | (simp; omega) | (simp; done))), (frS9f11_mk l e most i (frS9f3_mk e ⟨(by first | omega | rfl),
 hlp,
 awakeC9,
 rfl, trivial⟩))⟩
theorem robqPlaysC (l : List En) (e : En) (most i : Int) (h64 : ∀ y ∈ l, y.frm ≤ 9223372036854775807) : PureC Try.prog 6 [enR l, .agg (enA e), .int .i64 most, .int .i64 i] (.bool true) [] := by
  by_cases hl : 40 < l.length
  · exact PureC.vc (plays_big l e most i hl)
  · exact PureC.vc (plays_vc l e most i _ _ hl (pl_loop l e most i (by omega) h64))
theorem walk_RobqPlays (A0 : Option Addr) (c0 : Nat) (z0 : List En) (v1 : Value) (x1 : En) (a2 a3 : Int) (W : World) (hr0 : RepP W (fun g => g < W.heap.size) (enR z0) (.slice A0 z0.length c0)) (he0 : ∀ x ∈ z0, En64 x) (hr1 : RepP W (fun g => g < W.heap.size) (.agg (enA x1)) v1) : Calls Try.prog 6 #[.slice A0 z0.length c0, v1, .int .i64 a2, .int .i64 a3] W (RetB (.bool true) W) :=
  (robqPlaysC z0 x1 a2 a3 (fun y hy => (he0 y hy).frm.2)).lawB (R := fun g => g < W.heap.size) (fun _ h => h) rfl (fun j x v hx hv => match j, hx, hv with
    | 0, rfl, rfl => hr0
    | 1, rfl, rfl => hr1
    | 2, rfl, rfl => .int _ _
    | 3, rfl, rfl => .int _ _)
end
end Go.Proofs.Ytffghllcgoibdaa.Px
namespace Go.Proofs.Ytffghllcgoibdaa.Px
section
open Go.RowKit Go.Proofs.Ytffghllcgoibdaa.Rx
def En.inc (e : En) : En := { e with val := IntKind.i64.wrap (e.val + 1) }
def inF (r : List En) (k i j : Nat) : AV := bif Nat.blt i k then enC (r.getD i default).inc j else enC (r.getD i default) j
def oBx (a b c d : Nat) : Blk := ⟨0, false, 23, .box [.own 0 0 8 0 a, .own 1 0 8 0 b, .own 2 0 8 0 c, .own 3 0 8 0 d]⟩
def rwB (n : Nat) (g : Nat → Nat → AV) : Blk := ⟨0, false, 27, .rows 8 n g⟩
/-- four rows side by side; one is gone through -/
def oS (l : List En) (a b c d : List En) (ga gb gc gd : Nat → Nat → AV) (x : AV) (j n k : Nat) : Sm := ⟨[(0, enR l), (4, .bool false), (5, enR l), (8, .own 1 0 8 0 b.length), (15, x), (62, .bsl 4 1 4), (63, .int .i64 4), (64, .int .i64 j), (69, .int .i64 n), (70, .int .i64 k)], [(0, rwB a.length ga), (1, rwB b.length gb), (2, rwB c.length gc), (3, rwB d.length gd), (4, oBx a.length b.length c.length d.length)], 5⟩
def eqS (l : List En) (k : Nat) : Sm := ⟨[(0, enR l), (4, .bool false), (5, enR l), (88, .int .i64 l.length), (89, .int .i64 k)], [], 0⟩
theorem inF_ld (r : List En) (k j : Nat) : inF r k k j = enC (r.getD k default) j := by
  unfold inF; rw [blt_f (Nat.lt_irrefl k)]; rfl
theorem inF_st {r : List En} {k : Nat} : ∀ i, i < r.length → ∀ j, j < 8 → (bif Nat.beq i k && Nat.ble 1 j && Nat.blt j (1 + 1) then [AV.int .i64 (IntKind.i64.wrap ((r.getD k default).val + 1))].getD (j - 1) .junk else inF r k i j) = inF r (k + 1) i j := by
  intro i hi j hj
  by_cases hik : i = k
  · subst hik
    rw [Nat.beq_refl]
    unfold inF
    rw [blt_f (Nat.lt_irrefl i), blt_t (Nat.lt_succ_self i)]
    match j, hj with
    | 0, _ => rfl
    | 1, _ => rfl
    | 2, _ => rfl
    | 3, _ => rfl
    | 4, _ => rfl
    | 5, _ => rfl
    | 6, _ => rfl
    | 7, _ => rfl
  · have h1 : Nat.beq i k = false := by
      cases hb : Nat.beq i k with
      | false => rfl
      | true => exact absurd (Nat.eq_of_beq_eq_true hb) hik
    rw [h1]
    show inF r k i j = _
    unfold inF
    by_cases hlt : i < k
    · rw [blt_t hlt, blt_t (by omega)]
    · rw [blt_f hlt, blt_f (by omega)]
theorem ow_a (l a b c d : List En) (gb gc gd : Nat → Nat → AV) (j k : Nat) (hk : k < a.length) (hb : a.length < 1000000) : Vc (vcC Try.prog false (ntOf Try.prog 4) (lpC Try.prog 4 1) (oS l a b c d (inF a k) gb gc gd (.own 0 0 8 0 a.length) j a.length k) [.bd true, .lv (.int .i64 (a.getD k default).val), .ov] .nrm [(0, 0), (1, 1), (2, 2), (3, 3), (4, 4)] (oS l a b c d (inF a (k + 1)) gb gc gd (.own 0 0 8 0 a.length) j a.length (k + 1))) :=
  vc_of (q := (decide ((↑k : Int) < (↑(List.length a) : Int)) = true) ∧ ((0 : Int) ≤ (↑k : Int) ∧ (↑k : Int) < (↑(List.length a) : Int)) ∧ (Option.some (inF a k (k + (0 : Nat)) (1 : Nat)) = Option.some (AV.int IntKind.i64 (En.val (List.getD a k Inhabited.default)))) ∧ (k + (0 : Nat) < List.length a) ∧ ((0 : Int) ≤ (↑k : Int) ∧ (↑k : Int) < (↑(List.length a) : Int)) ∧ (k + (0 : Nat) < List.length a) ∧ (inK IntKind.i64 ((↑k : Int) + (1 : Int))) ∧ (List.length a = List.length a) ∧ (∀ (i : Nat), i < List.length a → ∀ (j : Nat), j < (8 : Nat) → (bif Nat.beq i (k + (0 : Nat)) && Nat.ble (1 : Nat) j && Nat.blt j (2 : Nat) then List.getD [AV.int IntKind.i64 (IntKind.wrap IntKind.i64 (En.val (List.getD a k Inhabited.default) + (1 : Int)))] (j - (1 : Nat)) AV.junk else inF a k i j) = inF a (k + (1 : Nat)) i j) ∧ (List.length b = List.length b) ∧ (∀ (i : Nat), i < List.length b → ∀ (j : Nat), j < (8 : Nat) → gb i j = gb i j) ∧ (List.length c = List.length c) ∧ (∀ (i : Nat), i < List.length c → ∀ (j : Nat), j < (8 : Nat) → gc i j = gc i j) ∧ (List.length d = List.length d) ∧ (∀ (i : Nat), i < List.length d → ∀ (j : Nat), j < (8 : Nat) → gd i j = gd i j) ∧ ((0 : Nat) = (0 : Nat)) ∧ (List.length a = List.length a) ∧ ((0 : Nat) = (0 : Nat)) ∧ (List.length b = List.length b) ∧ ((0 : Nat) = (0 : Nat)) ∧ (List.length c = List.length c) ∧ ((0 : Nat) = (0 : Nat)) ∧ (List.length d = List.length d) ∧ (List.length l = List.length l) ∧ (∀ (i : Nat), i < List.length l → ∀ (j : Nat), j < (8 : Nat) → rowL enC l i j = rowL enC l i j) ∧ (false = false) ∧ (List.length l = List.length l) ∧ (∀ (i : Nat), i < List.length l → ∀ (j : Nat), j < (8 : Nat) → rowL enC l i j = rowL enC l i j) ∧ ((0 : Nat) = (0 : Nat)) ∧ (List.length b = List.length b) ∧ ((0 : Nat) = (0 : Nat)) ∧ (List.length a = List.length a) ∧ ((4 : Int) = (4 : Int)) ∧ ((↑j : Int) = (↑j : Int)) ∧ ((↑(List.length a) : Int) = (↑(List.length a) : Int)) ∧ ((↑k : Int) + (1 : Int) = (↑(k + (1 : Nat)) : Int)) ∧ True) (by kernel_rfl)
    ⟨(decide_eq_true (by first | omega | (simp; omega) | (simp; done))),
 (by first | omega | rfl),
 (congrArg some (inF_ld a k 1)),
 (by first | omega | rfl),
 (by first | omega | rfl),
 (by first | omega | rfl),
 (in64 (by omega) (by omega)),
 rfl,
 (inF_st (r := a) (k := k)),
 rfl,
 (fun _ _ _ _ => rfl),
 rfl,
 (fun _ _ _ _ => rfl),
 rfl,
 (fun _ _ _ _ => rfl),
 rfl,
 rfl,
 rfl,
 rfl,
 rfl,
 rfl,
 rfl,
 rfl,
 rfl,
 (fun _ _ _ _ => rfl),
 rfl,
 rfl,
 (fun _ _ _ _ => rfl),
 rfl,
 rfl,
 rfl,
 rfl,
 rfl,
 rfl,
 rfl,
 (by first | omega | rfl), trivial⟩
def frS9g0 (l : List En) (a : List En) (b : List En) (c : List En) (d : List En) (Z : Prop) : Prop := (List.length a = List.length a) ∧ ((0 : Nat) = (0 : Nat)) ∧ (List.length b = List.length b) ∧ ((0 : Nat) = (0 : Nat)) ∧ (List.length c = List.length c) ∧ ((0 : Nat) = (0 : Nat)) ∧ (List.length d = List.length d) ∧ (List.length l = List.length l) ∧ (∀ (i : Nat), i < List.length l → ∀ (j : Nat), j < (8 : Nat) → rowL enC l i j = rowL enC l i j) ∧ Z
theorem frS9g0_mk (l : List En) (a : List En) (b : List En) (c : List En) (d : List En) {Z : Prop} (z : Z) : frS9g0 l a b c d Z := ⟨rfl, rfl, rfl, rfl, rfl, rfl, rfl, rfl, (fun _ _ _ _ => rfl), z⟩
theorem ow_ae (l a b c d : List En) (gb gc gd : Nat → Nat → AV) (j : Nat) : Vc (vcC Try.prog false (ntOf Try.prog 4) (lpC Try.prog 4 1) (oS l a b c d (inF a a.length) gb gc gd (.own 0 0 8 0 a.length) j a.length a.length) [.b false] (.ext 2) [(0, 0), (1, 1), (2, 2), (3, 3), (4, 4)] (oS l a b c d (inF a a.length) gb gc gd (.own 0 0 8 0 a.length) j a.length a.length)) :=
  vc_of (q := (decide ((↑(List.length a) : Int) < (↑(List.length a) : Int)) = false) ∧ (List.length a = List.length a) ∧ (∀ (i : Nat), i < List.length a → ∀ (j : Nat), j < (8 : Nat) → inF a (List.length a) i j = inF a (List.length a) i j) ∧ (List.length b = List.length b) ∧ (∀ (i : Nat), i < List.length b → ∀ (j : Nat), j < (8 : Nat) → gb i j = gb i j) ∧ (List.length c = List.length c) ∧ (∀ (i : Nat), i < List.length c → ∀ (j : Nat), j < (8 : Nat) → gc i j = gc i j) ∧ (List.length d = List.length d) ∧ (∀ (i : Nat), i < List.length d → ∀ (j : Nat), j < (8 : Nat) → gd i j = gd i j) ∧ ((0 : Nat) = (0 : Nat)) ∧ (frS9g0 l a b c d ((false = false) ∧ (List.length l = List.length l) ∧ (∀ (i : Nat), i < List.length l → ∀ (j : Nat), j < (8 : Nat) → rowL enC l i j = rowL enC l i j) ∧ ((0 : Nat) = (0 : Nat)) ∧ (List.length b = List.length b) ∧ ((0 : Nat) = (0 : Nat)) ∧ (List.length a = List.length a) ∧ ((4 : Int) = (4 : Int)) ∧ ((↑j : Int) = (↑j : Int)) ∧ ((↑(List.length a) : Int) = (↑(List.length a) : Int)) ∧ ((↑(List.length a) : Int) = (↑(List.length a) : Int)) ∧ True))) (by kernel_rfl)
    ⟨(decide_eq_false (by first | omega | (simp; omega) | (simp; done))),
 rfl,
 (fun _ _ _ _ => rfl),
 rfl,
 (fun _ _ _ _ => rfl),
 rfl,
 (fun _ _ _ _ => rfl),
 rfl,
 (fun _ _ _ _ => rfl),
 rfl, (frS9g0_mk l a b c d ⟨rfl,
 rfl,
 (fun _ _ _ _ => rfl),
 rfl,
 rfl,
 rfl,
 rfl,
 rfl,
 rfl,
 rfl,
 rfl, trivial⟩)⟩
theorem ow_a_loop (l a b c d : List En) (gb gc gd : Nat → Nat → AV) (j : Nat) (hb : a.length < 1000000) : Ok Try.prog (ntOf Try.prog 4) (.loop (lpC Try.prog 4 1)) (oS l a b c d (inF a 0) gb gc gd (.own 0 0 8 0 a.length) j a.length 0).st (.ext 2) (oS l a b c d (inF a a.length) gb gc gd (.own 0 0 8 0 a.length) j a.length a.length).st :=
  Ok.loop (P := Try.prog) (nt := ntOf Try.prog 4) (c := lpC Try.prog 4 1) (F := fun k => oS l a b c d (inF a k) gb gc gd (.own 0 0 8 0 a.length) j a.length k) (m := a.length) (x := .ext 2) (J := oS l a b c d (inF a a.length) gb gc gd (.own 0 0 8 0 a.length) j a.length a.length) (fun k hk => Ok.vc (ow_a l a b c d gb gc gd j k hk hb)) (Ok.vc (ow_ae l a b c d gb gc gd j)) (by simp)
theorem ow_b (l a b c d : List En) (ga gc gd : Nat → Nat → AV) (j k : Nat) (hk : k < b.length) (hb : b.length < 1000000) : Vc (vcC Try.prog false (ntOf Try.prog 4) (lpC Try.prog 4 1) (oS l a b c d ga (inF b k) gc gd (.own 1 0 8 0 b.length) j b.length k) [.bd true, .lv (.int .i64 (b.getD k default).val), .ov] .nrm [(0, 0), (1, 1), (2, 2), (3, 3), (4, 4)] (oS l a b c d ga (inF b (k + 1)) gc gd (.own 1 0 8 0 b.length) j b.length (k + 1))) :=
  vc_of (q := (decide ((↑k : Int) < (↑(List.length b) : Int)) = true) ∧ ((0 : Int) ≤ (↑k : Int) ∧ (↑k : Int) < (↑(List.length b) : Int)) ∧ (Option.some (inF b k (k + (0 : Nat)) (1 : Nat)) = Option.some (AV.int IntKind.i64 (En.val (List.getD b k Inhabited.default)))) ∧ (k + (0 : Nat) < List.length b) ∧ ((0 : Int) ≤ (↑k : Int) ∧ (↑k : Int) < (↑(List.length b) : Int)) ∧ (k + (0 : Nat) < List.length b) ∧ (inK IntKind.i64 ((↑k : Int) + (1 : Int))) ∧ (List.length a = List.length a) ∧ (∀ (i : Nat), i < List.length a → ∀ (j : Nat), j < (8 : Nat) → ga i j = ga i j) ∧ (List.length b = List.length b) ∧ (∀ (i : Nat), i < List.length b → ∀ (j : Nat), j < (8 : Nat) → (bif Nat.beq i (k + (0 : Nat)) && Nat.ble (1 : Nat) j && Nat.blt j (2 : Nat) then List.getD [AV.int IntKind.i64 (IntKind.wrap IntKind.i64 (En.val (List.getD b k Inhabited.default) + (1 : Int)))] (j - (1 : Nat)) AV.junk else inF b k i j) = inF b (k + (1 : Nat)) i j) ∧ (List.length c = List.length c) ∧ (∀ (i : Nat), i < List.length c → ∀ (j : Nat), j < (8 : Nat) → gc i j = gc i j) ∧ (List.length d = List.length d) ∧ (∀ (i : Nat), i < List.length d → ∀ (j : Nat), j < (8 : Nat) → gd i j = gd i j) ∧ ((0 : Nat) = (0 : Nat)) ∧ (List.length a = List.length a) ∧ ((0 : Nat) = (0 : Nat)) ∧ (List.length b = List.length b) ∧ ((0 : Nat) = (0 : Nat)) ∧ (List.length c = List.length c) ∧ ((0 : Nat) = (0 : Nat)) ∧ (List.length d = List.length d) ∧ (List.length l = List.length l) ∧ (∀ (i : Nat), i < List.length l → ∀ (j : Nat), j < (8 : Nat) → rowL enC l i j = rowL enC l i j) ∧ (false = false) ∧ (List.length l = List.length l) ∧ (∀ (i : Nat), i < List.length l → ∀ (j : Nat), j < (8 : Nat) → rowL enC l i j = rowL enC l i j) ∧ ((0 : Nat) = (0 : Nat)) ∧ (List.length b = List.length b) ∧ ((0 : Nat) = (0 : Nat)) ∧ (List.length b = List.length b) ∧ ((4 : Int) = (4 : Int)) ∧ ((↑j : Int) = (↑j : Int)) ∧ ((↑(List.length b) : Int) = (↑(List.length b) : Int)) ∧ ((↑k : Int) + (1 : Int) = (↑(k + (1 : Nat)) : Int)) ∧ True) (by kernel_rfl)
    ⟨(decide_eq_true (by first | omega | (simp; omega) | (simp; done))),
 (by first | omega | rfl),
 (congrArg some (inF_ld b k 1)),
 (by first | omega | rfl),
 (by first | omega | rfl),
 (by first | omega | rfl),
 (in64 (by omega) (by omega)),
 rfl,
 (fun _ _ _ _ => rfl),
 rfl,
 (inF_st (r := b) (k := k)),
 rfl,
 (fun _ _ _ _ => rfl),
 rfl,
 (fun _ _ _ _ => rfl),
 rfl,
 rfl,
 rfl,
 rfl,
 rfl,
 rfl,
 rfl,
 rfl,
 rfl,
 (fun _ _ _ _ => rfl),
 rfl,
 rfl,
 (fun _ _ _ _ => rfl),
 rfl,
 rfl,
 rfl,
 rfl,
 rfl,
 rfl,
 rfl,
 (by first | omega | rfl), trivial⟩
theorem ow_be (l a b c d : List En) (ga gc gd : Nat → Nat → AV) (j : Nat) : Vc (vcC Try.prog false (ntOf Try.prog 4) (lpC Try.prog 4 1) (oS l a b c d ga (inF b b.length) gc gd (.own 1 0 8 0 b.length) j b.length b.length) [.b false] (.ext 2) [(0, 0), (1, 1), (2, 2), (3, 3), (4, 4)] (oS l a b c d ga (inF b b.length) gc gd (.own 1 0 8 0 b.length) j b.length b.length)) :=
  vc_of (q := (decide ((↑(List.length b) : Int) < (↑(List.length b) : Int)) = false) ∧ (List.length a = List.length a) ∧ (∀ (i : Nat), i < List.length a → ∀ (j : Nat), j < (8 : Nat) → ga i j = ga i j) ∧ (List.length b = List.length b) ∧ (∀ (i : Nat), i < List.length b → ∀ (j : Nat), j < (8 : Nat) → inF b (List.length b) i j = inF b (List.length b) i j) ∧ (List.length c = List.length c) ∧ (∀ (i : Nat), i < List.length c → ∀ (j : Nat), j < (8 : Nat) → gc i j = gc i j) ∧ (List.length d = List.length d) ∧ (∀ (i : Nat), i < List.length d → ∀ (j : Nat), j < (8 : Nat) → gd i j = gd i j) ∧ ((0 : Nat) = (0 : Nat)) ∧ (frS9g0 l a b c d ((false = false) ∧ (List.length l = List.length l) ∧ (∀ (i : Nat), i < List.length l → ∀ (j : Nat), j < (8 : Nat) → rowL enC l i j = rowL enC l i j) ∧ ((0 : Nat) = (0 : Nat)) ∧ (List.length b = List.length b) ∧ ((0 : Nat) = (0 : Nat)) ∧ (List.length b = List.length b) ∧ ((4 : Int) = (4 : Int)) ∧ ((↑j : Int) = (↑j : Int)) ∧ ((↑(List.length b) : Int) = (↑(List.length b) : Int)) ∧ ((↑(List.length b) : Int) = (↑(List.length b) : Int)) ∧ True))) (by kernel_rfl)
    ⟨(decide_eq_false (by first | omega | (simp; omega) | (simp; done))),
 rfl,
 (fun _ _ _ _ => rfl),
 rfl,
 (fun _ _ _ _ => rfl),
 rfl,
 (fun _ _ _ _ => rfl),
 rfl,
 (fun _ _ _ _ => rfl),
 rfl, (frS9g0_mk l a b c d ⟨rfl,
 rfl,
 (fun _ _ _ _ => rfl),
 rfl,
 rfl,
 rfl,
 rfl,
 rfl,
 rfl,
 rfl,
 rfl, trivial⟩)⟩
theorem ow_b_loop (l a b c d : List En) (ga gc gd : Nat → Nat → AV) (j : Nat) (hb : b.length < 1000000) : Ok Try.prog (ntOf Try.prog 4) (.loop (lpC Try.prog 4 1)) (oS l a b c d ga (inF b 0) gc gd (.own 1 0 8 0 b.length) j b.length 0).st (.ext 2) (oS l a b c d ga (inF b b.length) gc gd (.own 1 0 8 0 b.length) j b.length b.length).st :=
  Ok.loop (P := Try.prog) (nt := ntOf Try.prog 4) (c := lpC Try.prog 4 1) (F := fun k => oS l a b c d ga (inF b k) gc gd (.own 1 0 8 0 b.length) j b.length k) (m := b.length) (x := .ext 2) (J := oS l a b c d ga (inF b b.length) gc gd (.own 1 0 8 0 b.length) j b.length b.length) (fun k hk => Ok.vc (ow_b l a b c d ga gc gd j k hk hb)) (Ok.vc (ow_be l a b c d ga gc gd j)) (by simp)
def frS9g1 (l : List En) (b : List En) (d : List En) (Z : Prop) : Prop := (List.length d = List.length d) ∧ (List.length l = List.length l) ∧ (∀ (i : Nat), i < List.length l → ∀ (j : Nat), j < (8 : Nat) → rowL enC l i j = rowL enC l i j) ∧ (false = false) ∧ (List.length l = List.length l) ∧ (∀ (i : Nat), i < List.length l → ∀ (j : Nat), j < (8 : Nat) → rowL enC l i j = rowL enC l i j) ∧ ((0 : Nat) = (0 : Nat)) ∧ (List.length b = List.length b) ∧ ((0 : Nat) = (0 : Nat)) ∧ Z
theorem frS9g1_mk (l : List En) (b : List En) (d : List En) {Z : Prop} (z : Z) : frS9g1 l b d Z := ⟨rfl, rfl, (fun _ _ _ _ => rfl), rfl, rfl, (fun _ _ _ _ => rfl), rfl, rfl, rfl, z⟩
def frS9g2 (a : List En) (b : List En) (c : List En) (d : List En) (gd : Nat → Nat → AV) (Z : Prop) : Prop := (List.length d = List.length d) ∧ (∀ (i : Nat), i < List.length d → ∀ (j : Nat), j < (8 : Nat) → gd i j = gd i j) ∧ ((0 : Nat) = (0 : Nat)) ∧ (List.length a = List.length a) ∧ ((0 : Nat) = (0 : Nat)) ∧ (List.length b = List.length b) ∧ ((0 : Nat) = (0 : Nat)) ∧ (List.length c = List.length c) ∧ ((0 : Nat) = (0 : Nat)) ∧ Z
theorem frS9g2_mk (a : List En) (b : List En) (c : List En) (d : List En) (gd : Nat → Nat → AV) {Z : Prop} (z : Z) : frS9g2 a b c d gd Z := ⟨rfl, (fun _ _ _ _ => rfl), rfl, rfl, rfl, rfl, rfl, rfl, rfl, z⟩
def frS9g3 (a : List En) (b : List En) (c : List En) (ga : Nat → Nat → AV) (gb : Nat → Nat → AV) (Z : Prop) : Prop := (List.length a = List.length a) ∧ (∀ (i : Nat), i < List.length a → ∀ (j : Nat), j < (8 : Nat) → ga i j = ga i j) ∧ (List.length b = List.length b) ∧ (∀ (i : Nat), i < List.length b → ∀ (j : Nat), j < (8 : Nat) → gb i j = gb i j) ∧ (List.length c = List.length c) ∧ Z
theorem frS9g3_mk (a : List En) (b : List En) (c : List En) (ga : Nat → Nat → AV) (gb : Nat → Nat → AV) {Z : Prop} (z : Z) : frS9g3 a b c ga gb Z := ⟨rfl, (fun _ _ _ _ => rfl), rfl, (fun _ _ _ _ => rfl), rfl, z⟩
theorem ow_c (l a b c d : List En) (ga gb gd : Nat → Nat → AV) (j k : Nat) (hk : k < c.length) (hb : c.length < 1000000) : Vc (vcC Try.prog false (ntOf Try.prog 4) (lpC Try.prog 4 1) (oS l a b c d ga gb (inF c k) gd (.own 2 0 8 0 c.length) j c.length k) [.bd true, .lv (.int .i64 (c.getD k default).val), .ov] .nrm [(0, 0), (1, 1), (2, 2), (3, 3), (4, 4)] (oS l a b c d ga gb (inF c (k + 1)) gd (.own 2 0 8 0 c.length) j c.length (k + 1))) :=
  vc_of (q := (decide ((↑k : Int) < (↑(List.length c) : Int)) = true) ∧ ((0 : Int) ≤ (↑k : Int) ∧ (↑k : Int) < (↑(List.length c) : Int)) ∧ (Option.some (inF c k (k + (0 : Nat)) (1 : Nat)) = Option.some (AV.int IntKind.i64 (En.val (List.getD c k Inhabited.default)))) ∧ (k + (0 : Nat) < List.length c) ∧ ((0 : Int) ≤ (↑k : Int) ∧ (↑k : Int) < (↑(List.length c) : Int)) ∧ (k + (0 : Nat) < List.length c) ∧ (inK IntKind.i64 ((↑k : Int) + (1 : Int))) ∧ (frS9g3 a b c ga gb ((∀ (i : Nat), i < List.length c → ∀ (j : Nat), j < (8 : Nat) → (bif Nat.beq i (k + (0 : Nat)) && Nat.ble (1 : Nat) j && Nat.blt j (2 : Nat) then List.getD [AV.int IntKind.i64 (IntKind.wrap IntKind.i64 (En.val (List.getD c k Inhabited.default) + (1 : Int)))] (j - (1 : Nat)) AV.junk else inF c k i j) = inF c (k + (1 : Nat)) i j) ∧ (frS9g2 a b c d gd ((frS9g1 l b d ((List.length c = List.length c) ∧ ((4 : Int) = (4 : Int)) ∧ ((↑j : Int) = (↑j : Int)) ∧ ((↑(List.length c) : Int) = (↑(List.length c) : Int)) ∧ ((↑k : Int) + (1 : Int) = (↑(k + (1 : Nat)) : Int)) ∧ True))))))) (by kernel_rfl)
    ⟨(decide_eq_true (by first | omega | (simp; omega) | (simp; done))),
 (by first | omega | rfl),
 (congrArg some (inF_ld c k 1)),
 (by first | omega | rfl),
 (by first | omega | rfl),
 (by first | omega | rfl),
 (in64 (by omega) (by omega)), (frS9g3_mk a b c ga gb ⟨(inF_st (r := c) (k := k)), (frS9g2_mk a b c d gd (frS9g1_mk l b d ⟨rfl,
 rfl,
 rfl,
 rfl,
 (by first | omega | rfl), trivial⟩))⟩)⟩
theorem ow_ce (l a b c d : List En) (ga gb gd : Nat → Nat → AV) (j : Nat) : Vc (vcC Try.prog false (ntOf Try.prog 4) (lpC Try.prog 4 1) (oS l a b c d ga gb (inF c c.length) gd (.own 2 0 8 0 c.length) j c.length c.length) [.b false] (.ext 2) [(0, 0), (1, 1), (2, 2), (3, 3), (4, 4)] (oS l a b c d ga gb (inF c c.length) gd (.own 2 0 8 0 c.length) j c.length c.length)) :=
  vc_of (q := (decide ((↑(List.length c) : Int) < (↑(List.length c) : Int)) = false) ∧ (frS9g3 a b c ga gb ((∀ (i : Nat), i < List.length c → ∀ (j : Nat), j < (8 : Nat) → inF c (List.length c) i j = inF c (List.length c) i j) ∧ (frS9g2 a b c d gd ((frS9g1 l b d ((List.length c = List.length c) ∧ ((4 : Int) = (4 : Int)) ∧ ((↑j : Int) = (↑j : Int)) ∧ ((↑(List.length c) : Int) = (↑(List.length c) : Int)) ∧ ((↑(List.length c) : Int) = (↑(List.length c) : Int)) ∧ True))))))) (by kernel_rfl)
    ⟨(decide_eq_false (by first | omega | (simp; omega) | (simp; done))), (frS9g3_mk a b c ga gb ⟨(fun _ _ _ _ => rfl), (frS9g2_mk a b c d gd (frS9g1_mk l b d ⟨rfl,
 rfl,
 rfl,
 rfl,
 rfl, trivial⟩))⟩)⟩
theorem ow_c_loop (l a b c d : List En) (ga gb gd : Nat → Nat → AV) (j : Nat) (hb : c.length < 1000000) : Ok Try.prog (ntOf Try.prog 4) (.loop (lpC Try.prog 4 1)) (oS l a b c d ga gb (inF c 0) gd (.own 2 0 8 0 c.length) j c.length 0).st (.ext 2) (oS l a b c d ga gb (inF c c.length) gd (.own 2 0 8 0 c.length) j c.length c.length).st :=
  Ok.loop (P := Try.prog) (nt := ntOf Try.prog 4) (c := lpC Try.prog 4 1) (F := fun k => oS l a b c d ga gb (inF c k) gd (.own 2 0 8 0 c.length) j c.length k) (m := c.length) (x := .ext 2) (J := oS l a b c d ga gb (inF c c.length) gd (.own 2 0 8 0 c.length) j c.length c.length) (fun k hk => Ok.vc (ow_c l a b c d ga gb gd j k hk hb)) (Ok.vc (ow_ce l a b c d ga gb gd j)) (by simp)
def frS9g4 (l : List En) (b : List En) (d : List En) (Z : Prop) : Prop := (∀ (i : Nat), i < List.length l → ∀ (j : Nat), j < (8 : Nat) → rowL enC l i j = rowL enC l i j) ∧ (false = false) ∧ (List.length l = List.length l) ∧ (∀ (i : Nat), i < List.length l → ∀ (j : Nat), j < (8 : Nat) → rowL enC l i j = rowL enC l i j) ∧ ((0 : Nat) = (0 : Nat)) ∧ (List.length b = List.length b) ∧ ((0 : Nat) = (0 : Nat)) ∧ (List.length d = List.length d) ∧ ((4 : Int) = (4 : Int)) ∧ Z
theorem frS9g4_mk (l : List En) (b : List En) (d : List En) {Z : Prop} (z : Z) : frS9g4 l b d Z := ⟨(fun _ _ _ _ => rfl), rfl, rfl, (fun _ _ _ _ => rfl), rfl, rfl, rfl, rfl, rfl, z⟩
def frS9g5 (l : List En) (a : List En) (b : List En) (c : List En) (d : List En) (Z : Prop) : Prop := ((0 : Nat) = (0 : Nat)) ∧ (List.length a = List.length a) ∧ ((0 : Nat) = (0 : Nat)) ∧ (List.length b = List.length b) ∧ ((0 : Nat) = (0 : Nat)) ∧ (List.length c = List.length c) ∧ ((0 : Nat) = (0 : Nat)) ∧ (List.length d = List.length d) ∧ (List.length l = List.length l) ∧ Z
theorem frS9g5_mk (l : List En) (a : List En) (b : List En) (c : List En) (d : List En) {Z : Prop} (z : Z) : frS9g5 l a b c d Z := ⟨rfl, rfl, rfl, rfl, rfl, rfl, rfl, rfl, rfl, z⟩
def frS9g6 (a : List En) (b : List En) (c : List En) (d : List En) (ga : Nat → Nat → AV) (gb : Nat → Nat → AV) (gc : Nat → Nat → AV) (Z : Prop) : Prop := (List.length a = List.length a) ∧ (∀ (i : Nat), i < List.length a → ∀ (j : Nat), j < (8 : Nat) → ga i j = ga i j) ∧ (List.length b = List.length b) ∧ (∀ (i : Nat), i < List.length b → ∀ (j : Nat), j < (8 : Nat) → gb i j = gb i j) ∧ (List.length c = List.length c) ∧ (∀ (i : Nat), i < List.length c → ∀ (j : Nat), j < (8 : Nat) → gc i j = gc i j) ∧ (List.length d = List.length d) ∧ Z
theorem frS9g6_mk (a : List En) (b : List En) (c : List En) (d : List En) (ga : Nat → Nat → AV) (gb : Nat → Nat → AV) (gc : Nat → Nat → AV) {Z : Prop} (z : Z) : frS9g6 a b c d ga gb gc Z := ⟨rfl, (fun _ _ _ _ => rfl), rfl, (fun _ _ _ _ => rfl), rfl, (fun _ _ _ _ => rfl), rfl, z⟩
theorem ow_d (l a b c d : List En) (ga gb gc : Nat → Nat → AV) (j k : Nat) (hk : k < d.length) (hb : d.length < 1000000) : Vc (vcC Try.prog false (ntOf Try.prog 4) (lpC Try.prog 4 1) (oS l a b c d ga gb gc (inF d k) (.own 3 0 8 0 d.length) j d.length k) [.bd true, .lv (.int .i64 (d.getD k default).val), .ov] .nrm [(0, 0), (1, 1), (2, 2), (3, 3), (4, 4)] (oS l a b c d ga gb gc (inF d (k + 1)) (.own 3 0 8 0 d.length) j d.length (k + 1))) :=
  vc_of (q := (decide ((↑k : Int) < (↑(List.length d) : Int)) = true) ∧ ((0 : Int) ≤ (↑k : Int) ∧ (↑k : Int) < (↑(List.length d) : Int)) ∧ (Option.some (inF d k (k + (0 : Nat)) (1 : Nat)) = Option.some (AV.int IntKind.i64 (En.val (List.getD d k Inhabited.default)))) ∧ (k + (0 : Nat) < List.length d) ∧ ((0 : Int) ≤ (↑k : Int) ∧ (↑k : Int) < (↑(List.length d) : Int)) ∧ (k + (0 : Nat) < List.length d) ∧ (inK IntKind.i64 ((↑k : Int) + (1 : Int))) ∧ (frS9g6 a b c d ga gb gc ((∀ (i : Nat), i < List.length d → ∀ (j : Nat), j < (8 : Nat) → (bif Nat.beq i (k + (0 : Nat)) && Nat.ble (1 : Nat) j && Nat.blt j (2 : Nat) then List.getD [AV.int IntKind.i64 (IntKind.wrap IntKind.i64 (En.val (List.getD d k Inhabited.default) + (1 : Int)))] (j - (1 : Nat)) AV.junk else inF d k i j) = inF d (k + (1 : Nat)) i j) ∧ (frS9g5 l a b c d ((frS9g4 l b d (((↑j : Int) = (↑j : Int)) ∧ ((↑(List.length d) : Int) = (↑(List.length d) : Int)) ∧ ((↑k : Int) + (1 : Int) = (↑(k + (1 : Nat)) : Int)) ∧ True))))))) (by kernel_rfl)
    ⟨(decide_eq_true (by first | omega | (simp; omega) | (simp; done))),
 (by first | omega | rfl),
 (congrArg some (inF_ld d k 1)),
 (by first | omega | rfl),
 (by first | omega | rfl),
 (by first | omega | rfl),
 (in64 (by omega) (by omega)), (frS9g6_mk a b c d ga gb gc ⟨(inF_st (r := d) (k := k)), (frS9g5_mk l a b c d (frS9g4_mk l b d ⟨rfl,
 rfl,
 (by first | omega | rfl), trivial⟩))⟩)⟩
theorem ow_de (l a b c d : List En) (ga gb gc : Nat → Nat → AV) (j : Nat) : Vc (vcC Try.prog false (ntOf Try.prog 4) (lpC Try.prog 4 1) (oS l a b c d ga gb gc (inF d d.length) (.own 3 0 8 0 d.length) j d.length d.length) [.b false] (.ext 2) [(0, 0), (1, 1), (2, 2), (3, 3), (4, 4)] (oS l a b c d ga gb gc (inF d d.length) (.own 3 0 8 0 d.length) j d.length d.length)) :=
  vc_of (q := (decide ((↑(List.length d) : Int) < (↑(List.length d) : Int)) = false) ∧ (frS9g6 a b c d ga gb gc ((∀ (i : Nat), i < List.length d → ∀ (j : Nat), j < (8 : Nat) → inF d (List.length d) i j = inF d (List.length d) i j) ∧ (frS9g5 l a b c d ((frS9g4 l b d (((↑j : Int) = (↑j : Int)) ∧ ((↑(List.length d) : Int) = (↑(List.length d) : Int)) ∧ ((↑(List.length d) : Int) = (↑(List.length d) : Int)) ∧ True))))))) (by kernel_rfl)
    ⟨(decide_eq_false (by first | omega | (simp; omega) | (simp; done))), (frS9g6_mk a b c d ga gb gc ⟨(fun _ _ _ _ => rfl), (frS9g5_mk l a b c d (frS9g4_mk l b d ⟨rfl,
 rfl,
 rfl, trivial⟩))⟩)⟩
theorem ow_d_loop (l a b c d : List En) (ga gb gc : Nat → Nat → AV) (j : Nat) (hb : d.length < 1000000) : Ok Try.prog (ntOf Try.prog 4) (.loop (lpC Try.prog 4 1)) (oS l a b c d ga gb gc (inF d 0) (.own 3 0 8 0 d.length) j d.length 0).st (.ext 2) (oS l a b c d ga gb gc (inF d d.length) (.own 3 0 8 0 d.length) j d.length d.length).st :=
  Ok.loop (P := Try.prog) (nt := ntOf Try.prog 4) (c := lpC Try.prog 4 1) (F := fun k => oS l a b c d ga gb gc (inF d k) (.own 3 0 8 0 d.length) j d.length k) (m := d.length) (x := .ext 2) (J := oS l a b c d ga gb gc (inF d d.length) (.own 3 0 8 0 d.length) j d.length d.length) (fun k hk => Ok.vc (ow_d l a b c d ga gb gc j k hk hb)) (Ok.vc (ow_de l a b c d ga gb gc j)) (by simp)
def frS9g7 (l : List En) (Z : Prop) : Prop := (List.length l = List.length l) ∧ (∀ (i : Nat), i < List.length l → ∀ (j : Nat), j < (8 : Nat) → rowL enC l i j = rowL enC l i j) ∧ (false = false) ∧ (List.length l = List.length l) ∧ (∀ (i : Nat), i < List.length l → ∀ (j : Nat), j < (8 : Nat) → rowL enC l i j = rowL enC l i j) ∧ ((↑(List.length l) : Int) = (↑(List.length l) : Int)) ∧ Z
theorem frS9g7_mk (l : List En) {Z : Prop} (z : Z) : frS9g7 l Z := ⟨rfl, (fun _ _ _ _ => rfl), rfl, rfl, (fun _ _ _ _ => rfl), rfl, z⟩
theorem eq_step (l : List En) (k : Nat) (hk : k < l.length) (hb : l.length < 1000000) : Vc (vcC Try.prog false (ntOf Try.prog 4) (lpC Try.prog 4 2) (eqS l k) [.bd true, .bd false] .nrm [] (eqS l (k + 1))) :=
  vc_of (q := (decide ((↑k : Int) < (↑(List.length l) : Int)) = true) ∧ ((0 : Int) ≤ (↑k : Int) ∧ (↑k : Int) < (↑(List.length l) : Int)) ∧ ((0 : Int) ≤ (↑k : Int) ∧ (↑k : Int) < (↑(List.length l) : Int)) ∧ ((!bif En.pc (List.getD l k Inhabited.default) == En.pc (List.getD l k Inhabited.default) then bif En.val (List.getD l k Inhabited.default) == En.val (List.getD l k Inhabited.default) then bif En.adr (List.getD l k Inhabited.default) == En.adr (List.getD l k Inhabited.default) then bif En.frm (List.getD l k Inhabited.default) == En.frm (List.getD l k Inhabited.default) then bif En.nxt (List.getD l k Inhabited.default) == En.nxt (List.getD l k Inhabited.default) then bif En.dn (List.getD l k Inhabited.default) == En.dn (List.getD l k Inhabited.default) then bif En.kn (List.getD l k Inhabited.default) == En.kn (List.getD l k Inhabited.default) then bif En.ft (List.getD l k Inhabited.default) == En.ft (List.getD l k Inhabited.default) then true else false else false else false else false else false else false else false else false) = false) ∧ (inK IntKind.i64 ((↑k : Int) + (1 : Int))) ∧ (frS9g7 l (((↑k : Int) + (1 : Int) = (↑(k + (1 : Nat)) : Int)) ∧ True))) (by kernel_rfl)
    ⟨(decide_eq_true (by first | omega | (simp; omega) | (simp; done))),
 (by first | omega | rfl),
 (by first | omega | rfl),
 (by simp),
 (in64 (by omega) (by omega)), (frS9g7_mk l ⟨(by first | omega | rfl), trivial⟩)⟩
theorem eq_end (l : List En) : Vc (vcC Try.prog false (ntOf Try.prog 4) (lpC Try.prog 4 2) (eqS l l.length) [.b false] (.ext 4) [] (eqS l l.length)) :=
  vc_of (q := (decide ((↑(List.length l) : Int) < (↑(List.length l) : Int)) = false) ∧ (List.length l = List.length l) ∧ (∀ (i : Nat), i < List.length l → ∀ (j : Nat), j < (8 : Nat) → rowL enC l i j = rowL enC l i j) ∧ (false = false) ∧ (List.length l = List.length l) ∧ (∀ (i : Nat), i < List.length l → ∀ (j : Nat), j < (8 : Nat) → rowL enC l i j = rowL enC l i j) ∧ ((↑(List.length l) : Int) = (↑(List.length l) : Int)) ∧ ((↑(List.length l) : Int) = (↑(List.length l) : Int)) ∧ True) (by kernel_rfl)
    ⟨(decide_eq_false (by first | omega | (simp; omega) | (simp; done))),
 rfl,
 (fun _ _ _ _ => rfl),
 rfl,
 rfl,
 (fun _ _ _ _ => rfl),
 rfl,
 rfl, trivial⟩
theorem eq_loop (l : List En) (hb : l.length < 1000000) : Ok Try.prog (ntOf Try.prog 4) (.loop (lpC Try.prog 4 2)) (eqS l 0).st (.ext 4) (eqS l l.length).st :=
  Ok.loop (P := Try.prog) (nt := ntOf Try.prog 4) (c := lpC Try.prog 4 2) (F := fun k => eqS l k) (m := l.length) (x := .ext 4) (J := eqS l l.length) (fun k hk => Ok.vc (eq_step l k hk hb)) (Ok.vc (eq_end l)) (by simp)
def o1W : En := ⟨1, 0, 0, 0, 0, false, false, false⟩
def o5W : En := ⟨5, 0, 0, 0, 0, false, false, false⟩
def frS9g8 (a : List En) (b : List En) (c : List En) (Z : Prop) : Prop := (List.length a = List.length a) ∧ (∀ (i : Nat), i < List.length a → ∀ (j : Nat), j < (8 : Nat) → inF a (List.length a) i j = inF a (List.length a) i j) ∧ (List.length b = List.length b) ∧ (∀ (i : Nat), i < List.length b → ∀ (j : Nat), j < (8 : Nat) → inF b (List.length b) i j = inF b (List.length b) i j) ∧ (List.length c = List.length c) ∧ Z
theorem frS9g8_mk (a : List En) (b : List En) (c : List En) {Z : Prop} (z : Z) : frS9g8 a b c Z := ⟨rfl, (fun _ _ _ _ => rfl), rfl, (fun _ _ _ _ => rfl), rfl, z⟩
def frS9g9 (a : List En) (b : List En) (c : List En) (d : List En) (Z : Prop) : Prop := (List.length d = List.length d) ∧ (∀ (i : Nat), i < List.length d → ∀ (j : Nat), j < (8 : Nat) → rowL enC d i j = rowL enC d i j) ∧ ((0 : Nat) = (0 : Nat)) ∧ (List.length a = List.length a) ∧ ((0 : Nat) = (0 : Nat)) ∧ (List.length b = List.length b) ∧ ((0 : Nat) = (0 : Nat)) ∧ (List.length c = List.length c) ∧ ((0 : Nat) = (0 : Nat)) ∧ Z
theorem frS9g9_mk (a : List En) (b : List En) (c : List En) (d : List En) {Z : Prop} (z : Z) : frS9g9 a b c d Z := ⟨rfl, (fun _ _ _ _ => rfl), rfl, rfl, rfl, rfl, rfl, rfl, rfl, z⟩
def frS9g10  (Z : Prop) : Prop := ((0 : Int) = (0 : Int)) ∧ ((0 : Int) = (0 : Int)) ∧ ((0 : Int) = (0 : Int)) ∧ ((0 : Int) = (0 : Int)) ∧ (false = false) ∧ (false = false) ∧ (false = false) ∧ Z
theorem frS9g10_mk  {Z : Prop} (z : Z) : frS9g10  Z := ⟨rfl, rfl, rfl, rfl, rfl, rfl, rfl, z⟩
theorem own_vc (l a b c d : List En) (x : En) (i0 : Int) (I : Nat) (h0 : 0 < l.length) (h40 : l.length ≤ 40) (hI : (bits .and .i64 i0 255).tmod (l.length : Int) = I) (ha : a.length < 1000) (hbb : b.length < 1000) (hc : c.length < 1000) (hd : d.length < 1000) (hIl : I < l.length) (hpu : PureC Try.prog 7 [enR l, .agg (enA o1W), .int .i64 100] (.tup [.own 0 0 8 0 a.length, .bool true]) [enB a]) (hcu : PureC Try.prog 10 [enR l, .int .i64 ((I : Int) + 1)] (.own 0 0 8 0 b.length) [enB b]) (hpt : PureC Try.prog 11 [enR l, .int .i64 (I : Int), .agg (enA o5W)] (.tup [.own 0 0 8 0 c.length, .bool true]) [enB c]) (hpo : PureC Try.prog 8 [enR l] (.tup [.agg (enA x), .own 0 0 8 0 d.length, .bool true]) [enB d]) : Vc (vcFn Try.prog false 4 [enR l, .int .i64 i0] [.bd false, .bd false, .cl [enR l, .agg (enA o1W), .int .i64 100] (.tup [.own 0 0 8 0 a.length, .bool true]) [enB a], .cl [enR l, .int .i64 ((I : Int) + 1)] (.own 0 0 8 0 b.length) [enB b], .cl [enR l, .int .i64 (I : Int), .agg (enA o5W)] (.tup [.own 0 0 8 0 c.length, .bool true]) [enB c], .cl [enR l] (.tup [.agg (enA x), .own 0 0 8 0 d.length, .bool true]) [enB d], .bx, .it 5, .lp [(0, 1), (1, 2), (2, 3), (3, 4), (4, 6)] (oS l a b c d (inF a 0) (rowL enC b) (rowL enC c) (rowL enC d) (.own 0 0 8 0 a.length) 0 a.length 0) (.ext 2) (oS l a b c d (inF a a.length) (rowL enC b) (rowL enC c) (rowL enC d) (.own 0 0 8 0 a.length) 0 a.length a.length), .lp [(0, 0), (1, 1), (2, 2), (3, 3), (4, 4)] (oS l a b c d (inF a a.length) (inF b 0) (rowL enC c) (rowL enC d) (.own 1 0 8 0 b.length) 1 b.length 0) (.ext 2) (oS l a b c d (inF a a.length) (inF b b.length) (rowL enC c) (rowL enC d) (.own 1 0 8 0 b.length) 1 b.length b.length), .lp [(0, 0), (1, 1), (2, 2), (3, 3), (4, 4)] (oS l a b c d (inF a a.length) (inF b b.length) (inF c 0) (rowL enC d) (.own 2 0 8 0 c.length) 2 c.length 0) (.ext 2) (oS l a b c d (inF a a.length) (inF b b.length) (inF c c.length) (rowL enC d) (.own 2 0 8 0 c.length) 2 c.length c.length), .lp [(0, 0), (1, 1), (2, 2), (3, 3), (4, 4)] (oS l a b c d (inF a a.length) (inF b b.length) (inF c c.length) (inF d 0) (.own 3 0 8 0 d.length) 3 d.length 0) (.ext 2) (oS l a b c d (inF a a.length) (inF b b.length) (inF c c.length) (inF d d.length) (.own 3 0 8 0 d.length) 3 d.length d.length), .fz, .lp [] (eqS l 0) (.ext 4) (eqS l l.length), .cl [] (.bool true) []] [] (.bool true) []) :=
  vc_of (q := (decide ((↑(List.length l) : Int) > (40 : Int)) = false) ∧ (((↑(List.length l) : Int) == (0 : Int)) = false) ∧ ((0 : Nat) = (0 : Nat) ∧ (0 : Nat) = (0 : Nat) ∧ ((0 : Nat) + List.length l) * (48 : Nat) ≤ (140737488355328 : Nat) ∧ (0 : Nat) + List.length l ≤ (140737488355328 : Nat)) ∧ ((↑(List.length l) : Int) ≠ (0 : Int)) ∧ (List.length l = List.length l) ∧ (∀ (i : Nat), i < List.length l → ∀ (j : Nat), j < (8 : Nat) → rowL enC l i j = rowL enC l i j) ∧ ((1 : Int) = (1 : Int)) ∧ (frS9g10  (((100 : Int) = (100 : Int)) ∧ (PureC Try.prog 7 [enR l, .agg (enA o1W), .int .i64 100] (.tup [.own 0 0 8 0 a.length, .bool true]) [enB a]) ∧ (inK IntKind.i64 (Int.tmod (Go.bits Go.BinOp.and IntKind.i64 i0 (255 : Int)) (↑(List.length l) : Int) + (1 : Int))) ∧ (List.length l = List.length l) ∧ (∀ (i : Nat), i < List.length l → ∀ (j : Nat), j < (8 : Nat) → rowL enC l i j = rowL enC l i j) ∧ (Int.tmod (Go.bits Go.BinOp.and IntKind.i64 i0 (255 : Int)) (↑(List.length l) : Int) + (1 : Int) = (↑I : Int) + (1 : Int)) ∧ (PureC Try.prog 10 [enR l, .int .i64 ((I : Int) + 1)] (.own 0 0 8 0 b.length) [enB b]) ∧ (List.length l = List.length l) ∧ (∀ (i : Nat), i < List.length l → ∀ (j : Nat), j < (8 : Nat) → rowL enC l i j = rowL enC l i j) ∧ (Int.tmod (Go.bits Go.BinOp.and IntKind.i64 i0 (255 : Int)) (↑(List.length l) : Int) = (↑I : Int)) ∧ ((5 : Int) = (5 : Int)) ∧ (frS9g10  ((PureC Try.prog 11 [enR l, .int .i64 (I : Int), .agg (enA o5W)] (.tup [.own 0 0 8 0 c.length, .bool true]) [enB c]) ∧ (List.length l = List.length l) ∧ (∀ (i : Nat), i < List.length l → ∀ (j : Nat), j < (8 : Nat) → rowL enC l i j = rowL enC l i j) ∧ (PureC Try.prog 8 [enR l] (.tup [.agg (enA x), .own 0 0 8 0 d.length, .bool true]) [enB d]) ∧ ((0 : Int) ≤ (0 : Int) ∧ (0 : Int) < (↑(4 : Nat) : Int)) ∧ (List.length a = List.length a) ∧ (∀ (i : Nat), i < List.length a → ∀ (j : Nat), j < (8 : Nat) → rowL enC a i j = inF a (0 : Nat) i j) ∧ (List.length b = List.length b) ∧ (∀ (i : Nat), i < List.length b → ∀ (j : Nat), j < (8 : Nat) → rowL enC b i j = rowL enC b i j) ∧ (List.length c = List.length c) ∧ (∀ (i : Nat), i < List.length c → ∀ (j : Nat), j < (8 : Nat) → rowL enC c i j = rowL enC c i j) ∧ (frS9g9 a b c d ((List.length d = List.length d) ∧ (List.length l = List.length l) ∧ (∀ (i : Nat), i < List.length l → ∀ (j : Nat), j < (8 : Nat) → rowL enC l i j = rowL enC l i j) ∧ (false = false) ∧ ((0 : Nat) + List.length l = List.length l) ∧ (∀ (i : Nat), i < (0 : Nat) + List.length l → ∀ (j : Nat), j < (8 : Nat) → (bif Nat.blt (i + (0 : Nat)) (0 : Nat) then AV.junk else rowL enC l (i + (0 : Nat) - (0 : Nat)) j) = rowL enC l i j) ∧ ((0 : Nat) = (0 : Nat)) ∧ (List.length b = List.length b) ∧ ((0 : Nat) = (0 : Nat)) ∧ (List.length a = List.length a) ∧ ((↑(4 : Nat) : Int) = (4 : Int)) ∧ ((0 : Int) = (↑(0 : Nat) : Int)) ∧ ((↑(List.length a) : Int) = (↑(List.length a) : Int)) ∧ ((0 : Int) = (↑(0 : Nat) : Int)) ∧ (Ok Try.prog (ntOf Try.prog 4) (.loop (lpC Try.prog 4 1)) (oS l a b c d (inF a 0) (rowL enC b) (rowL enC c) (rowL enC d) (.own 0 0 8 0 a.length) 0 a.length 0).st (.ext 2) (oS l a b c d (inF a a.length) (rowL enC b) (rowL enC c) (rowL enC d) (.own 0 0 8 0 a.length) 0 a.length a.length).st) ∧ (inK IntKind.i64 ((↑(0 : Nat) : Int) + (1 : Int))) ∧ ((0 : Int) ≤ (↑(0 : Nat) : Int) + (1 : Int) ∧ (↑(0 : Nat) : Int) + (1 : Int) < (↑(4 : Nat) : Int)) ∧ (List.length a = List.length a) ∧ (∀ (i : Nat), i < List.length a → ∀ (j : Nat), j < (8 : Nat) → inF a (List.length a) i j = inF a (List.length a) i j) ∧ (List.length b = List.length b) ∧ (∀ (i : Nat), i < List.length b → ∀ (j : Nat), j < (8 : Nat) → rowL enC b i j = inF b (0 : Nat) i j) ∧ (List.length c = List.length c) ∧ (∀ (i : Nat), i < List.length c → ∀ (j : Nat), j < (8 : Nat) → rowL enC c i j = rowL enC c i j) ∧ (frS9g9 a b c d ((frS9g1 l b d ((List.length b = List.length b) ∧ ((4 : Int) = (4 : Int)) ∧ ((↑(0 : Nat) : Int) + (1 : Int) = (↑(1 : Nat) : Int)) ∧ ((↑(List.length b) : Int) = (↑(List.length b) : Int)) ∧ ((0 : Int) = (↑(0 : Nat) : Int)) ∧ (Ok Try.prog (ntOf Try.prog 4) (.loop (lpC Try.prog 4 1)) (oS l a b c d (inF a a.length) (inF b 0) (rowL enC c) (rowL enC d) (.own 1 0 8 0 b.length) 1 b.length 0).st (.ext 2) (oS l a b c d (inF a a.length) (inF b b.length) (rowL enC c) (rowL enC d) (.own 1 0 8 0 b.length) 1 b.length b.length).st) ∧ (inK IntKind.i64 ((↑(1 : Nat) : Int) + (1 : Int))) ∧ ((0 : Int) ≤ (↑(1 : Nat) : Int) + (1 : Int) ∧ (↑(1 : Nat) : Int) + (1 : Int) < (↑(4 : Nat) : Int)) ∧ (frS9g8 a b c ((∀ (i : Nat), i < List.length c → ∀ (j : Nat), j < (8 : Nat) → rowL enC c i j = inF c (0 : Nat) i j) ∧ (frS9g9 a b c d ((frS9g1 l b d ((List.length c = List.length c) ∧ ((4 : Int) = (4 : Int)) ∧ ((↑(1 : Nat) : Int) + (1 : Int) = (↑(2 : Nat) : Int)) ∧ ((↑(List.length c) : Int) = (↑(List.length c) : Int)) ∧ ((0 : Int) = (↑(0 : Nat) : Int)) ∧ (Ok Try.prog (ntOf Try.prog 4) (.loop (lpC Try.prog 4 1)) (oS l a b c d (inF a a.length) (inF b b.length) (inF c 0) (rowL enC d) (.own 2 0 8 0 c.length) 2 c.length 0).st (.ext 2) (oS l a b c d (inF a a.length) (inF b b.length) (inF c c.length) (rowL enC d) (.own 2 0 8 0 c.length) 2 c.length c.length).st) ∧ (inK IntKind.i64 ((↑(2 : Nat) : Int) + (1 : Int))) ∧ ((0 : Int) ≤ (↑(2 : Nat) : Int) + (1 : Int) ∧ (↑(2 : Nat) : Int) + (1 : Int) < (↑(4 : Nat) : Int)) ∧ (frS9g8 a b c ((∀ (i : Nat), i < List.length c → ∀ (j : Nat), j < (8 : Nat) → inF c (List.length c) i j = inF c (List.length c) i j) ∧ (List.length d = List.length d) ∧ (∀ (i : Nat), i < List.length d → ∀ (j : Nat), j < (8 : Nat) → rowL enC d i j = inF d (0 : Nat) i j) ∧ (frS9g5 l a b c d ((frS9g4 l b d (((↑(2 : Nat) : Int) + (1 : Int) = (↑(3 : Nat) : Int)) ∧ ((↑(List.length d) : Int) = (↑(List.length d) : Int)) ∧ ((0 : Int) = (↑(0 : Nat) : Int)) ∧ (Ok Try.prog (ntOf Try.prog 4) (.loop (lpC Try.prog 4 1)) (oS l a b c d (inF a a.length) (inF b b.length) (inF c c.length) (inF d 0) (.own 3 0 8 0 d.length) 3 d.length 0).st (.ext 2) (oS l a b c d (inF a a.length) (inF b b.length) (inF c c.length) (inF d d.length) (.own 3 0 8 0 d.length) 3 d.length d.length).st) ∧ (inK IntKind.i64 ((↑(3 : Nat) : Int) + (1 : Int))) ∧ ((0 : Nat) = (0 : Nat) ∧ List.length b = List.length b ∧ (List.length b + (1 : Nat)) * (48 : Nat) ≤ (140737488355328 : Nat) ∧ List.length b + (1 : Nat) ≤ (140737488355328 : Nat)) ∧ (frS9g7 l (((0 : Int) = (↑(0 : Nat) : Int)) ∧ (Ok Try.prog (ntOf Try.prog 4) (.loop (lpC Try.prog 4 2)) (eqS l 0).st (.ext 4) (eqS l l.length).st) ∧ (PureC Try.prog 9 [] (.bool true) []) ∧ (true = true) ∧ True))))))))))))))))))))))))) (by kernel_rfl)
    ⟨(decide_eq_false (by first | omega | (simp; omega) | (simp; done))),
 (by first | rfl | exact beq_eq_false_iff_ne.2 (by omega) | exact beq_iff_eq.2 (by omega) | exact bne_iff_ne.2 (by omega) | exact bne_eq_false_iff_eq.2 (by omega) | (simp; done) | (simp; omega)),
 (by first | omega | rfl),
 (by first | omega | rfl | (simp; done) | (simp; omega)),
 rfl,
 (fun _ _ _ _ => rfl),
 rfl, (frS9g10_mk  ⟨rfl,
 hpu,
 (in64 (by omega) (by omega)),
 rfl,
 (fun _ _ _ _ => rfl),
 (by first | omega | rfl),
 hcu,
 rfl,
 (fun _ _ _ _ => rfl),
 (by first | omega | rfl),
 rfl, (frS9g10_mk  ⟨hpt,
 rfl,
 (fun _ _ _ _ => rfl),
 hpo,
 (by first | omega | rfl),
 rfl,
 (fun _ _ _ _ => rfl),
 rfl,
 (fun _ _ _ _ => rfl),
 rfl,
 (fun _ _ _ _ => rfl), (frS9g9_mk a b c d ⟨rfl,
 rfl,
 (fun _ _ _ _ => rfl),
 rfl,
 (by first | omega | rfl | (simp; done) | (simp; omega)),
 (fun _ _ _ _ => rfl),
 rfl,
 rfl,
 rfl,
 rfl,
 (by first | omega | rfl),
 (by first | omega | rfl),
 rfl,
 (by first | omega | rfl),
 ow_a_loop l a b c d (rowL enC b) (rowL enC c) (rowL enC d) 0 (by omega),
 (in64 (by omega) (by omega)),
 (by first | omega | rfl),
 rfl,
 (fun _ _ _ _ => rfl),
 rfl,
 (fun _ _ _ _ => rfl),
 rfl,
 (fun _ _ _ _ => rfl), (frS9g9_mk a b c d (frS9g1_mk l b d ⟨rfl,
 rfl,
 (by first | omega | rfl),
 rfl,
 (by first | omega | rfl),
 ow_b_loop l a b c d (inF a a.length) (rowL enC c) (rowL enC d) 1 (by omega),
 (in64 (by omega) (by omega)),
 (by first | omega | rfl), (frS9g8_mk a b c ⟨(fun _ _ _ _ => rfl), (frS9g9_mk a b c d (frS9g1_mk l b d ⟨rfl,
 rfl,
 (by first | omega | rfl),
 rfl,
 (by first | omega | rfl),
 ow_c_loop l a b c d (inF a a.length) (inF b b.length) (rowL enC d) 2 (by omega),
 (in64 (by omega) (by omega)),
 (by first | omega | rfl), (frS9g8_mk a b c ⟨(fun _ _ _ _ => rfl),
 rfl,
 (fun _ _ _ _ => rfl), (frS9g5_mk l a b c d (frS9g4_mk l b d ⟨(by first | omega | rfl),
 rfl,
 (by first | omega | rfl),
 ow_d_loop l a b c d (inF a a.length) (inF b b.length) (inF c c.length) 3 (by omega),
 (in64 (by omega) (by omega)),
 (by first | omega | rfl), (frS9g7_mk l ⟨(by first | omega | rfl),
 eq_loop l (by omega),
 awakeC9,
 rfl, trivial⟩)⟩))⟩)⟩))⟩)⟩))⟩)⟩)⟩)⟩
theorem own_big (l : List En) (i0 : Int) (hl : 40 < l.length) : Vc (vcFn Try.prog false 4 [enR l, .int .i64 i0] [.bd true, .cl [] (.bool true) []] [] (.bool true) []) :=
  vc_of (q := (decide ((↑(List.length l) : Int) > (40 : Int)) = true) ∧ (PureC Try.prog 9 [] (.bool true) []) ∧ (true = true) ∧ True) (by kernel_rfl)
    ⟨(decide_eq_true (by first | omega | (simp; omega) | (simp; done))),
 awakeC9,
 rfl, trivial⟩
theorem own_nil (i0 : Int) : Vc (vcFn Try.prog false 4 [enR [], .int .i64 i0] [.bd false, .bd true, .cl [] (.bool true) []] [] (.bool true) []) :=
  vc_of (q := (decide ((↑(0 : Nat) : Int) > (40 : Int)) = false) ∧ (((↑(0 : Nat) : Int) == (0 : Int)) = true) ∧ (PureC Try.prog 9 [] (.bool true) []) ∧ (true = true) ∧ True) (by kernel_rfl)
    ⟨(decide_eq_false (by first | omega | (simp; omega) | (simp; done))),
 (by first | rfl | exact beq_eq_false_iff_ne.2 (by omega) | exact beq_iff_eq.2 (by omega) | exact bne_iff_ne.2 (by omega) | exact bne_eq_false_iff_eq.2 (by omega) | (simp; done) | (simp; omega)),
 awakeC9,
 rfl, trivial⟩
theorem robqOwnC (l : List En) (i0 : Int) (h64 : ∀ y ∈ l, y.frm ≤ 9223372036854775807) : PureC Try.prog 4 [enR l, .int .i64 i0] (.bool true) [] := by
  by_cases hl : 40 < l.length
  · exact PureC.vc (own_big l i0 hl)
  · cases l with
    | nil => exact PureC.vc (own_nil i0)
    | cons x r =>
      have hlen : (x :: r).length = r.length + 1 := rfl
      have hi := and255 i0
      have hb := tmod_bd (b := ((x :: r).length : Int)) hi.1 (by rw [hlen]; omega)
      obtain ⟨I, eI⟩ : ∃ I : Nat, (bits .and .i64 i0 255).tmod ((x :: r).length : Int) = I := ⟨_, (Int.toNat_of_nonneg hb.1).symm⟩
      rw [eI] at hb
      exact PureC.vc (own_vc (x :: r) ((x :: r) ++ [o1W]) ((x :: r).take (I + 1)) ((x :: r).set (I : Int).toNat o5W) (r.map En.mv) x i0 I (by omega) (by omega) eI (by rw [List.length_append, hlen]; show r.length + 1 + 1 < 1000; omega) (by rw [List.length_take]; omega) (by rw [List.length_set]; omega) (by rw [List.length_map]; omega) (by omega)
        (pushC_y (x :: r) o1W 100 (by omega) (by omega)) (cutC (x :: r) ((I : Int) + 1) (I + 1) (by omega) (by omega)) (putC_y (x :: r) o5W (I : Int) (by omega) (by omega) (by omega)) (popC x r (by omega) (fun y hy => h64 y (List.mem_cons_of_mem _ hy))))
theorem walk_RobqOwn (A0 : Option Addr) (c0 : Nat) (z0 : List En) (a1 : Int) (W : World) (hr0 : RepP W (fun g => g < W.heap.size) (enR z0) (.slice A0 z0.length c0)) (he0 : ∀ x ∈ z0, En64 x) : Calls Try.prog 4 #[.slice A0 z0.length c0, .int .i64 a1] W (RetB (.bool true) W) :=
  (robqOwnC z0 a1 (fun y hy => (he0 y hy).frm.2)).lawB (R := fun g => g < W.heap.size) (fun _ h => h) rfl (fun j x v hx hv => match j, hx, hv with
    | 0, rfl, rfl => hr0
    | 1, rfl, rfl => .int _ _)
end
end Go.Proofs.Ytffghllcgoibdaa.Px
