/- What an item that a line tells is told as means that item. -/
import Derived.Test.YtcpbbkpfickfiaaDoorSyTell
set_option linter.unusedVariables false
set_option linter.unusedSimpArgs false
namespace Go.Proofs.YtcpbbkpfickfiaaDoor
namespace Sy
open Lx (Tk)
theorem good_w {t : List Int} (h : (match t with | c :: _ => Lx.lower c && t.all Lx.word | [] => false) = true) : Lx.Good (nT t) := by
  cases t with
  | nil => cases h
  | cons c r =>
    rw [Bool.and_eq_true] at h
    exact .inl ⟨rfl, rfl, c, r, rfl, h.1, fun x hx => List.all_eq_true.1 h.2 x hx⟩
theorem opT_ne {n : Int} (h : okO n) : opT n ≠ [119, 105, 100, 116, 104] ∧ opT n ≠ [119, 105, 110, 100, 111, 119] ∧ opT n ≠ [102, 117, 101, 108] ∧ opT n ≠ [112, 117, 98, 108, 105, 99] ∧ opT n ≠ [115, 101, 99, 114, 101, 116] := by
  obtain ⟨h0, h1⟩ := h
  rcases (by omega : n = 1 ∨ n = 2 ∨ n = 3 ∨ n = 4 ∨ n = 5 ∨ n = 6 ∨ n = 7 ∨ n = 8 ∨ n = 9 ∨ n = 10) with rfl | rfl | rfl | rfl | rfl | rfl | rfl | rfl | rfl | rfl <;> decide
theorem say_alu {op d : Int} {a b : Vl} (ho : okO op) (hd : okR d) (ha : okV a) (hb : okV b) : parse (text ⟨7, 0, false, [], ⟨1, op, d, a, b, [], 0⟩⟩) = .ok ⟨7, 0, false, [], ⟨1, op, d, a, b, [], 0⟩⟩ := by
  refine parse_of (ps := [(0, nT (opT op)), (1, nT (rT d)), (0, sT 44), (1, vK a), (0, sT 44), (1, vK b)]) ?_ ?_ ?_ (by simp) ?_
  · simp [text, insT, kindT, addrT, two, rend, vK_text, nT, sT, uT, List.replicate]
  · intro p hp
    simp only [List.mem_cons, List.not_mem_nil, or_false] at hp
    rcases hp with rfl | rfl | rfl | rfl | rfl | rfl
    · exact good_o ho
    · exact good_r hd
    · exact good_s (by decide)
    · exact good_v ha
    · exact good_s (by decide)
    · exact good_v hb
  · simp [okS, okNext, sT, nT, uT]
  · intro us hl hn
    obtain ⟨u0, g0, k0, x0, n0⟩ := hn 0 _ rfl
    obtain ⟨u1, g1, k1, x1, n1⟩ := hn 1 _ rfl
    obtain ⟨u2, g2, k2, x2, n2⟩ := hn 2 _ rfl
    obtain ⟨u3, g3, k3, x3, n3⟩ := hn 3 _ rfl
    obtain ⟨u4, g4, k4, x4, n4⟩ := hn 4 _ rfl
    obtain ⟨u5, g5, k5, x5, n5⟩ := hn 5 _ rfl
    simp only [List.length_cons, List.length_nil, Nat.reduceAdd] at hl
    obtain ⟨o1, o2, o3, _⟩ := opT_of ho
    rw [item_ins us _ g0 k0 x0 o2 (opT_ne ho) o3, show (nT (opT op)).text = opT op from rfl, ins_alu us _ ho]
    simp only [dflt, reg_ok g1 k1 x1 hd, sign_ok g2 k2 x2, vl_ok g3 k3 x3 n3 ha, sign_ok g4 k4 x4, vl_ok g5 k5 x5 n5 hb, o1, hl]
theorem say_load {d : Int} {a b : Vl} (hd : okR d) (ha : okV a) (hb : okV b) : parse (text ⟨7, 0, false, [], ⟨2, 0, d, a, b, [], 0⟩⟩) = .ok ⟨7, 0, false, [], ⟨2, 0, d, a, b, [], 0⟩⟩ := by
  refine parse_of (ps := [(0, nT [108, 111, 97, 100]), (1, nT (rT d)), (0, sT 44), (1, sT 91), (0, vK a), (1, sT 43), (1, vK b), (0, sT 93)]) ?_ ?_ ?_ (by simp) ?_
  · simp [text, insT, kindT, addrT, two, rend, vK_text, nT, sT, uT, List.replicate]
  · intro p hp
    simp only [List.mem_cons, List.not_mem_nil, or_false] at hp
    rcases hp with rfl | rfl | rfl | rfl | rfl | rfl | rfl | rfl
    · exact good_w (by decide)
    · exact good_r hd
    · exact good_s (by decide)
    · exact good_s (by decide)
    · exact good_v ha
    · exact good_s (by decide)
    · exact good_v hb
    · exact good_s (by decide)
  · simp [okS, okNext, sT, nT, uT]
  · intro us hl hn
    obtain ⟨u0, g0, k0, x0, n0⟩ := hn 0 _ rfl
    obtain ⟨u1, g1, k1, x1, n1⟩ := hn 1 _ rfl
    obtain ⟨u2, g2, k2, x2, n2⟩ := hn 2 _ rfl
    obtain ⟨u3, g3, k3, x3, n3⟩ := hn 3 _ rfl
    obtain ⟨u4, g4, k4, x4, n4⟩ := hn 4 _ rfl
    obtain ⟨u5, g5, k5, x5, n5⟩ := hn 5 _ rfl
    obtain ⟨u6, g6, k6, x6, n6⟩ := hn 6 _ rfl
    obtain ⟨u7, g7, k7, x7, n7⟩ := hn 7 _ rfl
    simp only [List.length_cons, List.length_nil, Nat.reduceAdd] at hl
    rw [item_ins us _ g0 k0 x0 (by decide) (by decide) (by decide)]
    simp only [show (nT [108, 111, 97, 100]).text = [108, 111, 97, 100] from rfl]
    unfold ins
    simp only [List.cons.injEq, Int.reduceEq, reduceCtorEq, and_true, and_false, false_and, and_self, if_true, if_false, address, reg_ok g1 k1 x1 hd, sign_ok g2 k2 x2, sign_ok g3 k3 x3, vl_ok g4 k4 x4 n4 ha, sign_ok g5 k5 x5, vl_ok g6 k6 x6 n6 hb, sign_ok g7 k7 x7, hl]
theorem say_store {d : Int} {a b : Vl} (hd : okR d) (ha : okV a) (hb : okV b) : parse (text ⟨7, 0, false, [], ⟨3, 0, d, a, b, [], 0⟩⟩) = .ok ⟨7, 0, false, [], ⟨3, 0, d, a, b, [], 0⟩⟩ := by
  refine parse_of (ps := [(0, nT [115, 116, 111, 114, 101]), (1, sT 91), (0, vK a), (1, sT 43), (1, vK b), (0, sT 93), (0, sT 44), (1, nT (rT d))]) ?_ ?_ ?_ (by simp) ?_
  · simp [text, insT, kindT, addrT, two, rend, vK_text, nT, sT, uT, List.replicate]
  · intro p hp
    simp only [List.mem_cons, List.not_mem_nil, or_false] at hp
    rcases hp with rfl | rfl | rfl | rfl | rfl | rfl | rfl | rfl
    · exact good_w (by decide)
    · exact good_s (by decide)
    · exact good_v ha
    · exact good_s (by decide)
    · exact good_v hb
    · exact good_s (by decide)
    · exact good_s (by decide)
    · exact good_r hd
  · simp [okS, okNext, sT, nT, uT]
  · intro us hl hn
    obtain ⟨u0, g0, k0, x0, n0⟩ := hn 0 _ rfl
    obtain ⟨u1, g1, k1, x1, n1⟩ := hn 1 _ rfl
    obtain ⟨u2, g2, k2, x2, n2⟩ := hn 2 _ rfl
    obtain ⟨u3, g3, k3, x3, n3⟩ := hn 3 _ rfl
    obtain ⟨u4, g4, k4, x4, n4⟩ := hn 4 _ rfl
    obtain ⟨u5, g5, k5, x5, n5⟩ := hn 5 _ rfl
    obtain ⟨u6, g6, k6, x6, n6⟩ := hn 6 _ rfl
    obtain ⟨u7, g7, k7, x7, n7⟩ := hn 7 _ rfl
    simp only [List.length_cons, List.length_nil, Nat.reduceAdd] at hl
    rw [item_ins us _ g0 k0 x0 (by decide) (by decide) (by decide)]
    simp only [show (nT [115, 116, 111, 114, 101]).text = [115, 116, 111, 114, 101] from rfl]
    unfold ins
    simp only [List.cons.injEq, Int.reduceEq, reduceCtorEq, and_true, and_false, false_and, and_self, if_true, if_false, address, sign_ok g1 k1 x1, vl_ok g2 k2 x2 n2 ha, sign_ok g3 k3 x3, vl_ok g4 k4 x4 n4 hb, sign_ok g5 k5 x5, sign_ok g6 k6 x6, reg_ok g7 k7 x7 hd, hl]
theorem say_cmov {d : Int} {a b : Vl} (hd : okR d) (ha : okV a) (hb : okV b) : parse (text ⟨7, 0, false, [], ⟨4, 0, d, a, b, [], 0⟩⟩) = .ok ⟨7, 0, false, [], ⟨4, 0, d, a, b, [], 0⟩⟩ := by
  refine parse_of (ps := [(0, nT [99, 109, 111, 118]), (1, nT (rT d)), (0, sT 44), (1, vK a), (0, sT 44), (1, vK b)]) ?_ ?_ ?_ (by simp) ?_
  · simp [text, insT, kindT, addrT, two, rend, vK_text, nT, sT, uT, List.replicate]
  · intro p hp
    simp only [List.mem_cons, List.not_mem_nil, or_false] at hp
    rcases hp with rfl | rfl | rfl | rfl | rfl | rfl
    · exact good_w (by decide)
    · exact good_r hd
    · exact good_s (by decide)
    · exact good_v ha
    · exact good_s (by decide)
    · exact good_v hb
  · simp [okS, okNext, sT, nT, uT]
  · intro us hl hn
    obtain ⟨u0, g0, k0, x0, n0⟩ := hn 0 _ rfl
    obtain ⟨u1, g1, k1, x1, n1⟩ := hn 1 _ rfl
    obtain ⟨u2, g2, k2, x2, n2⟩ := hn 2 _ rfl
    obtain ⟨u3, g3, k3, x3, n3⟩ := hn 3 _ rfl
    obtain ⟨u4, g4, k4, x4, n4⟩ := hn 4 _ rfl
    obtain ⟨u5, g5, k5, x5, n5⟩ := hn 5 _ rfl
    simp only [List.length_cons, List.length_nil, Nat.reduceAdd] at hl
    rw [item_ins us _ g0 k0 x0 (by decide) (by decide) (by decide)]
    simp only [show (nT [99, 109, 111, 118]).text = [99, 109, 111, 118] from rfl]
    unfold ins
    simp only [List.cons.injEq, Int.reduceEq, reduceCtorEq, and_true, and_false, false_and, and_self, if_true, if_false, address, reg_ok g1 k1 x1 hd, sign_ok g2 k2 x2, vl_ok g3 k3 x3 n3 ha, sign_ok g4 k4 x4, vl_ok g5 k5 x5 n5 hb, hl]
theorem say_br {op : Int} {a b : Vl} {n : List Int} (ho : okO op) (ha : okV a) (hb : okV b) (hnm : okName n) : parse (text ⟨7, 0, false, [], ⟨5, op, 0, a, b, n, 0⟩⟩) = .ok ⟨7, 0, false, [], ⟨5, op, 0, a, b, n, 0⟩⟩ := by
  refine parse_of (ps := [(0, nT [98, 114]), (1, nT (opT op)), (1, vK a), (0, sT 44), (1, vK b), (0, sT 44), (1, nT n)]) ?_ ?_ ?_ (by simp) ?_
  · simp [text, insT, kindT, addrT, two, rend, vK_text, nT, sT, uT, List.replicate]
  · intro p hp
    simp only [List.mem_cons, List.not_mem_nil, or_false] at hp
    rcases hp with rfl | rfl | rfl | rfl | rfl | rfl | rfl
    · exact good_w (by decide)
    · exact good_o ho
    · exact good_v ha
    · exact good_s (by decide)
    · exact good_v hb
    · exact good_s (by decide)
    · exact good_n hnm
  · simp [okS, okNext, sT, nT, uT]
  · intro us hl hn
    obtain ⟨u0, g0, k0, x0, n0⟩ := hn 0 _ rfl
    obtain ⟨u1, g1, k1, x1, n1⟩ := hn 1 _ rfl
    obtain ⟨u2, g2, k2, x2, n2⟩ := hn 2 _ rfl
    obtain ⟨u3, g3, k3, x3, n3⟩ := hn 3 _ rfl
    obtain ⟨u4, g4, k4, x4, n4⟩ := hn 4 _ rfl
    obtain ⟨u5, g5, k5, x5, n5⟩ := hn 5 _ rfl
    obtain ⟨u6, g6, k6, x6, n6⟩ := hn 6 _ rfl
    simp only [List.length_cons, List.length_nil, Nat.reduceAdd] at hl
    obtain ⟨o1, o2, o3, _⟩ := opT_of ho
    have o4 : op ≠ 0 := by obtain ⟨h0, _⟩ := ho; omega
    have x1' : u1.text = opT op := x1
    have k1' : u1.kind = 1 := k1
    rw [item_ins us _ g0 k0 x0 (by decide) (by decide) (by decide)]
    simp only [show (nT [98, 114]).text = [98, 114] from rfl]
    unfold ins
    simp only [List.cons.injEq, Int.reduceEq, reduceCtorEq, and_true, and_false, false_and, and_self, if_true, if_false, tokAt_of g1, k1', x1', o1, ne_eq, o4, not_false_eq_true, step_of g1, vl_ok g2 k2 x2 n2 ha, sign_ok g3 k3 x3, vl_ok g4 k4 x4 n4 hb, sign_ok g5 k5 x5, name_ok g6 k6 x6 hnm.2, hl]
    rfl
theorem say_jmp {n : List Int} (hnm : okName n) : parse (text ⟨7, 0, false, [], ⟨6, 0, 0, v0, v0, n, 0⟩⟩) = .ok ⟨7, 0, false, [], ⟨6, 0, 0, v0, v0, n, 0⟩⟩ := by
  refine parse_of (ps := [(0, nT [106, 109, 112]), (1, nT n)]) ?_ ?_ ?_ (by simp) ?_
  · simp [text, insT, kindT, addrT, two, rend, vK_text, nT, sT, uT, List.replicate]
  · intro p hp
    simp only [List.mem_cons, List.not_mem_nil, or_false] at hp
    rcases hp with rfl | rfl
    · exact good_w (by decide)
    · exact good_n hnm
  · simp [okS, okNext, sT, nT, uT]
  · intro us hl hn
    obtain ⟨u0, g0, k0, x0, n0⟩ := hn 0 _ rfl
    obtain ⟨u1, g1, k1, x1, n1⟩ := hn 1 _ rfl
    simp only [List.length_cons, List.length_nil, Nat.reduceAdd] at hl
    rw [item_ins us _ g0 k0 x0 (by decide) (by decide) (by decide)]
    simp only [show (nT [106, 109, 112]).text = [106, 109, 112] from rfl]
    unfold ins
    simp only [List.cons.injEq, Int.reduceEq, reduceCtorEq, and_true, and_false, false_and, and_self, if_true, if_false, address, name_ok g1 k1 x1 hnm.2, hl]
    rfl
theorem say_call {n : List Int} (hnm : okName n) : parse (text ⟨7, 0, false, [], ⟨8, 0, 0, v0, v0, n, 0⟩⟩) = .ok ⟨7, 0, false, [], ⟨8, 0, 0, v0, v0, n, 0⟩⟩ := by
  refine parse_of (ps := [(0, nT [99, 97, 108, 108]), (1, nT n)]) ?_ ?_ ?_ (by simp) ?_
  · simp [text, insT, kindT, addrT, two, rend, vK_text, nT, sT, uT, List.replicate]
  · intro p hp
    simp only [List.mem_cons, List.not_mem_nil, or_false] at hp
    rcases hp with rfl | rfl
    · exact good_w (by decide)
    · exact good_n hnm
  · simp [okS, okNext, sT, nT, uT]
  · intro us hl hn
    obtain ⟨u0, g0, k0, x0, n0⟩ := hn 0 _ rfl
    obtain ⟨u1, g1, k1, x1, n1⟩ := hn 1 _ rfl
    simp only [List.length_cons, List.length_nil, Nat.reduceAdd] at hl
    rw [item_ins us _ g0 k0 x0 (by decide) (by decide) (by decide)]
    simp only [show (nT [99, 97, 108, 108]).text = [99, 97, 108, 108] from rfl]
    unfold ins
    simp only [List.cons.injEq, Int.reduceEq, reduceCtorEq, and_true, and_false, false_and, and_self, if_true, if_false, address, name_ok g1 k1 x1 hnm.2, hl]
    rfl
theorem say_ind {a : Vl} (ha : okV a) : parse (text ⟨7, 0, false, [], ⟨7, 0, 0, a, v0, [], 0⟩⟩) = .ok ⟨7, 0, false, [], ⟨7, 0, 0, a, v0, [], 0⟩⟩ := by
  refine parse_of (ps := [(0, nT [105, 110, 100]), (1, vK a)]) ?_ ?_ ?_ (by simp) ?_
  · simp [text, insT, kindT, addrT, two, rend, vK_text, nT, sT, uT, List.replicate]
  · intro p hp
    simp only [List.mem_cons, List.not_mem_nil, or_false] at hp
    rcases hp with rfl | rfl
    · exact good_w (by decide)
    · exact good_v ha
  · simp [okS, okNext, sT, nT, uT]
  · intro us hl hn
    obtain ⟨u0, g0, k0, x0, n0⟩ := hn 0 _ rfl
    obtain ⟨u1, g1, k1, x1, n1⟩ := hn 1 _ rfl
    simp only [List.length_cons, List.length_nil, Nat.reduceAdd] at hl
    rw [item_ins us _ g0 k0 x0 (by decide) (by decide) (by decide)]
    simp only [show (nT [105, 110, 100]).text = [105, 110, 100] from rfl]
    unfold ins
    simp only [List.cons.injEq, Int.reduceEq, reduceCtorEq, and_true, and_false, false_and, and_self, if_true, if_false, address, vl_ok g1 k1 x1 n1 ha, hl]
theorem say_ret  : parse (text ⟨7, 0, false, [], ⟨9, 0, 0, v0, v0, [], 0⟩⟩) = .ok ⟨7, 0, false, [], ⟨9, 0, 0, v0, v0, [], 0⟩⟩ := by
  refine parse_of (ps := [(0, nT [114, 101, 116])]) ?_ ?_ ?_ (by simp) ?_
  · simp [text, insT, kindT, addrT, two, rend, vK_text, nT, sT, uT, List.replicate]
  · intro p hp
    simp only [List.mem_cons, List.not_mem_nil, or_false] at hp
    subst hp
    exact good_w (by decide)
  · simp [okS, okNext, sT, nT, uT]
  · intro us hl hn
    obtain ⟨u0, g0, k0, x0, n0⟩ := hn 0 _ rfl
    simp only [List.length_cons, List.length_nil, Nat.reduceAdd] at hl
    rw [item_ins us _ g0 k0 x0 (by decide) (by decide) (by decide)]
    simp only [show (nT [114, 101, 116]).text = [114, 101, 116] from rfl]
    unfold ins
    simp only [List.cons.injEq, Int.reduceEq, reduceCtorEq, and_true, and_false, false_and, and_self, if_true, if_false, address, hl]
theorem say_fence  : parse (text ⟨7, 0, false, [], ⟨10, 0, 0, v0, v0, [], 0⟩⟩) = .ok ⟨7, 0, false, [], ⟨10, 0, 0, v0, v0, [], 0⟩⟩ := by
  refine parse_of (ps := [(0, nT [102, 101, 110, 99, 101])]) ?_ ?_ ?_ (by simp) ?_
  · simp [text, insT, kindT, addrT, two, rend, vK_text, nT, sT, uT, List.replicate]
  · intro p hp
    simp only [List.mem_cons, List.not_mem_nil, or_false] at hp
    subst hp
    exact good_w (by decide)
  · simp [okS, okNext, sT, nT, uT]
  · intro us hl hn
    obtain ⟨u0, g0, k0, x0, n0⟩ := hn 0 _ rfl
    simp only [List.length_cons, List.length_nil, Nat.reduceAdd] at hl
    rw [item_ins us _ g0 k0 x0 (by decide) (by decide) (by decide)]
    simp only [show (nT [102, 101, 110, 99, 101]).text = [102, 101, 110, 99, 101] from rfl]
    unfold ins
    simp only [List.cons.injEq, Int.reduceEq, reduceCtorEq, and_true, and_false, false_and, and_self, if_true, if_false, address, hl]
theorem say_halt  : parse (text ⟨7, 0, false, [], ⟨11, 0, 0, v0, v0, [], 0⟩⟩) = .ok ⟨7, 0, false, [], ⟨11, 0, 0, v0, v0, [], 0⟩⟩ := by
  refine parse_of (ps := [(0, nT [104, 97, 108, 116])]) ?_ ?_ ?_ (by simp) ?_
  · simp [text, insT, kindT, addrT, two, rend, vK_text, nT, sT, uT, List.replicate]
  · intro p hp
    simp only [List.mem_cons, List.not_mem_nil, or_false] at hp
    subst hp
    exact good_w (by decide)
  · simp [okS, okNext, sT, nT, uT]
  · intro us hl hn
    obtain ⟨u0, g0, k0, x0, n0⟩ := hn 0 _ rfl
    simp only [List.length_cons, List.length_nil, Nat.reduceAdd] at hl
    rw [item_ins us _ g0 k0 x0 (by decide) (by decide) (by decide)]
    simp only [show (nT [104, 97, 108, 116]).text = [104, 97, 108, 116] from rfl]
    unfold ins
    simp only [List.cons.injEq, Int.reduceEq, reduceCtorEq, and_true, and_false, false_and, and_self, if_true, if_false, address, hl]
theorem say_width {n : Int} (h : okN n) : parse (text ⟨1, n, false, [], i0⟩) = .ok ⟨1, n, false, [], i0⟩ := by
  refine parse_of (ps := [(0, nT [119, 105, 100, 116, 104]), (1, uT n)]) ?_ ?_ ?_ (by simp) ?_
  · simp [text, insT, kindT, addrT, two, rend, vK_text, nT, sT, uT, List.replicate]
  · intro p hp
    simp only [List.mem_cons, List.not_mem_nil, or_false] at hp
    rcases hp with rfl | rfl
    · exact good_w (by decide)
    · exact good_u h
  · simp [okS, okNext, sT, nT, uT]
  · intro us hl hn
    obtain ⟨u0, g0, k0, x0, n0⟩ := hn 0 _ rfl
    obtain ⟨u1, g1, k1, x1, n1⟩ := hn 1 _ rfl
    simp only [List.length_cons, List.length_nil, Nat.reduceAdd] at hl
    have x0' : u0.text = [119, 105, 100, 116, 104] := x0
    have k0' : u0.kind = 1 := k0
    unfold item
    simp only [tokAt_of g0, k0', x0', show regN [119, 105, 100, 116, 104] < 0 by decide, step_of g0, and_self, if_true, List.cons.injEq, Int.reduceEq, reduceCtorEq, and_true, and_false, false_and, if_false, num_ok g1 k1 n1, hl]
    rfl
theorem say_window {n : Int} (h : okN n) : parse (text ⟨2, n, false, [], i0⟩) = .ok ⟨2, n, false, [], i0⟩ := by
  refine parse_of (ps := [(0, nT [119, 105, 110, 100, 111, 119]), (1, uT n)]) ?_ ?_ ?_ (by simp) ?_
  · simp [text, insT, kindT, addrT, two, rend, vK_text, nT, sT, uT, List.replicate]
  · intro p hp
    simp only [List.mem_cons, List.not_mem_nil, or_false] at hp
    rcases hp with rfl | rfl
    · exact good_w (by decide)
    · exact good_u h
  · simp [okS, okNext, sT, nT, uT]
  · intro us hl hn
    obtain ⟨u0, g0, k0, x0, n0⟩ := hn 0 _ rfl
    obtain ⟨u1, g1, k1, x1, n1⟩ := hn 1 _ rfl
    simp only [List.length_cons, List.length_nil, Nat.reduceAdd] at hl
    have x0' : u0.text = [119, 105, 110, 100, 111, 119] := x0
    have k0' : u0.kind = 1 := k0
    unfold item
    simp only [tokAt_of g0, k0', x0', show regN [119, 105, 110, 100, 111, 119] < 0 by decide, step_of g0, and_self, if_true, List.cons.injEq, Int.reduceEq, reduceCtorEq, and_true, and_false, false_and, if_false, num_ok g1 k1 n1, hl]
    rfl
theorem say_fuel {n : Int} (h : okN n) : parse (text ⟨3, n, false, [], i0⟩) = .ok ⟨3, n, false, [], i0⟩ := by
  refine parse_of (ps := [(0, nT [102, 117, 101, 108]), (1, uT n)]) ?_ ?_ ?_ (by simp) ?_
  · simp [text, insT, kindT, addrT, two, rend, vK_text, nT, sT, uT, List.replicate]
  · intro p hp
    simp only [List.mem_cons, List.not_mem_nil, or_false] at hp
    rcases hp with rfl | rfl
    · exact good_w (by decide)
    · exact good_u h
  · simp [okS, okNext, sT, nT, uT]
  · intro us hl hn
    obtain ⟨u0, g0, k0, x0, n0⟩ := hn 0 _ rfl
    obtain ⟨u1, g1, k1, x1, n1⟩ := hn 1 _ rfl
    simp only [List.length_cons, List.length_nil, Nat.reduceAdd] at hl
    have x0' : u0.text = [102, 117, 101, 108] := x0
    have k0' : u0.kind = 1 := k0
    unfold item
    simp only [tokAt_of g0, k0', x0', show regN [102, 117, 101, 108] < 0 by decide, step_of g0, and_self, if_true, List.cons.injEq, Int.reduceEq, reduceCtorEq, and_true, and_false, false_and, if_false, num_ok g1 k1 n1, hl]
    rfl
theorem say_reg_public {d : Int} (h : okR d) : parse (text ⟨4, 0, false, [], { i0 with d := d }⟩) = .ok ⟨4, 0, false, [], { i0 with d := d }⟩ := by
  refine parse_of (ps := [(0, nT [112, 117, 98, 108, 105, 99]), (1, nT (rT d))]) ?_ ?_ ?_ (by simp) ?_
  · simp [text, insT, kindT, addrT, two, rend, vK_text, nT, sT, uT, List.replicate]
  · intro p hp
    simp only [List.mem_cons, List.not_mem_nil, or_false] at hp
    rcases hp with rfl | rfl
    · exact good_w (by decide)
    · exact good_r h
  · simp [okS, okNext, sT, nT, uT]
  · intro us hl hn
    obtain ⟨u0, g0, k0, x0, n0⟩ := hn 0 _ rfl
    obtain ⟨u1, g1, k1, x1, n1⟩ := hn 1 _ rfl
    simp only [List.length_cons, List.length_nil, Nat.reduceAdd] at hl
    have x0' : u0.text = [112, 117, 98, 108, 105, 99] := x0
    have k0' : u0.kind = 1 := k0
    have x1' : u1.text = rT d := x1
    have k1' : u1.kind = 1 := k1
    have hr := (rT_of h).2
    unfold item
    simp only [tokAt_of g0, k0', x0', show regN [112, 117, 98, 108, 105, 99] < 0 by decide, step_of g0, and_self, if_true, List.cons.injEq, Int.reduceEq, reduceCtorEq, and_true, and_false, false_and, if_false]
    unfold declare
    simp only [tokAt_of g1, k1', x1', hr, h.1, and_self, if_true, step_of g1, hl]
theorem say_mem_public {m : List Int} {n : Int} (hm : okName m) (h : okN n) : parse (text ⟨5, n, false, m, i0⟩) = .ok ⟨5, n, false, m, i0⟩ := by
  refine parse_of (ps := [(0, nT [112, 117, 98, 108, 105, 99]), (1, nT m), (1, uT n)]) ?_ ?_ ?_ (by simp) ?_
  · simp [text, insT, kindT, addrT, two, rend, vK_text, nT, sT, uT, List.replicate]
  · intro p hp
    simp only [List.mem_cons, List.not_mem_nil, or_false] at hp
    rcases hp with rfl | rfl | rfl
    · exact good_w (by decide)
    · exact good_n hm
    · exact good_u h
  · simp [okS, okNext, sT, nT, uT]
  · intro us hl hn
    obtain ⟨u0, g0, k0, x0, n0⟩ := hn 0 _ rfl
    obtain ⟨u1, g1, k1, x1, n1⟩ := hn 1 _ rfl
    obtain ⟨u2, g2, k2, x2, n2⟩ := hn 2 _ rfl
    simp only [List.length_cons, List.length_nil, Nat.reduceAdd] at hl
    have x0' : u0.text = [112, 117, 98, 108, 105, 99] := x0
    have k0' : u0.kind = 1 := k0
    have x1' : u1.text = m := x1
    have k1' : u1.kind = 1 := k1
    have hr : ¬ 0 ≤ regN m := fun h0 => by have := hm.2; unfold isWord at this; simp [h0] at this
    unfold item
    simp only [tokAt_of g0, k0', x0', show regN [112, 117, 98, 108, 105, 99] < 0 by decide, step_of g0, and_self, if_true, List.cons.injEq, Int.reduceEq, reduceCtorEq, and_true, and_false, false_and, if_false]
    unfold declare
    simp only [tokAt_of g1, k1', x1', hr, and_false, if_false, hm.2, and_self, if_true, step_of g1, num_ok g2 k2 n2, hl]
    rfl
theorem say_reg_secret {d : Int} (h : okR d) : parse (text ⟨4, 0, true, [], { i0 with d := d }⟩) = .ok ⟨4, 0, true, [], { i0 with d := d }⟩ := by
  refine parse_of (ps := [(0, nT [115, 101, 99, 114, 101, 116]), (1, nT (rT d))]) ?_ ?_ ?_ (by simp) ?_
  · simp [text, insT, kindT, addrT, two, rend, vK_text, nT, sT, uT, List.replicate]
  · intro p hp
    simp only [List.mem_cons, List.not_mem_nil, or_false] at hp
    rcases hp with rfl | rfl
    · exact good_w (by decide)
    · exact good_r h
  · simp [okS, okNext, sT, nT, uT]
  · intro us hl hn
    obtain ⟨u0, g0, k0, x0, n0⟩ := hn 0 _ rfl
    obtain ⟨u1, g1, k1, x1, n1⟩ := hn 1 _ rfl
    simp only [List.length_cons, List.length_nil, Nat.reduceAdd] at hl
    have x0' : u0.text = [115, 101, 99, 114, 101, 116] := x0
    have k0' : u0.kind = 1 := k0
    have x1' : u1.text = rT d := x1
    have k1' : u1.kind = 1 := k1
    have hr := (rT_of h).2
    unfold item
    simp only [tokAt_of g0, k0', x0', show regN [115, 101, 99, 114, 101, 116] < 0 by decide, step_of g0, and_self, if_true, List.cons.injEq, Int.reduceEq, reduceCtorEq, and_true, and_false, false_and, if_false]
    unfold declare
    simp only [tokAt_of g1, k1', x1', hr, h.1, and_self, if_true, step_of g1, hl]
theorem say_mem_secret {m : List Int} {n : Int} (hm : okName m) (h : okN n) : parse (text ⟨5, n, true, m, i0⟩) = .ok ⟨5, n, true, m, i0⟩ := by
  refine parse_of (ps := [(0, nT [115, 101, 99, 114, 101, 116]), (1, nT m), (1, uT n)]) ?_ ?_ ?_ (by simp) ?_
  · simp [text, insT, kindT, addrT, two, rend, vK_text, nT, sT, uT, List.replicate]
  · intro p hp
    simp only [List.mem_cons, List.not_mem_nil, or_false] at hp
    rcases hp with rfl | rfl | rfl
    · exact good_w (by decide)
    · exact good_n hm
    · exact good_u h
  · simp [okS, okNext, sT, nT, uT]
  · intro us hl hn
    obtain ⟨u0, g0, k0, x0, n0⟩ := hn 0 _ rfl
    obtain ⟨u1, g1, k1, x1, n1⟩ := hn 1 _ rfl
    obtain ⟨u2, g2, k2, x2, n2⟩ := hn 2 _ rfl
    simp only [List.length_cons, List.length_nil, Nat.reduceAdd] at hl
    have x0' : u0.text = [115, 101, 99, 114, 101, 116] := x0
    have k0' : u0.kind = 1 := k0
    have x1' : u1.text = m := x1
    have k1' : u1.kind = 1 := k1
    have hr : ¬ 0 ≤ regN m := fun h0 => by have := hm.2; unfold isWord at this; simp [h0] at this
    unfold item
    simp only [tokAt_of g0, k0', x0', show regN [115, 101, 99, 114, 101, 116] < 0 by decide, step_of g0, and_self, if_true, List.cons.injEq, Int.reduceEq, reduceCtorEq, and_true, and_false, false_and, if_false]
    unfold declare
    simp only [tokAt_of g1, k1', x1', hr, and_false, if_false, hm.2, and_self, if_true, step_of g1, num_ok g2 k2 n2, hl]
    rfl
theorem say_label {m : List Int} (hm : okName m) : parse (text ⟨6, 0, false, m, i0⟩) = .ok ⟨6, 0, false, m, i0⟩ := by
  refine parse_of (ps := [(0, nT m), (0, sT 58)]) ?_ ?_ ?_ (by simp) ?_
  · simp [text, insT, kindT, addrT, two, rend, vK_text, nT, sT, uT, List.replicate]
  · intro p hp
    simp only [List.mem_cons, List.not_mem_nil, or_false] at hp
    rcases hp with rfl | rfl
    · exact good_n hm
    · exact good_s (by decide)
  · simp [okS, okNext, sT, nT, uT]
  · intro us hl hn
    obtain ⟨u0, g0, k0, x0, n0⟩ := hn 0 _ rfl
    obtain ⟨u1, g1, k1, x1, n1⟩ := hn 1 _ rfl
    simp only [List.length_cons, List.length_nil, Nat.reduceAdd] at hl
    have x0' : u0.text = m := x0
    have k0' : u0.kind = 1 := k0
    have hr : regN m < 0 := by have := hm.2; unfold isWord at this; simp at this; omega
    have hw : words.contains m = false := by have := hm.2; unfold isWord at this; simp only [Bool.or_eq_false_iff] at this; exact this.1.1
    have hne : ∀ x ∈ words, m ≠ x := fun x hx e => by rw [e] at hw; have : words.contains x = true := List.contains_iff_mem.2 hx; rw [this] at hw; cases hw
    unfold item
    simp only [tokAt_of g0, k0', x0', hr, step_of g0, and_self, if_true, if_neg (hne _ (by decide : [119, 105, 100, 116, 104] ∈ words)), if_neg (hne _ (by decide : [119, 105, 110, 100, 111, 119] ∈ words)), if_neg (hne _ (by decide : [102, 117, 101, 108] ∈ words)), if_neg (hne _ (by decide : [112, 117, 98, 108, 105, 99] ∈ words)), if_neg (hne _ (by decide : [115, 101, 99, 114, 101, 116] ∈ words)), hm.2, Bool.false_eq_true, if_false, sign_ok g1 k1 x1, hl]
theorem say_none : parse (text t0) = .ok t0 := by kernel_rfl
theorem say {i : It} (h : Ok i) : parse (text i) = .ok i := by
  cases h with
  | none => exact say_none
  | num h1 h2 h3 =>
    rename_i k n
    rcases (by omega : k = 1 ∨ k = 2 ∨ k = 3) with rfl | rfl | rfl
    · exact say_width h3
    · exact say_window h3
    · exact say_fuel h3
  | reg h =>
    rename_i s d
    cases s
    · exact say_reg_public h
    · exact say_reg_secret h
  | mem h1 h2 =>
    rename_i s m n
    cases s
    · exact say_mem_public h1 h2
    · exact say_mem_secret h1 h2
  | label h => exact say_label h
  | ins h =>
    cases h with
    | alu h1 h2 h3 h4 => exact say_alu h1 h2 h3 h4
    | load h1 h2 h3 => exact say_load h1 h2 h3
    | store h1 h2 h3 => exact say_store h1 h2 h3
    | cmov h1 h2 h3 => exact say_cmov h1 h2 h3
    | br h1 h2 h3 h4 => exact say_br h1 h2 h3 h4
    | jmp h => exact say_jmp h
    | call h => exact say_call h
    | ind h => exact say_ind h
    | ret => exact say_ret
    | fence => exact say_fence
    | halt => exact say_halt
end Sy
end Go.Proofs.YtcpbbkpfickfiaaDoor
