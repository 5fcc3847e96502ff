/-
  Layer 18: taken; live ones.
-/
import Derived.Test.YtlamjfdghhbkpaaT1
import Derived.Test.YtlamjfdghhbkpaaT2
import Derived.Test.YtlamjfdghhbkpaaT3
import Derived.Test.YtlamjfdghhbkpaaT4
namespace Go.Proofs.Ytlamjfdghhbkpaa
open Go.RowKit
set_option linter.unusedSimpArgs false
set_option linter.unusedVariables false


theorem app_cl {cs : List Cl} {x : D} (h : IsL 3 (cls cs) x) (c : Cl) : x.app 3 [.agg [.v (.bool c.live), .v (.int .i64 c.val), .v (.int .i64 c.link)]] = .sl 3 (cls (cs ++ [c])) := by
  rcases h with rfl | ⟨rfl, h0⟩
  · simp [D.app, cls, clD]
  · cases cs with
    | nil => rfl
    | cons a l => simp [cls] at h0
theorem app_set {cs : List Cl} {x : D} (h : IsL 3 (cls cs) x) (c : Cl) : (x.app 3 [.agg [.v (.bool false), .v (.int .i64 0), .v (.int .i64 0)]]).setAt (.v (.int .i64 (cs.length : Nat))) 0 [.v (.bool c.live), .v (.int .i64 c.val), .v (.int .i64 c.link)] = reD x (cs ++ [c]) := by
  have e : x.app 3 [.agg [.v (.bool false), .v (.int .i64 0), .v (.int .i64 0)]] = .sl 3 (cls (cs ++ [c0])) := app_cl h c0
  rw [e, cls_set (x := .sl 3 _) (cs := cs ++ [c0]) (.inl rfl) (by omega) (by simp; omega)]
  rw [reD_ne (by simp), reD_ne (by simp)]
  simp
theorem app_at {cs : List Cl} {x : D} (h : IsL 3 (cls cs) x) : (x.app 3 [.agg [.v (.bool false), .v (.int .i64 0), .v (.int .i64 0)]]).at_ (.v (.int .i64 (cs.length : Nat))) = clD c0 := by
  have e : x.app 3 [.agg [.v (.bool false), .v (.int .i64 0), .v (.int .i64 0)]] = .sl 3 (cls (cs ++ [c0])) := app_cl h c0
  rw [e, cls_at (.inl rfl) (by omega) (by simp; omega)]
  simp [List.getD]
theorem app_inb {cs : List Cl} {x : D} (h : IsL 3 (cls cs) x) : D.inb 3 (x.app 3 [.agg [.v (.bool false), .v (.int .i64 0), .v (.int .i64 0)]]) (.v (.int .i64 (cs.length : Nat))) := by
  have e : x.app 3 [.agg [.v (.bool false), .v (.int .i64 0), .v (.int .i64 0)]] = .sl 3 (cls (cs ++ [c0])) := app_cl h c0
  rw [e]
  exact cls_inb (.inl rfl) (by omega) (by simp; omega)
theorem ch3 (a b c : D) : chunks true 3 1 [a, b, c] = [.agg [a, b, c]] := rfl
/-- A cell taken: cells, the first spare one, how many live, the place, the answer. -/
def takeF (cs : List Cl) (f u v : Int) : List Cl × Int × Int × Int × Int :=
  if chkF cs f u ≠ 0 then (cs, f, u, 0, chkF cs f u) else if 64 ≤ u then (cs, f, u, 0, 7) else if f = -1 then (cs ++ [⟨true, v, 0⟩], -1, u + 1, ((cs.length : Nat) : Int), 0)
  else (cs.set f.toNat ⟨true, v, 0⟩, (cs.getD f.toNat c0).link, u + 1, f, 0)
theorem cnt_lt {cs : List Cl} {k : Nat} (h : k < cs.length) (hl : (cs.getD k c0).live = false) : cntL cs < cs.length := by
  have h2 := cnt_le cs
  rcases Nat.lt_or_ge (cntL cs) cs.length with h3 | h3
  · exact h3
  · have h4 : cntL cs = cs.length := by omega
    unfold cntL at h4
    rw [List.countP_eq_length] at h4
    have h5 := h4 (cs.getD k c0) (by simp [List.getD, h])
    rw [hl] at h5; cases h5
/-- The first spare cell. -/
theorem free_ok {cs : List Cl} {f u : Int} (h : chkF cs f u = 0) (hf : f ≠ -1) : 0 ≤ f ∧ f < (cs.length : Nat) ∧ ∃ k, cs.getD f.toNat c0 = ⟨false, 0, k⟩ ∧ -1 ≤ k ∧ k < (cs.length : Nat) := by
  obtain ⟨h1, h2, h3, h4, h5, h6⟩ := chk_ok h
  simp only [linkB, decide_eq_true_eq] at h2
  have h0 : 0 ≤ f := by omega
  refine ⟨h0, h2.2, ?_⟩
  have hlt : f.toNat < cs.length := by omega
  have hlv : (cs.getD f.toNat c0).live = false := by
    generalize hn : cs.length - cntL cs = n at h6
    cases n with
    | zero => simp [chF, hf] at h6
    | succ n =>
      simp only [chF] at h6
      rw [if_neg hf] at h6
      cases e : (cs.getD f.toNat c0).live
      · rfl
      · rw [e] at h6; simp at h6
  have hk := links_of h3 f.toNat hlt hlv
  have : bl2 (cs.getD f.toNat c0) = false := by
    cases e : bl2 (cs.getD f.toNat c0)
    · rfl
    · rw [any_at hlt e] at h4; cases h4
  generalize cs.getD f.toNat c0 = c at hlv this hk
  obtain ⟨lv, vl, lk⟩ := c
  simp only at hlv; subst hlv
  simp [bl2] at this; subst this
  exact ⟨lk, rfl, hk⟩
def liveL (cs : List Cl) : Nat → List Int
  | 0 => []
  | k + 1 => liveL cs k ++ (if (cs.getD k c0).live then [(k : Int)] else [])
def liveF (cs : List Cl) (f u : Int) : List Int := if chkF cs f u = 0 then liveL cs cs.length else []
theorem liveL_len (cs : List Cl) : ∀ k, (liveL cs k).length ≤ k
  | 0 => Nat.le_refl _
  | k + 1 => by have := liveL_len cs k; simp only [liveL, List.length_append]; split <;> simp <;> omega

theorem vc_take (x : D) (cs : List Cl) (f u : Int) (v : Int) : Cond Try.prog (fun _ => none) Try.f9 [.agg [x, .v (.int .i64 f), .v (.int .i64 u)], .v (.int .i64 v)] [.agg [reD x (takeF cs f u v).1, .v (.int .i64 (takeF cs f u v).2.1), .v (.int .i64 (takeF cs f u v).2.2.1)], .v (.int .i64 (takeF cs f u v).2.2.2.1), .v (.int .i64 (takeF cs f u v).2.2.2.2)] = (((∃ (cs : List D), D.agg [x, D.v (Value.int IntKind.i64 f), D.v (Value.int IntKind.i64 u)] = D.agg cs ∧ cs.length = 3) ∧ NotAgg (D.v (Value.int IntKind.i64 v)) ∧ True) ∧ ∃ (r : D), PureD Try.prog 29 [D.agg [x, D.v (Value.int IntKind.i64 f), D.v (Value.int IntKind.i64 u)]] [r] ∧ fits [(true, [some 3, none, none])] [r] ∧ ∃ (r_1 : D), PureD Try.prog 19 [D.agg [r.cell 0, r.cell 1, r.cell 2]] [r_1] ∧ fits [(false, [none])] [r_1] ∧ ∃ (r_2 : D), D.bin BinOp.neq r_1 (D.v (Value.int IntKind.i64 0)) = some r_2 ∧ ∃ (b : Bool), r_2 = D.v (Value.bool b) ∧ (b = true → (PlainD (r.cell 0) ∧ (∃ (y : Value), r.cell 1 = D.v y) ∧ (∃ (y : Value), r.cell 2 = D.v y) ∧ True ∧ (∃ (y : Value), r_1 = D.v y) ∧ True) ∧ [D.agg [r.cell 0, r.cell 1, r.cell 2], D.v (Value.int IntKind.i64 0), r_1] = [D.agg [reD x (takeF cs f u v).1, D.v (Value.int IntKind.i64 (takeF cs f u v).snd.fst), D.v (Value.int IntKind.i64 (takeF cs f u v).snd.snd.fst)], D.v (Value.int IntKind.i64 (takeF cs f u v).snd.snd.snd.fst), D.v (Value.int IntKind.i64 (takeF cs f u v).snd.snd.snd.snd)]) ∧ (b = false → ∃ (r_3 : D), D.bin BinOp.geq (r.cell 2) (D.v (Value.int IntKind.i64 64)) = some r_3 ∧ ∃ (b : Bool), r_3 = D.v (Value.bool b) ∧ (b = true → (PlainD (r.cell 0) ∧ (∃ (y : Value), r.cell 1 = D.v y) ∧ (∃ (y : Value), r.cell 2 = D.v y) ∧ True ∧ True ∧ True) ∧ [D.agg [r.cell 0, r.cell 1, r.cell 2], D.v (Value.int IntKind.i64 0), D.v (Value.int IntKind.i64 7)] = [D.agg [reD x (takeF cs f u v).1, D.v (Value.int IntKind.i64 (takeF cs f u v).snd.fst), D.v (Value.int IntKind.i64 (takeF cs f u v).snd.snd.fst)], D.v (Value.int IntKind.i64 (takeF cs f u v).snd.snd.snd.fst), D.v (Value.int IntKind.i64 (takeF cs f u v).snd.snd.snd.snd)]) ∧ (b = false → ∃ (r_4 : D), D.bin BinOp.eql (r.cell 1) (D.v (Value.int IntKind.i64 (-1))) = some r_4 ∧ ∃ (b : Bool), r_4 = D.v (Value.bool b) ∧ (b = true → ∃ (r_5 : D), D.lenT (TypeDesc.slice 62) (r.cell 0) = some r_5 ∧ ∃ (ls : List D), (r.cell 0).lst = some ls ∧ ∃ (lx : List D), D.lstSz 3 (D.sl 3 (chunks true 3 1 [D.v (Value.bool false), D.v (Value.int IntKind.i64 0), D.v (Value.int IntKind.i64 0)])) = some lx ∧ (ls.length + lx.length) * 24 ≤ 1099511627776 ∧ D.inb 3 (D.app 3 (r.cell 0) lx) r_5 ∧ 0 + [D.v (Value.bool true), D.v (Value.int IntKind.i64 v), D.v (Value.int IntKind.i64 0)].length ≤ ((D.app 3 (r.cell 0) lx).at_ r_5).cells.length ∧ (((D.app 3 (r.cell 0) lx).at_ r_5).isAgg' = true ∨ [D.v (Value.bool true), D.v (Value.int IntKind.i64 v), D.v (Value.int IntKind.i64 0)].length = 1) ∧ ∃ (r_6 : D), D.bin BinOp.add (r.cell 2) (D.v (Value.int IntKind.i64 1)) = some r_6 ∧ (PlainD ((D.app 3 (r.cell 0) lx).setAt r_5 0 [D.v (Value.bool true), D.v (Value.int IntKind.i64 v), D.v (Value.int IntKind.i64 0)]) ∧ (∃ (y : Value), r.cell 1 = D.v y) ∧ (∃ (y : Value), r_6 = D.v y) ∧ (∃ (y : Value), r_5 = D.v y) ∧ True ∧ True) ∧ [D.agg [(D.app 3 (r.cell 0) lx).setAt r_5 0 [D.v (Value.bool true), D.v (Value.int IntKind.i64 v), D.v (Value.int IntKind.i64 0)], r.cell 1, r_6], r_5, D.v (Value.int IntKind.i64 0)] = [D.agg [reD x (takeF cs f u v).1, D.v (Value.int IntKind.i64 (takeF cs f u v).snd.fst), D.v (Value.int IntKind.i64 (takeF cs f u v).snd.snd.fst)], D.v (Value.int IntKind.i64 (takeF cs f u v).snd.snd.snd.fst), D.v (Value.int IntKind.i64 (takeF cs f u v).snd.snd.snd.snd)]) ∧ (b = false → D.inb 3 (r.cell 0) (r.cell 1) ∧ 1 + 1 + 1 ≤ ((r.cell 0).at_ (r.cell 1)).cells.length ∧ D.inb 3 (r.cell 0) (r.cell 1) ∧ 0 + [D.v (Value.bool true), D.v (Value.int IntKind.i64 v), D.v (Value.int IntKind.i64 0)].length ≤ ((r.cell 0).at_ (r.cell 1)).cells.length ∧ (((r.cell 0).at_ (r.cell 1)).isAgg' = true ∨ [D.v (Value.bool true), D.v (Value.int IntKind.i64 v), D.v (Value.int IntKind.i64 0)].length = 1) ∧ ∃ (r_5 : D), D.bin BinOp.add (r.cell 2) (D.v (Value.int IntKind.i64 1)) = some r_5 ∧ (PlainD ((r.cell 0).setAt (r.cell 1) 0 [D.v (Value.bool true), D.v (Value.int IntKind.i64 v), D.v (Value.int IntKind.i64 0)]) ∧ (∃ (y : Value), ((r.cell 0).at_ (r.cell 1)).cell (1 + 1) = D.v y) ∧ (∃ (y : Value), r_5 = D.v y) ∧ (∃ (y : Value), r.cell 1 = D.v y) ∧ True ∧ True) ∧ [D.agg [(r.cell 0).setAt (r.cell 1) 0 [D.v (Value.bool true), D.v (Value.int IntKind.i64 v), D.v (Value.int IntKind.i64 0)], ((r.cell 0).at_ (r.cell 1)).cell (1 + 1), r_5], r.cell 1, D.v (Value.int IntKind.i64 0)] = [D.agg [reD x (takeF cs f u v).1, D.v (Value.int IntKind.i64 (takeF cs f u v).snd.fst), D.v (Value.int IntKind.i64 (takeF cs f u v).snd.snd.fst)], D.v (Value.int IntKind.i64 (takeF cs f u v).snd.snd.snd.fst), D.v (Value.int IntKind.i64 (takeF cs f u v).snd.snd.snd.snd)])))) := by kernel_rfl
set_option maxHeartbeats 4000000 in
theorem take (x : D) (cs : List Cl) (f u : Int) (v : Int) (hX : IsL 3 (cls cs) x) (hl : cs.length ≤ 100000) : PureD Try.prog 9 [.agg [x, .v (.int .i64 f), .v (.int .i64 u)], .v (.int .i64 v)] [.agg [reD x (takeF cs f u v).1, .v (.int .i64 (takeF cs f u v).2.1), .v (.int .i64 (takeF cs f u v).2.2.1)], .v (.int .i64 (takeF cs f u v).2.2.2.1), .v (.int .i64 (takeF cs f u v).2.2.2.2)] := by
  refine pure_cond (Lp := (fun _ => none)) (by kernel_rfl) Try.func9 (by kernel_rfl) (by kernel_rfl) ?_
  rw [vc_take x cs f u v]
  have C := check x cs f u hX hl
  have K := kept x cs f u hX hl
  have hk := chk_cases cs f u
  by_cases h0 : chkF cs f u = 0
  · rw [h0] at C
    obtain ⟨hok1, hok2, hok3, hok4, hok5, hok6⟩ := chk_ok h0
    by_cases h64 : 64 ≤ u
    · have hG : takeF cs f u v = (cs, f, u, 0, 7) := by unfold takeF; rw [if_neg (by omega), if_pos h64]
      have h1 : True := trivial
      have s1 : True := trivial
      rw [hG]
      simp only
      rw [reD_self hX]
      repeat' (first
        | (refine ex_some (by simp (disch := omega) only [bin_shr, bin_shl, bin_and, bin_or, bin_xor, len_str, toStr_ofL, bin_add, bin_sub, bin_mul, bin_quo, bin_rem, bin_lss, bin_leq, bin_gtr, bin_geq, bin_eql, bin_neq, eqs_cn, eqs_ci, eqs_cb, eqs_cs, Option.map_some, lenT_ofL, lst_ofL, lstSz_ofL, chunk_one, lst_nil, lst_sl, lstSz_sl, lstSz_nil, Bool.and_true, Bool.true_and, Bool.and_false, Bool.false_and, beq_self_eq_true, beq_bb, bne_bb, un_not, un_neg, conv_int, min2_int, max2_int, w64, w32, wu8, wu16, wu32, wu64, tdiv_nn, tmod_nn, cell_zero, cell_succ, cell_v, cells_v, cells_agg, Bool.not_true, Bool.not_false, Int.reduceLT, Int.reduceLE, Int.reduceEq, Int.reduceNeg, Int.reduceAdd, Int.reduceSub, Int.reduceMul, intOf_v, decide_true, decide_false, h1, hX.lenT, hX.lst, cls_len, ch3]; rfl) ?_)
        | (refine ex_bool ?_)
        | (refine ⟨_, C, ?_⟩)
        | (refine ⟨_, K, ?_⟩)
        | (exact i1)
        | (refine And.intro ?_ ?_)
        | (intro hx; have hprop := (show ∀ (p : Prop), p → True from fun _ _ => True.intro) _ hx; clear hprop; first | (cases hx; done) | (exfalso; revert hx; simp (disch := omega) only [decide_eq_true_eq, decide_eq_false_iff_not, Bool.not_eq_true', Bool.not_eq_false', Bool.and_eq_true, Bool.and_eq_false_iff, Int.not_lt, Int.not_le, ne_eq, not_false_eq_true, not_true_eq_false, reduceCtorEq, Bool.true_eq_false, Bool.false_eq_true, beq_iff_eq, bne_iff_ne, beq_eq_false_iff_ne, false_or, or_false, true_and, and_true, h1, hX.lenT, hX.lst, cls_len, ch3]; done) | (simp (disch := omega) only [decide_eq_true_eq, decide_eq_false_iff_not, Bool.not_eq_true', Bool.not_eq_false', Bool.and_eq_true, Bool.and_eq_false_iff, Int.not_lt, Int.not_le, ne_eq, not_false_eq_true, not_true_eq_false, reduceCtorEq, Bool.true_eq_false, Bool.false_eq_true, beq_iff_eq, bne_iff_ne, beq_eq_false_iff_ne, false_or, or_false, true_and, and_true, h1, hX.lenT, hX.lst, cls_len, ch3] at hx; first | (exfalso; omega) | skip) | skip)
        | trivial
        | exact fit_ofL _ _
        | (simp (disch := omega) only [notAgg_v, notAgg_sl, plain_v, fits, fitsOne, fitsCells, xsOf, cell_zero, cell_succ, List.range, List.range.loop, List.map, cond_true, cond_false, D.v.injEq, exists_eq', exists_eq, and_self, and_true, true_and, D.agg.injEq, List.length, exists_eq_left', D.sl.injEq, reduceCtorEq, false_or, true_or, or_true, or_false, cell_zero, cell_succ, cell_v, cells_v, cells_agg, List.length_cons, List.length_nil, h1, hX.lenT, hX.lst, cls_len, ch3]; done))
      all_goals first
        | (exfalso; omega)
        | exact fit_ofL _ _
        | exact fitC hX
        | exact plainC hX
        | exact ⟨_, rfl⟩
        | omega
        | rfl
        | (simp only [cell_zero, cell_succ, Nat.zero_add, ch3, s1]; first | done | exact plainS hX)
        | (simp only [cell_zero, cell_succ, Nat.zero_add, ch3, h1, s1]; done)
        | (simp only [cell_zero, cell_succ, Nat.zero_add, ch3, s1]; exact plainS hX)
        | (simp only [ch3, cls_len, List.length_cons, List.length_nil]; omega)
        | (simp only [cell_zero, cell_succ, ch3, h1]; simp [D.cells, D.isAgg']; done)
        | (simp only [cell_zero, cell_succ, Nat.zero_add, h1]; done)
        | (simp; done)
        | fail
    · by_cases hf : f = -1
      · subst hf
        have hG : takeF cs (-1) u v = (cs ++ [⟨true, v, 0⟩], -1, u + 1, ((cs.length : Nat) : Int), 0) := by unfold takeF; rw [if_neg (by omega), if_neg h64, if_pos rfl]
        have h1 := app_at hX
        simp only [clD, c0] at h1
        have i1 := app_inb hX
        have s1 := app_set hX ⟨true, v, 0⟩
        rw [hG]
        repeat' (first
          | (refine ex_some (by simp (disch := omega) only [bin_shr, bin_shl, bin_and, bin_or, bin_xor, len_str, toStr_ofL, bin_add, bin_sub, bin_mul, bin_quo, bin_rem, bin_lss, bin_leq, bin_gtr, bin_geq, bin_eql, bin_neq, eqs_cn, eqs_ci, eqs_cb, eqs_cs, Option.map_some, lenT_ofL, lst_ofL, lstSz_ofL, chunk_one, lst_nil, lst_sl, lstSz_sl, lstSz_nil, Bool.and_true, Bool.true_and, Bool.and_false, Bool.false_and, beq_self_eq_true, beq_bb, bne_bb, un_not, un_neg, conv_int, min2_int, max2_int, w64, w32, wu8, wu16, wu32, wu64, tdiv_nn, tmod_nn, cell_zero, cell_succ, cell_v, cells_v, cells_agg, Bool.not_true, Bool.not_false, Int.reduceLT, Int.reduceLE, Int.reduceEq, Int.reduceNeg, Int.reduceAdd, Int.reduceSub, Int.reduceMul, intOf_v, decide_true, decide_false, h1, hX.lenT, hX.lst, cls_len, ch3]; rfl) ?_)
          | (refine ex_bool ?_)
          | (refine ⟨_, C, ?_⟩)
          | (refine ⟨_, K, ?_⟩)
          | (exact i1)
          | (refine And.intro ?_ ?_)
          | (intro hx; have hprop := (show ∀ (p : Prop), p → True from fun _ _ => True.intro) _ hx; clear hprop; first | (cases hx; done) | (exfalso; revert hx; simp (disch := omega) only [decide_eq_true_eq, decide_eq_false_iff_not, Bool.not_eq_true', Bool.not_eq_false', Bool.and_eq_true, Bool.and_eq_false_iff, Int.not_lt, Int.not_le, ne_eq, not_false_eq_true, not_true_eq_false, reduceCtorEq, Bool.true_eq_false, Bool.false_eq_true, beq_iff_eq, bne_iff_ne, beq_eq_false_iff_ne, false_or, or_false, true_and, and_true, h1, hX.lenT, hX.lst, cls_len, ch3]; done) | (simp (disch := omega) only [decide_eq_true_eq, decide_eq_false_iff_not, Bool.not_eq_true', Bool.not_eq_false', Bool.and_eq_true, Bool.and_eq_false_iff, Int.not_lt, Int.not_le, ne_eq, not_false_eq_true, not_true_eq_false, reduceCtorEq, Bool.true_eq_false, Bool.false_eq_true, beq_iff_eq, bne_iff_ne, beq_eq_false_iff_ne, false_or, or_false, true_and, and_true, h1, hX.lenT, hX.lst, cls_len, ch3] at hx; first | (exfalso; omega) | skip) | skip)
          | trivial
          | exact fit_ofL _ _
          | (simp (disch := omega) only [notAgg_v, notAgg_sl, plain_v, fits, fitsOne, fitsCells, xsOf, cell_zero, cell_succ, List.range, List.range.loop, List.map, cond_true, cond_false, D.v.injEq, exists_eq', exists_eq, and_self, and_true, true_and, D.agg.injEq, List.length, exists_eq_left', D.sl.injEq, reduceCtorEq, false_or, true_or, or_true, or_false, cell_zero, cell_succ, cell_v, cells_v, cells_agg, List.length_cons, List.length_nil, h1, hX.lenT, hX.lst, cls_len, ch3]; done))
        all_goals first
          | (exfalso; omega)
          | exact fit_ofL _ _
          | exact fitC hX
          | exact plainC hX
          | exact ⟨_, rfl⟩
          | omega
          | rfl
          | (simp only [cell_zero, cell_succ, Nat.zero_add, ch3, s1]; first | done | exact plainS hX)
          | (simp only [cell_zero, cell_succ, Nat.zero_add, ch3, h1, s1]; done)
          | (simp only [cell_zero, cell_succ, Nat.zero_add, ch3, s1]; exact plainS hX)
          | (simp only [ch3, cls_len, List.length_cons, List.length_nil]; omega)
          | (simp only [cell_zero, cell_succ, ch3, h1]; simp [D.cells, D.isAgg']; done)
          | (simp only [cell_zero, cell_succ, Nat.zero_add, h1]; done)
          | (simp; done)
          | fail
      · obtain ⟨hz0, hz1, lk, hc, hk0, hk1⟩ := free_ok h0 hf
        have hG : takeF cs f u v = (cs.set f.toNat ⟨true, v, 0⟩, lk, u + 1, f, 0) := by unfold takeF; rw [if_neg (by omega), if_neg h64, if_neg hf, hc]
        have h1 := cls_at hX hz0 hz1
        rw [hc] at h1
        simp only [clD] at h1
        have i1 := cls_inb hX hz0 hz1
        have s1 := cls_set hX hz0 hz1 ⟨true, v, 0⟩
        rw [hG]
        repeat' (first
          | (refine ex_some (by simp (disch := omega) only [bin_shr, bin_shl, bin_and, bin_or, bin_xor, len_str, toStr_ofL, bin_add, bin_sub, bin_mul, bin_quo, bin_rem, bin_lss, bin_leq, bin_gtr, bin_geq, bin_eql, bin_neq, eqs_cn, eqs_ci, eqs_cb, eqs_cs, Option.map_some, lenT_ofL, lst_ofL, lstSz_ofL, chunk_one, lst_nil, lst_sl, lstSz_sl, lstSz_nil, Bool.and_true, Bool.true_and, Bool.and_false, Bool.false_and, beq_self_eq_true, beq_bb, bne_bb, un_not, un_neg, conv_int, min2_int, max2_int, w64, w32, wu8, wu16, wu32, wu64, tdiv_nn, tmod_nn, cell_zero, cell_succ, cell_v, cells_v, cells_agg, Bool.not_true, Bool.not_false, Int.reduceLT, Int.reduceLE, Int.reduceEq, Int.reduceNeg, Int.reduceAdd, Int.reduceSub, Int.reduceMul, intOf_v, decide_true, decide_false, h1, hX.lenT, hX.lst, cls_len, ch3]; rfl) ?_)
          | (refine ex_bool ?_)
          | (refine ⟨_, C, ?_⟩)
          | (refine ⟨_, K, ?_⟩)
          | (exact i1)
          | (refine And.intro ?_ ?_)
          | (intro hx; have hprop := (show ∀ (p : Prop), p → True from fun _ _ => True.intro) _ hx; clear hprop; first | (cases hx; done) | (exfalso; revert hx; simp (disch := omega) only [decide_eq_true_eq, decide_eq_false_iff_not, Bool.not_eq_true', Bool.not_eq_false', Bool.and_eq_true, Bool.and_eq_false_iff, Int.not_lt, Int.not_le, ne_eq, not_false_eq_true, not_true_eq_false, reduceCtorEq, Bool.true_eq_false, Bool.false_eq_true, beq_iff_eq, bne_iff_ne, beq_eq_false_iff_ne, false_or, or_false, true_and, and_true, h1, hX.lenT, hX.lst, cls_len, ch3]; done) | (simp (disch := omega) only [decide_eq_true_eq, decide_eq_false_iff_not, Bool.not_eq_true', Bool.not_eq_false', Bool.and_eq_true, Bool.and_eq_false_iff, Int.not_lt, Int.not_le, ne_eq, not_false_eq_true, not_true_eq_false, reduceCtorEq, Bool.true_eq_false, Bool.false_eq_true, beq_iff_eq, bne_iff_ne, beq_eq_false_iff_ne, false_or, or_false, true_and, and_true, h1, hX.lenT, hX.lst, cls_len, ch3] at hx; first | (exfalso; omega) | skip) | skip)
          | trivial
          | exact fit_ofL _ _
          | (simp (disch := omega) only [notAgg_v, notAgg_sl, plain_v, fits, fitsOne, fitsCells, xsOf, cell_zero, cell_succ, List.range, List.range.loop, List.map, cond_true, cond_false, D.v.injEq, exists_eq', exists_eq, and_self, and_true, true_and, D.agg.injEq, List.length, exists_eq_left', D.sl.injEq, reduceCtorEq, false_or, true_or, or_true, or_false, cell_zero, cell_succ, cell_v, cells_v, cells_agg, List.length_cons, List.length_nil, h1, hX.lenT, hX.lst, cls_len, ch3]; done))
        all_goals first
          | (exfalso; omega)
          | exact fit_ofL _ _
          | exact fitC hX
          | exact plainC hX
          | exact ⟨_, rfl⟩
          | omega
          | rfl
          | (simp only [cell_zero, cell_succ, Nat.zero_add, ch3, s1]; first | done | exact plainS hX)
          | (simp only [cell_zero, cell_succ, Nat.zero_add, ch3, h1, s1]; done)
          | (simp only [cell_zero, cell_succ, Nat.zero_add, ch3, s1]; exact plainS hX)
          | (simp only [ch3, cls_len, List.length_cons, List.length_nil]; omega)
          | (simp only [cell_zero, cell_succ, ch3, h1]; simp [D.cells, D.isAgg']; done)
          | (simp only [cell_zero, cell_succ, Nat.zero_add, h1]; done)
          | (simp; done)
          | fail
  · have hG : takeF cs f u v = (cs, f, u, 0, chkF cs f u) := by unfold takeF; rw [if_pos h0]
    have h1 : True := trivial
    have s1 : True := trivial
    rw [hG]
    simp only
    rw [reD_self hX]
    repeat' (first
      | (refine ex_some (by simp (disch := omega) only [bin_shr, bin_shl, bin_and, bin_or, bin_xor, len_str, toStr_ofL, bin_add, bin_sub, bin_mul, bin_quo, bin_rem, bin_lss, bin_leq, bin_gtr, bin_geq, bin_eql, bin_neq, eqs_cn, eqs_ci, eqs_cb, eqs_cs, Option.map_some, lenT_ofL, lst_ofL, lstSz_ofL, chunk_one, lst_nil, lst_sl, lstSz_sl, lstSz_nil, Bool.and_true, Bool.true_and, Bool.and_false, Bool.false_and, beq_self_eq_true, beq_bb, bne_bb, un_not, un_neg, conv_int, min2_int, max2_int, w64, w32, wu8, wu16, wu32, wu64, tdiv_nn, tmod_nn, cell_zero, cell_succ, cell_v, cells_v, cells_agg, Bool.not_true, Bool.not_false, Int.reduceLT, Int.reduceLE, Int.reduceEq, Int.reduceNeg, Int.reduceAdd, Int.reduceSub, Int.reduceMul, intOf_v, decide_true, decide_false, h1, hX.lenT, hX.lst, cls_len, ch3]; rfl) ?_)
      | (refine ex_bool ?_)
      | (refine ⟨_, C, ?_⟩)
      | (refine ⟨_, K, ?_⟩)
      | (exact i1)
      | (refine And.intro ?_ ?_)
      | (intro hx; have hprop := (show ∀ (p : Prop), p → True from fun _ _ => True.intro) _ hx; clear hprop; first | (cases hx; done) | (exfalso; revert hx; simp (disch := omega) only [decide_eq_true_eq, decide_eq_false_iff_not, Bool.not_eq_true', Bool.not_eq_false', Bool.and_eq_true, Bool.and_eq_false_iff, Int.not_lt, Int.not_le, ne_eq, not_false_eq_true, not_true_eq_false, reduceCtorEq, Bool.true_eq_false, Bool.false_eq_true, beq_iff_eq, bne_iff_ne, beq_eq_false_iff_ne, false_or, or_false, true_and, and_true, h1, hX.lenT, hX.lst, cls_len, ch3]; done) | (simp (disch := omega) only [decide_eq_true_eq, decide_eq_false_iff_not, Bool.not_eq_true', Bool.not_eq_false', Bool.and_eq_true, Bool.and_eq_false_iff, Int.not_lt, Int.not_le, ne_eq, not_false_eq_true, not_true_eq_false, reduceCtorEq, Bool.true_eq_false, Bool.false_eq_true, beq_iff_eq, bne_iff_ne, beq_eq_false_iff_ne, false_or, or_false, true_and, and_true, h1, hX.lenT, hX.lst, cls_len, ch3] at hx; first | (exfalso; omega) | skip) | skip)
      | trivial
      | exact fit_ofL _ _
      | (simp (disch := omega) only [notAgg_v, notAgg_sl, plain_v, fits, fitsOne, fitsCells, xsOf, cell_zero, cell_succ, List.range, List.range.loop, List.map, cond_true, cond_false, D.v.injEq, exists_eq', exists_eq, and_self, and_true, true_and, D.agg.injEq, List.length, exists_eq_left', D.sl.injEq, reduceCtorEq, false_or, true_or, or_true, or_false, cell_zero, cell_succ, cell_v, cells_v, cells_agg, List.length_cons, List.length_nil, h1, hX.lenT, hX.lst, cls_len, ch3]; done))
    all_goals first
      | (exfalso; omega)
      | exact fit_ofL _ _
      | exact fitC hX
      | exact plainC hX
      | exact ⟨_, rfl⟩
      | omega
      | rfl
      | (simp only [cell_zero, cell_succ, Nat.zero_add, ch3, s1]; first | done | exact plainS hX)
      | (simp only [cell_zero, cell_succ, Nat.zero_add, ch3, h1, s1]; done)
      | (simp only [cell_zero, cell_succ, Nat.zero_add, ch3, s1]; exact plainS hX)
      | (simp only [ch3, cls_len, List.length_cons, List.length_nil]; omega)
      | (simp only [cell_zero, cell_succ, ch3, h1]; simp [D.cells, D.isAgg']; done)
      | (simp only [cell_zero, cell_succ, Nat.zero_add, h1]; done)
      | (simp; done)
      | fail

theorem vc_live (x : D) (cs : List Cl) (f u : Int) : Cond Try.prog (fun k => if k = 5 then some ⟨[12], [3], [1, 10, 11], []⟩ else none) Try.f22 [.agg [x, .v (.int .i64 f), .v (.int .i64 u)]] [ofL 1 (ints .i64 (liveF cs f u))] = (((∃ (cs : List D), D.agg [x, D.v (Value.int IntKind.i64 f), D.v (Value.int IntKind.i64 u)] = D.agg cs ∧ cs.length = 3) ∧ True) ∧ ∃ (r : D), PureD Try.prog 19 [D.agg [x, D.v (Value.int IntKind.i64 f), D.v (Value.int IntKind.i64 u)]] [r] ∧ fits [(false, [none])] [r] ∧ ∃ (r_1 : D), D.bin BinOp.neq r (D.v (Value.int IntKind.i64 0)) = some r_1 ∧ ∃ (b : Bool), r_1 = D.v (Value.bool b) ∧ (b = true → (PlainD (D.v nilS) ∧ True) ∧ [D.v nilS] = [ofL 1 (ints IntKind.i64 (liveF cs f u))]) ∧ (b = false → ∃ (r : D), D.lenT (TypeDesc.slice 62) x = some r ∧ ∃ (I : List D → Prop), ∃ (μ : List D → Nat), ((D.v (Value.int IntKind.i64 0) = D.v (Value.int IntKind.i64 0) ∧ true = true ∧ (true = true ∧ true = true) ∧ x = x ∧ r = r ∧ True) ∧ ((true = true ∧ D.v nilS = D.v nilS) ∧ (x = x ∧ D.v (Value.int IntKind.i64 f) = D.v (Value.int IntKind.i64 f) ∧ D.v (Value.int IntKind.i64 u) = D.v (Value.int IntKind.i64 u) ∧ True) ∧ True) ∧ I [D.v (Value.int IntKind.i64 0), D.v nilS]) ∧ ∀ (r_2 r_3 : D), I [r_2, r_3] → ∃ (r_4 : D), D.bin BinOp.lss r_2 r = some r_4 ∧ ∃ (b : Bool), r_4 = D.v (Value.bool b) ∧ (b = true → D.inb 3 x r_2 ∧ 0 + 3 ≤ (x.at_ r_2).cells.length ∧ ∃ (b : Bool), (x.at_ r_2).cell (0 + 0) = D.v (Value.bool b) ∧ (b = true → ∃ (ls : List D), r_3.lst = some ls ∧ ∃ (lx : List D), D.lstSz 1 (D.sl 1 (chunks false 1 1 [r_2])) = some lx ∧ (ls.length + lx.length) * 8 ≤ 1099511627776 ∧ ∃ (r_5 : D), D.bin BinOp.add r_2 (D.v (Value.int IntKind.i64 1)) = some r_5 ∧ (r_5 = r_5 ∧ true = true ∧ (true = true ∧ true = true) ∧ x = x ∧ r = r ∧ True) ∧ ((true = true ∧ D.app 1 r_3 lx = D.app 1 r_3 lx) ∧ (x = x ∧ D.v (Value.int IntKind.i64 f) = D.v (Value.int IntKind.i64 f) ∧ D.v (Value.int IntKind.i64 u) = D.v (Value.int IntKind.i64 u) ∧ True) ∧ True) ∧ I [r_5, D.app 1 r_3 lx] ∧ μ [r_5, D.app 1 r_3 lx] < μ [r_2, r_3]) ∧ (b = false → ∃ (r_5 : D), D.bin BinOp.add r_2 (D.v (Value.int IntKind.i64 1)) = some r_5 ∧ (r_5 = r_5 ∧ true = true ∧ (true = true ∧ true = true) ∧ x = x ∧ r = r ∧ True) ∧ ((true = true ∧ r_3 = r_3) ∧ (x = x ∧ D.v (Value.int IntKind.i64 f) = D.v (Value.int IntKind.i64 f) ∧ D.v (Value.int IntKind.i64 u) = D.v (Value.int IntKind.i64 u) ∧ True) ∧ True) ∧ I [r_5, r_3] ∧ μ [r_5, r_3] < μ [r_2, r_3])) ∧ (b = false → (PlainD r_3 ∧ True) ∧ [r_3] = [ofL 1 (ints IntKind.i64 (liveF cs f u))]))) := by kernel_rfl
set_option maxHeartbeats 4000000 in
theorem live (x : D) (cs : List Cl) (f u : Int) (hX : IsL 3 (cls cs) x) (hl : cs.length ≤ 100000) : PureD Try.prog 22 [.agg [x, .v (.int .i64 f), .v (.int .i64 u)]] [ofL 1 (ints .i64 (liveF cs f u))] := by
  refine pure_cond (Lp := (fun k => if k = 5 then some ⟨[12], [3], [1, 10, 11], []⟩ else none)) (by kernel_rfl) Try.func22 (by kernel_rfl) (by kernel_rfl) ?_
  rw [vc_live x cs f u]
  have C := check x cs f u hX hl
  have hk := chk_cases cs f u
  have h1 : True := trivial
  by_cases h0 : chkF cs f u = 0
  · rw [h0] at C
    have hG : liveF cs f u = liveL cs cs.length := if_pos h0
    rw [hG]
    repeat' (first
      | (refine ex_some (by simp (disch := omega) only [bin_shr, bin_shl, bin_and, bin_or, bin_xor, len_str, toStr_ofL, bin_add, bin_sub, bin_mul, bin_quo, bin_rem, bin_lss, bin_leq, bin_gtr, bin_geq, bin_eql, bin_neq, eqs_cn, eqs_ci, eqs_cb, eqs_cs, Option.map_some, lenT_ofL, lst_ofL, lstSz_ofL, chunk_one, lst_nil, lst_sl, lstSz_sl, lstSz_nil, Bool.and_true, Bool.true_and, Bool.and_false, Bool.false_and, beq_self_eq_true, beq_bb, bne_bb, un_not, un_neg, conv_int, min2_int, max2_int, w64, w32, wu8, wu16, wu32, wu64, tdiv_nn, tmod_nn, cell_zero, cell_succ, cell_v, cells_v, cells_agg, Bool.not_true, Bool.not_false, Int.reduceLT, Int.reduceLE, Int.reduceEq, Int.reduceNeg, Int.reduceAdd, Int.reduceSub, Int.reduceMul, intOf_v, decide_true, decide_false, h1, hX.lenT, cls_len, lst_ofL, lenT_ofL]; rfl) ?_)
      | (refine ex_bool ?_)
      | (refine ⟨_, C, ?_⟩)
      | (refine ⟨(fun r => ∃ k : Nat, k ≤ cs.length ∧ r = [.v (.int .i64 (k : Nat)), ofL 1 (ints .i64 (liveL cs k))]), leftG cs.length, ?_⟩)
      | (refine fun (r2 r3 : D) (hI : (fun r => ∃ k : Nat, k ≤ cs.length ∧ r = [.v (.int .i64 (k : Nat)), ofL 1 (ints .i64 (liveL cs k))]) [r2, r3]) => ?_; obtain ⟨k, hk, hl0⟩ := hI; simp only [List.cons.injEq, and_true] at hl0; obtain ⟨rfl, rfl⟩ := hl0; by_cases hlt : k < cs.length <;> first | (have hk1 : k < cs.length := (by omega); have h1 := cls_at hX (z := (k : Nat)) (by omega) (by omega); rw [Int.toNat_natCast] at h1; have i1 := cls_inb hX (z := (k : Nat)) (by omega) (by omega); have hLL := liveL_len cs k; have hs : liveL cs (k + 1) = liveL cs k ++ (if (cs.getD k c0).live then [(k : Int)] else []) := rfl; generalize cs.getD k c0 = c at h1 hs; obtain ⟨lv, vl, lk⟩ := c; simp only [clD] at h1; simp only [h1, Nat.zero_add, cell_zero, cell_succ, cells_agg, List.length_cons, List.length_nil]; have inl : True := trivial) | (have hkk : k = cs.length := (by omega); subst hkk; have h1 : True := trivial; have out : True := trivial))
      | (exact i1)
      | (have := inl; refine ⟨(k + 1 : Nat), by omega, ?_⟩)
      | (refine ⟨(0 : Nat), Nat.zero_le _, rfl⟩)
      | (refine And.intro ?_ ?_)
      | (intro hx; have hprop := (show ∀ (p : Prop), p → True from fun _ _ => True.intro) _ hx; clear hprop; first | (cases hx; done) | (exfalso; revert hx; simp (disch := omega) only [decide_eq_true_eq, decide_eq_false_iff_not, Bool.not_eq_true', Bool.not_eq_false', Bool.and_eq_true, Bool.and_eq_false_iff, Int.not_lt, Int.not_le, ne_eq, not_false_eq_true, not_true_eq_false, reduceCtorEq, Bool.true_eq_false, Bool.false_eq_true, beq_iff_eq, bne_iff_ne, beq_eq_false_iff_ne, false_or, or_false, true_and, and_true, h1, hX.lenT, cls_len, lst_ofL, lenT_ofL]; done) | (simp (disch := omega) only [decide_eq_true_eq, decide_eq_false_iff_not, Bool.not_eq_true', Bool.not_eq_false', Bool.and_eq_true, Bool.and_eq_false_iff, Int.not_lt, Int.not_le, ne_eq, not_false_eq_true, not_true_eq_false, reduceCtorEq, Bool.true_eq_false, Bool.false_eq_true, beq_iff_eq, bne_iff_ne, beq_eq_false_iff_ne, false_or, or_false, true_and, and_true, h1, hX.lenT, cls_len, lst_ofL, lenT_ofL] at hx; first | (exfalso; omega) | skip) | skip)
      | trivial
      | exact fit_ofL _ _
      | (simp (disch := omega) only [notAgg_v, notAgg_sl, plain_v, fits, fitsOne, fitsCells, xsOf, cell_zero, cell_succ, List.range, List.range.loop, List.map, cond_true, cond_false, D.v.injEq, exists_eq', exists_eq, and_self, and_true, true_and, D.agg.injEq, List.length, exists_eq_left', D.sl.injEq, reduceCtorEq, false_or, true_or, or_true, or_false, cell_zero, cell_succ, cell_v, cells_v, cells_agg, List.length_cons, List.length_nil, h1, hX.lenT, cls_len, lst_ofL, lenT_ofL]; done))
    all_goals first
      | (exfalso; omega)
      | exact fit_ofL _ _
      | exact fitC hX
      | exact plainC hX
      | exact ⟨_, rfl⟩
      | omega
      | rfl
      | (simp only [leftG]; omega)
      | (simp only [ints_length, List.length_cons, List.length_nil]; omega)
      | exact plain_ofL (ints_plain _ _)
      | (simp only [app_ofL]; rw [hs]; simp_all [ints]; done)
      | (rw [hs]; simp_all; done)
      | (simp only [cell_zero, cell_succ, Nat.zero_add, ch3]; first | done | exact plainS hX)
      | (simp only [cell_zero, cell_succ, Nat.zero_add, ch3, h1]; done)
      | (simp only [cell_zero, cell_succ, Nat.zero_add, ch3]; exact plainS hX)
      | (simp only [ch3, cls_len, List.length_cons, List.length_nil]; omega)
      | (simp only [cell_zero, cell_succ, ch3, h1]; simp [D.cells, D.isAgg']; done)
      | (simp only [cell_zero, cell_succ, Nat.zero_add, h1]; done)
      | (simp; done)
      | fail
  · have hG : liveF cs f u = [] := if_neg h0
    rw [hG]
    repeat' (first
      | (refine ex_some (by simp (disch := omega) only [bin_shr, bin_shl, bin_and, bin_or, bin_xor, len_str, toStr_ofL, bin_add, bin_sub, bin_mul, bin_quo, bin_rem, bin_lss, bin_leq, bin_gtr, bin_geq, bin_eql, bin_neq, eqs_cn, eqs_ci, eqs_cb, eqs_cs, Option.map_some, lenT_ofL, lst_ofL, lstSz_ofL, chunk_one, lst_nil, lst_sl, lstSz_sl, lstSz_nil, Bool.and_true, Bool.true_and, Bool.and_false, Bool.false_and, beq_self_eq_true, beq_bb, bne_bb, un_not, un_neg, conv_int, min2_int, max2_int, w64, w32, wu8, wu16, wu32, wu64, tdiv_nn, tmod_nn, cell_zero, cell_succ, cell_v, cells_v, cells_agg, Bool.not_true, Bool.not_false, Int.reduceLT, Int.reduceLE, Int.reduceEq, Int.reduceNeg, Int.reduceAdd, Int.reduceSub, Int.reduceMul, intOf_v, decide_true, decide_false, h1]; rfl) ?_)
      | (refine ex_bool ?_)
      | (refine ⟨_, C, ?_⟩)
      | (refine And.intro ?_ ?_)
      | (intro hx; have hprop := (show ∀ (p : Prop), p → True from fun _ _ => True.intro) _ hx; clear hprop; first | (cases hx; done) | (exfalso; revert hx; simp (disch := omega) only [decide_eq_true_eq, decide_eq_false_iff_not, Bool.not_eq_true', Bool.not_eq_false', Bool.and_eq_true, Bool.and_eq_false_iff, Int.not_lt, Int.not_le, ne_eq, not_false_eq_true, not_true_eq_false, reduceCtorEq, Bool.true_eq_false, Bool.false_eq_true, beq_iff_eq, bne_iff_ne, beq_eq_false_iff_ne, false_or, or_false, true_and, and_true, h1]; done) | (simp (disch := omega) only [decide_eq_true_eq, decide_eq_false_iff_not, Bool.not_eq_true', Bool.not_eq_false', Bool.and_eq_true, Bool.and_eq_false_iff, Int.not_lt, Int.not_le, ne_eq, not_false_eq_true, not_true_eq_false, reduceCtorEq, Bool.true_eq_false, Bool.false_eq_true, beq_iff_eq, bne_iff_ne, beq_eq_false_iff_ne, false_or, or_false, true_and, and_true, h1] at hx; first | (exfalso; omega) | skip) | skip)
      | trivial
      | exact fit_ofL _ _
      | (simp (disch := omega) only [notAgg_v, notAgg_sl, plain_v, fits, fitsOne, fitsCells, xsOf, cell_zero, cell_succ, List.range, List.range.loop, List.map, cond_true, cond_false, D.v.injEq, exists_eq', exists_eq, and_self, and_true, true_and, D.agg.injEq, List.length, exists_eq_left', D.sl.injEq, reduceCtorEq, false_or, true_or, or_true, or_false, cell_zero, cell_succ, cell_v, cells_v, cells_agg, List.length_cons, List.length_nil, h1]; done))
    all_goals first
      | (exfalso; omega)
      | exact fit_ofL _ _
      | exact fitC hX
      | exact plainC hX
      | exact ⟨_, rfl⟩
      | omega
      | rfl
      | (simp only [cell_zero, cell_succ, Nat.zero_add, ch3]; first | done | exact plainS hX)
      | (simp only [cell_zero, cell_succ, Nat.zero_add, ch3, h1]; done)
      | (simp only [cell_zero, cell_succ, Nat.zero_add, ch3]; exact plainS hX)
      | (simp only [ch3, cls_len, List.length_cons, List.length_nil]; omega)
      | (simp only [cell_zero, cell_succ, ch3, h1]; simp [D.cells, D.isAgg']; done)
      | (simp only [cell_zero, cell_succ, Nat.zero_add, h1]; done)
      | (simp; done)
      | fail

end Go.Proofs.Ytlamjfdghhbkpaa