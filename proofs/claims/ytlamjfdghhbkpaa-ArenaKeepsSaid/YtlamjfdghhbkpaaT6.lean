/-
  Layer 18: the spare ones; what the document says of chains.
-/
import Derived.Test.YtlamjfdghhbkpaaT1
import Derived.Test.YtlamjfdghhbkpaaT2
import Derived.Test.YtlamjfdghhbkpaaT3
import Derived.Test.YtlamjfdghhbkpaaT4
import Derived.Test.YtlamjfdghhbkpaaT5
namespace Go.Proofs.Ytlamjfdghhbkpaa
open Go.RowKit
set_option linter.unusedSimpArgs false
set_option linter.unusedVariables false


def chL (cs : List Cl) : Nat → Int → List Int
  | 0, _ => []
  | n + 1, z => if z < 0 then [] else z :: chL cs n (cs.getD z.toNat c0).link
def AllOk (cs : List Cl) : Prop := ∀ i, i < cs.length → -1 ≤ (cs.getD i c0).link ∧ (cs.getD i c0).link < (cs.length : Nat)
def spr (cs : List Cl) (z : Int) : Prop := 0 ≤ z ∧ z < (cs.length : Nat) ∧ (cs.getD z.toNat c0).live = false
theorem chF_step {cs : List Cl} {n : Nat} {z : Int} (h : chF cs (n + 1) z = true) : z ≠ -1 ∧ (cs.getD z.toNat c0).live = false ∧ chF cs n (cs.getD z.toNat c0).link = true := by
  simp only [chF] at h
  split at h; · cases h
  rename_i h1
  split at h; · cases h
  rename_i h2
  exact ⟨h1, by simpa using h2, h⟩
theorem chF_uniq {cs : List Cl} : ∀ {m k : Nat} {z : Int}, chF cs m z = true → chF cs k z = true → m = k
  | 0, 0, _, _, _ => rfl
  | 0, k + 1, z, h, h2 => absurd (by simpa [chF] using h) (chF_step h2).1
  | m + 1, 0, z, h, h2 => absurd (by simpa [chF] using h2) (chF_step h).1
  | m + 1, k + 1, z, h, h2 => by rw [chF_uniq (chF_step h).2.2 (chF_step h2).2.2]
theorem chL_neg (cs : List Cl) (n : Nat) {z : Int} (h : z < 0) : chL cs n z = [] := by cases n; rfl; simp [chL, h]
theorem chL_len (cs : List Cl) : ∀ (n : Nat) (z : Int), (chL cs n z).length ≤ n
  | 0, _ => Nat.le_refl _
  | n + 1, z => by simp only [chL]; split; · simp
                   · have := chL_len cs n (cs.getD z.toNat c0).link; rw [List.length_cons]; omega
theorem chL_step (cs : List Cl) (n : Nat) {z : Int} (h : 0 ≤ z) : chL cs (n + 1) z = z :: chL cs n (cs.getD z.toNat c0).link := by simp only [chL]; rw [if_neg (by omega)]
theorem chL_of {cs : List Cl} (hlo : LinksOk cs) : ∀ {m : Nat} {z : Int}, -1 ≤ z → z < (cs.length : Nat) → chF cs m z = true → ∀ j, chL cs (m + j) z = chL cs m z ∧ (chL cs m z).length = m ∧ (chL cs m z).Nodup ∧ ∀ e ∈ chL cs m z, spr cs e ∧ ∃ q, q ≤ m ∧ chF cs q e = true
  | 0, z, h0, h1, h, j => by
    have : z = -1 := by simpa [chF] using h
    subst this
    rw [chL_neg cs _ (by omega)]
    exact ⟨rfl, rfl, List.nodup_nil, by simp [chL]⟩
  | m + 1, z, h0, h1, h, j => by
    obtain ⟨h2, h3, h4⟩ := chF_step h
    have hz : 0 ≤ z := by omega
    have hlk := hlo z.toNat (by omega) h3
    obtain ⟨g1, g2, g3, g4⟩ := chL_of hlo hlk.1 hlk.2 h4 j
    rw [show m + 1 + j = (m + j) + 1 by omega, chL_step _ _ hz, chL_step _ _ hz, g1]
    refine ⟨rfl, by rw [List.length_cons, g2], List.nodup_cons.2 ⟨fun hm => ?_, g3⟩, fun e he => ?_⟩
    · obtain ⟨_, q, hq, hc⟩ := g4 z hm
      have := chF_uniq hc h
      omega
    · rcases List.mem_cons.1 he with rfl | he
      · exact ⟨⟨hz, h1, h3⟩, m + 1, Nat.le_refl _, h⟩
      · obtain ⟨a, q, b, c⟩ := g4 e he
        exact ⟨a, q, by omega, c⟩
theorem chF_of {cs : List Cl} (hao : AllOk cs) : ∀ {k m : Nat} {z : Int}, -1 ≤ z → z < (cs.length : Nat) → (chL cs k z).length = m → m < k → (∀ e ∈ chL cs k z, (cs.getD e.toNat c0).live = false) → chF cs m z = true
  | 0, m, z, _, _, _, h, _ => absurd h (Nat.not_lt_zero _)
  | k + 1, m, z, h0, h1, h2, h3, h4 => by
    by_cases hz : z < 0
    · have : z = -1 := by omega
      subst this
      rw [chL_neg cs _ (by omega)] at h2
      subst h2
      rfl
    · rw [chL_step _ _ (by omega)] at h2 h4
      obtain ⟨m, rfl⟩ : ∃ m2, m = m2 + 1 := ⟨m - 1, by simp at h2; omega⟩
      have hlk := hao z.toNat (by omega)
      have := chF_of (m := m) hao hlk.1 hlk.2 (by rw [List.length_cons] at h2; omega) (by omega) (fun e he => h4 e (List.mem_cons_of_mem _ he))
      simp only [chF]
      rw [if_neg (by omega), if_neg (by rw [h4 z (List.mem_cons_self ..)]; simp)]
      exact this
theorem all_of {cs : List Cl} (h1 : cs.any (bl1 cs) = false) (h2 : cs.any bl2 = false) : AllOk cs := by
  intro i hi
  cases e : (cs.getD i c0).live
  · exact links_of h1 i hi e
  · have : bl2 (cs.getD i c0) = false := by
      cases e : bl2 (cs.getD i c0)
      · rfl
      · rw [any_at hi e] at h2; cases h2
    rw [bl2, e] at this
    generalize (cs.getD i c0).link = k at this
    simp at this
    omega
def spareF (cs : List Cl) (f u : Int) : List Int := if chkF cs f u = 0 then chL cs (cs.length + 1) f else []
def liveC (cs : List Cl) (z : Int) : Bool := decide (0 ≤ z ∧ z < (cs.length : Nat) ∧ (cs.getD z.toNat c0).live = true)
theorem liveB_C (cs : List Cl) (z : Int) : liveB cs z = liveC cs z := by unfold liveB liveC; rw [Bool.eq_iff_iff]; simp only [Bool.and_eq_true, decide_eq_true_eq, and_assoc]
def lmR : List D → Nat
  | _ :: .sl _ l :: _ => l.length
  | _ => 0
theorem lmR_ofL (a : D) (d : List Int) (t : List D) : lmR (a :: ofL 1 (ints .i64 d) :: t) = d.length := by cases d <;> simp [lmR, ofL, ints]
def leftR (n : Nat) (r : List D) : Nat := n - lmR r

theorem ints_append1 (k : IntKind) (a : List Int) (z : Int) : ints k a ++ [.v (.int k z)] = ints k (a ++ [z]) := by simp [ints]

theorem vc_spare (x : D) (cs : List Cl) (f u : Int) : Cond Try.prog (fun k => if k = 2000 then some ⟨[4], [3], [1], []⟩ else none) Try.f24 [.agg [x, .v (.int .i64 f), .v (.int .i64 u)]] [ofL 1 (ints .i64 (spareF cs f u))] = (((∃ (cs : List D), D.agg [x, D.v (Value.int IntKind.i64 f), D.v (Value.int IntKind.i64 u)] = D.agg cs ∧ cs.length = 3) ∧ True) ∧ ∃ (r : D), PureD Try.prog 19 [D.agg [x, D.v (Value.int IntKind.i64 f), D.v (Value.int IntKind.i64 u)]] [r] ∧ fits [(false, [none])] [r] ∧ ∃ (r_1 : D), D.bin BinOp.neq r (D.v (Value.int IntKind.i64 0)) = some r_1 ∧ ∃ (b : Bool), r_1 = D.v (Value.bool b) ∧ (b = true → (PlainD (D.v nilS) ∧ True) ∧ [D.v nilS] = [ofL 1 (ints IntKind.i64 (spareF cs f u))]) ∧ (b = false → ∃ (I : List D → Prop), ∃ (μ : List D → Nat), ((D.v (Value.int IntKind.i64 f) = D.v (Value.int IntKind.i64 f) ∧ true = true ∧ (true = true ∧ true = true) ∧ True) ∧ ((true = true ∧ D.v nilS = D.v nilS) ∧ (x = x ∧ D.v (Value.int IntKind.i64 f) = D.v (Value.int IntKind.i64 f) ∧ D.v (Value.int IntKind.i64 u) = D.v (Value.int IntKind.i64 u) ∧ True) ∧ True) ∧ I [D.v (Value.int IntKind.i64 f), D.v nilS]) ∧ ∀ (r r_2 : D), I [r, r_2] → ∃ (r_3 : D), D.bin BinOp.neq r (D.v (Value.int IntKind.i64 (-1))) = some r_3 ∧ ∃ (b : Bool), r_3 = D.v (Value.bool b) ∧ (b = true → ∃ (ls : List D), r_2.lst = some ls ∧ ∃ (lx : List D), D.lstSz 1 (D.sl 1 (chunks false 1 1 [r])) = some lx ∧ (ls.length + lx.length) * 8 ≤ 1099511627776 ∧ D.inb 3 x r ∧ 1 + 1 + 1 ≤ (x.at_ r).cells.length ∧ ((x.at_ r).cell (1 + 1) = (x.at_ r).cell (1 + 1) ∧ true = true ∧ (true = true ∧ true = true) ∧ True) ∧ ((true = true ∧ D.app 1 r_2 lx = D.app 1 r_2 lx) ∧ (x = x ∧ D.v (Value.int IntKind.i64 f) = D.v (Value.int IntKind.i64 f) ∧ D.v (Value.int IntKind.i64 u) = D.v (Value.int IntKind.i64 u) ∧ True) ∧ True) ∧ I [(x.at_ r).cell (1 + 1), D.app 1 r_2 lx] ∧ μ [(x.at_ r).cell (1 + 1), D.app 1 r_2 lx] < μ [r, r_2]) ∧ (b = false → (PlainD r_2 ∧ True) ∧ [r_2] = [ofL 1 (ints IntKind.i64 (spareF cs f u))]))) := by kernel_rfl
set_option maxHeartbeats 4000000 in
theorem spare (x : D) (cs : List Cl) (f u : Int) (hX : IsL 3 (cls cs) x) (hl : cs.length ≤ 100000) : PureD Try.prog 24 [.agg [x, .v (.int .i64 f), .v (.int .i64 u)]] [ofL 1 (ints .i64 (spareF cs f u))] := by
  refine pure_cond (Lp := (fun k => if k = 2000 then some ⟨[4], [3], [1], []⟩ else none)) (by kernel_rfl) Try.func24 (by kernel_rfl) (by kernel_rfl) ?_
  rw [vc_spare x cs f u]
  have C := check x cs f u hX hl
  have hk := chk_cases cs f u
  have h1 : True := trivial
  by_cases h0 : chkF cs f u = 0
  · rw [h0] at C
    obtain ⟨hok1, hok2, hok3, hok4, hok5, hok6⟩ := chk_ok h0
    simp only [linkB, decide_eq_true_eq] at hok2
    have hlo := links_of hok3
    have hcl := cnt_le cs
    have hG : spareF cs f u = chL cs (cs.length - cntL cs) f := by
      unfold spareF
      rw [if_pos h0, ← (chL_of hlo hok2.1 hok2.2 hok6 (cntL cs + 1)).1]
      congr 1; omega
    rw [hG]
    repeat' (first
      | (refine ex_some (by simp (disch := omega) only [bin_shr, bin_shl, bin_and, bin_or, bin_xor, len_str, toStr_ofL, bin_add, bin_sub, bin_mul, bin_quo, bin_rem, bin_lss, bin_leq, bin_gtr, bin_geq, bin_eql, bin_neq, eqs_cn, eqs_ci, eqs_cb, eqs_cs, Option.map_some, lenT_ofL, lst_ofL, lstSz_ofL, chunk_one, lst_nil, lst_sl, lstSz_sl, lstSz_nil, Bool.and_true, Bool.true_and, Bool.and_false, Bool.false_and, beq_self_eq_true, beq_bb, bne_bb, un_not, un_neg, conv_int, min2_int, max2_int, w64, w32, wu8, wu16, wu32, wu64, tdiv_nn, tmod_nn, cell_zero, cell_succ, cell_v, cells_v, cells_agg, Bool.not_true, Bool.not_false, Int.reduceLT, Int.reduceLE, Int.reduceEq, Int.reduceNeg, Int.reduceAdd, Int.reduceSub, Int.reduceMul, intOf_v, decide_true, decide_false, h1, hX.lenT, cls_len, lst_ofL, lenT_ofL]; rfl) ?_)
      | (refine ex_bool ?_)
      | (refine ⟨_, C, ?_⟩)
      | (refine ⟨(fun r => ∃ (z : Int) (d : List Int) (m : Nat), -1 ≤ z ∧ z < (cs.length : Nat) ∧ d.length + m = cs.length - cntL cs ∧ chF cs m z = true ∧ d ++ chL cs m z = chL cs (cs.length - cntL cs) f ∧ r = [.v (.int .i64 z), ofL 1 (ints .i64 d)]), leftR (cs.length + 1), ?_⟩)
      | (refine fun (r2 r3 : D) (hI : (fun r => ∃ (z : Int) (d : List Int) (m : Nat), -1 ≤ z ∧ z < (cs.length : Nat) ∧ d.length + m = cs.length - cntL cs ∧ chF cs m z = true ∧ d ++ chL cs m z = chL cs (cs.length - cntL cs) f ∧ r = [.v (.int .i64 z), ofL 1 (ints .i64 d)]) [r2, r3]) => ?_; obtain ⟨z, d, m, hz, hz1, hdm, hch, hdd, hl0⟩ := hI; simp only [List.cons.injEq, and_true] at hl0; obtain ⟨rfl, rfl⟩ := hl0; by_cases hlt : 0 ≤ z <;> first | (have hz0 : 0 ≤ z := (by omega); have h1 := cls_at hX hz0 hz1; have i1 := cls_inb hX hz0 hz1; obtain ⟨m2, rfl⟩ : ∃ m2, m = m2 + 1 := ⟨m - 1, by rcases Nat.eq_zero_or_pos m with h | h; subst h; simp [chF] at hch; omega; omega⟩; have hst := chF_step hch; have hlk := hlo z.toNat (by omega) hst.2.1; have hdd2 := chL_step cs m2 hz0; have hch2 := hst.2.2; generalize cs.getD z.toNat c0 = c at *; obtain ⟨lv, vl, lk⟩ := c; simp only [clD] at *; simp only [h1, Nat.zero_add, cell_zero, cell_succ, cells_agg, List.length_cons, List.length_nil]; have inl : True := trivial) | (have hz2 : z = -1 := (by omega); subst hz2; have hdn : d = chL cs (cs.length - cntL cs) f := (by rw [← hdd, chL_neg cs _ (by omega), List.append_nil]); have h1 : True := trivial; have inl2 : True := trivial))
      | (exact i1)
      | (have := inl; refine ⟨lk, d ++ [z], m2, hlk.1, hlk.2, by simp; omega, hch2, ?_, ?_⟩)
      | (refine ⟨f, [], cs.length - cntL cs, hok2.1, hok2.2, by simp, hok6, rfl, rfl⟩)
      | (refine And.intro ?_ ?_)
      | (intro hx; have hprop := (show ∀ (p : Prop), p → True from fun _ _ => True.intro) _ hx; clear hprop; first | (cases hx; done) | (exfalso; revert hx; simp (disch := omega) only [decide_eq_true_eq, decide_eq_false_iff_not, Bool.not_eq_true', Bool.not_eq_false', Bool.and_eq_true, Bool.and_eq_false_iff, Int.not_lt, Int.not_le, ne_eq, not_false_eq_true, not_true_eq_false, reduceCtorEq, Bool.true_eq_false, Bool.false_eq_true, beq_iff_eq, bne_iff_ne, beq_eq_false_iff_ne, false_or, or_false, true_and, and_true, h1, hX.lenT, cls_len, lst_ofL, lenT_ofL]; done) | (simp (disch := omega) only [decide_eq_true_eq, decide_eq_false_iff_not, Bool.not_eq_true', Bool.not_eq_false', Bool.and_eq_true, Bool.and_eq_false_iff, Int.not_lt, Int.not_le, ne_eq, not_false_eq_true, not_true_eq_false, reduceCtorEq, Bool.true_eq_false, Bool.false_eq_true, beq_iff_eq, bne_iff_ne, beq_eq_false_iff_ne, false_or, or_false, true_and, and_true, h1, hX.lenT, cls_len, lst_ofL, lenT_ofL] at hx; first | (exfalso; omega) | skip) | skip)
      | trivial
      | exact fit_ofL _ _
      | (simp (disch := omega) only [notAgg_v, notAgg_sl, plain_v, fits, fitsOne, fitsCells, xsOf, cell_zero, cell_succ, List.range, List.range.loop, List.map, cond_true, cond_false, D.v.injEq, exists_eq', exists_eq, and_self, and_true, true_and, D.agg.injEq, List.length, exists_eq_left', D.sl.injEq, reduceCtorEq, false_or, true_or, or_true, or_false, cell_zero, cell_succ, cell_v, cells_v, cells_agg, List.length_cons, List.length_nil, h1, hX.lenT, cls_len, lst_ofL, lenT_ofL]; done))
    all_goals first
      | (exfalso; omega)
      | exact fit_ofL _ _
      | exact fitC hX
      | exact plainC hX
      | exact ⟨_, rfl⟩
      | omega
      | rfl
      | (rw [hdn]; done)
      | (rw [← hdd, hdd2]; simp; done)
      | (simp only [app_ofL, ints_append1]; done)
      | (simp only [leftG]; omega)
      | (simp only [ints_length, List.length_cons, List.length_nil, List.length_append]; omega)
      | exact plain_ofL (ints_plain _ _)
      | (simp only [leftR, app_ofL, ints_append1, lmR_ofL, List.length_append, List.length_cons, List.length_nil]; omega)
      | (simp only [cell_zero, cell_succ, h1]; simp [D.cells, D.isAgg']; done)
      | (simp only [cell_zero, cell_succ, Nat.zero_add, h1]; first | done | exact ⟨_, rfl⟩)
      | (simp; done)
      | fail
  · have hG : spareF cs f u = [] := if_neg h0
    rw [hG]
    repeat' (first
      | (refine ex_some (by simp (disch := omega) only [bin_shr, bin_shl, bin_and, bin_or, bin_xor, len_str, toStr_ofL, bin_add, bin_sub, bin_mul, bin_quo, bin_rem, bin_lss, bin_leq, bin_gtr, bin_geq, bin_eql, bin_neq, eqs_cn, eqs_ci, eqs_cb, eqs_cs, Option.map_some, lenT_ofL, lst_ofL, lstSz_ofL, chunk_one, lst_nil, lst_sl, lstSz_sl, lstSz_nil, Bool.and_true, Bool.true_and, Bool.and_false, Bool.false_and, beq_self_eq_true, beq_bb, bne_bb, un_not, un_neg, conv_int, min2_int, max2_int, w64, w32, wu8, wu16, wu32, wu64, tdiv_nn, tmod_nn, cell_zero, cell_succ, cell_v, cells_v, cells_agg, Bool.not_true, Bool.not_false, Int.reduceLT, Int.reduceLE, Int.reduceEq, Int.reduceNeg, Int.reduceAdd, Int.reduceSub, Int.reduceMul, intOf_v, decide_true, decide_false, h1]; rfl) ?_)
      | (refine ex_bool ?_)
      | (refine ⟨_, C, ?_⟩)
      | (refine And.intro ?_ ?_)
      | (intro hx; have hprop := (show ∀ (p : Prop), p → True from fun _ _ => True.intro) _ hx; clear hprop; first | (cases hx; done) | (exfalso; revert hx; simp (disch := omega) only [decide_eq_true_eq, decide_eq_false_iff_not, Bool.not_eq_true', Bool.not_eq_false', Bool.and_eq_true, Bool.and_eq_false_iff, Int.not_lt, Int.not_le, ne_eq, not_false_eq_true, not_true_eq_false, reduceCtorEq, Bool.true_eq_false, Bool.false_eq_true, beq_iff_eq, bne_iff_ne, beq_eq_false_iff_ne, false_or, or_false, true_and, and_true, h1]; done) | (simp (disch := omega) only [decide_eq_true_eq, decide_eq_false_iff_not, Bool.not_eq_true', Bool.not_eq_false', Bool.and_eq_true, Bool.and_eq_false_iff, Int.not_lt, Int.not_le, ne_eq, not_false_eq_true, not_true_eq_false, reduceCtorEq, Bool.true_eq_false, Bool.false_eq_true, beq_iff_eq, bne_iff_ne, beq_eq_false_iff_ne, false_or, or_false, true_and, and_true, h1] at hx; first | (exfalso; omega) | skip) | skip)
      | trivial
      | exact fit_ofL _ _
      | (simp (disch := omega) only [notAgg_v, notAgg_sl, plain_v, fits, fitsOne, fitsCells, xsOf, cell_zero, cell_succ, List.range, List.range.loop, List.map, cond_true, cond_false, D.v.injEq, exists_eq', exists_eq, and_self, and_true, true_and, D.agg.injEq, List.length, exists_eq_left', D.sl.injEq, reduceCtorEq, false_or, true_or, or_true, or_false, cell_zero, cell_succ, cell_v, cells_v, cells_agg, List.length_cons, List.length_nil, h1]; done))
    all_goals first
      | (exfalso; omega)
      | exact fit_ofL _ _
      | exact fitC hX
      | exact plainC hX
      | exact ⟨_, rfl⟩
      | omega
      | rfl
      | (simp only [leftG]; omega)
      | (simp only [ints_length, List.length_cons, List.length_nil, List.length_append]; omega)
      | exact plain_ofL (ints_plain _ _)
      | (simp only [leftR, app_ofL, ints_append1, lmR_ofL, List.length_append, List.length_cons, List.length_nil]; omega)
      | (simp only [cell_zero, cell_succ, h1]; simp [D.cells, D.isAgg']; done)
      | (simp only [cell_zero, cell_succ, Nat.zero_add, h1]; first | done | exact ⟨_, rfl⟩)
      | (simp; done)
      | fail

theorem vc_chain (x : D) (cs : List Cl) (f u : Int) : Cond Try.prog (fun k => if k = 3 then some ⟨[4], [3], [1], []⟩ else none) Try.f36 [.agg [x, .v (.int .i64 f), .v (.int .i64 u)]] [ofL 1 (ints .i64 (chL cs (cs.length + 1) f))] = (((∃ (cs : List D), D.agg [x, D.v (Value.int IntKind.i64 f), D.v (Value.int IntKind.i64 u)] = D.agg cs ∧ cs.length = 3) ∧ True) ∧ ∃ (I : List D → Prop), ∃ (μ : List D → Nat), ((D.v (Value.int IntKind.i64 f) = D.v (Value.int IntKind.i64 f) ∧ true = true ∧ (true = true ∧ true = true) ∧ True) ∧ ((true = true ∧ D.v nilS = D.v nilS) ∧ (x = x ∧ D.v (Value.int IntKind.i64 f) = D.v (Value.int IntKind.i64 f) ∧ D.v (Value.int IntKind.i64 u) = D.v (Value.int IntKind.i64 u) ∧ True) ∧ True) ∧ I [D.v (Value.int IntKind.i64 f), D.v nilS]) ∧ ∀ (r r_1 : D), I [r, r_1] → ∃ (r_2 : D), D.lenT (TypeDesc.slice 3) r_1 = some r_2 ∧ ∃ (r_3 : D), D.lenT (TypeDesc.slice 63) x = some r_3 ∧ ∃ (r_4 : D), D.bin BinOp.leq r_2 r_3 = some r_4 ∧ ∃ (b : Bool), r_4 = D.v (Value.bool b) ∧ (b = true → ∃ (r_5 : D), D.bin BinOp.geq r (D.v (Value.int IntKind.i64 0)) = some r_5 ∧ ∃ (b : Bool), r_5 = D.v (Value.bool b) ∧ (b = true → ∃ (ls : List D), r_1.lst = some ls ∧ ∃ (lx : List D), D.lstSz 1 (D.sl 1 (chunks false 1 1 [r])) = some lx ∧ (ls.length + lx.length) * 8 ≤ 1099511627776 ∧ D.inb 3 x r ∧ 1 + 1 + 1 ≤ (x.at_ r).cells.length ∧ ((x.at_ r).cell (1 + 1) = (x.at_ r).cell (1 + 1) ∧ true = true ∧ (true = true ∧ true = true) ∧ True) ∧ ((true = true ∧ D.app 1 r_1 lx = D.app 1 r_1 lx) ∧ (x = x ∧ D.v (Value.int IntKind.i64 f) = D.v (Value.int IntKind.i64 f) ∧ D.v (Value.int IntKind.i64 u) = D.v (Value.int IntKind.i64 u) ∧ True) ∧ True) ∧ I [(x.at_ r).cell (1 + 1), D.app 1 r_1 lx] ∧ μ [(x.at_ r).cell (1 + 1), D.app 1 r_1 lx] < μ [r, r_1]) ∧ (b = false → (PlainD r_1 ∧ True) ∧ [r_1] = [ofL 1 (ints IntKind.i64 (chL cs (cs.length + 1) f))])) ∧ (b = false → (PlainD r_1 ∧ True) ∧ [r_1] = [ofL 1 (ints IntKind.i64 (chL cs (cs.length + 1) f))])) := by kernel_rfl
set_option maxHeartbeats 4000000 in
theorem chain (x : D) (cs : List Cl) (f u : Int) (hX : IsL 3 (cls cs) x) (hl : cs.length ≤ 100000) (hao : AllOk cs) (hf : -1 ≤ f ∧ f < (cs.length : Nat)) : PureD Try.prog 36 [.agg [x, .v (.int .i64 f), .v (.int .i64 u)]] [ofL 1 (ints .i64 (chL cs (cs.length + 1) f))] := by
  refine pure_cond (Lp := (fun k => if k = 3 then some ⟨[4], [3], [1], []⟩ else none)) (by kernel_rfl) Try.func36 (by kernel_rfl) (by kernel_rfl) ?_
  rw [vc_chain x cs f u]
  have h1 : True := trivial
  repeat' (first
    | (refine ex_some (by simp (disch := omega) only [bin_shr, bin_shl, bin_and, bin_or, bin_xor, len_str, toStr_ofL, bin_add, bin_sub, bin_mul, bin_quo, bin_rem, bin_lss, bin_leq, bin_gtr, bin_geq, bin_eql, bin_neq, eqs_cn, eqs_ci, eqs_cb, eqs_cs, Option.map_some, lenT_ofL, lst_ofL, lstSz_ofL, chunk_one, lst_nil, lst_sl, lstSz_sl, lstSz_nil, Bool.and_true, Bool.true_and, Bool.and_false, Bool.false_and, beq_self_eq_true, beq_bb, bne_bb, un_not, un_neg, conv_int, min2_int, max2_int, w64, w32, wu8, wu16, wu32, wu64, tdiv_nn, tmod_nn, cell_zero, cell_succ, cell_v, cells_v, cells_agg, Bool.not_true, Bool.not_false, Int.reduceLT, Int.reduceLE, Int.reduceEq, Int.reduceNeg, Int.reduceAdd, Int.reduceSub, Int.reduceMul, intOf_v, decide_true, decide_false, h1, hX.lenT, cls_len, lst_ofL, lenT_ofL, ints_length]; rfl) ?_)
    | (refine ex_bool ?_)
    | (refine ⟨(fun r => ∃ (z : Int) (d : List Int) (k : Nat), -1 ≤ z ∧ z < (cs.length : Nat) ∧ d.length + k = cs.length + 1 ∧ d ++ chL cs k z = chL cs (cs.length + 1) f ∧ r = [.v (.int .i64 z), ofL 1 (ints .i64 d)]), leftR (cs.length + 1), ?_⟩)
    | (refine fun (r2 r3 : D) (hI : (fun r => ∃ (z : Int) (d : List Int) (k : Nat), -1 ≤ z ∧ z < (cs.length : Nat) ∧ d.length + k = cs.length + 1 ∧ d ++ chL cs k z = chL cs (cs.length + 1) f ∧ r = [.v (.int .i64 z), ofL 1 (ints .i64 d)]) [r2, r3]) => ?_; obtain ⟨z, d, k, hz, hz1, hdk, hdd, hl0⟩ := hI; simp only [List.cons.injEq, and_true] at hl0; obtain ⟨rfl, rfl⟩ := hl0; by_cases hlt : 0 ≤ z ∧ 0 < k <;> first | (have hz0 : 0 ≤ z := (by omega); have hk0 : 0 < k := (by omega); have h1 := cls_at hX hz0 hz1; have i1 := cls_inb hX hz0 hz1; obtain ⟨m2, rfl⟩ : ∃ m2, k = m2 + 1 := ⟨k - 1, by omega⟩; have hlk := hao z.toNat (by omega); have hdd2 := chL_step cs m2 hz0; generalize cs.getD z.toNat c0 = c at *; obtain ⟨lv, vl, lk⟩ := c; simp only [clD] at *; simp only [h1, Nat.zero_add, cell_zero, cell_succ, cells_agg, List.length_cons, List.length_nil]; have inl : True := trivial) | (have hk1 : ¬ (0 ≤ z ∧ 0 < k) := (by omega); have hdn : d = chL cs (cs.length + 1) f := (by rcases Nat.eq_zero_or_pos k with h | h; subst h; rw [← hdd, chL, List.append_nil]; rw [← hdd, chL_neg cs _ (by omega), List.append_nil]); have h1 : True := trivial; have inl2 : True := trivial))
    | (exact i1)
    | (have := inl; refine ⟨lk, d ++ [z], m2, hlk.1, hlk.2, by simp; omega, ?_, ?_⟩)
    | (refine ⟨f, [], cs.length + 1, hf.1, hf.2, by simp, rfl, rfl⟩)
    | (refine And.intro ?_ ?_)
    | (intro hx; have hprop := (show ∀ (p : Prop), p → True from fun _ _ => True.intro) _ hx; clear hprop; first | (cases hx; done) | (exfalso; revert hx; simp (disch := omega) only [decide_eq_true_eq, decide_eq_false_iff_not, Bool.not_eq_true', Bool.not_eq_false', Bool.and_eq_true, Bool.and_eq_false_iff, Int.not_lt, Int.not_le, ne_eq, not_false_eq_true, not_true_eq_false, reduceCtorEq, Bool.true_eq_false, Bool.false_eq_true, beq_iff_eq, bne_iff_ne, beq_eq_false_iff_ne, false_or, or_false, true_and, and_true, h1, hX.lenT, cls_len, lst_ofL, lenT_ofL, ints_length]; done) | (simp (disch := omega) only [decide_eq_true_eq, decide_eq_false_iff_not, Bool.not_eq_true', Bool.not_eq_false', Bool.and_eq_true, Bool.and_eq_false_iff, Int.not_lt, Int.not_le, ne_eq, not_false_eq_true, not_true_eq_false, reduceCtorEq, Bool.true_eq_false, Bool.false_eq_true, beq_iff_eq, bne_iff_ne, beq_eq_false_iff_ne, false_or, or_false, true_and, and_true, h1, hX.lenT, cls_len, lst_ofL, lenT_ofL, ints_length] at hx; first | (exfalso; omega) | skip) | skip)
    | trivial
    | exact fit_ofL _ _
    | (simp (disch := omega) only [notAgg_v, notAgg_sl, plain_v, fits, fitsOne, fitsCells, xsOf, cell_zero, cell_succ, List.range, List.range.loop, List.map, cond_true, cond_false, D.v.injEq, exists_eq', exists_eq, and_self, and_true, true_and, D.agg.injEq, List.length, exists_eq_left', D.sl.injEq, reduceCtorEq, false_or, true_or, or_true, or_false, cell_zero, cell_succ, cell_v, cells_v, cells_agg, List.length_cons, List.length_nil, h1, hX.lenT, cls_len, lst_ofL, lenT_ofL, ints_length]; done))
  all_goals first
    | (exfalso; omega)
    | exact fit_ofL _ _
    | exact fitC hX
    | exact plainC hX
    | exact ⟨_, rfl⟩
    | omega
    | rfl
    | (rw [hdn]; done)
    | (rw [← hdd, hdd2]; simp; done)
    | (simp only [app_ofL, ints_append1]; done)
    | (simp only [leftG]; omega)
    | (simp only [ints_length, List.length_cons, List.length_nil, List.length_append]; omega)
    | exact plain_ofL (ints_plain _ _)
    | (simp only [leftR, app_ofL, ints_append1, lmR_ofL, List.length_append, List.length_cons, List.length_nil]; omega)
    | (simp only [cell_zero, cell_succ, h1]; simp [D.cells, D.isAgg']; done)
    | (simp only [cell_zero, cell_succ, Nat.zero_add, h1]; first | done | exact ⟨_, rfl⟩)
    | (simp; done)
    | fail

theorem vc_count (x : D) (cs : List Cl) (f u : Int) : Cond Try.prog (fun k => if k = 3 then some ⟨[4, 3], [], [1], []⟩ else none) Try.f37 [.agg [x, .v (.int .i64 f), .v (.int .i64 u)]] [.v (.int .i64 (cntL cs : Nat))] = (((∃ (cs : List D), D.agg [x, D.v (Value.int IntKind.i64 f), D.v (Value.int IntKind.i64 u)] = D.agg cs ∧ cs.length = 3) ∧ True) ∧ ∃ (I : List D → Prop), ∃ (μ : List D → Nat), ((D.v (Value.int IntKind.i64 0) = D.v (Value.int IntKind.i64 0) ∧ D.v (Value.int IntKind.i64 0) = D.v (Value.int IntKind.i64 0) ∧ (true = true ∧ true = true) ∧ True) ∧ ((x = x ∧ D.v (Value.int IntKind.i64 f) = D.v (Value.int IntKind.i64 f) ∧ D.v (Value.int IntKind.i64 u) = D.v (Value.int IntKind.i64 u) ∧ True) ∧ True) ∧ I [D.v (Value.int IntKind.i64 0), D.v (Value.int IntKind.i64 0)]) ∧ ∀ (r r_1 : D), I [r, r_1] → ∃ (r_2 : D), D.lenT (TypeDesc.slice 63) x = some r_2 ∧ ∃ (r_3 : D), D.bin BinOp.lss r r_2 = some r_3 ∧ ∃ (b : Bool), r_3 = D.v (Value.bool b) ∧ (b = true → D.inb 3 x r ∧ 0 + 1 ≤ (x.at_ r).cells.length ∧ ∃ (b : Bool), (x.at_ r).cell 0 = D.v (Value.bool b) ∧ (b = true → ∃ (r_4 : D), D.bin BinOp.add r_1 (D.v (Value.int IntKind.i64 1)) = some r_4 ∧ ∃ (r_5 : D), D.bin BinOp.add r (D.v (Value.int IntKind.i64 1)) = some r_5 ∧ (r_5 = r_5 ∧ r_4 = r_4 ∧ (true = true ∧ true = true) ∧ True) ∧ ((x = x ∧ D.v (Value.int IntKind.i64 f) = D.v (Value.int IntKind.i64 f) ∧ D.v (Value.int IntKind.i64 u) = D.v (Value.int IntKind.i64 u) ∧ True) ∧ True) ∧ I [r_5, r_4] ∧ μ [r_5, r_4] < μ [r, r_1]) ∧ (b = false → ∃ (r_4 : D), D.bin BinOp.add r (D.v (Value.int IntKind.i64 1)) = some r_4 ∧ (r_4 = r_4 ∧ r_1 = r_1 ∧ (true = true ∧ true = true) ∧ True) ∧ ((x = x ∧ D.v (Value.int IntKind.i64 f) = D.v (Value.int IntKind.i64 f) ∧ D.v (Value.int IntKind.i64 u) = D.v (Value.int IntKind.i64 u) ∧ True) ∧ True) ∧ I [r_4, r_1] ∧ μ [r_4, r_1] < μ [r, r_1])) ∧ (b = false → ((∃ (y : Value), r_1 = D.v y) ∧ True) ∧ [r_1] = [D.v (Value.int IntKind.i64 ↑(cntL cs))])) := by kernel_rfl
set_option maxHeartbeats 4000000 in
theorem count (x : D) (cs : List Cl) (f u : Int) (hX : IsL 3 (cls cs) x) (hl : cs.length ≤ 100000) : PureD Try.prog 37 [.agg [x, .v (.int .i64 f), .v (.int .i64 u)]] [.v (.int .i64 (cntL cs : Nat))] := by
  refine pure_cond (Lp := (fun k => if k = 3 then some ⟨[4, 3], [], [1], []⟩ else none)) (by kernel_rfl) Try.func37 (by kernel_rfl) (by kernel_rfl) ?_
  rw [vc_count x cs f u]
  have h1 : True := trivial
  repeat' (first
    | (refine ex_some (by simp (disch := omega) only [bin_shr, bin_shl, bin_and, bin_or, bin_xor, len_str, toStr_ofL, bin_add, bin_sub, bin_mul, bin_quo, bin_rem, bin_lss, bin_leq, bin_gtr, bin_geq, bin_eql, bin_neq, eqs_cn, eqs_ci, eqs_cb, eqs_cs, Option.map_some, lenT_ofL, lst_ofL, lstSz_ofL, chunk_one, lst_nil, lst_sl, lstSz_sl, lstSz_nil, Bool.and_true, Bool.true_and, Bool.and_false, Bool.false_and, beq_self_eq_true, beq_bb, bne_bb, un_not, un_neg, conv_int, min2_int, max2_int, w64, w32, wu8, wu16, wu32, wu64, tdiv_nn, tmod_nn, cell_zero, cell_succ, cell_v, cells_v, cells_agg, Bool.not_true, Bool.not_false, Int.reduceLT, Int.reduceLE, Int.reduceEq, Int.reduceNeg, Int.reduceAdd, Int.reduceSub, Int.reduceMul, intOf_v, decide_true, decide_false, h1, hX.lenT, cls_len]; rfl) ?_)
    | (refine ex_bool ?_)
    | (refine ⟨(fun r => ∃ k : Nat, k ≤ cs.length ∧ r = [.v (.int .i64 (k : Nat)), .v (.int .i64 (cntL (cs.take k) : Nat))]), leftG cs.length, ?_⟩)
    | (refine fun (r2 r3 : D) (hI : (fun r => ∃ k : Nat, k ≤ cs.length ∧ r = [.v (.int .i64 (k : Nat)), .v (.int .i64 (cntL (cs.take k) : Nat))]) [r2, r3]) => ?_; obtain ⟨k, hk, hl0⟩ := hI; simp only [List.cons.injEq, and_true] at hl0; obtain ⟨rfl, rfl⟩ := hl0; by_cases hlt : k < cs.length <;> first | (have hk1 : k < cs.length := (by omega); have h1 := cls_at hX (z := (k : Nat)) (by omega) (by omega); rw [Int.toNat_natCast] at h1; have i1 := cls_inb hX (z := (k : Nat)) (by omega) (by omega); have htc := take_cnt hk1; have hcl := cnt_le (cs.take k); rw [List.length_take] at hcl; generalize cs.getD k c0 = c at h1 htc; obtain ⟨lv, vl, lk⟩ := c; simp only [clD] at h1; simp only [h1, Nat.zero_add, cell_zero, cell_succ, cells_agg, List.length_cons, List.length_nil]; have inl : True := trivial) | (have hkk : k = cs.length := (by omega); subst hkk; rw [List.take_length]; have h1 : True := trivial))
    | (exact i1)
    | (have := inl; refine ⟨(k + 1 : Nat), by omega, ?_⟩)
    | (refine ⟨(0 : Nat), Nat.zero_le _, rfl⟩)
    | (refine And.intro ?_ ?_)
    | (intro hx; have hprop := (show ∀ (p : Prop), p → True from fun _ _ => True.intro) _ hx; clear hprop; first | (cases hx; done) | (exfalso; revert hx; simp (disch := omega) only [decide_eq_true_eq, decide_eq_false_iff_not, Bool.not_eq_true', Bool.not_eq_false', Bool.and_eq_true, Bool.and_eq_false_iff, Int.not_lt, Int.not_le, ne_eq, not_false_eq_true, not_true_eq_false, reduceCtorEq, Bool.true_eq_false, Bool.false_eq_true, beq_iff_eq, bne_iff_ne, beq_eq_false_iff_ne, false_or, or_false, true_and, and_true, h1, hX.lenT, cls_len]; done) | (simp (disch := omega) only [decide_eq_true_eq, decide_eq_false_iff_not, Bool.not_eq_true', Bool.not_eq_false', Bool.and_eq_true, Bool.and_eq_false_iff, Int.not_lt, Int.not_le, ne_eq, not_false_eq_true, not_true_eq_false, reduceCtorEq, Bool.true_eq_false, Bool.false_eq_true, beq_iff_eq, bne_iff_ne, beq_eq_false_iff_ne, false_or, or_false, true_and, and_true, h1, hX.lenT, cls_len] at hx; first | (exfalso; omega) | skip) | skip)
    | trivial
    | exact fit_ofL _ _
    | (simp (disch := omega) only [notAgg_v, notAgg_sl, plain_v, fits, fitsOne, fitsCells, xsOf, cell_zero, cell_succ, List.range, List.range.loop, List.map, cond_true, cond_false, D.v.injEq, exists_eq', exists_eq, and_self, and_true, true_and, D.agg.injEq, List.length, exists_eq_left', D.sl.injEq, reduceCtorEq, false_or, true_or, or_true, or_false, cell_zero, cell_succ, cell_v, cells_v, cells_agg, List.length_cons, List.length_nil, h1, hX.lenT, cls_len]; done))
  all_goals first
    | (exfalso; omega)
    | exact fit_ofL _ _
    | exact fitC hX
    | exact plainC hX
    | exact ⟨_, rfl⟩
    | omega
    | rfl
    | (simp_all; done)
    | (simp only [leftG]; omega)
    | (simp only [ints_length, List.length_cons, List.length_nil, List.length_append]; omega)
    | exact plain_ofL (ints_plain _ _)
    | (simp only [leftR, app_ofL, ints_append1, lmR_ofL, List.length_append, List.length_cons, List.length_nil]; omega)
    | (simp only [cell_zero, cell_succ, h1]; simp [D.cells, D.isAgg']; done)
    | (simp only [cell_zero, cell_succ, Nat.zero_add, h1]; first | done | exact ⟨_, rfl⟩)
    | (simp; done)
    | fail

theorem vc_place (x : D) (cs : List Cl) (f u : Int) (z : Int) : Cond Try.prog (fun _ => none) Try.f35 [.agg [x, .v (.int .i64 f), .v (.int .i64 u)], .v (.int .i64 z)] [.v (.bool (linkB cs z))] = (((∃ (cs : List D), D.agg [x, D.v (Value.int IntKind.i64 f), D.v (Value.int IntKind.i64 u)] = D.agg cs ∧ cs.length = 3) ∧ NotAgg (D.v (Value.int IntKind.i64 z)) ∧ True) ∧ ∃ (r : D), D.bin BinOp.geq (D.v (Value.int IntKind.i64 z)) (D.v (Value.int IntKind.i64 (-1))) = some r ∧ ∃ (b : Bool), r = D.v (Value.bool b) ∧ (b = true → ∃ (r : D), D.lenT (TypeDesc.slice 63) x = some r ∧ ∃ (r_1 : D), D.bin BinOp.lss (D.v (Value.int IntKind.i64 z)) r = some r_1 ∧ ((∃ (y : Value), r_1 = D.v y) ∧ True) ∧ [r_1] = [D.v (Value.bool (linkB cs z))]) ∧ (b = false → (True ∧ True) ∧ [D.v (Value.bool false)] = [D.v (Value.bool (linkB cs z))])) := by kernel_rfl
theorem place (x : D) (cs : List Cl) (f u : Int) (z : Int) (hX : IsL 3 (cls cs) x) (hl : cs.length ≤ 100000) : PureD Try.prog 35 [.agg [x, .v (.int .i64 f), .v (.int .i64 u)], .v (.int .i64 z)] [.v (.bool (linkB cs z))] := by
  refine pure_cond (Lp := (fun _ => none)) (by kernel_rfl) Try.func35 (by kernel_rfl) (by kernel_rfl) ?_
  rw [vc_place x cs f u z]
  simp only [hX.lenT, cls_len, Option.some.injEq, exists_eq_left']
  repeat' (first
    | (refine ex_some (by simp (disch := omega) only [bin_shr, bin_shl, bin_and, bin_or, bin_xor, len_str, toStr_ofL, bin_add, bin_sub, bin_mul, bin_quo, bin_rem, bin_lss, bin_leq, bin_gtr, bin_geq, bin_eql, bin_neq, eqs_cn, eqs_ci, eqs_cb, eqs_cs, Option.map_some, lenT_ofL, lst_ofL, lstSz_ofL, chunk_one, lst_nil, lst_sl, lstSz_sl, lstSz_nil, Bool.and_true, Bool.true_and, Bool.and_false, Bool.false_and, beq_self_eq_true, beq_bb, bne_bb, un_not, un_neg, conv_int, min2_int, max2_int, w64, w32, wu8, wu16, wu32, wu64, tdiv_nn, tmod_nn, cell_zero, cell_succ, cell_v, cells_v, cells_agg, Bool.not_true, Bool.not_false, Int.reduceLT, Int.reduceLE, Int.reduceEq, Int.reduceNeg, Int.reduceAdd, Int.reduceSub, Int.reduceMul, intOf_v, decide_true, decide_false]; rfl) ?_)
    | (refine ex_bool ?_)
    | (refine And.intro ?_ ?_)
    | (intro hx; have hprop := (show ∀ (p : Prop), p → True from fun _ _ => True.intro) _ hx; clear hprop; first | (cases hx; done) | (exfalso; revert hx; simp (disch := omega) only [decide_eq_true_eq, decide_eq_false_iff_not, Bool.not_eq_true', Bool.not_eq_false', Bool.and_eq_true, Bool.and_eq_false_iff, Int.not_lt, Int.not_le, ne_eq, not_false_eq_true, not_true_eq_false, reduceCtorEq, Bool.true_eq_false, Bool.false_eq_true, beq_iff_eq, bne_iff_ne, beq_eq_false_iff_ne, false_or, or_false, true_and, and_true]; done) | (simp (disch := omega) only [decide_eq_true_eq, decide_eq_false_iff_not, Bool.not_eq_true', Bool.not_eq_false', Bool.and_eq_true, Bool.and_eq_false_iff, Int.not_lt, Int.not_le, ne_eq, not_false_eq_true, not_true_eq_false, reduceCtorEq, Bool.true_eq_false, Bool.false_eq_true, beq_iff_eq, bne_iff_ne, beq_eq_false_iff_ne, false_or, or_false, true_and, and_true] at hx; first | (exfalso; omega) | skip) | skip)
    | trivial
    | exact fit_ofL _ _
    | (simp (disch := omega) only [notAgg_v, notAgg_sl, plain_v, fits, fitsOne, fitsCells, xsOf, cell_zero, cell_succ, List.range, List.range.loop, List.map, cond_true, cond_false, D.v.injEq, exists_eq', exists_eq, and_self, and_true, true_and, D.agg.injEq, List.length, exists_eq_left', D.sl.injEq, reduceCtorEq, false_or, true_or, or_true, or_false, cell_zero, cell_succ, cell_v, cells_v, cells_agg, List.length_cons, List.length_nil]; done))
  all_goals first | (exfalso; omega) | (by_cases h : z < (cs.length : Nat) <;> simp [linkB, h] <;> omega) | (unfold linkB; congr 4; rw [eq_comm, decide_eq_false_iff_not]; omega) | fail

theorem vc_live1 (x : D) (cs : List Cl) (f u : Int) (z : Int) : Cond Try.prog (fun _ => none) Try.f32 [.agg [x, .v (.int .i64 f), .v (.int .i64 u)], .v (.int .i64 z)] [.v (.bool (liveC cs z))] = (((∃ (cs : List D), D.agg [x, D.v (Value.int IntKind.i64 f), D.v (Value.int IntKind.i64 u)] = D.agg cs ∧ cs.length = 3) ∧ NotAgg (D.v (Value.int IntKind.i64 z)) ∧ True) ∧ ∃ (r : D), D.bin BinOp.geq (D.v (Value.int IntKind.i64 z)) (D.v (Value.int IntKind.i64 0)) = some r ∧ ∃ (b : Bool), r = D.v (Value.bool b) ∧ (b = true → ∃ (r : D), D.lenT (TypeDesc.slice 63) x = some r ∧ ∃ (r_1 : D), D.bin BinOp.lss (D.v (Value.int IntKind.i64 z)) r = some r_1 ∧ ∃ (b : Bool), r_1 = D.v (Value.bool b) ∧ (b = true → D.inb 3 x (D.v (Value.int IntKind.i64 z)) ∧ 0 + 1 ≤ (x.at_ (D.v (Value.int IntKind.i64 z))).cells.length ∧ ((∃ (y : Value), (x.at_ (D.v (Value.int IntKind.i64 z))).cell 0 = D.v y) ∧ True) ∧ [(x.at_ (D.v (Value.int IntKind.i64 z))).cell 0] = [D.v (Value.bool (liveC cs z))]) ∧ (b = false → (True ∧ True) ∧ [D.v (Value.bool false)] = [D.v (Value.bool (liveC cs z))])) ∧ (b = false → (True ∧ True) ∧ [D.v (Value.bool false)] = [D.v (Value.bool (liveC cs z))])) := by kernel_rfl
theorem live1 (x : D) (cs : List Cl) (f u : Int) (z : Int) (hX : IsL 3 (cls cs) x) (hl : cs.length ≤ 100000) : PureD Try.prog 32 [.agg [x, .v (.int .i64 f), .v (.int .i64 u)], .v (.int .i64 z)] [.v (.bool (liveC cs z))] := by
  refine pure_cond (Lp := (fun _ => none)) (by kernel_rfl) Try.func32 (by kernel_rfl) (by kernel_rfl) ?_
  rw [vc_live1 x cs f u z]
  by_cases hz : 0 ≤ z ∧ z < (cs.length : Nat)
  · have h1 := cls_at hX hz.1 hz.2
    have i1 := cls_inb hX hz.1 hz.2
    have hF : liveC cs z = (cs.getD z.toNat c0).live := by unfold liveC; cases (cs.getD z.toNat c0).live <;> simp [hz.1, hz.2]
    rw [hF]
    generalize cs.getD z.toNat c0 = c at h1
    obtain ⟨lv, vl, lk⟩ := c
    simp only [clD] at h1
    repeat' (first
      | (refine ex_some (by simp (disch := omega) only [bin_shr, bin_shl, bin_and, bin_or, bin_xor, len_str, toStr_ofL, bin_add, bin_sub, bin_mul, bin_quo, bin_rem, bin_lss, bin_leq, bin_gtr, bin_geq, bin_eql, bin_neq, eqs_cn, eqs_ci, eqs_cb, eqs_cs, Option.map_some, lenT_ofL, lst_ofL, lstSz_ofL, chunk_one, lst_nil, lst_sl, lstSz_sl, lstSz_nil, Bool.and_true, Bool.true_and, Bool.and_false, Bool.false_and, beq_self_eq_true, beq_bb, bne_bb, un_not, un_neg, conv_int, min2_int, max2_int, w64, w32, wu8, wu16, wu32, wu64, tdiv_nn, tmod_nn, cell_zero, cell_succ, cell_v, cells_v, cells_agg, Bool.not_true, Bool.not_false, Int.reduceLT, Int.reduceLE, Int.reduceEq, Int.reduceNeg, Int.reduceAdd, Int.reduceSub, Int.reduceMul, intOf_v, decide_true, decide_false, h1, hX.lenT, cls_len]; rfl) ?_)
      | (refine ex_bool ?_)
      | (exact i1)
      | (refine And.intro ?_ ?_)
      | (intro hx; have hprop := (show ∀ (p : Prop), p → True from fun _ _ => True.intro) _ hx; clear hprop; first | (cases hx; done) | (exfalso; revert hx; simp (disch := omega) only [decide_eq_true_eq, decide_eq_false_iff_not, Bool.not_eq_true', Bool.not_eq_false', Bool.and_eq_true, Bool.and_eq_false_iff, Int.not_lt, Int.not_le, ne_eq, not_false_eq_true, not_true_eq_false, reduceCtorEq, Bool.true_eq_false, Bool.false_eq_true, beq_iff_eq, bne_iff_ne, beq_eq_false_iff_ne, false_or, or_false, true_and, and_true, h1, hX.lenT, cls_len]; done) | (simp (disch := omega) only [decide_eq_true_eq, decide_eq_false_iff_not, Bool.not_eq_true', Bool.not_eq_false', Bool.and_eq_true, Bool.and_eq_false_iff, Int.not_lt, Int.not_le, ne_eq, not_false_eq_true, not_true_eq_false, reduceCtorEq, Bool.true_eq_false, Bool.false_eq_true, beq_iff_eq, bne_iff_ne, beq_eq_false_iff_ne, false_or, or_false, true_and, and_true, h1, hX.lenT, cls_len] at hx; first | (exfalso; omega) | skip) | skip)
      | trivial
      | exact fit_ofL _ _
      | (simp (disch := omega) only [notAgg_v, notAgg_sl, plain_v, fits, fitsOne, fitsCells, xsOf, cell_zero, cell_succ, List.range, List.range.loop, List.map, cond_true, cond_false, D.v.injEq, exists_eq', exists_eq, and_self, and_true, true_and, D.agg.injEq, List.length, exists_eq_left', D.sl.injEq, reduceCtorEq, false_or, true_or, or_true, or_false, cell_zero, cell_succ, cell_v, cells_v, cells_agg, List.length_cons, List.length_nil, h1, hX.lenT, cls_len]; done))
    all_goals first
      | (exfalso; omega)
      | exact fit_ofL _ _
      | exact fitC hX
      | exact plainC hX
      | exact ⟨_, rfl⟩
      | omega
      | rfl
      | (simp only [leftG]; omega)
      | (simp only [ints_length, List.length_cons, List.length_nil, List.length_append]; omega)
      | exact plain_ofL (ints_plain _ _)
      | (simp only [leftR, app_ofL, ints_append1, lmR_ofL, List.length_append, List.length_cons, List.length_nil]; omega)
      | (simp only [cell_zero, cell_succ, h1]; simp [D.cells, D.isAgg']; done)
      | (simp only [cell_zero, cell_succ, Nat.zero_add, h1]; first | done | exact ⟨_, rfl⟩)
      | (simp; done)
      | fail
  · have hF : liveC cs z = false := by unfold liveC; rw [decide_eq_false_iff_not]; omega
    have h1 : True := trivial
    rw [hF]
    repeat' (first
      | (refine ex_some (by simp (disch := omega) only [bin_shr, bin_shl, bin_and, bin_or, bin_xor, len_str, toStr_ofL, bin_add, bin_sub, bin_mul, bin_quo, bin_rem, bin_lss, bin_leq, bin_gtr, bin_geq, bin_eql, bin_neq, eqs_cn, eqs_ci, eqs_cb, eqs_cs, Option.map_some, lenT_ofL, lst_ofL, lstSz_ofL, chunk_one, lst_nil, lst_sl, lstSz_sl, lstSz_nil, Bool.and_true, Bool.true_and, Bool.and_false, Bool.false_and, beq_self_eq_true, beq_bb, bne_bb, un_not, un_neg, conv_int, min2_int, max2_int, w64, w32, wu8, wu16, wu32, wu64, tdiv_nn, tmod_nn, cell_zero, cell_succ, cell_v, cells_v, cells_agg, Bool.not_true, Bool.not_false, Int.reduceLT, Int.reduceLE, Int.reduceEq, Int.reduceNeg, Int.reduceAdd, Int.reduceSub, Int.reduceMul, intOf_v, decide_true, decide_false, h1, hX.lenT, cls_len]; rfl) ?_)
      | (refine ex_bool ?_)
      | (refine And.intro ?_ ?_)
      | (intro hx; have hprop := (show ∀ (p : Prop), p → True from fun _ _ => True.intro) _ hx; clear hprop; first | (cases hx; done) | (exfalso; revert hx; simp (disch := omega) only [decide_eq_true_eq, decide_eq_false_iff_not, Bool.not_eq_true', Bool.not_eq_false', Bool.and_eq_true, Bool.and_eq_false_iff, Int.not_lt, Int.not_le, ne_eq, not_false_eq_true, not_true_eq_false, reduceCtorEq, Bool.true_eq_false, Bool.false_eq_true, beq_iff_eq, bne_iff_ne, beq_eq_false_iff_ne, false_or, or_false, true_and, and_true, h1, hX.lenT, cls_len]; done) | (simp (disch := omega) only [decide_eq_true_eq, decide_eq_false_iff_not, Bool.not_eq_true', Bool.not_eq_false', Bool.and_eq_true, Bool.and_eq_false_iff, Int.not_lt, Int.not_le, ne_eq, not_false_eq_true, not_true_eq_false, reduceCtorEq, Bool.true_eq_false, Bool.false_eq_true, beq_iff_eq, bne_iff_ne, beq_eq_false_iff_ne, false_or, or_false, true_and, and_true, h1, hX.lenT, cls_len] at hx; first | (exfalso; omega) | skip) | skip)
      | trivial
      | exact fit_ofL _ _
      | (simp (disch := omega) only [notAgg_v, notAgg_sl, plain_v, fits, fitsOne, fitsCells, xsOf, cell_zero, cell_succ, List.range, List.range.loop, List.map, cond_true, cond_false, D.v.injEq, exists_eq', exists_eq, and_self, and_true, true_and, D.agg.injEq, List.length, exists_eq_left', D.sl.injEq, reduceCtorEq, false_or, true_or, or_true, or_false, cell_zero, cell_succ, cell_v, cells_v, cells_agg, List.length_cons, List.length_nil, h1, hX.lenT, cls_len]; done))
    all_goals first
      | (exfalso; omega)
      | exact fit_ofL _ _
      | exact fitC hX
      | exact plainC hX
      | exact ⟨_, rfl⟩
      | omega
      | rfl
      | (simp only [leftG]; omega)
      | (simp only [ints_length, List.length_cons, List.length_nil, List.length_append]; omega)
      | exact plain_ofL (ints_plain _ _)
      | (simp only [leftR, app_ofL, ints_append1, lmR_ofL, List.length_append, List.length_cons, List.length_nil]; omega)
      | (simp only [cell_zero, cell_succ, h1]; simp [D.cells, D.isAgg']; done)
      | (simp only [cell_zero, cell_succ, Nat.zero_add, h1]; first | done | exact ⟨_, rfl⟩)
      | (simp; done)
      | fail

end Go.Proofs.Ytlamjfdghhbkpaa