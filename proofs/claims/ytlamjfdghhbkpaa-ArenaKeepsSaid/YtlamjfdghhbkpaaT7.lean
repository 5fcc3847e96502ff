/-
  Layer 18: what cells may be, by the document.
-/
import Derived.Test.YtlamjfdghhbkpaaT1
import Derived.Test.YtlamjfdghhbkpaaT2
import Derived.Test.YtlamjfdghhbkpaaT3
import Derived.Test.YtlamjfdghhbkpaaT4
import Derived.Test.YtlamjfdghhbkpaaT5
import Derived.Test.YtlamjfdghhbkpaaT6
namespace Go.Proofs.Ytlamjfdghhbkpaa
open Go.RowKit
set_option linter.unusedSimpArgs false
set_option linter.unusedVariables false


theorem chL_in {cs : List Cl} (hao : AllOk cs) : ∀ {n : Nat} {z : Int}, -1 ≤ z → z < (cs.length : Nat) → ∀ e ∈ chL cs n z, 0 ≤ e ∧ e < (cs.length : Nat)
  | 0, z, _, _, e, he => by simp [chL] at he
  | n + 1, z, h0, h1, e, he => by
    by_cases hz : z < 0
    · rw [chL_neg cs _ hz] at he; cases he
    · rw [chL_step _ _ (by omega)] at he
      rcases List.mem_cons.1 he with rfl | he
      · exact ⟨by omega, h1⟩
      · have hlk := hao z.toNat (by omega)
        exact chL_in hao hlk.1 hlk.2 e he
theorem getD_mem {l : List Int} {i : Nat} (h : i < l.length) : l.getD i 0 ∈ l := by simp [List.getD, h]
theorem nodup_ne {l : List Int} (hn : l.Nodup) {i k : Nat} (hk : k < i) (hi : i < l.length) : l.getD k 0 ≠ l.getD i 0 := by
  rw [List.getD_eq_getElem?_getD, List.getD_eq_getElem?_getD, List.getElem?_eq_getElem hi, List.getElem?_eq_getElem (by omega : k < l.length)]
  exact (List.pairwise_iff_getElem.1 hn) k i (by omega) hi hk
/-- What the chain's places tell of the chain. -/
theorem chain_two {cs : List Cl} {f : Int} (hao : AllOk cs) (hlo : LinksOk cs) (h0 : -1 ≤ f) (h1 : f < (cs.length : Nat)) (m : Nat) (hm : m ≤ cs.length) :
    (chF cs m f = true ∧ (chL cs (cs.length + 1) f).length = m ∧ (∀ i, i < (chL cs (cs.length + 1) f).length → (cs.getD ((chL cs (cs.length + 1) f).getD i 0).toNat c0).live = false) ∧ ∀ k i, k < i → i < (chL cs (cs.length + 1) f).length → (chL cs (cs.length + 1) f).getD k 0 ≠ (chL cs (cs.length + 1) f).getD i 0) ∨
    (chF cs m f = false ∧ ((chL cs (cs.length + 1) f).length = m → ∃ i, i < (chL cs (cs.length + 1) f).length ∧ (cs.getD ((chL cs (cs.length + 1) f).getD i 0).toNat c0).live = true)) := by
  cases hc : chF cs m f
  · refine .inr ⟨rfl, fun hl => ?_⟩
    refine Classical.byContradiction fun hn => ?_
    have := chF_of hao (k := cs.length + 1) h0 h1 hl (by omega) (fun e he => by
      obtain ⟨i, hi, rfl⟩ := List.getElem_of_mem he
      cases hv : (cs.getD ((chL cs (cs.length + 1) f)[i]).toNat c0).live
      · rfl
      · exact absurd ⟨i, hi, by have e : (chL cs (cs.length + 1) f).getD i 0 = (chL cs (cs.length + 1) f)[i] := (by simp [List.getD, hi]); rw [e]; exact hv⟩ hn)
    rw [hc] at this; cases this
  · obtain ⟨g1, g2, g3, g4⟩ := chL_of hlo h0 h1 hc (cs.length + 1 - m)
    rw [show m + (cs.length + 1 - m) = cs.length + 1 by omega] at g1
    rw [g1]
    exact .inl ⟨rfl, g2, fun i hi => (g4 _ (getD_mem hi)).1.2.2, fun k i hk hi => nodup_ne g3 hk hi⟩

theorem vc_rcheck (x : D) (cs : List Cl) (f u : Int) : Cond Try.prog (fun k => if k = 6 then some ⟨[3], [], [1], []⟩ else if k = 11 then some ⟨[4], [], [1], []⟩ else if k = 21 then some ⟨[8], [6], [1], []⟩ else if k = 26 then some ⟨[9], [6], [1, 8], []⟩ else none) Try.f20 [.agg [x, .v (.int .i64 f), .v (.int .i64 u)]] [.v (.int .i64 (chkF cs f u))] = (((∃ (cs : List D), D.agg [x, D.v (Value.int IntKind.i64 f), D.v (Value.int IntKind.i64 u)] = D.agg cs ∧ cs.length = 3) ∧ True) ∧ ∃ (r : D), D.lenT (TypeDesc.slice 63) x = some r ∧ ∃ (r_1 : D), D.bin BinOp.gtr r (D.v (Value.int IntKind.i64 64)) = some r_1 ∧ ∃ (b : Bool), r_1 = D.v (Value.bool b) ∧ (b = true → (True ∧ True) ∧ [D.v (Value.int IntKind.i64 5)] = [D.v (Value.int IntKind.i64 (chkF cs f u))]) ∧ (b = false → ∃ (r : D), PureD Try.prog 35 [D.agg [x, D.v (Value.int IntKind.i64 f), D.v (Value.int IntKind.i64 u)], D.v (Value.int IntKind.i64 f)] [r] ∧ fits [(false, [none])] [r] ∧ ∃ (r_2 : D), D.un UnOp.not r = some r_2 ∧ ∃ (b : Bool), r_2 = D.v (Value.bool b) ∧ (b = true → (True ∧ True) ∧ [D.v (Value.int IntKind.i64 8)] = [D.v (Value.int IntKind.i64 (chkF cs f u))]) ∧ (b = false → ∃ (I : List D → Prop), ∃ (μ : List D → Nat), ((D.v (Value.int IntKind.i64 0) = D.v (Value.int IntKind.i64 0) ∧ (true = true ∧ true = true) ∧ True) ∧ ((x = x ∧ D.v (Value.int IntKind.i64 f) = D.v (Value.int IntKind.i64 f) ∧ D.v (Value.int IntKind.i64 u) = D.v (Value.int IntKind.i64 u) ∧ True) ∧ True) ∧ I [D.v (Value.int IntKind.i64 0)]) ∧ ∀ (r : D), I [r] → ∃ (r_3 : D), D.lenT (TypeDesc.slice 63) x = some r_3 ∧ ∃ (r_4 : D), D.bin BinOp.lss r r_3 = some r_4 ∧ ∃ (b : Bool), r_4 = D.v (Value.bool b) ∧ (b = true → D.inb 3 x r ∧ 0 + 1 ≤ (x.at_ r).cells.length ∧ ∃ (r_5 : D), D.un UnOp.not ((x.at_ r).cell 0) = some r_5 ∧ ∃ (b : Bool), r_5 = D.v (Value.bool b) ∧ (b = true → D.inb 3 x r ∧ 1 + 1 + 1 ≤ (x.at_ r).cells.length ∧ ∃ (r_6 : D), PureD Try.prog 35 [D.agg [x, D.v (Value.int IntKind.i64 f), D.v (Value.int IntKind.i64 u)], (x.at_ r).cell (1 + 1)] [r_6] ∧ fits [(false, [none])] [r_6] ∧ ∃ (r_7 : D), D.un UnOp.not r_6 = some r_7 ∧ ∃ (b : Bool), r_7 = D.v (Value.bool b) ∧ (b = true → (True ∧ True) ∧ [D.v (Value.int IntKind.i64 8)] = [D.v (Value.int IntKind.i64 (chkF cs f u))]) ∧ (b = false → ∃ (r_8 : D), D.bin BinOp.add r (D.v (Value.int IntKind.i64 1)) = some r_8 ∧ (r_8 = r_8 ∧ (true = true ∧ true = true) ∧ True) ∧ ((x = x ∧ D.v (Value.int IntKind.i64 f) = D.v (Value.int IntKind.i64 f) ∧ D.v (Value.int IntKind.i64 u) = D.v (Value.int IntKind.i64 u) ∧ True) ∧ True) ∧ I [r_8] ∧ μ [r_8] < μ [r])) ∧ (b = false → ∃ (r_6 : D), D.bin BinOp.add r (D.v (Value.int IntKind.i64 1)) = some r_6 ∧ (r_6 = r_6 ∧ (true = true ∧ true = true) ∧ True) ∧ ((x = x ∧ D.v (Value.int IntKind.i64 f) = D.v (Value.int IntKind.i64 f) ∧ D.v (Value.int IntKind.i64 u) = D.v (Value.int IntKind.i64 u) ∧ True) ∧ True) ∧ I [r_6] ∧ μ [r_6] < μ [r])) ∧ (b = false → ∃ (I : List D → Prop), ∃ (μ : List D → Nat), ((D.v (Value.int IntKind.i64 0) = D.v (Value.int IntKind.i64 0) ∧ (true = true ∧ true = true) ∧ True) ∧ ((x = x ∧ D.v (Value.int IntKind.i64 f) = D.v (Value.int IntKind.i64 f) ∧ D.v (Value.int IntKind.i64 u) = D.v (Value.int IntKind.i64 u) ∧ True) ∧ True) ∧ I [D.v (Value.int IntKind.i64 0)]) ∧ ∀ (r : D), I [r] → ∃ (r_5 : D), D.lenT (TypeDesc.slice 63) x = some r_5 ∧ ∃ (r_6 : D), D.bin BinOp.lss r r_5 = some r_6 ∧ ∃ (b : Bool), r_6 = D.v (Value.bool b) ∧ (b = true → D.inb 3 x r ∧ 0 + 3 ≤ (x.at_ r).cells.length ∧ ∃ (b : Bool), (x.at_ r).cell (0 + 0) = D.v (Value.bool b) ∧ (b = true → ∃ (r_7 : D), D.bin BinOp.neq ((x.at_ r).cell (0 + 2)) (D.v (Value.int IntKind.i64 0)) = some r_7 ∧ ∃ (b : Bool), r_7 = D.v (Value.bool b) ∧ (b = false → ∃ (r_8 : D), D.un UnOp.not ((x.at_ r).cell (0 + 0)) = some r_8 ∧ ∃ (b : Bool), r_8 = D.v (Value.bool b) ∧ (b = true → ∃ (r_9 : D), D.bin BinOp.neq ((x.at_ r).cell (0 + 1)) (D.v (Value.int IntKind.i64 0)) = some r_9 ∧ ∃ (b : Bool), r_9 = D.v (Value.bool b) ∧ (b = true → (True ∧ True) ∧ [D.v (Value.int IntKind.i64 4)] = [D.v (Value.int IntKind.i64 (chkF cs f u))]) ∧ (b = false → ∃ (r_10 : D), D.bin BinOp.add r (D.v (Value.int IntKind.i64 1)) = some r_10 ∧ (r_10 = r_10 ∧ (true = true ∧ true = true) ∧ True) ∧ ((x = x ∧ D.v (Value.int IntKind.i64 f) = D.v (Value.int IntKind.i64 f) ∧ D.v (Value.int IntKind.i64 u) = D.v (Value.int IntKind.i64 u) ∧ True) ∧ True) ∧ I [r_10] ∧ μ [r_10] < μ [r])) ∧ (b = false → ∃ (r_9 : D), D.bin BinOp.add r (D.v (Value.int IntKind.i64 1)) = some r_9 ∧ (r_9 = r_9 ∧ (true = true ∧ true = true) ∧ True) ∧ ((x = x ∧ D.v (Value.int IntKind.i64 f) = D.v (Value.int IntKind.i64 f) ∧ D.v (Value.int IntKind.i64 u) = D.v (Value.int IntKind.i64 u) ∧ True) ∧ True) ∧ I [r_9] ∧ μ [r_9] < μ [r])) ∧ (b = true → (True ∧ True) ∧ [D.v (Value.int IntKind.i64 4)] = [D.v (Value.int IntKind.i64 (chkF cs f u))])) ∧ (b = false → ∃ (r_7 : D), D.un UnOp.not ((x.at_ r).cell (0 + 0)) = some r_7 ∧ ∃ (b : Bool), r_7 = D.v (Value.bool b) ∧ (b = true → ∃ (r_8 : D), D.bin BinOp.neq ((x.at_ r).cell (0 + 1)) (D.v (Value.int IntKind.i64 0)) = some r_8 ∧ ∃ (b : Bool), r_8 = D.v (Value.bool b) ∧ (b = true → (True ∧ True) ∧ [D.v (Value.int IntKind.i64 4)] = [D.v (Value.int IntKind.i64 (chkF cs f u))]) ∧ (b = false → ∃ (r_9 : D), D.bin BinOp.add r (D.v (Value.int IntKind.i64 1)) = some r_9 ∧ (r_9 = r_9 ∧ (true = true ∧ true = true) ∧ True) ∧ ((x = x ∧ D.v (Value.int IntKind.i64 f) = D.v (Value.int IntKind.i64 f) ∧ D.v (Value.int IntKind.i64 u) = D.v (Value.int IntKind.i64 u) ∧ True) ∧ True) ∧ I [r_9] ∧ μ [r_9] < μ [r])) ∧ (b = false → ∃ (r_8 : D), D.bin BinOp.add r (D.v (Value.int IntKind.i64 1)) = some r_8 ∧ (r_8 = r_8 ∧ (true = true ∧ true = true) ∧ True) ∧ ((x = x ∧ D.v (Value.int IntKind.i64 f) = D.v (Value.int IntKind.i64 f) ∧ D.v (Value.int IntKind.i64 u) = D.v (Value.int IntKind.i64 u) ∧ True) ∧ True) ∧ I [r_8] ∧ μ [r_8] < μ [r]))) ∧ (b = false → ∃ (r : D), PureD Try.prog 36 [D.agg [x, D.v (Value.int IntKind.i64 f), D.v (Value.int IntKind.i64 u)]] [r] ∧ fits [(false, [some 1])] [r] ∧ ∃ (r_7 : D), PureD Try.prog 37 [D.agg [x, D.v (Value.int IntKind.i64 f), D.v (Value.int IntKind.i64 u)]] [r_7] ∧ fits [(false, [none])] [r_7] ∧ ∃ (r_8 : D), D.bin BinOp.neq (D.v (Value.int IntKind.i64 u)) r_7 = some r_8 ∧ ∃ (b : Bool), r_8 = D.v (Value.bool b) ∧ (b = false → ∃ (r_9 : D), D.lenT (TypeDesc.slice 3) r = some r_9 ∧ ∃ (r_10 : D), D.lenT (TypeDesc.slice 63) x = some r_10 ∧ ∃ (r_11 : D), D.bin BinOp.sub r_10 r_7 = some r_11 ∧ ∃ (r_12 : D), D.bin BinOp.neq r_9 r_11 = some r_12 ∧ ∃ (b : Bool), r_12 = D.v (Value.bool b) ∧ (b = true → (True ∧ True) ∧ [D.v (Value.int IntKind.i64 10)] = [D.v (Value.int IntKind.i64 (chkF cs f u))]) ∧ (b = false → ∃ (I : List D → Prop), ∃ (μ : List D → Nat), ((D.v (Value.int IntKind.i64 0) = D.v (Value.int IntKind.i64 0) ∧ true = true ∧ (true = true ∧ true = true) ∧ True) ∧ ((true = true ∧ r = r) ∧ (x = x ∧ D.v (Value.int IntKind.i64 f) = D.v (Value.int IntKind.i64 f) ∧ D.v (Value.int IntKind.i64 u) = D.v (Value.int IntKind.i64 u) ∧ True) ∧ True) ∧ I [D.v (Value.int IntKind.i64 0), r]) ∧ ∀ (r r_13 : D), I [r, r_13] → ∃ (r_14 : D), D.lenT (TypeDesc.slice 3) r_13 = some r_14 ∧ ∃ (r_15 : D), D.bin BinOp.lss r r_14 = some r_15 ∧ ∃ (b : Bool), r_15 = D.v (Value.bool b) ∧ (b = true → D.inb 1 r_13 r ∧ 0 + 1 ≤ (r_13.at_ r).cells.length ∧ D.inb 3 x ((r_13.at_ r).cell 0) ∧ 0 + 1 ≤ (x.at_ ((r_13.at_ r).cell 0)).cells.length ∧ ∃ (b : Bool), (x.at_ ((r_13.at_ r).cell 0)).cell 0 = D.v (Value.bool b) ∧ (b = true → (True ∧ True) ∧ [D.v (Value.int IntKind.i64 10)] = [D.v (Value.int IntKind.i64 (chkF cs f u))]) ∧ (b = false → ∃ (I_1 : List D → Prop), ∃ (μ_1 : List D → Nat), ((D.v (Value.int IntKind.i64 0) = D.v (Value.int IntKind.i64 0) ∧ true = true ∧ (true = true ∧ true = true) ∧ r = r ∧ True) ∧ ((true = true ∧ r_13 = r_13) ∧ (x = x ∧ D.v (Value.int IntKind.i64 f) = D.v (Value.int IntKind.i64 f) ∧ D.v (Value.int IntKind.i64 u) = D.v (Value.int IntKind.i64 u) ∧ True) ∧ True) ∧ I_1 [D.v (Value.int IntKind.i64 0), r_13]) ∧ ∀ (r_16 r_17 : D), I_1 [r_16, r_17] → ∃ (r_18 : D), D.bin BinOp.lss r_16 r = some r_18 ∧ ∃ (b : Bool), r_18 = D.v (Value.bool b) ∧ (b = true → D.inb 1 r_17 r_16 ∧ 0 + 1 ≤ (r_17.at_ r_16).cells.length ∧ D.inb 1 r_17 r ∧ 0 + 1 ≤ (r_17.at_ r).cells.length ∧ ∃ (r_19 : D), D.bin BinOp.eql ((r_17.at_ r_16).cell 0) ((r_17.at_ r).cell 0) = some r_19 ∧ ∃ (b : Bool), r_19 = D.v (Value.bool b) ∧ (b = true → (True ∧ True) ∧ [D.v (Value.int IntKind.i64 10)] = [D.v (Value.int IntKind.i64 (chkF cs f u))]) ∧ (b = false → ∃ (r_20 : D), D.bin BinOp.add r_16 (D.v (Value.int IntKind.i64 1)) = some r_20 ∧ (r_20 = r_20 ∧ true = true ∧ (true = true ∧ true = true) ∧ r = r ∧ True) ∧ ((true = true ∧ r_17 = r_17) ∧ (x = x ∧ D.v (Value.int IntKind.i64 f) = D.v (Value.int IntKind.i64 f) ∧ D.v (Value.int IntKind.i64 u) = D.v (Value.int IntKind.i64 u) ∧ True) ∧ True) ∧ I_1 [r_20, r_17] ∧ μ_1 [r_20, r_17] < μ_1 [r_16, r_17])) ∧ (b = false → ∃ (r_19 : D), D.bin BinOp.add r (D.v (Value.int IntKind.i64 1)) = some r_19 ∧ (r_19 = r_19 ∧ true = true ∧ (true = true ∧ true = true) ∧ True) ∧ ((true = true ∧ r_17 = r_17) ∧ (x = x ∧ D.v (Value.int IntKind.i64 f) = D.v (Value.int IntKind.i64 f) ∧ D.v (Value.int IntKind.i64 u) = D.v (Value.int IntKind.i64 u) ∧ True) ∧ True) ∧ I [r_19, r_17] ∧ μ [r_19, r_17] < μ [r, r_13]))) ∧ (b = false → (True ∧ True) ∧ [D.v (Value.int IntKind.i64 0)] = [D.v (Value.int IntKind.i64 (chkF cs f u))]))) ∧ (b = true → (True ∧ True) ∧ [D.v (Value.int IntKind.i64 10)] = [D.v (Value.int IntKind.i64 (chkF cs f u))])))))) := by kernel_rfl
set_option maxHeartbeats 16000000 in
theorem rcheck (x : D) (cs : List Cl) (f u : Int) (hX : IsL 3 (cls cs) x) (hl : cs.length ≤ 100000) : PureD Try.prog 20 [.agg [x, .v (.int .i64 f), .v (.int .i64 u)]] [.v (.int .i64 (chkF cs f u))] := by
  refine pure_cond (Lp := (fun k => if k = 6 then some ⟨[3], [], [1], []⟩ else if k = 11 then some ⟨[4], [], [1], []⟩ else if k = 21 then some ⟨[8], [6], [1], []⟩ else if k = 26 then some ⟨[9], [6], [1, 8], []⟩ else none)) (by kernel_rfl) Try.func20 (by kernel_rfl) (by kernel_rfl) ?_
  rw [vc_rcheck x cs f u]
  have hLF := place x cs f u f hX hl
  simp only [hX.lenT, cls_len, Option.some.injEq, exists_eq_left']
  have h1 : True := trivial
  have a2 : True := trivial
  have a3 : True := trivial
  by_cases h64 : 64 < cs.length
  · have hk0 : chkF cs f u = 5 := by unfold chkF; rw [if_pos h64]
    rw [hk0]
    repeat' (first
      | (refine ex_some (by simp (disch := omega) only [bin_shr, bin_shl, bin_and, bin_or, bin_xor, len_str, toStr_ofL, bin_add, bin_sub, bin_mul, bin_quo, bin_rem, bin_lss, bin_leq, bin_gtr, bin_geq, bin_eql, bin_neq, eqs_cn, eqs_ci, eqs_cb, eqs_cs, Option.map_some, lenT_ofL, lst_ofL, lstSz_ofL, chunk_one, lst_nil, lst_sl, lstSz_sl, lstSz_nil, Bool.and_true, Bool.true_and, Bool.and_false, Bool.false_and, beq_self_eq_true, beq_bb, bne_bb, un_not, un_neg, conv_int, min2_int, max2_int, w64, w32, wu8, wu16, wu32, wu64, tdiv_nn, tmod_nn, cell_zero, cell_succ, cell_v, cells_v, cells_agg, Bool.not_true, Bool.not_false, Int.reduceLT, Int.reduceLE, Int.reduceEq, Int.reduceNeg, Int.reduceAdd, Int.reduceSub, Int.reduceMul, intOf_v, decide_true, decide_false]; rfl) ?_)
      | (refine ex_bool ?_)
      | (refine ⟨_, hLF, ?_⟩)
      | (refine And.intro ?_ ?_)
      | (intro hx; have hprop := (show ∀ (p : Prop), p → True from fun _ _ => True.intro) _ hx; clear hprop; first | (cases hx; done) | (exfalso; revert hx; simp (disch := omega) only [decide_eq_true_eq, decide_eq_false_iff_not, Bool.not_eq_true', Bool.not_eq_false', Bool.and_eq_true, Bool.and_eq_false_iff, Int.not_lt, Int.not_le, ne_eq, not_false_eq_true, not_true_eq_false, reduceCtorEq, Bool.true_eq_false, Bool.false_eq_true, beq_iff_eq, bne_iff_ne, beq_eq_false_iff_ne, false_or, or_false, true_and, and_true]; done) | (simp (disch := omega) only [decide_eq_true_eq, decide_eq_false_iff_not, Bool.not_eq_true', Bool.not_eq_false', Bool.and_eq_true, Bool.and_eq_false_iff, Int.not_lt, Int.not_le, ne_eq, not_false_eq_true, not_true_eq_false, reduceCtorEq, Bool.true_eq_false, Bool.false_eq_true, beq_iff_eq, bne_iff_ne, beq_eq_false_iff_ne, false_or, or_false, true_and, and_true] at hx; first | (exfalso; omega) | skip) | skip)
      | trivial
      | exact fit_ofL _ _
      | (simp (disch := omega) only [notAgg_v, notAgg_sl, plain_v, fits, fitsOne, fitsCells, xsOf, cell_zero, cell_succ, List.range, List.range.loop, List.map, cond_true, cond_false, D.v.injEq, exists_eq', exists_eq, and_self, and_true, true_and, D.agg.injEq, List.length, exists_eq_left', D.sl.injEq, reduceCtorEq, false_or, true_or, or_true, or_false, cell_zero, cell_succ, cell_v, cells_v, cells_agg, List.length_cons, List.length_nil]; done))
    all_goals first
      | (exfalso; omega)
      | exact fit_ofL _ _
      | omega
      | (simp only [leftG]; omega)
      | (rw [hc4 (hat (by simp_all [bl1]))]; done)
      | (rw [hc5 hA (hbt (by simp_all [bl2]))]; done)
      | (rw [hc6 hA hB (by left; omega)]; done)
      | (have hb3 : chF cs (cs.length - cntL cs) f = false := by
           rcases hct with g | g
           · exfalso; omega
           · exact g.1
         rw [hc6 hA hB (.inr hb3)]; done)
      | (have hb3 : chF cs (cs.length - cntL cs) f = false := by
           cases e : chF cs (cs.length - cntL cs) f
           · rfl
           · exact (hbd (by assumption) e).elim
         rw [hc6 hA hB (.inr hb3)]; done)
      | (have hb3 : chF cs (cs.length - cntL cs) f = false := by
           cases e : chF cs (cs.length - cntL cs) f
           · rfl
           · exact (hbe (by assumption) e).elim
         rw [hc6 hA hB (.inr hb3)]; done)
      | (rw [hc7 hA hB (by omega) (hchF (by omega))]; done)
      | exact hlv _ rfl (by assumption)
      | (simp_all [chkF, bl1, bl2]; done)
      | (simp_all [chkF, bl1, bl2]; omega)
      | fail
  · cases hf : linkB cs f
    · have hk0 : chkF cs f u = 8 := by unfold chkF; rw [if_neg h64, if_pos hf]
      rw [hf] at hLF
      rw [hk0]
      repeat' (first
        | (refine ex_some (by simp (disch := omega) only [bin_shr, bin_shl, bin_and, bin_or, bin_xor, len_str, toStr_ofL, bin_add, bin_sub, bin_mul, bin_quo, bin_rem, bin_lss, bin_leq, bin_gtr, bin_geq, bin_eql, bin_neq, eqs_cn, eqs_ci, eqs_cb, eqs_cs, Option.map_some, lenT_ofL, lst_ofL, lstSz_ofL, chunk_one, lst_nil, lst_sl, lstSz_sl, lstSz_nil, Bool.and_true, Bool.true_and, Bool.and_false, Bool.false_and, beq_self_eq_true, beq_bb, bne_bb, un_not, un_neg, conv_int, min2_int, max2_int, w64, w32, wu8, wu16, wu32, wu64, tdiv_nn, tmod_nn, cell_zero, cell_succ, cell_v, cells_v, cells_agg, Bool.not_true, Bool.not_false, Int.reduceLT, Int.reduceLE, Int.reduceEq, Int.reduceNeg, Int.reduceAdd, Int.reduceSub, Int.reduceMul, intOf_v, decide_true, decide_false]; rfl) ?_)
        | (refine ex_bool ?_)
        | (refine ⟨_, hLF, ?_⟩)
        | (refine And.intro ?_ ?_)
        | (intro hx; have hprop := (show ∀ (p : Prop), p → True from fun _ _ => True.intro) _ hx; clear hprop; first | (cases hx; done) | (exfalso; revert hx; simp (disch := omega) only [decide_eq_true_eq, decide_eq_false_iff_not, Bool.not_eq_true', Bool.not_eq_false', Bool.and_eq_true, Bool.and_eq_false_iff, Int.not_lt, Int.not_le, ne_eq, not_false_eq_true, not_true_eq_false, reduceCtorEq, Bool.true_eq_false, Bool.false_eq_true, beq_iff_eq, bne_iff_ne, beq_eq_false_iff_ne, false_or, or_false, true_and, and_true]; done) | (simp (disch := omega) only [decide_eq_true_eq, decide_eq_false_iff_not, Bool.not_eq_true', Bool.not_eq_false', Bool.and_eq_true, Bool.and_eq_false_iff, Int.not_lt, Int.not_le, ne_eq, not_false_eq_true, not_true_eq_false, reduceCtorEq, Bool.true_eq_false, Bool.false_eq_true, beq_iff_eq, bne_iff_ne, beq_eq_false_iff_ne, false_or, or_false, true_and, and_true] at hx; first | (exfalso; omega) | skip) | skip)
        | trivial
        | exact fit_ofL _ _
        | (simp (disch := omega) only [notAgg_v, notAgg_sl, plain_v, fits, fitsOne, fitsCells, xsOf, cell_zero, cell_succ, List.range, List.range.loop, List.map, cond_true, cond_false, D.v.injEq, exists_eq', exists_eq, and_self, and_true, true_and, D.agg.injEq, List.length, exists_eq_left', D.sl.injEq, reduceCtorEq, false_or, true_or, or_true, or_false, cell_zero, cell_succ, cell_v, cells_v, cells_agg, List.length_cons, List.length_nil]; done))
      all_goals first
        | (exfalso; omega)
        | exact fit_ofL _ _
        | omega
        | (simp only [leftG]; omega)
        | (rw [hc4 (hat (by simp_all [bl1]))]; done)
        | (rw [hc5 hA (hbt (by simp_all [bl2]))]; done)
        | (rw [hc6 hA hB (by left; omega)]; done)
        | (have hb3 : chF cs (cs.length - cntL cs) f = false := by
             rcases hct with g | g
             · exfalso; omega
             · exact g.1
           rw [hc6 hA hB (.inr hb3)]; done)
        | (have hb3 : chF cs (cs.length - cntL cs) f = false := by
             cases e : chF cs (cs.length - cntL cs) f
             · rfl
             · exact (hbd (by assumption) e).elim
           rw [hc6 hA hB (.inr hb3)]; done)
        | (have hb3 : chF cs (cs.length - cntL cs) f = false := by
             cases e : chF cs (cs.length - cntL cs) f
             · rfl
             · exact (hbe (by assumption) e).elim
           rw [hc6 hA hB (.inr hb3)]; done)
        | (rw [hc7 hA hB (by omega) (hchF (by omega))]; done)
        | exact hlv _ rfl (by assumption)
        | (simp_all [chkF, bl1, bl2]; done)
        | (simp_all [chkF, bl1, bl2]; omega)
        | fail
    · rw [hf] at hLF
      have hfb : -1 ≤ f ∧ f < (cs.length : Nat) := by simpa [linkB] using hf
      have hc4 : cs.any (bl1 cs) = true → chkF cs f u = 8 := fun h => by unfold chkF; rw [if_neg h64, if_neg (by rw [hf]; simp), if_pos h]
      have hc5 : cs.any (bl1 cs) = false → cs.any bl2 = true → chkF cs f u = 4 := fun h h2 => by unfold chkF; rw [if_neg h64, if_neg (by rw [hf]; simp), if_neg (by rw [h]; simp), if_pos h2]
      have hc6 : cs.any (bl1 cs) = false → cs.any bl2 = false → (u ≠ (cntL cs : Nat) ∨ chF cs (cs.length - cntL cs) f = false) → chkF cs f u = 10 := fun h h2 h3 => by unfold chkF; rw [if_neg h64, if_neg (by rw [hf]; simp), if_neg (by rw [h]; simp), if_neg (by rw [h2]; simp), if_pos h3]
      have hc7 : cs.any (bl1 cs) = false → cs.any bl2 = false → u = (cntL cs : Nat) → chF cs (cs.length - cntL cs) f = true → chkF cs f u = 0 := fun h h2 h3 h4 => by unfold chkF; rw [if_neg h64, if_neg (by rw [hf]; simp), if_neg (by rw [h]; simp), if_neg (by rw [h2]; simp), if_neg (by rw [h4]; simp [h3])]
      repeat' (first
        | (refine ex_some (by simp (disch := omega) only [bin_shr, bin_shl, bin_and, bin_or, bin_xor, len_str, toStr_ofL, bin_add, bin_sub, bin_mul, bin_quo, bin_rem, bin_lss, bin_leq, bin_gtr, bin_geq, bin_eql, bin_neq, eqs_cn, eqs_ci, eqs_cb, eqs_cs, Option.map_some, lenT_ofL, lst_ofL, lstSz_ofL, chunk_one, lst_nil, lst_sl, lstSz_sl, lstSz_nil, Bool.and_true, Bool.true_and, Bool.and_false, Bool.false_and, beq_self_eq_true, beq_bb, bne_bb, un_not, un_neg, conv_int, min2_int, max2_int, w64, w32, wu8, wu16, wu32, wu64, tdiv_nn, tmod_nn, cell_zero, cell_succ, cell_v, cells_v, cells_agg, Bool.not_true, Bool.not_false, Int.reduceLT, Int.reduceLE, Int.reduceEq, Int.reduceNeg, Int.reduceAdd, Int.reduceSub, Int.reduceMul, intOf_v, decide_true, decide_false, h1, a2, a3, lenT_ofL, ints_length]; rfl) ?_)
        | (refine ex_bool ?_)
        | (refine ⟨_, hLF, ?_⟩)
        | (refine ⟨_, LK, ?_⟩)
        | (refine ⟨_, CH, ?_⟩)
        | (refine ⟨_, CN, ?_⟩)
        | (have := inl3; refine ⟨(fun r => ∃ q : Nat, q ≤ i ∧ r = [.v (.int .i64 (q : Nat)), ofL 1 (ints .i64 l)]), leftG i, ?_⟩)
        | (have := inl3; refine fun (r2 r3 : D) (hI : (fun r => ∃ q : Nat, q ≤ i ∧ r = [.v (.int .i64 (q : Nat)), ofL 1 (ints .i64 l)]) [r2, r3]) => ?_; obtain ⟨q, hqi, hl0⟩ := hI; simp only [List.cons.injEq, and_true] at hl0; obtain ⟨rfl, rfl⟩ := hl0; by_cases hlt : q < i <;> first | (have hq1 : q < i := (by omega); have hq := inl3; have a3 := at_ofL_ints .i64 .i64 (zs := l) (n := q) (by omega); have b3 := inb_ofL_ints .i64 .i64 (zs := l) (n := q) (by omega); have hbe : l.getD q 0 = l.getD i 0 → (chF cs (cs.length - cntL cs) f = true → False) := fun hb hc => (by rcases hct with g | g; exact g.2.2.2 q i hq1 hi1 hb; rw [g.1] at hc; cases hc); simp only [a2, a3, cell_v, cells_v, List.length_cons, List.length_nil]; have inl4 : True := trivial) | (have hq2 : q = i := (by omega); have hq := inl3; have a3 : True := trivial; have out4 : True := trivial))
        | (have := out2; refine ⟨(fun r => ∃ i : Nat, i ≤ l.length ∧ (∀ j, j < i → (cs.getD (l.getD j 0).toNat c0).live = false) ∧ r = [.v (.int .i64 (i : Nat)), ofL 1 (ints .i64 l)]), leftG l.length, ?_⟩)
        | (have := out2; refine fun (r2 r3 : D) (hI : (fun r => ∃ i : Nat, i ≤ l.length ∧ (∀ j, j < i → (cs.getD (l.getD j 0).toNat c0).live = false) ∧ r = [.v (.int .i64 (i : Nat)), ofL 1 (ints .i64 l)]) [r2, r3]) => ?_; obtain ⟨i, hi, hsp, hl0⟩ := hI; simp only [List.cons.injEq, and_true] at hl0; obtain ⟨rfl, rfl⟩ := hl0; by_cases hlt : i < l.length <;> first | (have hi1 : i < l.length := (by omega); have hq := out2; have a2 := at_ofL_ints .i64 .i64 hi1; have b2 := inb_ofL_ints .i64 .i64 hi1; have he := hin _ (getD_mem hi1); have h1 := cls_at hX he.1 he.2; have i1 := cls_inb hX he.1 he.2; have hlv : ∀ b, (cs.getD (l.getD i 0).toNat c0).live = b → b = false → ∀ j, j < i + 1 → (cs.getD (l.getD j 0).toNat c0).live = false := fun b hb hb2 j hj => (by by_cases e : j = i; subst e; rw [hb, hb2]; exact hsp j (by omega)); have hbd : (cs.getD (l.getD i 0).toNat c0).live = true → (chF cs (cs.length - cntL cs) f = true → False) := fun hb hc => (by rcases hct with g | g; have := g.2.2.1 i hi1; rw [hb] at this; cases this; rw [g.1] at hc; cases hc); generalize (cs.getD (l.getD i 0).toNat c0) = c at h1 hlv hbd; obtain ⟨lv, vl, lk⟩ := c; simp only [clD] at h1; simp only [a2, cell_v, cells_v, h1, Nat.zero_add, cell_zero, cell_succ, cells_agg, List.length_cons, List.length_nil]; have inl3 : True := trivial) | (have hi2 : i = l.length := (by omega); have hq := out2; subst hi2; have hchF : l.length = cs.length - cntL cs → chF cs (cs.length - cntL cs) f = true := fun e => (by rcases hct with g | g; exact g.1; obtain ⟨q, h1, h2⟩ := g.2 e; rw [hsp q h1] at h2; cases h2); have h1 : True := trivial; have out3 : True := trivial))
        | (have := out1; refine ⟨(fun r => ∃ k : Nat, k ≤ cs.length ∧ (cs.take k).any bl2 = false ∧ r = [.v (.int .i64 (k : Nat))]), leftG cs.length, ?_⟩)
        | (have := out1; refine fun (r2 : D) (hI : (fun r => ∃ k : Nat, k ≤ cs.length ∧ (cs.take k).any bl2 = false ∧ r = [.v (.int .i64 (k : Nat))]) [r2]) => ?_; obtain ⟨k, hk, hB, hl0⟩ := hI; simp only [List.cons.injEq, and_true] at hl0; subst hl0; by_cases hlt : k < cs.length <;> first | (have hin2 := out1; have hk1 : k < cs.length := (by omega); have h1 := cls_at hX (z := (k : Nat)) (by omega) (by omega); rw [Int.toNat_natCast] at h1; have i1 := cls_inb hX (z := (k : Nat)) (by omega) (by omega); have htb := take_any hk1 bl2; have hbt := any_at hk1 (p := bl2); generalize cs.getD k c0 = c at h1 htb hbt; obtain ⟨lv, vl, lk⟩ := c; simp only [clD] at h1; simp only [h1, Nat.zero_add, cell_zero, cell_succ, cells_agg, List.length_cons, List.length_nil]; have inl2 : True := trivial) | (have hin2 := out1; have hkk : k = cs.length := (by omega); subst hkk; rw [List.take_length] at hB; have hcl := cnt_le cs; have hao := all_of hA hB; have CH := chain x cs f u hX hl hao hfb; have CN := count x cs f u hX hl; have hin := chL_in hao (n := cs.length + 1) hfb.1 hfb.2; have hll := chL_len cs (cs.length + 1) f; have hct := chain_two hao hlo hfb.1 hfb.2 (cs.length - cntL cs) (by omega); generalize chL cs (cs.length + 1) f = l at CH hin hll hct; have h1 : True := trivial; have a2 : True := trivial; have a3 : True := trivial; have out2 : True := trivial))
        | (refine ⟨(fun r => ∃ k : Nat, k ≤ cs.length ∧ (cs.take k).any (bl1 cs) = false ∧ r = [.v (.int .i64 (k : Nat))]), leftG cs.length, ?_⟩)
        | (refine fun (r2 : D) (hI : (fun r => ∃ k : Nat, k ≤ cs.length ∧ (cs.take k).any (bl1 cs) = false ∧ r = [.v (.int .i64 (k : Nat))]) [r2]) => ?_; obtain ⟨k, hk, hA, hl0⟩ := hI; simp only [List.cons.injEq, and_true] at hl0; subst hl0; by_cases hlt : k < cs.length <;> first | (have hk1 : k < cs.length := (by omega); have h1 := cls_at hX (z := (k : Nat)) (by omega) (by omega); rw [Int.toNat_natCast] at h1; have i1 := cls_inb hX (z := (k : Nat)) (by omega) (by omega); have hta := take_any hk1 (bl1 cs); have hat := any_at hk1 (p := bl1 cs); have LK := place x cs f u (cs.getD k c0).link hX hl; generalize cs.getD k c0 = c at h1 hta hat LK; obtain ⟨lv, vl, lk⟩ := c; simp only [clD] at h1; simp only at LK; simp only [h1, Nat.zero_add, cell_zero, cell_succ, cells_agg, List.length_cons, List.length_nil]; have inl : True := trivial) | (have hkk : k = cs.length := (by omega); subst hkk; rw [List.take_length] at hA; have hlo := links_of hA; have h1 : True := trivial; have out1 : True := trivial))
        | (exact i1)
        | (exact b2)
        | (exact b3)
        | (have := inl; refine ⟨(k + 1 : Nat), by omega, ?_, ?_⟩)
        | (have := inl2; refine ⟨(k + 1 : Nat), by omega, ?_, ?_⟩)
        | (have := inl4; refine ⟨(q + 1 : Nat), by omega, ?_⟩)
        | (have := out4; refine ⟨(i + 1 : Nat), by omega, ?_, ?_⟩)
        | (have := inl3; refine ⟨(0 : Nat), Nat.zero_le _, ?_⟩)
        | (have := out2; refine ⟨(0 : Nat), Nat.zero_le _, fun j hj => absurd hj (Nat.not_lt_zero _), ?_⟩)
        | (refine ⟨(0 : Nat), Nat.zero_le _, rfl, rfl⟩)
        | (refine And.intro ?_ ?_)
        | (intro hx; have hprop := (show ∀ (p : Prop), p → True from fun _ _ => True.intro) _ hx; clear hprop; first | (cases hx; done) | (exfalso; revert hx; simp (disch := omega) only [decide_eq_true_eq, decide_eq_false_iff_not, Bool.not_eq_true', Bool.not_eq_false', Bool.and_eq_true, Bool.and_eq_false_iff, Int.not_lt, Int.not_le, ne_eq, not_false_eq_true, not_true_eq_false, reduceCtorEq, Bool.true_eq_false, Bool.false_eq_true, beq_iff_eq, bne_iff_ne, beq_eq_false_iff_ne, false_or, or_false, true_and, and_true, h1, a2, a3, lenT_ofL, ints_length]; done) | (simp (disch := omega) only [decide_eq_true_eq, decide_eq_false_iff_not, Bool.not_eq_true', Bool.not_eq_false', Bool.and_eq_true, Bool.and_eq_false_iff, Int.not_lt, Int.not_le, ne_eq, not_false_eq_true, not_true_eq_false, reduceCtorEq, Bool.true_eq_false, Bool.false_eq_true, beq_iff_eq, bne_iff_ne, beq_eq_false_iff_ne, false_or, or_false, true_and, and_true, h1, a2, a3, lenT_ofL, ints_length] at hx; first | (exfalso; omega) | skip) | skip)
        | trivial
        | exact fit_ofL _ _
        | (simp (disch := omega) only [notAgg_v, notAgg_sl, plain_v, fits, fitsOne, fitsCells, xsOf, cell_zero, cell_succ, List.range, List.range.loop, List.map, cond_true, cond_false, D.v.injEq, exists_eq', exists_eq, and_self, and_true, true_and, D.agg.injEq, List.length, exists_eq_left', D.sl.injEq, reduceCtorEq, false_or, true_or, or_true, or_false, cell_zero, cell_succ, cell_v, cells_v, cells_agg, List.length_cons, List.length_nil, h1, a2, a3, lenT_ofL, ints_length]; done))
      all_goals first
        | (exfalso; omega)
        | exact fit_ofL _ _
        | omega
        | (simp only [leftG]; omega)
        | (rw [hc4 (hat (by simp_all [bl1]))]; done)
        | (rw [hc5 hA (hbt (by simp_all [bl2]))]; done)
        | (rw [hc6 hA hB (by left; omega)]; done)
        | (have hb3 : chF cs (cs.length - cntL cs) f = false := by
             rcases hct with g | g
             · exfalso; omega
             · exact g.1
           rw [hc6 hA hB (.inr hb3)]; done)
        | (have hb3 : chF cs (cs.length - cntL cs) f = false := by
             cases e : chF cs (cs.length - cntL cs) f
             · rfl
             · exact (hbd (by assumption) e).elim
           rw [hc6 hA hB (.inr hb3)]; done)
        | (have hb3 : chF cs (cs.length - cntL cs) f = false := by
             cases e : chF cs (cs.length - cntL cs) f
             · rfl
             · exact (hbe (by assumption) e).elim
           rw [hc6 hA hB (.inr hb3)]; done)
        | (rw [hc7 hA hB (by omega) (hchF (by omega))]; done)
        | exact hlv _ rfl (by assumption)
        | (simp_all [chkF, bl1, bl2]; done)
        | (simp_all [chkF, bl1, bl2]; omega)
        | fail

end Go.Proofs.Ytlamjfdghhbkpaa