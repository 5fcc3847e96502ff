/-
  Layer 13: segments of the program, of the document; all together.
-/
import Derived.Test.YtbeofckoonophaaT1
import Derived.Test.YtbeofckoonophaaT2
import Derived.Test.YtbeofckoonophaaT3
namespace Go.Proofs.Ytbeofckoonophaa
open Go.RowKit
set_option linter.unusedSimpArgs false
set_option linter.unusedVariables false


structure Sg where
  fl : Int
  pa : Int
  ep : Int
  sq : Int
  ak : Int
  wi : Int
  x : D
  zs : List (Int × Int)
  s : List Int
instance : Inhabited Sg := ⟨⟨0, 0, 0, 0, 0, 0, .v nilS, [], []⟩⟩
def sgX (g : Sg) (x : D) : D := .agg [.v (.int .u8 g.fl), .v (.int .i64 g.pa), .v (.int .i64 g.ep), .v (.int .u32 g.sq), .v (.int .u32 g.ak), .v (.int .i64 g.wi), x, str g.s]
def sgD (g : Sg) : D := sgX g g.x
/-- As the program, or the document, makes one anew. -/
def sgO (g : Sg) : D := sgX g (ofL 2 (prs g.zs))
structure SgOk (g : Sg) : Prop where
  hX : IsL 2 (prs g.zs) g.x
  hs : Bytes g.s
  f0 : 0 ≤ g.fl
  f1 : g.fl < 256
  q0 : 0 ≤ g.sq
  q1 : g.sq < 4294967296
  a0 : 0 ≤ g.ak
  a1 : g.ak < 4294967296
def onG (pt eo mi : Int) (p : Int × Int) (g : Sg) : Int × Int := onF p.1 pt eo mi p.2 g.fl g.pa g.ep g.sq g.ak g.wi g.zs.length g.s.length
def runG (pt eo mi : Int) (p : Int × Int) (l : List Sg) : Int × Int := l.foldl (onG pt eo mi) p
def Bd (p : Int × Int) : Prop := (0 ≤ p.1 ∧ p.1 < 256) ∧ 0 ≤ p.2 ∧ p.2 < 4294967296
theorem onG_bd {pt eo mi : Int} {p : Int × Int} {g : Sg} (hp : Bd p) (hg : SgOk g) : Bd (onG pt eo mi p g) := by
  obtain ⟨h1, h2⟩ := hp
  have h3 := hg.q0
  have h4 := hg.q1
  unfold onG onF Bd
  (repeat' split) <;> (simp only; omega)
theorem sgs_len (l : List Sg) : (l.map sgD).length = l.length := by simp
theorem prs_at {zs : List (Int × Int)} {x : D} (h : IsL 2 (prs zs) x) {k : Nat} (hk : k < zs.length) : x.at_ (.v (.int .i64 (k : Nat))) = .agg [.v (.int .u32 (zs.getD k (0, 0)).1), .v (.int .u32 (zs.getD k (0, 0)).2)] := by
  rw [h.at_]
  simp [prs, List.getD, hk]
theorem prs_inb {zs : List (Int × Int)} {x : D} (h : IsL 2 (prs zs) x) {k : Nat} (hk : k < zs.length) : D.inb 2 x (.v (.int .i64 (k : Nat))) := h.inb (by omega) (by rw [prs_len]; omega)
theorem sgs_at {l : List Sg} {f : Sg → D} {x : D} (h : IsL 8 (l.map f) x) {k : Nat} (hk : k < l.length) : x.at_ (.v (.int .i64 (k : Nat))) = f (l.getD k default) := by
  rw [h.at_]
  simp [List.getD, hk]
theorem sgs_inb {l : List Sg} {f : Sg → D} {x : D} (h : IsL 8 (l.map f) x) {k : Nat} (hk : k < l.length) : D.inb 8 x (.v (.int .i64 (k : Nat))) := h.inb (by omega) (by simpa using hk)
theorem app_takeP {zs : List (Int × Int)} {k : Nat} (hk : k < zs.length) : (ofL 2 (prs (zs.take k))).app 2 [.agg [.v (.int .u32 (zs.getD k (0, 0)).1), .v (.int .u32 (zs.getD k (0, 0)).2)]] = ofL 2 (prs (zs.take (k + 1))) := by
  rw [app_ofL]
  congr 1
  rw [List.take_succ_eq_append_getElem hk, List.getD_eq_getElem?_getD, List.getElem?_eq_getElem hk]
  simp only [prs, List.map_append, List.map_cons, List.map_nil, Option.getD_some]
theorem take_last {l : List Sg} {k : Nat} (hk : k < l.length) : l.take (k + 1) = l.take k ++ [l.getD k default] := by
  rw [List.take_succ_eq_append_getElem hk, List.getD_eq_getElem?_getD, List.getElem?_eq_getElem hk]; rfl
theorem run_last (pt eo mi : Int) (p : Int × Int) {l : List Sg} {k : Nat} (hk : k < l.length) : runG pt eo mi p (l.take (k + 1)) = onG pt eo mi (runG pt eo mi p (l.take k)) (l.getD k default) := by
  rw [take_last hk]; simp [runG]
def leftN (n : Nat) : List D → Nat
  | .v (.int _ i) :: _ => n - i.toNat
  | _ => 0
def lightB (g : Sg) : Bool := decide (g.zs.length ≤ 8 ∧ g.s.length ≤ 100)
def lightF (l : List Sg) : Bool := decide (l.length ≤ 40) && l.all lightB
theorem fitP {x : D} {zs : List (Int × Int)} (h : IsL 2 (prs zs) x) : x = .v nilS ∨ ∃ es, x = .sl 2 es := by rcases h with rfl | ⟨rfl, _⟩; exact .inr ⟨_, rfl⟩; exact .inl rfl
theorem prs_plain (zs : List (Int × Int)) : ∀ c ∈ flat (prs zs), ∃ y, c = .v y := by
  intro c hc
  simp only [prs, flat, List.mem_flatMap, List.mem_map] at hc
  obtain ⟨_, ⟨z, _, rfl⟩, hc⟩ := hc
  simp only [D.cells, List.mem_cons, List.not_mem_nil, or_false] at hc
  rcases hc with rfl | rfl <;> exact ⟨_, rfl⟩
theorem plainP (zs : List (Int × Int)) : PlainD (ofL 2 (prs zs)) := by
  cases zs with
  | nil => exact plain_v _
  | cons z l => exact plain_sl (prs_plain _)
theorem ch2 (a b : D) : chunks true 2 1 [a, b] = [.agg [a, b]] := rfl
theorem str_v (s : List Int) : ∃ y, str s = .v y := ⟨_, rfl⟩

theorem vc_ownS (fl pa ep sq ak wi : Int) (x : D) (zs : List (Int × Int)) (s : List Int) : Cond Try.prog (fun k => if k = 3 then some ⟨[4], [], [1, 2, 3], [(3, [0, 1, 2, 3, 4, 5, 7], [6])]⟩ else none) Try.f19 [.agg [.v (.int .u8 fl), .v (.int .i64 pa), .v (.int .i64 ep), .v (.int .u32 sq), .v (.int .u32 ak), .v (.int .i64 wi), x, str s]] [.agg [.v (.int .u8 fl), .v (.int .i64 pa), .v (.int .i64 ep), .v (.int .u32 sq), .v (.int .u32 ak), .v (.int .i64 wi), ofL 2 (prs zs), str s]] = (((∃ (cs : List D), D.agg [D.v (Value.int IntKind.u8 fl), D.v (Value.int IntKind.i64 pa), D.v (Value.int IntKind.i64 ep), D.v (Value.int IntKind.u32 sq), D.v (Value.int IntKind.u32 ak), D.v (Value.int IntKind.i64 wi), x, str s] = D.agg cs ∧ cs.length = 8) ∧ True) ∧ ∃ (I : List D → Prop), ∃ (μ : List D → Nat), ((D.v (Value.int IntKind.i64 0) = D.v (Value.int IntKind.i64 0) ∧ (true = true ∧ true = true) ∧ (true = true ∧ true = true) ∧ (true = true ∧ true = true) ∧ True) ∧ ((true = true ∧ D.v nilS = D.v nilS) ∧ (D.v (Value.int IntKind.u8 fl) = D.v (Value.int IntKind.u8 fl) ∧ D.v (Value.int IntKind.i64 pa) = D.v (Value.int IntKind.i64 pa) ∧ D.v (Value.int IntKind.i64 ep) = D.v (Value.int IntKind.i64 ep) ∧ D.v (Value.int IntKind.u32 sq) = D.v (Value.int IntKind.u32 sq) ∧ D.v (Value.int IntKind.u32 ak) = D.v (Value.int IntKind.u32 ak) ∧ D.v (Value.int IntKind.i64 wi) = D.v (Value.int IntKind.i64 wi) ∧ true = true ∧ str s = str s ∧ True) ∧ (D.v (Value.int IntKind.u8 fl) = D.v (Value.int IntKind.u8 fl) ∧ D.v (Value.int IntKind.i64 pa) = D.v (Value.int IntKind.i64 pa) ∧ D.v (Value.int IntKind.i64 ep) = D.v (Value.int IntKind.i64 ep) ∧ D.v (Value.int IntKind.u32 sq) = D.v (Value.int IntKind.u32 sq) ∧ D.v (Value.int IntKind.u32 ak) = D.v (Value.int IntKind.u32 ak) ∧ D.v (Value.int IntKind.i64 wi) = D.v (Value.int IntKind.i64 wi) ∧ x = x ∧ str s = str s ∧ True) ∧ (D.v (Value.int IntKind.u8 0) = D.v (Value.int IntKind.u8 0) ∧ D.v (Value.int IntKind.i64 0) = D.v (Value.int IntKind.i64 0) ∧ D.v (Value.int IntKind.i64 0) = D.v (Value.int IntKind.i64 0) ∧ D.v (Value.int IntKind.u32 0) = D.v (Value.int IntKind.u32 0) ∧ D.v (Value.int IntKind.u32 0) = D.v (Value.int IntKind.u32 0) ∧ D.v (Value.int IntKind.i64 0) = D.v (Value.int IntKind.i64 0) ∧ true = true ∧ D.v (Value.string { data := { toList := [] } }) = D.v (Value.string { data := { toList := [] } }) ∧ True) ∧ (true = true ∧ D.v (Value.slice none 0 0) = D.v (Value.slice none 0 0)) ∧ True) ∧ I [D.v (Value.int IntKind.i64 0), D.v (Value.int IntKind.u8 fl), D.v (Value.int IntKind.i64 pa), D.v (Value.int IntKind.i64 ep), D.v (Value.int IntKind.u32 sq), D.v (Value.int IntKind.u32 ak), D.v (Value.int IntKind.i64 wi), str s, D.v nilS]) ∧ ∀ (r r_1 r_2 r_3 r_4 r_5 r_6 r_7 r_8 : D), I [r, r_1, r_2, r_3, r_4, r_5, r_6, r_7, r_8] → ∃ (r_9 : D), D.lenT (TypeDesc.slice 62) x = some r_9 ∧ ∃ (r_10 : D), D.bin BinOp.lss r r_9 = some r_10 ∧ ∃ (b : Bool), r_10 = D.v (Value.bool b) ∧ (b = true → D.inb 2 x r ∧ 0 + 2 ≤ (x.at_ r).cells.length ∧ ∃ (ls : List D), r_8.lst = some ls ∧ ∃ (lx : List D), D.lstSz 2 (D.sl 2 (chunks true 2 1 [(x.at_ r).cell (0 + 0), (x.at_ r).cell (0 + 1)])) = some lx ∧ (ls.length + lx.length) * 8 ≤ 1099511627776 ∧ ∃ (r_11 : D), D.bin BinOp.add r (D.v (Value.int IntKind.i64 1)) = some r_11 ∧ (r_11 = r_11 ∧ (true = true ∧ true = true) ∧ (true = true ∧ true = true) ∧ (true = true ∧ true = true) ∧ True) ∧ ((true = true ∧ D.app 2 r_8 lx = D.app 2 r_8 lx) ∧ (r_1 = r_1 ∧ r_2 = r_2 ∧ r_3 = r_3 ∧ r_4 = r_4 ∧ r_5 = r_5 ∧ r_6 = r_6 ∧ true = true ∧ r_7 = r_7 ∧ True) ∧ (D.v (Value.int IntKind.u8 fl) = D.v (Value.int IntKind.u8 fl) ∧ D.v (Value.int IntKind.i64 pa) = D.v (Value.int IntKind.i64 pa) ∧ D.v (Value.int IntKind.i64 ep) = D.v (Value.int IntKind.i64 ep) ∧ D.v (Value.int IntKind.u32 sq) = D.v (Value.int IntKind.u32 sq) ∧ D.v (Value.int IntKind.u32 ak) = D.v (Value.int IntKind.u32 ak) ∧ D.v (Value.int IntKind.i64 wi) = D.v (Value.int IntKind.i64 wi) ∧ x = x ∧ str s = str s ∧ True) ∧ (D.v (Value.int IntKind.u8 0) = D.v (Value.int IntKind.u8 0) ∧ D.v (Value.int IntKind.i64 0) = D.v (Value.int IntKind.i64 0) ∧ D.v (Value.int IntKind.i64 0) = D.v (Value.int IntKind.i64 0) ∧ D.v (Value.int IntKind.u32 0) = D.v (Value.int IntKind.u32 0) ∧ D.v (Value.int IntKind.u32 0) = D.v (Value.int IntKind.u32 0) ∧ D.v (Value.int IntKind.i64 0) = D.v (Value.int IntKind.i64 0) ∧ true = true ∧ D.v (Value.string { data := { toList := [] } }) = D.v (Value.string { data := { toList := [] } }) ∧ True) ∧ (true = true ∧ D.v (Value.slice none 0 0) = D.v (Value.slice none 0 0)) ∧ True) ∧ I [r_11, r_1, r_2, r_3, r_4, r_5, r_6, r_7, D.app 2 r_8 lx] ∧ μ [r_11, r_1, r_2, r_3, r_4, r_5, r_6, r_7, D.app 2 r_8 lx] < μ [r, r_1, r_2, r_3, r_4, r_5, r_6, r_7, r_8]) ∧ (b = false → ((∃ (y : Value), r_1 = D.v y) ∧ (∃ (y : Value), r_2 = D.v y) ∧ (∃ (y : Value), r_3 = D.v y) ∧ (∃ (y : Value), r_4 = D.v y) ∧ (∃ (y : Value), r_5 = D.v y) ∧ (∃ (y : Value), r_6 = D.v y) ∧ PlainD r_8 ∧ (∃ (y : Value), r_7 = D.v y) ∧ True) ∧ [D.agg [r_1, r_2, r_3, r_4, r_5, r_6, r_8, r_7]] = [D.agg [D.v (Value.int IntKind.u8 fl), D.v (Value.int IntKind.i64 pa), D.v (Value.int IntKind.i64 ep), D.v (Value.int IntKind.u32 sq), D.v (Value.int IntKind.u32 ak), D.v (Value.int IntKind.i64 wi), ofL 2 (prs zs), str s]])) := by kernel_rfl
set_option maxHeartbeats 4000000 in
theorem ownS (fl pa ep sq ak wi : Int) (x : D) (zs : List (Int × Int)) (s : List Int) (hX : IsL 2 (prs zs) x) (hl : zs.length ≤ 100000) (hs : Bytes s) (hsl : s.length ≤ 100000) (f0 : 0 ≤ fl) (f1 : fl < 256) : PureD Try.prog 19 [.agg [.v (.int .u8 fl), .v (.int .i64 pa), .v (.int .i64 ep), .v (.int .u32 sq), .v (.int .u32 ak), .v (.int .i64 wi), x, str s]] [.agg [.v (.int .u8 fl), .v (.int .i64 pa), .v (.int .i64 ep), .v (.int .u32 sq), .v (.int .u32 ak), .v (.int .i64 wi), ofL 2 (prs zs), str s]] := by
  refine pure_cond (Lp := (fun k => if k = 3 then some ⟨[4], [], [1, 2, 3], [(3, [0, 1, 2, 3, 4, 5, 7], [6])]⟩ else none)) (by kernel_rfl) Try.func19 (by kernel_rfl) (by kernel_rfl) ?_
  rw [vc_ownS fl pa ep sq ak wi x zs s]
  simp only [hX.lenT, hX.notAgg, prs_len, Option.some.injEq, exists_eq_left']
  have e1 : True := trivial
  have s1 : True := trivial
  repeat' (first
    | (refine ex_some (by simp (disch := omega) only [bin_shr, bin_shl, bin_and, bin_or, bin_xor, len_str, toStr_ofL, bin_add, bin_sub, bin_mul, bin_quo, bin_rem, bin_lss, bin_leq, bin_gtr, bin_geq, bin_eql, bin_neq, eqs_cn, eqs_ci, eqs_cb, eqs_cs, Option.map_some, lenT_ofL, lst_ofL, lstSz_ofL, chunk_one, lst_nil, lst_sl, lstSz_sl, lstSz_nil, Bool.and_true, Bool.true_and, Bool.and_false, Bool.false_and, beq_self_eq_true, beq_bb, bne_bb, un_not, un_neg, conv_int, min2_int, max2_int, w64, w32, wu8, wu16, wu32, wu64, tdiv_nn, tmod_nn, cell_zero, cell_succ, cell_v, cells_v, cells_agg, Bool.not_true, Bool.not_false, Int.reduceLT, Int.reduceLE, Int.reduceEq, Int.reduceNeg, Int.reduceAdd, Int.reduceSub, Int.reduceMul, intOf_v, decide_true, decide_false, e1, s1, app_ofL, lst_ofL, prs_len, ch2, hX.lenT]; rfl) ?_)
    | (refine ex_bool ?_)
    | (refine ⟨(fun r => ∃ k : Nat, k ≤ zs.length ∧ r = [.v (.int .i64 (k : Nat)), .v (.int .u8 fl), .v (.int .i64 pa), .v (.int .i64 ep), .v (.int .u32 sq), .v (.int .u32 ak), .v (.int .i64 wi), str s, ofL 2 (prs (zs.take k))]), leftN zs.length, ?_⟩)
    | (refine fun (r1 r2 r3 r4 r5 r6 r7 r8 r9 : D) (hI : (fun r => ∃ k : Nat, k ≤ zs.length ∧ r = [.v (.int .i64 (k : Nat)), .v (.int .u8 fl), .v (.int .i64 pa), .v (.int .i64 ep), .v (.int .u32 sq), .v (.int .u32 ak), .v (.int .i64 wi), str s, ofL 2 (prs (zs.take k))]) [r1, r2, r3, r4, r5, r6, r7, r8, r9]) => ?_; obtain ⟨k, hk, hl0⟩ := hI; simp only [List.cons.injEq, and_true] at hl0; obtain ⟨rfl, rfl, rfl, rfl, rfl, rfl, rfl, rfl, rfl⟩ := hl0; by_cases hlt : k < zs.length <;> first | (have hk1 : k < zs.length := (by omega); have e1 := prs_at hX hk1; have i1 := prs_inb hX hk1; have s1 := app_takeP hk1; generalize zs.getD k (0, 0) = p at e1 s1; obtain ⟨p1, p2⟩ := p; simp only at e1 s1; simp only [e1, Nat.zero_add, cell_zero, cell_succ, cells_agg, List.length_cons, List.length_nil]; have inl : True := trivial) | (have hkk : k = zs.length := (by omega); subst hkk; rw [List.take_length]; have e1 : True := trivial; have s1 : True := trivial; have inl2 : True := trivial))
    | (exact i1)
    | (refine ⟨(0 : Nat), Nat.zero_le _, rfl⟩)
    | (have := inl; refine ⟨(k + 1 : Nat), by omega, ?_⟩)
    | (refine And.intro ?_ ?_)
    | (intro hx; have hprop := (show ∀ (p : Prop), p → True from fun _ _ => True.intro) _ hx; clear hprop; first | (cases hx; done) | (exfalso; revert hx; simp (disch := omega) only [decide_eq_true_eq, decide_eq_false_iff_not, Bool.not_eq_true', Bool.not_eq_false', Bool.and_eq_true, Bool.and_eq_false_iff, Int.not_lt, Int.not_le, ne_eq, not_false_eq_true, not_true_eq_false, reduceCtorEq, Bool.true_eq_false, Bool.false_eq_true, beq_iff_eq, bne_iff_ne, beq_eq_false_iff_ne, false_or, or_false, true_and, and_true, e1, s1, app_ofL, lst_ofL, prs_len, ch2, hX.lenT]; done) | (simp (disch := omega) only [decide_eq_true_eq, decide_eq_false_iff_not, Bool.not_eq_true', Bool.not_eq_false', Bool.and_eq_true, Bool.and_eq_false_iff, Int.not_lt, Int.not_le, ne_eq, not_false_eq_true, not_true_eq_false, reduceCtorEq, Bool.true_eq_false, Bool.false_eq_true, beq_iff_eq, bne_iff_ne, beq_eq_false_iff_ne, false_or, or_false, true_and, and_true, e1, s1, app_ofL, lst_ofL, prs_len, ch2, hX.lenT] at hx; first | (exfalso; omega) | skip) | skip)
    | trivial
    | exact fit_ofL _ _
    | (simp (disch := omega) only [notAgg_v, notAgg_sl, plain_v, fits, fitsOne, fitsCells, xsOf, cell_zero, cell_succ, List.range, List.range.loop, List.map, cond_true, cond_false, D.v.injEq, exists_eq', exists_eq, and_self, and_true, true_and, D.agg.injEq, List.length, exists_eq_left', D.sl.injEq, reduceCtorEq, false_or, true_or, or_true, or_false, cell_zero, cell_succ, cell_v, cells_v, cells_agg, List.length_cons, List.length_nil, e1, s1, app_ofL, lst_ofL, prs_len, ch2, hX.lenT]; done))
  all_goals first
    | (exfalso; omega)
    | omega
    | rfl
    | exact fit_ofL _ _
    | exact str_v _
    | exact ⟨_, rfl⟩
    | exact plainP _
    | exact plain_v _
    | (simp only [leftN]; omega)
    | (simp only [prs_len, List.length_cons, List.length_nil, List.length_take]; omega)
    | (rw [s1]; first | done | rfl)
    | (rw [← s1, app_ofL]; first | done | rfl)
    | (simp; done)
    | fail

theorem vc_backS (fl pa ep sq ak wi : Int) (x : D) (zs : List (Int × Int)) (s : List Int) : Cond Try.prog (fun k => if k = 3 then some ⟨[4], [], [1, 2, 3], [(3, [0, 1, 2, 3, 4, 5, 7], [6])]⟩ else none) Try.f12 [.agg [.v (.int .u8 fl), .v (.int .i64 pa), .v (.int .i64 ep), .v (.int .u32 sq), .v (.int .u32 ak), .v (.int .i64 wi), x, str s]] [.agg [.v (.int .u8 fl), .v (.int .i64 pa), .v (.int .i64 ep), .v (.int .u32 sq), .v (.int .u32 ak), .v (.int .i64 wi), ofL 2 (prs zs), str s]] = (((∃ (cs : List D), D.agg [D.v (Value.int IntKind.u8 fl), D.v (Value.int IntKind.i64 pa), D.v (Value.int IntKind.i64 ep), D.v (Value.int IntKind.u32 sq), D.v (Value.int IntKind.u32 ak), D.v (Value.int IntKind.i64 wi), x, str s] = D.agg cs ∧ cs.length = 8) ∧ True) ∧ ∃ (I : List D → Prop), ∃ (μ : List D → Nat), ((D.v (Value.int IntKind.i64 0) = D.v (Value.int IntKind.i64 0) ∧ (true = true ∧ true = true) ∧ (true = true ∧ true = true) ∧ (true = true ∧ true = true) ∧ True) ∧ ((true = true ∧ D.v nilS = D.v nilS) ∧ (D.v (Value.int IntKind.u8 fl) = D.v (Value.int IntKind.u8 fl) ∧ D.v (Value.int IntKind.i64 pa) = D.v (Value.int IntKind.i64 pa) ∧ D.v (Value.int IntKind.i64 ep) = D.v (Value.int IntKind.i64 ep) ∧ D.v (Value.int IntKind.u32 sq) = D.v (Value.int IntKind.u32 sq) ∧ D.v (Value.int IntKind.u32 ak) = D.v (Value.int IntKind.u32 ak) ∧ D.v (Value.int IntKind.i64 wi) = D.v (Value.int IntKind.i64 wi) ∧ true = true ∧ str s = str s ∧ True) ∧ (D.v (Value.int IntKind.u8 fl) = D.v (Value.int IntKind.u8 fl) ∧ D.v (Value.int IntKind.i64 pa) = D.v (Value.int IntKind.i64 pa) ∧ D.v (Value.int IntKind.i64 ep) = D.v (Value.int IntKind.i64 ep) ∧ D.v (Value.int IntKind.u32 sq) = D.v (Value.int IntKind.u32 sq) ∧ D.v (Value.int IntKind.u32 ak) = D.v (Value.int IntKind.u32 ak) ∧ D.v (Value.int IntKind.i64 wi) = D.v (Value.int IntKind.i64 wi) ∧ x = x ∧ str s = str s ∧ True) ∧ (D.v (Value.int IntKind.u8 0) = D.v (Value.int IntKind.u8 0) ∧ D.v (Value.int IntKind.i64 0) = D.v (Value.int IntKind.i64 0) ∧ D.v (Value.int IntKind.i64 0) = D.v (Value.int IntKind.i64 0) ∧ D.v (Value.int IntKind.u32 0) = D.v (Value.int IntKind.u32 0) ∧ D.v (Value.int IntKind.u32 0) = D.v (Value.int IntKind.u32 0) ∧ D.v (Value.int IntKind.i64 0) = D.v (Value.int IntKind.i64 0) ∧ true = true ∧ D.v (Value.string { data := { toList := [] } }) = D.v (Value.string { data := { toList := [] } }) ∧ True) ∧ (true = true ∧ D.v (Value.slice none 0 0) = D.v (Value.slice none 0 0)) ∧ True) ∧ I [D.v (Value.int IntKind.i64 0), D.v (Value.int IntKind.u8 fl), D.v (Value.int IntKind.i64 pa), D.v (Value.int IntKind.i64 ep), D.v (Value.int IntKind.u32 sq), D.v (Value.int IntKind.u32 ak), D.v (Value.int IntKind.i64 wi), str s, D.v nilS]) ∧ ∀ (r r_1 r_2 r_3 r_4 r_5 r_6 r_7 r_8 : D), I [r, r_1, r_2, r_3, r_4, r_5, r_6, r_7, r_8] → ∃ (r_9 : D), D.lenT (TypeDesc.slice 63) x = some r_9 ∧ ∃ (r_10 : D), D.bin BinOp.lss r r_9 = some r_10 ∧ ∃ (b : Bool), r_10 = D.v (Value.bool b) ∧ (b = true → D.inb 2 x r ∧ 0 + 2 ≤ (x.at_ r).cells.length ∧ ∃ (ls : List D), r_8.lst = some ls ∧ ∃ (lx : List D), D.lstSz 2 (D.sl 2 (chunks true 2 1 [(x.at_ r).cell (0 + 0), (x.at_ r).cell (0 + 1)])) = some lx ∧ (ls.length + lx.length) * 8 ≤ 1099511627776 ∧ ∃ (r_11 : D), D.bin BinOp.add r (D.v (Value.int IntKind.i64 1)) = some r_11 ∧ (r_11 = r_11 ∧ (true = true ∧ true = true) ∧ (true = true ∧ true = true) ∧ (true = true ∧ true = true) ∧ True) ∧ ((true = true ∧ D.app 2 r_8 lx = D.app 2 r_8 lx) ∧ (r_1 = r_1 ∧ r_2 = r_2 ∧ r_3 = r_3 ∧ r_4 = r_4 ∧ r_5 = r_5 ∧ r_6 = r_6 ∧ true = true ∧ r_7 = r_7 ∧ True) ∧ (D.v (Value.int IntKind.u8 fl) = D.v (Value.int IntKind.u8 fl) ∧ D.v (Value.int IntKind.i64 pa) = D.v (Value.int IntKind.i64 pa) ∧ D.v (Value.int IntKind.i64 ep) = D.v (Value.int IntKind.i64 ep) ∧ D.v (Value.int IntKind.u32 sq) = D.v (Value.int IntKind.u32 sq) ∧ D.v (Value.int IntKind.u32 ak) = D.v (Value.int IntKind.u32 ak) ∧ D.v (Value.int IntKind.i64 wi) = D.v (Value.int IntKind.i64 wi) ∧ x = x ∧ str s = str s ∧ True) ∧ (D.v (Value.int IntKind.u8 0) = D.v (Value.int IntKind.u8 0) ∧ D.v (Value.int IntKind.i64 0) = D.v (Value.int IntKind.i64 0) ∧ D.v (Value.int IntKind.i64 0) = D.v (Value.int IntKind.i64 0) ∧ D.v (Value.int IntKind.u32 0) = D.v (Value.int IntKind.u32 0) ∧ D.v (Value.int IntKind.u32 0) = D.v (Value.int IntKind.u32 0) ∧ D.v (Value.int IntKind.i64 0) = D.v (Value.int IntKind.i64 0) ∧ true = true ∧ D.v (Value.string { data := { toList := [] } }) = D.v (Value.string { data := { toList := [] } }) ∧ True) ∧ (true = true ∧ D.v (Value.slice none 0 0) = D.v (Value.slice none 0 0)) ∧ True) ∧ I [r_11, r_1, r_2, r_3, r_4, r_5, r_6, r_7, D.app 2 r_8 lx] ∧ μ [r_11, r_1, r_2, r_3, r_4, r_5, r_6, r_7, D.app 2 r_8 lx] < μ [r, r_1, r_2, r_3, r_4, r_5, r_6, r_7, r_8]) ∧ (b = false → ((∃ (y : Value), r_1 = D.v y) ∧ (∃ (y : Value), r_2 = D.v y) ∧ (∃ (y : Value), r_3 = D.v y) ∧ (∃ (y : Value), r_4 = D.v y) ∧ (∃ (y : Value), r_5 = D.v y) ∧ (∃ (y : Value), r_6 = D.v y) ∧ PlainD r_8 ∧ (∃ (y : Value), r_7 = D.v y) ∧ True) ∧ [D.agg [r_1, r_2, r_3, r_4, r_5, r_6, r_8, r_7]] = [D.agg [D.v (Value.int IntKind.u8 fl), D.v (Value.int IntKind.i64 pa), D.v (Value.int IntKind.i64 ep), D.v (Value.int IntKind.u32 sq), D.v (Value.int IntKind.u32 ak), D.v (Value.int IntKind.i64 wi), ofL 2 (prs zs), str s]])) := by kernel_rfl
set_option maxHeartbeats 4000000 in
theorem backS (fl pa ep sq ak wi : Int) (x : D) (zs : List (Int × Int)) (s : List Int) (hX : IsL 2 (prs zs) x) (hl : zs.length ≤ 100000) (hs : Bytes s) (hsl : s.length ≤ 100000) (f0 : 0 ≤ fl) (f1 : fl < 256) : PureD Try.prog 12 [.agg [.v (.int .u8 fl), .v (.int .i64 pa), .v (.int .i64 ep), .v (.int .u32 sq), .v (.int .u32 ak), .v (.int .i64 wi), x, str s]] [.agg [.v (.int .u8 fl), .v (.int .i64 pa), .v (.int .i64 ep), .v (.int .u32 sq), .v (.int .u32 ak), .v (.int .i64 wi), ofL 2 (prs zs), str s]] := by
  refine pure_cond (Lp := (fun k => if k = 3 then some ⟨[4], [], [1, 2, 3], [(3, [0, 1, 2, 3, 4, 5, 7], [6])]⟩ else none)) (by kernel_rfl) Try.func12 (by kernel_rfl) (by kernel_rfl) ?_
  rw [vc_backS fl pa ep sq ak wi x zs s]
  simp only [hX.lenT, hX.notAgg, prs_len, Option.some.injEq, exists_eq_left']
  have e1 : True := trivial
  have s1 : True := trivial
  repeat' (first
    | (refine ex_some (by simp (disch := omega) only [bin_shr, bin_shl, bin_and, bin_or, bin_xor, len_str, toStr_ofL, bin_add, bin_sub, bin_mul, bin_quo, bin_rem, bin_lss, bin_leq, bin_gtr, bin_geq, bin_eql, bin_neq, eqs_cn, eqs_ci, eqs_cb, eqs_cs, Option.map_some, lenT_ofL, lst_ofL, lstSz_ofL, chunk_one, lst_nil, lst_sl, lstSz_sl, lstSz_nil, Bool.and_true, Bool.true_and, Bool.and_false, Bool.false_and, beq_self_eq_true, beq_bb, bne_bb, un_not, un_neg, conv_int, min2_int, max2_int, w64, w32, wu8, wu16, wu32, wu64, tdiv_nn, tmod_nn, cell_zero, cell_succ, cell_v, cells_v, cells_agg, Bool.not_true, Bool.not_false, Int.reduceLT, Int.reduceLE, Int.reduceEq, Int.reduceNeg, Int.reduceAdd, Int.reduceSub, Int.reduceMul, intOf_v, decide_true, decide_false, e1, s1, app_ofL, lst_ofL, prs_len, ch2, hX.lenT]; rfl) ?_)
    | (refine ex_bool ?_)
    | (refine ⟨(fun r => ∃ k : Nat, k ≤ zs.length ∧ r = [.v (.int .i64 (k : Nat)), .v (.int .u8 fl), .v (.int .i64 pa), .v (.int .i64 ep), .v (.int .u32 sq), .v (.int .u32 ak), .v (.int .i64 wi), str s, ofL 2 (prs (zs.take k))]), leftN zs.length, ?_⟩)
    | (refine fun (r1 r2 r3 r4 r5 r6 r7 r8 r9 : D) (hI : (fun r => ∃ k : Nat, k ≤ zs.length ∧ r = [.v (.int .i64 (k : Nat)), .v (.int .u8 fl), .v (.int .i64 pa), .v (.int .i64 ep), .v (.int .u32 sq), .v (.int .u32 ak), .v (.int .i64 wi), str s, ofL 2 (prs (zs.take k))]) [r1, r2, r3, r4, r5, r6, r7, r8, r9]) => ?_; obtain ⟨k, hk, hl0⟩ := hI; simp only [List.cons.injEq, and_true] at hl0; obtain ⟨rfl, rfl, rfl, rfl, rfl, rfl, rfl, rfl, rfl⟩ := hl0; by_cases hlt : k < zs.length <;> first | (have hk1 : k < zs.length := (by omega); have e1 := prs_at hX hk1; have i1 := prs_inb hX hk1; have s1 := app_takeP hk1; generalize zs.getD k (0, 0) = p at e1 s1; obtain ⟨p1, p2⟩ := p; simp only at e1 s1; simp only [e1, Nat.zero_add, cell_zero, cell_succ, cells_agg, List.length_cons, List.length_nil]; have inl : True := trivial) | (have hkk : k = zs.length := (by omega); subst hkk; rw [List.take_length]; have e1 : True := trivial; have s1 : True := trivial; have inl2 : True := trivial))
    | (exact i1)
    | (refine ⟨(0 : Nat), Nat.zero_le _, rfl⟩)
    | (have := inl; refine ⟨(k + 1 : Nat), by omega, ?_⟩)
    | (refine And.intro ?_ ?_)
    | (intro hx; have hprop := (show ∀ (p : Prop), p → True from fun _ _ => True.intro) _ hx; clear hprop; first | (cases hx; done) | (exfalso; revert hx; simp (disch := omega) only [decide_eq_true_eq, decide_eq_false_iff_not, Bool.not_eq_true', Bool.not_eq_false', Bool.and_eq_true, Bool.and_eq_false_iff, Int.not_lt, Int.not_le, ne_eq, not_false_eq_true, not_true_eq_false, reduceCtorEq, Bool.true_eq_false, Bool.false_eq_true, beq_iff_eq, bne_iff_ne, beq_eq_false_iff_ne, false_or, or_false, true_and, and_true, e1, s1, app_ofL, lst_ofL, prs_len, ch2, hX.lenT]; done) | (simp (disch := omega) only [decide_eq_true_eq, decide_eq_false_iff_not, Bool.not_eq_true', Bool.not_eq_false', Bool.and_eq_true, Bool.and_eq_false_iff, Int.not_lt, Int.not_le, ne_eq, not_false_eq_true, not_true_eq_false, reduceCtorEq, Bool.true_eq_false, Bool.false_eq_true, beq_iff_eq, bne_iff_ne, beq_eq_false_iff_ne, false_or, or_false, true_and, and_true, e1, s1, app_ofL, lst_ofL, prs_len, ch2, hX.lenT] at hx; first | (exfalso; omega) | skip) | skip)
    | trivial
    | exact fit_ofL _ _
    | (simp (disch := omega) only [notAgg_v, notAgg_sl, plain_v, fits, fitsOne, fitsCells, xsOf, cell_zero, cell_succ, List.range, List.range.loop, List.map, cond_true, cond_false, D.v.injEq, exists_eq', exists_eq, and_self, and_true, true_and, D.agg.injEq, List.length, exists_eq_left', D.sl.injEq, reduceCtorEq, false_or, true_or, or_true, or_false, cell_zero, cell_succ, cell_v, cells_v, cells_agg, List.length_cons, List.length_nil, e1, s1, app_ofL, lst_ofL, prs_len, ch2, hX.lenT]; done))
  all_goals first
    | (exfalso; omega)
    | omega
    | rfl
    | exact fit_ofL _ _
    | exact str_v _
    | exact ⟨_, rfl⟩
    | exact plainP _
    | exact plain_v _
    | (simp only [leftN]; omega)
    | (simp only [prs_len, List.length_cons, List.length_nil, List.length_take]; omega)
    | (rw [s1]; first | done | rfl)
    | (rw [← s1, app_ofL]; first | done | rfl)
    | (simp; done)
    | fail

theorem vc_rsameT (fl pa ep sq ak wi : Int) (x : D) (zs : List (Int × Int)) (s : List Int) (y : D) : Cond Try.prog (fun k => if k = 4 then some ⟨[5], [], [2, 3], []⟩ else none) Try.f11 [.agg [.v (.int .u8 fl), .v (.int .i64 pa), .v (.int .i64 ep), .v (.int .u32 sq), .v (.int .u32 ak), .v (.int .i64 wi), x, str s], .agg [.v (.int .u8 fl), .v (.int .i64 pa), .v (.int .i64 ep), .v (.int .u32 sq), .v (.int .u32 ak), .v (.int .i64 wi), y, str s]] [.v (.bool true)] = (((∃ (cs : List D), D.agg [D.v (Value.int IntKind.u8 fl), D.v (Value.int IntKind.i64 pa), D.v (Value.int IntKind.i64 ep), D.v (Value.int IntKind.u32 sq), D.v (Value.int IntKind.u32 ak), D.v (Value.int IntKind.i64 wi), x, str s] = D.agg cs ∧ cs.length = 8) ∧ (∃ (cs : List D), D.agg [D.v (Value.int IntKind.u8 fl), D.v (Value.int IntKind.i64 pa), D.v (Value.int IntKind.i64 ep), D.v (Value.int IntKind.u32 sq), D.v (Value.int IntKind.u32 ak), D.v (Value.int IntKind.i64 wi), y, str s] = D.agg cs ∧ cs.length = 8) ∧ True) ∧ ∃ (r : D), D.lenT (TypeDesc.slice 62) x = some r ∧ ∃ (r_1 : D), D.lenT (TypeDesc.slice 62) y = some r_1 ∧ ∃ (r_2 : D), D.bin BinOp.neq r r_1 = some r_2 ∧ ∃ (b : Bool), r_2 = D.v (Value.bool b) ∧ (b = true → (True ∧ True) ∧ [D.v (Value.bool false)] = [D.v (Value.bool true)]) ∧ (b = false → ∃ (I : List D → Prop), ∃ (μ : List D → Nat), ((D.v (Value.int IntKind.i64 0) = D.v (Value.int IntKind.i64 0) ∧ (true = true ∧ true = true) ∧ (true = true ∧ true = true) ∧ True) ∧ ((D.v (Value.int IntKind.u8 fl) = D.v (Value.int IntKind.u8 fl) ∧ D.v (Value.int IntKind.i64 pa) = D.v (Value.int IntKind.i64 pa) ∧ D.v (Value.int IntKind.i64 ep) = D.v (Value.int IntKind.i64 ep) ∧ D.v (Value.int IntKind.u32 sq) = D.v (Value.int IntKind.u32 sq) ∧ D.v (Value.int IntKind.u32 ak) = D.v (Value.int IntKind.u32 ak) ∧ D.v (Value.int IntKind.i64 wi) = D.v (Value.int IntKind.i64 wi) ∧ x = x ∧ str s = str s ∧ True) ∧ (D.v (Value.int IntKind.u8 fl) = D.v (Value.int IntKind.u8 fl) ∧ D.v (Value.int IntKind.i64 pa) = D.v (Value.int IntKind.i64 pa) ∧ D.v (Value.int IntKind.i64 ep) = D.v (Value.int IntKind.i64 ep) ∧ D.v (Value.int IntKind.u32 sq) = D.v (Value.int IntKind.u32 sq) ∧ D.v (Value.int IntKind.u32 ak) = D.v (Value.int IntKind.u32 ak) ∧ D.v (Value.int IntKind.i64 wi) = D.v (Value.int IntKind.i64 wi) ∧ y = y ∧ str s = str s ∧ True) ∧ True) ∧ I [D.v (Value.int IntKind.i64 0)]) ∧ ∀ (r : D), I [r] → ∃ (r_3 : D), D.lenT (TypeDesc.slice 62) x = some r_3 ∧ ∃ (r_4 : D), D.bin BinOp.lss r r_3 = some r_4 ∧ ∃ (b : Bool), r_4 = D.v (Value.bool b) ∧ (b = true → D.inb 2 x r ∧ 0 + 2 ≤ (x.at_ r).cells.length ∧ D.inb 2 y r ∧ 0 + 2 ≤ (y.at_ r).cells.length ∧ ∃ (r_5 : Bool), eqs [EqK.i, EqK.i] [(x.at_ r).cell (0 + 0), (x.at_ r).cell (0 + 1)] [(y.at_ r).cell (0 + 0), (y.at_ r).cell (0 + 1)] = some r_5 ∧ ∃ (b : Bool), D.v (Value.bool (match r_5 with | true => false | false => true)) = D.v (Value.bool b) ∧ (b = true → (True ∧ True) ∧ [D.v (Value.bool false)] = [D.v (Value.bool true)]) ∧ (b = false → ∃ (r_6 : D), D.bin BinOp.add r (D.v (Value.int IntKind.i64 1)) = some r_6 ∧ (r_6 = r_6 ∧ (true = true ∧ true = true) ∧ (true = true ∧ true = true) ∧ True) ∧ ((D.v (Value.int IntKind.u8 fl) = D.v (Value.int IntKind.u8 fl) ∧ D.v (Value.int IntKind.i64 pa) = D.v (Value.int IntKind.i64 pa) ∧ D.v (Value.int IntKind.i64 ep) = D.v (Value.int IntKind.i64 ep) ∧ D.v (Value.int IntKind.u32 sq) = D.v (Value.int IntKind.u32 sq) ∧ D.v (Value.int IntKind.u32 ak) = D.v (Value.int IntKind.u32 ak) ∧ D.v (Value.int IntKind.i64 wi) = D.v (Value.int IntKind.i64 wi) ∧ x = x ∧ str s = str s ∧ True) ∧ (D.v (Value.int IntKind.u8 fl) = D.v (Value.int IntKind.u8 fl) ∧ D.v (Value.int IntKind.i64 pa) = D.v (Value.int IntKind.i64 pa) ∧ D.v (Value.int IntKind.i64 ep) = D.v (Value.int IntKind.i64 ep) ∧ D.v (Value.int IntKind.u32 sq) = D.v (Value.int IntKind.u32 sq) ∧ D.v (Value.int IntKind.u32 ak) = D.v (Value.int IntKind.u32 ak) ∧ D.v (Value.int IntKind.i64 wi) = D.v (Value.int IntKind.i64 wi) ∧ y = y ∧ str s = str s ∧ True) ∧ True) ∧ I [r_6] ∧ μ [r_6] < μ [r])) ∧ (b = false → ∃ (r : D), D.bin BinOp.eql (D.v (Value.int IntKind.u8 fl)) (D.v (Value.int IntKind.u8 fl)) = some r ∧ ∃ (b : Bool), r = D.v (Value.bool b) ∧ (b = true → ∃ (r : D), D.bin BinOp.eql (D.v (Value.int IntKind.i64 pa)) (D.v (Value.int IntKind.i64 pa)) = some r ∧ ∃ (b : Bool), r = D.v (Value.bool b) ∧ (b = true → ∃ (r : D), D.bin BinOp.eql (D.v (Value.int IntKind.i64 ep)) (D.v (Value.int IntKind.i64 ep)) = some r ∧ ∃ (b : Bool), r = D.v (Value.bool b) ∧ (b = true → ∃ (r : D), D.bin BinOp.eql (D.v (Value.int IntKind.u32 sq)) (D.v (Value.int IntKind.u32 sq)) = some r ∧ ∃ (b : Bool), r = D.v (Value.bool b) ∧ (b = true → ∃ (r : D), D.bin BinOp.eql (D.v (Value.int IntKind.u32 ak)) (D.v (Value.int IntKind.u32 ak)) = some r ∧ ∃ (b : Bool), r = D.v (Value.bool b) ∧ (b = true → ∃ (r : D), D.bin BinOp.eql (D.v (Value.int IntKind.i64 wi)) (D.v (Value.int IntKind.i64 wi)) = some r ∧ ∃ (b : Bool), r = D.v (Value.bool b) ∧ (b = true → ∃ (r : D), D.bin BinOp.eql (str s) (str s) = some r ∧ ((∃ (y : Value), r = D.v y) ∧ True) ∧ [r] = [D.v (Value.bool true)]) ∧ (b = false → (True ∧ True) ∧ [D.v (Value.bool false)] = [D.v (Value.bool true)])) ∧ (b = false → (True ∧ True) ∧ [D.v (Value.bool false)] = [D.v (Value.bool true)])) ∧ (b = false → (True ∧ True) ∧ [D.v (Value.bool false)] = [D.v (Value.bool true)])) ∧ (b = false → (True ∧ True) ∧ [D.v (Value.bool false)] = [D.v (Value.bool true)])) ∧ (b = false → (True ∧ True) ∧ [D.v (Value.bool false)] = [D.v (Value.bool true)])) ∧ (b = false → (True ∧ True) ∧ [D.v (Value.bool false)] = [D.v (Value.bool true)])))) := by kernel_rfl
set_option maxHeartbeats 4000000 in
theorem rsameT (fl pa ep sq ak wi : Int) (x : D) (zs : List (Int × Int)) (s : List Int) (y : D) (hX : IsL 2 (prs zs) x) (hl : zs.length ≤ 100000) (hs : Bytes s) (hsl : s.length ≤ 100000) (f0 : 0 ≤ fl) (f1 : fl < 256) (hY : IsL 2 (prs zs) y) : PureD Try.prog 11 [.agg [.v (.int .u8 fl), .v (.int .i64 pa), .v (.int .i64 ep), .v (.int .u32 sq), .v (.int .u32 ak), .v (.int .i64 wi), x, str s], .agg [.v (.int .u8 fl), .v (.int .i64 pa), .v (.int .i64 ep), .v (.int .u32 sq), .v (.int .u32 ak), .v (.int .i64 wi), y, str s]] [.v (.bool true)] := by
  refine pure_cond (Lp := (fun k => if k = 4 then some ⟨[5], [], [2, 3], []⟩ else none)) (by kernel_rfl) Try.func11 (by kernel_rfl) (by kernel_rfl) ?_
  rw [vc_rsameT fl pa ep sq ak wi x zs s y]
  have bs := bin_seql hs hs
  rw [decide_eq_true rfl] at bs
  simp only [hX.lenT, hX.notAgg, hY.lenT, hY.notAgg, prs_len, Option.some.injEq, exists_eq_left']
  have e1 : True := trivial
  have e2 : True := trivial
  repeat' (first
    | (refine ex_some (by simp (disch := omega) only [bin_shr, bin_shl, bin_and, bin_or, bin_xor, len_str, toStr_ofL, bin_add, bin_sub, bin_mul, bin_quo, bin_rem, bin_lss, bin_leq, bin_gtr, bin_geq, bin_eql, bin_neq, eqs_cn, eqs_ci, eqs_cb, eqs_cs, Option.map_some, lenT_ofL, lst_ofL, lstSz_ofL, chunk_one, lst_nil, lst_sl, lstSz_sl, lstSz_nil, Bool.and_true, Bool.true_and, Bool.and_false, Bool.false_and, beq_self_eq_true, beq_bb, bne_bb, un_not, un_neg, conv_int, min2_int, max2_int, w64, w32, wu8, wu16, wu32, wu64, tdiv_nn, tmod_nn, cell_zero, cell_succ, cell_v, cells_v, cells_agg, Bool.not_true, Bool.not_false, Int.reduceLT, Int.reduceLE, Int.reduceEq, Int.reduceNeg, Int.reduceAdd, Int.reduceSub, Int.reduceMul, intOf_v, decide_true, decide_false, e1, e2, prs_len, hX.lenT, hY.lenT, bs]; rfl) ?_)
    | (refine ex_bool ?_)
    | (refine ⟨(fun r => ∃ k : Nat, k ≤ zs.length ∧ r = [.v (.int .i64 (k : Nat))]), leftN zs.length, ?_⟩)
    | (refine fun (r1 : D) (hI : (fun r => ∃ k : Nat, k ≤ zs.length ∧ r = [.v (.int .i64 (k : Nat))]) [r1]) => ?_; obtain ⟨k, hk, hl0⟩ := hI; simp only [List.cons.injEq, and_true] at hl0; subst hl0; by_cases hlt : k < zs.length <;> first | (have hk1 : k < zs.length := (by omega); have e1 := prs_at hX hk1; have i1 := prs_inb hX hk1; have e2 := prs_at hY hk1; have i2 := prs_inb hY hk1; generalize zs.getD k (0, 0) = p at e1 e2; obtain ⟨p1, p2⟩ := p; simp only at e1 e2; simp only [e1, e2, Nat.zero_add, cell_zero, cell_succ, cells_agg, List.length_cons, List.length_nil]; have inl : True := trivial) | (have hkk : k = zs.length := (by omega); have e1 : True := trivial; have e2 : True := trivial; have inl2 : True := trivial))
    | (exact i1)
    | (exact i2)
    | (refine ⟨(0 : Nat), Nat.zero_le _, rfl⟩)
    | (have := inl; refine ⟨(k + 1 : Nat), by omega, ?_⟩)
    | (refine And.intro ?_ ?_)
    | (intro hx; have hprop := (show ∀ (p : Prop), p → True from fun _ _ => True.intro) _ hx; clear hprop; first | (cases hx; done) | (exfalso; revert hx; simp (disch := omega) only [decide_eq_true_eq, decide_eq_false_iff_not, Bool.not_eq_true', Bool.not_eq_false', Bool.and_eq_true, Bool.and_eq_false_iff, Int.not_lt, Int.not_le, ne_eq, not_false_eq_true, not_true_eq_false, reduceCtorEq, Bool.true_eq_false, Bool.false_eq_true, beq_iff_eq, bne_iff_ne, beq_eq_false_iff_ne, false_or, or_false, true_and, and_true, e1, e2, prs_len, hX.lenT, hY.lenT, bs]; done) | (simp (disch := omega) only [decide_eq_true_eq, decide_eq_false_iff_not, Bool.not_eq_true', Bool.not_eq_false', Bool.and_eq_true, Bool.and_eq_false_iff, Int.not_lt, Int.not_le, ne_eq, not_false_eq_true, not_true_eq_false, reduceCtorEq, Bool.true_eq_false, Bool.false_eq_true, beq_iff_eq, bne_iff_ne, beq_eq_false_iff_ne, false_or, or_false, true_and, and_true, e1, e2, prs_len, hX.lenT, hY.lenT, bs] at hx; first | (exfalso; omega) | skip) | skip)
    | trivial
    | exact fit_ofL _ _
    | (simp (disch := omega) only [notAgg_v, notAgg_sl, plain_v, fits, fitsOne, fitsCells, xsOf, cell_zero, cell_succ, List.range, List.range.loop, List.map, cond_true, cond_false, D.v.injEq, exists_eq', exists_eq, and_self, and_true, true_and, D.agg.injEq, List.length, exists_eq_left', D.sl.injEq, reduceCtorEq, false_or, true_or, or_true, or_false, cell_zero, cell_succ, cell_v, cells_v, cells_agg, List.length_cons, List.length_nil, e1, e2, prs_len, hX.lenT, hY.lenT, bs]; done))
  all_goals first
    | (exfalso; omega)
    | omega
    | rfl
    | exact fit_ofL _ _
    | exact str_v _
    | exact ⟨_, rfl⟩
    | exact plainP _
    | exact plain_v _
    | (simp only [leftN]; omega)
    | (simp only [prs_len, List.length_cons, List.length_nil, List.length_take]; omega)
    | (simp; done)
    | fail

theorem vc_run_ (p : Int × Int) (pt eo mi : Int) (y : D) (l : List Sg) : Cond Try.prog (fun k => if k = 2 then some ⟨[9], [], [2, 4, 7, 8], [(2, [0, 1, 2, 3, 4], [])]⟩ else none) Try.f24 [.agg [.v (.int .u8 p.1), .v (.int .i64 pt), .v (.int .i64 eo), .v (.int .u32 mi), .v (.int .u32 p.2)], y] [.agg [.v (.int .u8 (runG pt eo mi p l).1), .v (.int .i64 pt), .v (.int .i64 eo), .v (.int .u32 mi), .v (.int .u32 (runG pt eo mi p l).2)]] = (((∃ (cs : List D), D.agg [D.v (Value.int IntKind.u8 p.fst), D.v (Value.int IntKind.i64 pt), D.v (Value.int IntKind.i64 eo), D.v (Value.int IntKind.u32 mi), D.v (Value.int IntKind.u32 p.snd)] = D.agg cs ∧ cs.length = 5) ∧ NotAgg y ∧ True) ∧ ∃ (r : D), D.lenT (TypeDesc.slice 32) y = some r ∧ ∃ (I : List D → Prop), ∃ (μ : List D → Nat), ((D.v (Value.int IntKind.i64 0) = D.v (Value.int IntKind.i64 0) ∧ (true = true ∧ true = true) ∧ (true = true ∧ true = true) ∧ y = y ∧ r = r ∧ True) ∧ ((D.v (Value.int IntKind.u8 p.fst) = D.v (Value.int IntKind.u8 p.fst) ∧ D.v (Value.int IntKind.i64 pt) = D.v (Value.int IntKind.i64 pt) ∧ D.v (Value.int IntKind.i64 eo) = D.v (Value.int IntKind.i64 eo) ∧ D.v (Value.int IntKind.u32 mi) = D.v (Value.int IntKind.u32 mi) ∧ D.v (Value.int IntKind.u32 p.snd) = D.v (Value.int IntKind.u32 p.snd) ∧ True) ∧ (D.v (Value.int IntKind.u8 0) = D.v (Value.int IntKind.u8 0) ∧ D.v (Value.int IntKind.i64 0) = D.v (Value.int IntKind.i64 0) ∧ D.v (Value.int IntKind.i64 0) = D.v (Value.int IntKind.i64 0) ∧ D.v (Value.int IntKind.u32 0) = D.v (Value.int IntKind.u32 0) ∧ D.v (Value.int IntKind.u32 0) = D.v (Value.int IntKind.u32 0) ∧ True) ∧ True) ∧ I [D.v (Value.int IntKind.i64 0), D.v (Value.int IntKind.u8 p.fst), D.v (Value.int IntKind.i64 pt), D.v (Value.int IntKind.i64 eo), D.v (Value.int IntKind.u32 mi), D.v (Value.int IntKind.u32 p.snd)]) ∧ ∀ (r_1 r_2 r_3 r_4 r_5 r_6 : D), I [r_1, r_2, r_3, r_4, r_5, r_6] → ∃ (r_7 : D), D.bin BinOp.lss r_1 r = some r_7 ∧ ∃ (b : Bool), r_7 = D.v (Value.bool b) ∧ (b = true → D.inb 8 y r_1 ∧ 0 + 8 ≤ (y.at_ r_1).cells.length ∧ ∃ (r_8 : D), PureD Try.prog 22 [D.agg [r_2, r_3, r_4, r_5, r_6], D.agg [(y.at_ r_1).cell (0 + 0), (y.at_ r_1).cell (0 + 1), (y.at_ r_1).cell (0 + 2), (y.at_ r_1).cell (0 + 3), (y.at_ r_1).cell (0 + 4), (y.at_ r_1).cell (0 + 5), (y.at_ r_1).cell (0 + 6), (y.at_ r_1).cell (0 + 7)]] [r_8] ∧ fits [(true, [none, none, none, none, none])] [r_8] ∧ ∃ (r_9 : D), D.bin BinOp.add r_1 (D.v (Value.int IntKind.i64 1)) = some r_9 ∧ (r_9 = r_9 ∧ (true = true ∧ true = true) ∧ (true = true ∧ true = true) ∧ y = y ∧ r = r ∧ True) ∧ ((r_8.cell 0 = r_8.cell 0 ∧ r_8.cell 1 = r_8.cell 1 ∧ r_8.cell 2 = r_8.cell 2 ∧ r_8.cell 3 = r_8.cell 3 ∧ r_8.cell 4 = r_8.cell 4 ∧ True) ∧ (D.v (Value.int IntKind.u8 0) = D.v (Value.int IntKind.u8 0) ∧ D.v (Value.int IntKind.i64 0) = D.v (Value.int IntKind.i64 0) ∧ D.v (Value.int IntKind.i64 0) = D.v (Value.int IntKind.i64 0) ∧ D.v (Value.int IntKind.u32 0) = D.v (Value.int IntKind.u32 0) ∧ D.v (Value.int IntKind.u32 0) = D.v (Value.int IntKind.u32 0) ∧ True) ∧ True) ∧ I [r_9, r_8.cell 0, r_8.cell 1, r_8.cell 2, r_8.cell 3, r_8.cell 4] ∧ μ [r_9, r_8.cell 0, r_8.cell 1, r_8.cell 2, r_8.cell 3, r_8.cell 4] < μ [r_1, r_2, r_3, r_4, r_5, r_6]) ∧ (b = false → ((∃ (y : Value), r_2 = D.v y) ∧ (∃ (y : Value), r_3 = D.v y) ∧ (∃ (y : Value), r_4 = D.v y) ∧ (∃ (y : Value), r_5 = D.v y) ∧ (∃ (y : Value), r_6 = D.v y) ∧ True) ∧ [D.agg [r_2, r_3, r_4, r_5, r_6]] = [D.agg [D.v (Value.int IntKind.u8 (runG pt eo mi p l).fst), D.v (Value.int IntKind.i64 pt), D.v (Value.int IntKind.i64 eo), D.v (Value.int IntKind.u32 mi), D.v (Value.int IntKind.u32 (runG pt eo mi p l).snd)]])) := by kernel_rfl
set_option maxHeartbeats 4000000 in
theorem run_ (p : Int × Int) (pt eo mi : Int) (y : D) (l : List Sg) (hp : Bd p) (m0 : 0 ≤ mi) (m1 : mi < 4294967296) (hL : IsL 8 (l.map sgD) y) (hl : l.length ≤ 1000) (hall : ∀ g ∈ l, SgOk g ∧ g.zs.length ≤ 100000 ∧ g.s.length ≤ 100000) : PureD Try.prog 24 [.agg [.v (.int .u8 p.1), .v (.int .i64 pt), .v (.int .i64 eo), .v (.int .u32 mi), .v (.int .u32 p.2)], y] [.agg [.v (.int .u8 (runG pt eo mi p l).1), .v (.int .i64 pt), .v (.int .i64 eo), .v (.int .u32 mi), .v (.int .u32 (runG pt eo mi p l).2)]] := by
  refine pure_cond (Lp := (fun k => if k = 2 then some ⟨[9], [], [2, 4, 7, 8], [(2, [0, 1, 2, 3, 4], [])]⟩ else none)) (by kernel_rfl) Try.func24 (by kernel_rfl) (by kernel_rfl) ?_
  rw [vc_run_ p pt eo mi y l]
  simp only [hL.lenT, hL.notAgg, List.length_map, Option.some.injEq, exists_eq_left']
  have e1 : True := trivial
  repeat' (first
    | (refine ex_some (by simp (disch := omega) only [bin_shr, bin_shl, bin_and, bin_or, bin_xor, len_str, toStr_ofL, bin_add, bin_sub, bin_mul, bin_quo, bin_rem, bin_lss, bin_leq, bin_gtr, bin_geq, bin_eql, bin_neq, eqs_cn, eqs_ci, eqs_cb, eqs_cs, Option.map_some, lenT_ofL, lst_ofL, lstSz_ofL, chunk_one, lst_nil, lst_sl, lstSz_sl, lstSz_nil, Bool.and_true, Bool.true_and, Bool.and_false, Bool.false_and, beq_self_eq_true, beq_bb, bne_bb, un_not, un_neg, conv_int, min2_int, max2_int, w64, w32, wu8, wu16, wu32, wu64, tdiv_nn, tmod_nn, cell_zero, cell_succ, cell_v, cells_v, cells_agg, Bool.not_true, Bool.not_false, Int.reduceLT, Int.reduceLE, Int.reduceEq, Int.reduceNeg, Int.reduceAdd, Int.reduceSub, Int.reduceMul, intOf_v, decide_true, decide_false, e1, hL.lenT, List.length_map]; rfl) ?_)
    | (refine ex_bool ?_)
    | (refine ⟨_, ON, ?_⟩)
    | (refine ⟨(fun r => ∃ k : Nat, k ≤ l.length ∧ Bd (runG pt eo mi p (l.take k)) ∧ r = [.v (.int .i64 (k : Nat)), .v (.int .u8 (runG pt eo mi p (l.take k)).1), .v (.int .i64 pt), .v (.int .i64 eo), .v (.int .u32 mi), .v (.int .u32 (runG pt eo mi p (l.take k)).2)]), leftN l.length, ?_⟩)
    | (refine fun (r1 r2 r3 r4 r5 r6 : D) (hI : (fun r => ∃ k : Nat, k ≤ l.length ∧ Bd (runG pt eo mi p (l.take k)) ∧ r = [.v (.int .i64 (k : Nat)), .v (.int .u8 (runG pt eo mi p (l.take k)).1), .v (.int .i64 pt), .v (.int .i64 eo), .v (.int .u32 mi), .v (.int .u32 (runG pt eo mi p (l.take k)).2)]) [r1, r2, r3, r4, r5, r6]) => ?_; obtain ⟨k, hk, hbd, hl0⟩ := hI; simp only [List.cons.injEq, and_true] at hl0; obtain ⟨rfl, rfl, rfl, rfl, rfl, rfl⟩ := hl0; by_cases hlt : k < l.length <;> first | (have hk1 : k < l.length := (by omega); have e1 := sgs_at hL hk1; have i1 := sgs_inb hL hk1; have hg := hall (l.getD k default) (by simp [List.getD, hk1]); have hr := run_last pt eo mi p hk1; have hlt8 : lightB (l.getD k default) = lightB (l.getD k default) := rfl; generalize l.getD k default = g at e1 hg hr; have hbd2 := onG_bd (pt := pt) (eo := eo) (mi := mi) hbd hg.1; generalize runG pt eo mi p (l.take k) = q at *; obtain ⟨q1, q2⟩ := q; have ON := on q1 pt eo mi q2 g.fl g.pa g.ep g.sq g.ak g.wi g.x g.zs g.s hbd.1.1 hbd.1.2 m0 m1 hbd.2.1 hbd.2.2 hg.1.hX hg.2.1 hg.1.hs hg.2.2 hg.1.f0 hg.1.f1 hg.1.q0 hg.1.q1 hg.1.a0 hg.1.a1; simp only [sgD, sgX] at e1; simp only [e1, Nat.zero_add, cell_zero, cell_succ, cells_agg, List.length_cons, List.length_nil]; have inl : True := trivial) | (have hkk : k = l.length := (by omega); subst hkk; rw [List.take_length]; have e1 : True := trivial; have inl2 : True := trivial))
    | (exact i1)
    | (refine ⟨(0 : Nat), Nat.zero_le _, hp, rfl⟩)
    | (have := inl; refine ⟨(k + 1 : Nat), by omega, by rw [hr]; exact hbd2, ?_⟩)
    | (refine And.intro ?_ ?_)
    | (intro hx; have hprop := (show ∀ (p : Prop), p → True from fun _ _ => True.intro) _ hx; clear hprop; first | (cases hx; done) | (exfalso; revert hx; simp (disch := omega) only [decide_eq_true_eq, decide_eq_false_iff_not, Bool.not_eq_true', Bool.not_eq_false', Bool.and_eq_true, Bool.and_eq_false_iff, Int.not_lt, Int.not_le, ne_eq, not_false_eq_true, not_true_eq_false, reduceCtorEq, Bool.true_eq_false, Bool.false_eq_true, beq_iff_eq, bne_iff_ne, beq_eq_false_iff_ne, false_or, or_false, true_and, and_true, e1, hL.lenT, List.length_map]; done) | (simp (disch := omega) only [decide_eq_true_eq, decide_eq_false_iff_not, Bool.not_eq_true', Bool.not_eq_false', Bool.and_eq_true, Bool.and_eq_false_iff, Int.not_lt, Int.not_le, ne_eq, not_false_eq_true, not_true_eq_false, reduceCtorEq, Bool.true_eq_false, Bool.false_eq_true, beq_iff_eq, bne_iff_ne, beq_eq_false_iff_ne, false_or, or_false, true_and, and_true, e1, hL.lenT, List.length_map] at hx; first | (exfalso; omega) | skip) | skip)
    | trivial
    | exact fit_ofL _ _
    | (simp (disch := omega) only [notAgg_v, notAgg_sl, plain_v, fits, fitsOne, fitsCells, xsOf, cell_zero, cell_succ, List.range, List.range.loop, List.map, cond_true, cond_false, D.v.injEq, exists_eq', exists_eq, and_self, and_true, true_and, D.agg.injEq, List.length, exists_eq_left', D.sl.injEq, reduceCtorEq, false_or, true_or, or_true, or_false, cell_zero, cell_succ, cell_v, cells_v, cells_agg, List.length_cons, List.length_nil, e1, hL.lenT, List.length_map]; done))
  all_goals first
    | (exfalso; omega)
    | omega
    | rfl
    | exact fit_ofL _ _
    | exact str_v _
    | exact ⟨_, rfl⟩
    | exact plainP _
    | exact plain_v _
    | (simp only [leftN]; omega)
    | (simp only [prs_len, List.length_cons, List.length_nil, List.length_take]; omega)
    | (rw [hr]; exact hbd2)
    | (rw [hr]; rfl)
    | (simp; done)
    | fail

end Go.Proofs.Ytbeofckoonophaa