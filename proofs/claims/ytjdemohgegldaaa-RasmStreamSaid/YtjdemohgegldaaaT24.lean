/-
  Layer 12: what is put in two orders; texts of bytes.
-/
import Derived.Test.YtjdemohgegldaaaT22
import Derived.Test.YtjdemohgegldaaaT23
namespace Go.Proofs.Ytjdemohgegldaaa
set_option linter.unusedSimpArgs false
set_option linter.unusedVariables false

theorem map_some {T : SS} {p : Int} (h0 : T.o ≤ p) (h1 : p < T.b) : ∃ x, T.map p = some x := by
  simp only [SS.map, mapS]
  obtain ⟨x, hx⟩ := at1_some (q := (T.b - T.r.length, T.r)) (p := p) (by simp only [SS.o] at h0; omega) (by simp only [endP]; omega)
  exact ⟨x, by rw [hx]; rfl⟩
theorem clip_up {S T : SS} (h : S.Ok) (ho : T.o = S.o) (hb : S.b ≤ T.b) (f : Pt) (p : Int) : (T.map p).or (clip T.b T.lim f p) = (T.map p).or (clip S.b S.lim f p) := by
  have hlim : T.lim = S.lim := by rw [SS.lim_o, SS.lim_o, ho]
  rcases Int.lt_or_le p T.b with hp | hp
  · by_cases hq : S.b ≤ p
    · have hso : S.o ≤ S.b := by simp only [SS.o]; omega
      obtain ⟨x, hx⟩ := map_some (T := T) (p := p) (by omega) hp
      rw [hx]; rfl
    · have e1 : clip S.b S.lim f p = none := by unfold clip; rw [if_neg (by omega)]
      have e2 : clip T.b T.lim f p = none := by unfold clip; rw [if_neg (by omega)]
      rw [e1, e2]
  · congr 1
    unfold clip
    rw [hlim]
    by_cases hq : p < S.lim
    · rw [if_pos ⟨hp, hq⟩, if_pos ⟨by omega, hq⟩]
    · rw [if_neg (by omega), if_neg (by omega)]
theorem put2 {S : SS} (h : S.Ok) (v w : Int) (s t : List Int) (p : Int) : (putF (putF S v s) w t).map p = ((S.map p).or (clip S.b S.lim (v, s) p)).or (clip S.b S.lim (w, t) p) := by
  have h1 := put_ok h v s
  have h2 := put_ok h1.ok w t
  rw [h2.map, clip_up h h1.o h1.up, h1.map]
theorem clip_at {b lim : Int} {f : Pt} {p c : Int} (h : clip b lim f p = some c) : at1 f p = some c := by
  unfold clip at h
  split at h
  · exact h
  · cases h
theorem comm {S : SS} (h : S.Ok) {v w : Int} {s t : List Int} (ha : ∀ p c d, at1 (v, s) p = some c → at1 (w, t) p = some d → c = d) :
    putF (putF S v s) w t = putF (putF S w t) v s ∧ putF (putF (putF S w t) v s) w t = putF (putF S w t) v s := by
  have x1 := put_ok h v s
  have x2 := put_ok x1.ok w t
  have y1 := put_ok h w t
  have y2 := put_ok y1.ok v s
  have z := put_ok y2.ok w t
  constructor
  · refine SS.uniq x2.ok y2.ok (by rw [x2.o, x1.o, y2.o, y1.o]) fun p => ?_
    rw [put2 h, put2 h]
    cases S.map p with
    | some x => rfl
    | none =>
      cases h1 : clip S.b S.lim (v, s) p with
      | none => simp
      | some c =>
        cases h2 : clip S.b S.lim (w, t) p with
        | none => simp
        | some d => simp [ha p c d (clip_at h1) (clip_at h2)]
  · refine SS.uniq z.ok y2.ok z.o fun p => ?_
    rw [z.map, clip_up h (by rw [y2.o, y1.o]) (Int.le_trans y1.up y2.up), put2 h]
    cases S.map p with
    | some x => rfl
    | none =>
      cases h2 : clip S.b S.lim (w, t) p with
      | none => simp
      | some d => simp
/-- A piece of a text. -/
def pc (T : List Int) (v n : Nat) : List Int := (T.drop v).take n
theorem pc_at {T : List Int} {v n : Nat} {p c : Int} (h : at1 ((v : Int), pc T v n) p = some c) : T[p.toNat]? = some c := by
  unfold at1 at h
  split at h
  · rename_i hv
    simp only [pc] at h
    rw [List.getElem?_take] at h
    split at h
    · rw [List.getElem?_drop] at h
      rw [← h]; congr 1; simp only at hv; omega
    · cases h
  · cases h
theorem pc_agree {T : List Int} {v n w m : Nat} (p c d : Int) (h1 : at1 ((v : Int), pc T v n) p = some c) (h2 : at1 ((w : Int), pc T w m) p = some d) : c = d := by
  have := (pc_at h1).symm.trans (pc_at h2)
  injection this
theorem pc_len {T : List Int} {v n : Nat} (h : v + n ≤ T.length) : (pc T v n).length = n := by simp [pc]; omega
theorem pc_cut {T : List Int} {v n : Nat} (h : v + n ≤ T.length) (k : IntKind) : D.cutS (str T) (some (.v (.int k (v : Nat)))) (some (.v (.int .i64 ((v : Int) + (n : Int))))) = some (str (pc T v n)) := by
  rw [cutS_str T (a := (v : Nat)) (b := (v : Int) + n) rfl rfl (by omega) (by omega) (by omega)]
  rw [show ((v : Int) + n).toNat - (v : Int).toNat = n by omega, Int.toNat_natCast]; rfl
theorem W.lim_up {lim lim' : Int} : ∀ {l : List Pt} {b : Int}, W lim b l → lim ≤ lim' → W lim' b l
  | [], _, _, _ => trivial
  | p :: l, b, h, hl => ⟨h.1, h.2.1, by have := h.2.2.1; omega, h.2.2.2.lim_up hl⟩
def readF (S : SS) (k : Int) : SS := ⟨S.b, S.r.drop (readN S.b S.r S.ps k), S.ps⟩
theorem read_n {S : SS} (h : S.Ok) {k : Int} (hk : 0 ≤ k) : readN S.b S.r S.ps k = min k.toNat S.r.length := by
  unfold readN
  by_cases h1 : 1 ≤ k
  · rw [if_pos ⟨chk_ok.2 h, h1⟩]
  · rw [if_neg (by omega)]; omega
theorem read_ok {S : SS} (h : S.Ok) {k : Int} (hk : 0 ≤ k) : (readF S k).Ok ∧ (readF S k).o = S.o + (min k.toNat S.r.length : Nat) := by
  have e := read_n h hk
  have ho : (readF S k).o = S.o + (min k.toNat S.r.length : Nat) := by
    simp only [readF, SS.o, e, List.length_drop]; omega
  have h0 := h.b0
  have h1 := h.b1
  have h2 := h.r
  have hl : S.lim ≤ (readF S k).lim := by rw [SS.lim_o, SS.lim_o, ho]; omega
  exact ⟨⟨by omega, h1, by simp only [readF, List.length_drop]; omega, h.w.lim_up hl⟩, ho⟩
-- arrays of bytes
def au (A : List Int) : D := .sl 1 (ints .u8 A)
theorem au_zero (n : Nat) : zrow n (.int .u8 0) = au (List.replicate n 0) := by simp [zrow, au, ints]
theorem au_get {A : List Int} {k : Nat} (h : k < A.length) : (au A).at_ (.v (.int .i64 (k : Nat))) = .v (.int .u8 (A.getD k 0)) := IsL.at_ints (zs := A) (kd := .u8) (x := au A) (.inl rfl) h
theorem au_inb {A : List Int} {k : Nat} (h : k < A.length) : D.inb 1 (au A) (.v (.int .i64 (k : Nat))) := IsL.inb_ints (zs := A) (kd := .u8) (x := au A) (.inl rfl) h
theorem au_set {A : List Int} {k : Nat} (h : k < A.length) (v : Int) : (au A).setAt (.v (.int .i64 (k : Nat))) 0 [.v (.int .u8 v)] = au (A.set k v) := by
  simp [au, D.setAt, D.splice, ints, List.getD, h, List.map_set]
theorem au_arr {A : List Int} {n : Nat} (h : A.length = n) : ∃ es, au A = .sl 1 es ∧ es.length = n := ⟨_, rfl, by simp [ints, h]⟩
theorem au_str (A : List Int) : (au A).toStr = some (str A) := toStr_is (.inl rfl)
/-- The first k cells of an array are a text's. -/
structure TxI (tx : Nat → Int) (n k : Nat) (A : List Int) : Prop where
  len : A.length = n
  at' : ∀ j, j < k → A.getD j 0 = tx j
theorem TxI.zero (tx : Nat → Int) (n : Nat) : TxI tx n 0 (List.replicate n 0) := ⟨by simp, fun j h => by omega⟩
theorem TxI.step {tx : Nat → Int} {n k : Nat} {A : List Int} (h : TxI tx n k A) (hk : k < n) : TxI tx n (k + 1) (A.set k (tx k)) := by
  refine ⟨by rw [List.length_set]; exact h.len, fun j hj => ?_⟩
  by_cases e : j = k
  · subst e; simp [List.getD, h.len, hk]
  · have := h.at' j (by omega)
    rw [← this]
    simp [List.getD, List.getElem?_set, show k ≠ j from fun h => e h.symm]
def txt (tx : Nat → Int) (n : Nat) : List Int := (List.range n).map tx
theorem TxI.all {tx : Nat → Int} {n : Nat} {A : List Int} (h : TxI tx n n A) : A = txt tx n := by
  refine List.ext_getElem (by simp [txt, h.len]) fun i h1 h2 => ?_
  have := h.at' i (by simpa [txt] using h2)
  simp only [List.getD_eq_getElem?_getD, List.getElem?_eq_getElem h1, Option.getD_some] at this
  simp [txt, this]
theorem txt_bytes {tx : Nat → Int} {n : Nat} (h : ∀ i, 0 ≤ tx i ∧ tx i < 256) : Bytes (txt tx n) := by
  intro z hz
  obtain ⟨i, _, rfl⟩ := List.mem_map.1 hz
  exact h i
theorem txt_len (tx : Nat → Int) (n : Nat) : (txt tx n).length = n := by simp [txt]
-- deeds
abbrev Ac := Nat × Nat × Nat
def acD (a : Ac) : D := .agg [.v (.int .u8 (a.1 : Nat)), .v (.int .u8 (a.2.1 : Nat)), .v (.int .u8 (a.2.2 : Nat))]
def AcB (a : Ac) : Prop := a.1 < 256 ∧ a.2.1 < 256 ∧ a.2.2 < 256
theorem ac_get {l : List Ac} {x : D} (h : IsL 3 (l.map acD) x) {k : Nat} (hk : k < l.length) : x.at_ (.v (.int .i64 (k : Nat))) = acD (l.getD k (0, 0, 0)) := by
  rw [h.at_]; simp [List.getD, hk]
theorem ac_inb {l : List Ac} {x : D} (h : IsL 3 (l.map acD) x) {k : Nat} (hk : k < l.length) : D.inb 3 x (.v (.int .i64 (k : Nat))) := h.inb (by omega) (by rw [List.length_map]; omega)
theorem ac_b {l : List Ac} (h : ∀ a ∈ l, AcB a) {k : Nat} (hk : k < l.length) : AcB (l.getD k (0, 0, 0)) := h _ (by simp [List.getD, hk])
theorem cells_ac {ds : List D} (h : All2 Typed [.int .u8, .int .u8, .int .u8] ds) : ∃ a : Ac, D.agg ds = acD a ∧ AcB a := by
  obtain ⟨a, ds, rfl, ha, h⟩ := h.cons_
  obtain ⟨b, ds, rfl, hb, h⟩ := h.cons_
  obtain ⟨c, ds, rfl, hc, h⟩ := h.cons_
  obtain rfl := h.nil_
  obtain ⟨p, rfl, wp⟩ := ha.int_
  obtain ⟨q, rfl, wq⟩ := hb.int_
  obtain ⟨r, rfl, wr⟩ := hc.int_
  have wp := wf_u8 wp
  have wq := wf_u8 wq
  have wr := wf_u8 wr
  obtain ⟨p, rfl⟩ := Int.eq_ofNat_of_zero_le wp.1
  obtain ⟨q, rfl⟩ := Int.eq_ofNat_of_zero_le wq.1
  obtain ⟨r, rfl⟩ := Int.eq_ofNat_of_zero_le wr.1
  exact ⟨(p, q, r), rfl, by simp only [AcB]; omega⟩
theorem typed_acs {d : D} (h : Typed (.sl true [.int .u8, .int .u8, .int .u8]) d) : ∃ l : List Ac, IsL 3 (l.map acD) d ∧ ∀ a ∈ l, AcB a := by
  obtain ⟨es, h1, _, h3⟩ := h.row
  obtain ⟨l, rfl, hl⟩ := map_of (f := acD) (p := AcB) (es := es) (fun e he => by
    obtain ⟨hag, hc⟩ := h3 e he
    cases e with
    | agg l => exact cells_ac hc
    | v x => cases hag
    | sl sz l => cases hag
    | fn _ _ => cases hag
    | pt _ => cases hag)
  exact ⟨l, h1, hl⟩
end Go.Proofs.Ytjdemohgegldaaa
