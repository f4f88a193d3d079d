/- Layer 19: places, lists of places. -/
import Derived.Test.YtimblnhigoggpaaDoorStV
import Derived.Lib.BufferMore
import Derived.Laws.AppendOwnNone
import Derived.Deep.DeepCutAuto
import Derived.Deep.CutBlock
import Derived.Maps.AppendAt
import Derived.Laws.MakeOwn
import Derived.OwnWalk
namespace Go.Proofs.YtimblnhigoggpaaDoor
open Go.RowKit Go.Joins M1
set_option linter.unusedVariables false
structure Pl where
  n : ByteArray
  l : Int
  t : Bool
deriving DecidableEq
def plz : Pl := ⟨⟨#[]⟩, 0, false⟩
def pC (p : Pl) : List Value := [.string p.n, .int .i64 p.l, .bool p.t]
theorem pC_len (p : Pl) : (pC p).length = 3 := rfl
theorem info_pl : (Tryd.prog.info? 44).map (fun i => (i.zero, i.size, i.bytes)) = some (some (.agg #[.string ⟨#[]⟩, .int .i64 0, .bool false]), 3, 32) := by kernel_rfl
theorem pC_one (x : Pl) : ∀ u ∈ pC x, u.oneCell' = true := by
  intro u hu
  simp [pC] at hu
  rcases hu with rfl | rfl | rfl <;> rfl
theorem pC_onel (l : List Pl) : ∀ u ∈ l.flatMap pC, u.oneCell' = true := fun u hu => by
  obtain ⟨x, _, hx⟩ := List.mem_flatMap.1 hu
  exact pC_one x u hx
theorem flat3_len (l : List Pl) : (l.flatMap pC).length = l.length * 3 := by
  induction l with
  | nil => rfl
  | cons x l ih => rw [List.flatMap_cons, List.length_append, ih, pC_len, List.length_cons]; omega
theorem neqIn_pl (a c : Pl) (n : Nat) (w : World) : (Op.equalIn (n + 2) 44 (.agg #[.string a.n, .int .i64 a.l, .bool a.t]) (.agg #[.string c.n, .int .i64 c.l, .bool c.t])).run Tryd.prog w = .ok (decide (a = c)) w := by
  have hf : (Tryd.prog.fieldsOf 44).toList.map (fun f => (f.name, f.type, f.offset)) = [("Name", 9, 0), ("Line", 3, 1), ("Tail", 4, 2)] := by kernel_rfl
  have p0 : ∀ (s : ByteArray) (x : Int) (b : Bool) (w : World), (part 9 #[.string s, .int .i64 x, .bool b] 0).run Tryd.prog w = .ok (.string s) w := fun _ _ _ _ => by kernel_rfl
  have p1 : ∀ (s : ByteArray) (x : Int) (b : Bool) (w : World), (part 3 #[.string s, .int .i64 x, .bool b] 1).run Tryd.prog w = .ok (.int .i64 x) w := fun _ _ _ _ => by kernel_rfl
  have p2 : ∀ (s : ByteArray) (x : Int) (b : Bool) (w : World), (part 4 #[.string s, .int .i64 x, .bool b] 2).run Tryd.prog w = .ok (.bool b) w := fun _ _ _ _ => by kernel_rfl
  have hI : Tryd.prog.underlying 3 = some (.int .i64) := by kernel_rfl
  have hS : Tryd.prog.underlying 9 = some .string := by kernel_rfl
  have hB : ∀ (x y : Bool) (w : World), (Op.equalIn (n + 1) 4 (.bool x) (.bool y)).run Tryd.prog w = .ok (x == y) w := fun _ _ _ => by kernel_rfl
  rw [run_equalIn_struct (P := Tryd.prog) w (n + 1) 44 _ _ (by kernel_rfl) (by kernel_rfl)]
  generalize (Tryd.prog.fieldsOf 44).toList = F at hf
  rcases F with _ | ⟨f0, _ | ⟨f1, _ | ⟨f2, _ | ⟨x, F⟩⟩⟩⟩
  · simp at hf
  · simp at hf
  · simp at hf
  · simp at hf
    obtain ⟨⟨a1, a2, a3⟩, ⟨b1, b2, b3⟩, c1, c2, c3⟩ := hf
    unfold Op.eqFields
    simp only [a1, a2, a3, Sem.run_ite, Sem.run_bind, p0, Result.andThen_ok, run_equalIn_string w n _ a.n c.n hS, beqS]
    unfold Op.eqFields
    simp only [b1, b2, b3, Sem.run_ite, Sem.run_bind, p1, Result.andThen_ok, run_equalIn_int w n _ .i64 .i64 a.l c.l hI]
    unfold Op.eqFields
    simp only [c1, c2, c3, Sem.run_ite, Sem.run_bind, p2, Result.andThen_ok, hB]
    unfold Op.eqFields
    obtain ⟨n1, l1, t1⟩ := a
    obtain ⟨n2, l2, t2⟩ := c
    simp only
    by_cases h1 : n1 = n2
    · by_cases h2 : l1 = l2
      · by_cases h3 : t1 = t2
        · subst h1 h2 h3; simp
        · have : (t1 == t2) = false := by simpa using h3
          subst h1 h2; simp [this, h3]
      · have : (l1 == l2) = false := by simpa using h2
        subst h1; simp [this, h2]
    · simp [h1]
  · simp at hf
theorem neq_pl (a c : Pl) (w : World) : (binOp .neq 44 (.agg #[.string a.n, .int .i64 a.l, .bool a.t]) (.agg #[.string c.n, .int .i64 c.l, .bool c.t])).run Tryd.prog w = .ok (.bool (!decide (a = c))) w := by
  rw [run_neq_struct, neqIn_pl _ _ 9998, Result.andThen_ok]
/-- Values that can be read. -/
structure PlA (w : World) (v : Value) (l : List Pl) : Prop where
  form : ∃ p c, v = .slice p l.length c ∧ (0 < l.length → ∃ g o, p = some ⟨g, o, none⟩ ∧ g < w.heap.size ∧ ∀ (j m : Nat) (hj : j < l.length), m < 3 → w.cell? ⟨g, o + j * 3 + m, none⟩ = (pC l[j])[m]?)
theorem pls_nil (w : World) (c : Nat) : PlA w (.slice none 0 c) [] := ⟨_, _, rfl, fun h => absurd h (by decide)⟩
theorem PlA.below {w w' : World} {v : Value} {l : List Pl} (h : PlA w v l) (hb : Ch [] w w') : PlA w' v l := by
  obtain ⟨p, c, rfl, h2⟩ := h.form
  refine ⟨p, c, rfl, fun h0 => ?_⟩
  obtain ⟨g, o, h3, h4, h5⟩ := h2 h0
  exact ⟨g, o, h3, Nat.lt_of_lt_of_le h4 hb.size, fun j m hj hm => (hb.below.cell (p := ⟨g, _, none⟩) h4).trans (h5 j m hj hm)⟩
theorem PlA.of_row {w : World} {B : Nat} {v : Value} {l : List Pl} (h : w.ownsRow B 44 3 v l.length (l.flatMap pC)) : PlA w v l := by
  rcases Joins.ownsRow_forms h with ⟨h1, h2⟩ | ⟨g, cap, h1⟩
  · exact ⟨none, 0, by rw [h1, h2], fun h0 => by omega⟩
  · refine ⟨some ⟨g, 0, none⟩, cap, h1, fun _ => ⟨g, 0, rfl, (own_lo h (mem_ob.2 (by rw [h1]; rfl))).2, fun j m hj hm => ?_⟩⟩
    rw [h1] at h
    rw [Nat.zero_add, h.cellAt (j * 3 + m) (by omega), flat_at pC 3 pC_len _ j m hj hm]
theorem PlA.src {w : World} {a : Addr} {n c : Nat} {l : List Pl} (h : PlA w (.slice (some a) n c) l) : ∀ q u, (l.flatMap pC)[q]? = some u → w.cell? (a.add q) = some u := by
  intro q u hu
  obtain ⟨p, c', e, h2⟩ := h.form
  injection e with e1 e2 e3
  subst e1 e3
  have hq : q < l.length * 3 := by
    have := (List.getElem?_eq_some_iff.1 hu).1
    rwa [flat3_len] at this
  obtain ⟨g, o, e, hg, hv⟩ := h2 (by omega)
  obtain rfl : a = ⟨g, o, none⟩ := Option.some.inj e
  have e3 : q / 3 * 3 + q % 3 = q := by omega
  have hf := flat_at pC 3 pC_len l (q / 3) (q % 3) (by omega) (by omega)
  have := hv (q / 3) (q % 3) (by omega) (by omega)
  rw [e3] at hf
  rw [addr_addQ, ← hu, hf, ← this]
  congr 2; omega
theorem PlA.len {w : World} {p : Option Addr} {n c : Nat} {l : List Pl} (h : PlA w (.slice p n c) l) : l.length = n := by
  obtain ⟨p', c', e, _⟩ := h.form
  injection e with e1 e2 e3
  exact e2.symm
theorem prow_cap {w : World} {B g n cap : Nat} {xs : List Value} (h : w.ownsRow B 44 3 (.slice (some ⟨g, 0, none⟩) n cap) n xs) : n ≤ cap := by
  obtain ⟨h1, h2⟩ := h
  rcases h2 with ⟨e1, _⟩ | ⟨g', cap', cur, e1, q1, q2, q3, q4, q5, q6⟩
  · injection e1 with e1; cases e1
  injection e1 with e1 e2 e3
  subst e3
  exact q3
set_option maxHeartbeats 4000000 in
/-- slices.Clone of values. -/
theorem pclone_any (v : Value) (l : List Pl) (w : World) (h : PlA w v l) (hl : l.length ≤ 1000000) :
    Calls Tryd.prog 29 #[v] w fun e w' => (∃ v', e = .returned v' ∧ w'.ownsRow w.heap.size 44 3 v' l.length (l.flatMap pC)) ∧ Below w.heap.size w w' := by
  obtain ⟨i0, hi0, jz0, jz1, jz2⟩ := info_parts info_pl
  obtain ⟨p, c, rfl, _⟩ := h.form
  cases p with
  | none =>
    have h0 : l = [] := by
      obtain ⟨p', c', e, h2⟩ := h.form
      have e1 := (Value.slice.inj e).1
      rcases l with _ | ⟨x, l⟩
      · rfl
      · obtain ⟨_, _, e, _⟩ := h2 (by simp)
        rw [← e1] at e; cases e
    subst h0
    have hq : ∀ W, (binOp .eql 26 (.slice none 0 c) (.slice none 0 0)).run Tryd.prog W = .ok (.bool true) W := fun W => Lib.run_eql_slice_nil_nil W _ _ Tryd.underlying26
    have hq' : ∀ W, (binOp .eql 26 (.slice none ([] : List Pl).length c) (.slice none 0 0)).run Tryd.prog W = .ok (.bool true) W := hq
    go_enter Tryd.func29, Tryd.ntmps29
    go_wp2
    go_ret
    exact ⟨⟨_, rfl, World.ownsRow_nil _ _ _ _⟩, Below.refl _ _⟩
  | some a =>
    have HS : Hid (∀ W, Ch [] w W → ∀ q u, (l.flatMap pC)[q]? = some u → W.cell? (a.add q) = some u) := Lib.hid fun W hW => (h.below hW).src
    have hq : ∀ W, (binOp .eql 26 (.slice (some a) l.length c) (.slice none 0 0)).run Tryd.prog W = .ok (.bool false) W := fun W => Lib.run_eql_slice_some_nil W a _ _ Tryd.underlying26
    clear h
    go_enter Tryd.func29, Tryd.ntmps29
    go_upto_region 3 with fail
    have HN := Lib.hid (World.ownsRow_lit (w := w) #[] 0 (e := 44) (size := 3) (Nat.le_refl _) (Nat.zero_le _) rfl)
    have HC : Hid (Ch [] w (w.alloc (.cells #[] 44))) := Lib.hid ((Ch.refl [] w).alloc _)
    go_wp2_with (at_builtin; refine wpList_append_own_at _ rfl _ _ 26 rfl w.heap.size 44 i0 (.agg #[.string ⟨#[]⟩, .int .i64 0, .bool false]) 3 32 Tryd.underlying26 hi0 jz0 jz1 jz2 rfl (by decide) _ _ _ rfl HN.out a l.length c (l.flatMap pC) rfl (flat3_len l) (HS.out _ HC.out) (pC_onel _) (by unfold maxLen; omega) (by omega) (by simp) ?_)
    intro v5 w5 ho5 hg5 _ _
    have HO5 : Hid (w5.ownsRow w.heap.size 44 3 v5 l.length (l.flatMap pC)) := Lib.hid (by simpa using ho5)
    have HB5 : Hid (Below w.heap.size w w5) := Lib.hid (((Below.refl _ w).alloc (Nat.le_refl _) _).grown hg5 (by simp) (fun q e => (own_lo HN.out (mem_ob.2 e)).1))
    clear ho5 hg5
    go_wp2
    go_ret
    exact ⟨⟨_, rfl, HO5.out⟩, HB5.out⟩
/-- Values are appended to a row. -/
theorem append_pls {ops : Array Oper} {rest : List Oper} {o : Oper} {a : Act} {Q : Exit → Act → World → Prop} {W : World} (hgd : o.guard = none) (s x : Operand)
    (ho : o.op = .call { callee := .builtin .append, args := #[s, x], argTypes := #[26, 26] }) (B : Nat)
    (v : Value) (l1 : List Pl) (hs : a.eval s = v) (hown : W.ownsRow B 44 3 v l1.length (l1.flatMap pC))
    (A : Option Addr) (m c : Nat) (l2 : List Pl) (hx : a.eval x = .slice A m c) (ha : PlA W (.slice A m c) l2) (hc : A = none → c = 0) (hn : l1.length + l2.length ≤ 1000000) (hB : B ≤ W.heap.size)
    (h : ∀ v' W', W'.ownsRow B 44 3 v' (l1 ++ l2).length ((l1 ++ l2).flatMap pC) → Ch (ob v) W W' → (∀ g ∈ ob v', g ∈ ob v ∨ W.heap.size ≤ g) → wpList Tryd.prog ops Q rest (a.put o.dst v') W') : wpList Tryd.prog ops Q (o :: rest) a W := by
  obtain ⟨i0, hi0, jz0, jz1, jz2⟩ := info_parts info_pl
  have hm := ha.len
  subst hm
  rw [List.flatMap_append, List.length_append] at h
  cases A with
  | none =>
    have h0 : l2 = [] := by
      obtain ⟨p', c', e, h2⟩ := ha.form
      injection e with e1 e2 e3
      rcases l2 with _ | ⟨y, l⟩
      · rfl
      · obtain ⟨_, _, e, _⟩ := h2 (by simp)
        rw [← e1] at e; cases e
    subst h0
    have hc0 := hc rfl
    subst hc0
    refine wpList_append_own_none hgd s x 26 ho B 44 i0 3 Tryd.underlying26 hi0 v l1.length _ hs hown hx ?_
    exact h v W (by simpa using hown) (Ch.refl _ _) (fun g hg => .inl hg)
  | some ad =>
    refine wpList_append_own_at _ hgd s x 26 ho B 44 i0 _ 3 32 Tryd.underlying26 hi0 jz0 jz1 jz2 rfl (by decide) v l1.length _ hs hown ad l2.length c (l2.flatMap pC) hx (flat3_len l2) ha.src (pC_onel _) (by unfold maxLen; omega) (by omega) hB ?_
    intro v' W' ho' hg _ hl
    refine h v' W' ho' (Ch.of_grown hg (fun y e => mem_ob.2 e)) (fun g hg2 => ?_)
    rw [mem_ob] at hg2 ⊢
    rcases hl with q | q
    · left; rw [← q]; exact hg2
    · right; rw [q] at hg2; injection hg2 with hg2; omega
theorem take_same {l1 l2 : List Pl} {k : Nat} {x : Pl} (h : l1.take k = l2.take k) (h1 : l1[k]? = some x) (h2 : l2[k]? = some x) : l1.take (k + 1) = l2.take (k + 1) := by
  rw [List.take_add_one, List.take_add_one, h, h1, h2]
set_option maxHeartbeats 2000000 in
theorem pequal_any (a b : Value) (l1 l2 : List Pl) (w : World) (h1 : PlA w a l1) (h2 : PlA w b l2) (hL : l1.length ≤ 1000000) (hL2 : l2.length ≤ 1000000) :
    Calls Tryd.prog 54 #[a, b] w fun e w' => e = .returned (.bool (decide (l1 = l2))) ∧ Ch [] w w' := by
  obtain ⟨p1, c1, rfl, f1⟩ := h1.form
  obtain ⟨p2, c2, rfl, f2⟩ := h2.form
  clear h1 h2
  obtain ⟨res, hres⟩ : ∃ res, res = decide (l1 = l2) := ⟨_, rfl⟩
  rw [← hres]
  have HR := Lib.hid hres
  clear hres
  by_cases hn : l1.length = l2.length
  · have HF1 := Lib.hid f1
    have HF2 := Lib.hid f2
    clear f1 f2
    have HN := Lib.hid hn
    have HL := Lib.hid hL
    rw [← hn]
    clear hn hL hL2
    obtain ⟨n, hn⟩ : ∃ n, n = l1.length := ⟨_, rfl⟩
    have HNN := Lib.hid hn
    rw [← hn]
    clear hn
    go_enter Tryd.func54, Tryd.ntmps54
    go_wp2
    go_loopw [5, 13] (fun _ v13 wr => ∃ k : Nat, k ≤ n ∧ v13 = .int .i64 (k : Int) ∧ Hid (l1.take k = l2.take k) ∧ Hid (Ch [] w wr)) (fun _ v13 _ => n - (intOf v13).toNat)
    case atStart => exact ⟨0, Nat.zero_le _, rfl, Lib.hid rfl, Lib.hid (Ch.refl _ _)⟩
    case round =>
      obtain ⟨k, hk, rfl, HT, HC⟩ := hrel
      rename World => wr
      by_cases hlt : k < n
      · have hlt' : (k : Int) < (n : Int) := by omega
        have hk0 : (0 : Int) ≤ (k : Int) := by omega
        have di : IntKind.i64.wrap ((k : Int) + 1) = (k : Int) + 1 := IntWalk.i64_in _ (by have := HL.out; have := HNN.out; omega)
        have k1' : k < l1.length := by have := HNN.out; omega
        have k2' : k < l2.length := by have := HNN.out; have := HN.out; omega
        obtain ⟨g1, o1, rfl, hg1, k1⟩ := HF1.out (by omega)
        obtain ⟨g2, o2, rfl, hg2, k2⟩ := HF2.out (by omega)
        have hgw1 : g1 < wr.heap.size := Nat.lt_of_lt_of_le hg1 HC.out.size
        have hgw2 : g2 < wr.heap.size := Nat.lt_of_lt_of_le hg2 HC.out.size
        obtain ⟨x, hx⟩ : ∃ x, x = l1[k] := ⟨_, rfl⟩
        obtain ⟨y, hy⟩ : ∃ y, y = l2[k] := ⟨_, rfl⟩
        have m1 : ∀ j, j < 3 → wr.cell? ⟨g1, o1 + k * 3 + j, none⟩ = (pC x)[j]? := fun j hj => (HC.out.below.cell (p := ⟨g1, _, none⟩) hg1).trans (by rw [hx]; exact k1 k j k1' hj)
        have m2 : ∀ j, j < 3 → wr.cell? ⟨g2, o2 + k * 3 + j, none⟩ = (pC y)[j]? := fun j hj => (HC.out.below.cell (p := ⟨g2, _, none⟩) hg2).trans (by rw [hy]; exact k2 k j k2' hj)
        have s0 : wr.cell? ⟨g1, o1 + k * 3, none⟩ = some (.string x.n) := m1 0 (by omega)
        have s1 : wr.cell? ⟨g1, o1 + k * 3 + 1, none⟩ = some (.int .i64 x.l) := m1 1 (by omega)
        have s2 : wr.cell? ⟨g1, o1 + k * 3 + 2, none⟩ = some (.bool x.t) := m1 2 (by omega)
        have q0 : wr.cell? ⟨g2, o2 + k * 3, none⟩ = some (.string y.n) := m2 0 (by omega)
        have q1 : wr.cell? ⟨g2, o2 + k * 3 + 1, none⟩ = some (.int .i64 y.l) := m2 1 (by omega)
        have q2 : wr.cell? ⟨g2, o2 + k * 3 + 2, none⟩ = some (.bool y.t) := m2 2 (by omega)
        have EQ := fun W => neq_pl x y W
        have HX : Hid (l1[k]? = some x ∧ l2[k]? = some y) := Lib.hid ⟨by rw [hx, List.getElem?_eq_getElem k1'], by rw [hy, List.getElem?_eq_getElem k2']⟩
        clear k1 k2 m1 m2 k1' k2' hx hy
        by_cases hxy : x = y
        · have hq : (!decide (x = y)) = false := by simp [hxy]
          rw [hq] at EQ
          clear hq
          have HXY := Lib.hid hxy
          clear hxy
          go_upto_region 6 with fail
          go_region
          go_wp2
          go_roundw
          case rel => exact ⟨k + 1, by omega, by go_num, Lib.hid (take_same HT.out HX.out.1 (by rw [HX.out.2, HXY.out])), Lib.hid (by first | exact HC.out.drewN _ | exact HC.out.drew | exact HC.out)⟩
          case measure => simp [intOf]; omega
        · have hq : (!decide (x = y)) = true := by simp [hxy]
          rw [hq] at EQ
          clear hq
          have HXY := Lib.hid hxy
          clear hxy
          have hne : decide (l1 = l2) = false := by
            rw [decide_eq_false_iff_not]; intro e; subst e
            have h1 := HX.out.1
            rw [HX.out.2] at h1
            injection h1 with h1
            exact HXY.out h1.symm
          have HNE := Lib.hid hne
          clear hne
          go_upto_region 6 with fail
          go_region
          go_wp2
          go_ret
          exact ⟨by rw [HR.out, HNE.out]; rfl, by first | exact HC.out.drewN _ | exact HC.out.drew | exact HC.out⟩
      · have hlt' : ¬ (k : Int) < (n : Int) := by omega
        have hne : decide (l1 = l2) = true := by
          rw [decide_eq_true_eq]
          have := HT.out
          rwa [List.take_of_length_le (by have := HNN.out; omega), List.take_of_length_le (by have := HNN.out; have := HN.out; omega)] at this
        have HNE := Lib.hid hne
        clear hne
        go_wp2
        go_ret
        exact ⟨by rw [HR.out, HNE.out]; rfl, HC.out⟩
  · have hne : decide (l1 = l2) = false := by
      rw [decide_eq_false_iff_not]; intro e; subst e; exact hn rfl
    have HNE := Lib.hid hne
    clear hne
    have hn1 : ¬ (l1.length : Int) = (l2.length : Int) := by omega
    have hn2 : ((l1.length : Int) != (l2.length : Int)) = true := by rw [bne_iff_ne]; exact hn1
    clear f1 f2 hn
    go_enter Tryd.func54, Tryd.ntmps54
    go_wp2
    go_ret
    exact ⟨by rw [HR.out, HNE.out]; rfl, Ch.refl _ _⟩
end Go.Proofs.YtimblnhigoggpaaDoor
