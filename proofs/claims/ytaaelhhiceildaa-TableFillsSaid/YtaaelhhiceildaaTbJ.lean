/- Layer 13: values copied within a row. -/
import Derived.Test.YtaaelhhiceildaaTbD
import Derived.Laws.CopyOwn
namespace Go.Proofs.Ytaaelhhiceildaa
open Go.RowKit Go.Joins M1
set_option linter.unusedVariables false
theorem run_copy5 {P : Program} (w : World) (dT sT ty elem : TypeId) (g o dLen dCap : Nat) (a : Addr) (sLen sCap : Nat) (cur : Array Value) (t : TypeId) (cs : List Value)
    (hu : P.underlying dT = some (.slice elem)) (hs : (P.info? elem).map (·.size) = some 5)
    (hg : w.heap[g]? = some (.cells cur t (0, 0))) (hn : cs.length = Nat.min sLen dLen * 5)
    (hsrc : ∀ j v, cs[j]? = some v → w.cell? (a.add j) = some v) (hfit : o + cs.length ≤ cur.size) (h1 : ∀ v ∈ cs, v.oneCell' = true) :
    (Builtin.copy_ #[dT, sT] ty #[.slice (some ⟨g, o, none⟩) dLen dCap, .slice (some a) sLen sCap]).run P w =
      .ok (goInt (Nat.min sLen dLen)) (w.setRow g (cur.toList.take o ++ cs ++ cur.toList.drop (o + cs.length)).toArray) := by
  have hl := run_loadCells_list (P := P) w a cs hsrc
  have hst := run_storeCells_at P g o t cs 0 cur w hg (by simpa using hfit) h1
  cases hq : P.info? elem with
  | none => simp [hq] at hs
  | some i =>
    have hi : i.size = 5 := by simpa [hq] using hs
    simp [Builtin.copy_, run_underlying hu, Builtin.lenOf, Builtin.firstCells, sizeOf, typeInfo, hq, hi, ← hn, hl, hst]
theorem wpList_copy5 {P : Program} {w : World} {ops : Array Oper} {rest : List Oper} {o : Oper} {a : Act} {Q : Exit → Act → World → Prop} (hgd : o.guard = none) (d s : Operand) (t t' : TypeId)
    (ho : o.op = .call { callee := .builtin .copy, args := #[d, s], argTypes := #[t, t'] }) (v u : Value) (hd : a.eval d = v) (hs : a.eval s = u) {v' : Value} {w' : World}
    (hr : (Builtin.copy_ #[t, t'] o.type #[v, u]).run P w = .ok v' w') (h : wpList P ops Q rest (a.put o.dst v') w') : wpList P ops Q (o :: rest) a w := by
  refine wpList_plain hgd fun _ hK => ?_
  unfold Oper.wp execOp
  simp only [ho, resolve, invoke, builtin, Sem.run_bind, Sem.run_pure, Result.andThen_ok, List.map_toArray, List.map_cons, List.map_nil, hd, hs, hr]
  exact hK _ _ h
end Go.Proofs.Ytaaelhhiceildaa
namespace Go.Proofs.Ytaaelhhiceildaa
open Go.RowKit Go.Joins M1
set_option linter.unusedVariables false
theorem drop_flat (l : List V5) (n : Nat) : (l.drop n).flatMap vC = (l.flatMap vC).drop (n * 5) := by
  induction l generalizing n with
  | nil => simp
  | cons x l ih =>
    cases n with
    | zero => simp
    | succ n =>
      have h1 : (vC x).drop ((n + 1) * 5) = [] := List.drop_of_length_le (by rw [vC_len]; omega)
      rw [List.drop_succ_cons, List.flatMap_cons, ih, List.drop_append, vC_len, h1, show (n + 1) * 5 - 5 = n * 5 by omega, List.nil_append]
theorem flat5_len (l : List V5) : (l.flatMap vC).length = l.length * 5 := by
  induction l with
  | nil => rfl
  | cons x l ih => rw [List.flatMap_cons, List.length_append, ih, vC_len, List.length_cons]; omega
theorem vC_onel (l : List V5) : ∀ u ∈ l.flatMap vC, u.oneCell' = true := fun u hu => by
  obtain ⟨x, _, hx⟩ := List.mem_flatMap.1 hu
  exact vC_one x u hx
theorem ch_row {g : Nat} (w : World) (cs : Array Value) : Ch [g] w (w.setRow g cs) :=
  ⟨rfl, rfl, rfl, by simp [World.setRow], fun k hk hn => setRow_other w g k cs (by simp at hn; exact hn)⟩
/-- A part of the values, laid anew somewhere within the row. -/
theorem Tb.laid {B t b g cap : Nat} {v m : Value} {s : TS} {w : World} (h : Tb B t (.slice (some ⟨g, 0, none⟩) s.arr.length cap) b v m s w) (o : Nat) (X : List V5) (ho : o + X.length ≤ s.arr.length) :
    ∃ cur : Array Value, w.heap[g]? = some (.cells cur 26 (0, 0)) ∧ s.arr.length * 5 ≤ cur.size ∧ cur.toList.take (s.arr.length * 5) = s.arr.flatMap vC ∧
    Tb B t (.slice (some ⟨g, 0, none⟩) s.arr.length cap) b v m ⟨s.arr.take o ++ X ++ s.arr.drop (o + X.length), s.bl, s.R, s.st⟩ (w.setRow g (cur.toList.take (o * 5) ++ X.flatMap vC ++ cur.toList.drop (o * 5 + (X.flatMap vC).length)).toArray) := by
  obtain ⟨h1, h2⟩ := h.row
  rcases h2 with ⟨e1, _⟩ | ⟨g', cap', cur, e1, q1, q2, q3, q4, q5, q6⟩
  · injection e1 with e1; cases e1
  injection e1 with e1 e2 e3
  injection e1 with e1
  injection e1 with e1
  subst e1; subst e3
  have hgt : g ≠ t := (h.apr g (mem_ob.2 rfl)).1
  have hgo : g ∉ omS b v m := (h.apr g (mem_ob.2 rfl)).2
  have hsz : s.arr.length * 5 ≤ cur.size := by rw [q5]; exact Nat.mul_le_mul_right 5 q3
  refine ⟨cur, q2, hsz, q6, ?_⟩
  have hc : Ch [g] w (w.setRow g (cur.toList.take (o * 5) ++ X.flatMap vC ++ cur.toList.drop (o * 5 + (X.flatMap vC).length)).toArray) := ch_row w _
  have hXl := flat5_len X
  have hal : (s.arr.take o ++ X ++ s.arr.drop (o + X.length)).length = s.arr.length := by simp; omega
  refine ⟨h.blk.ch hc (by simp; exact fun e => hgt e.symm), h.lo, ?_, h.om.ch hc (fun y hy => by simp; intro e; subst e; exact hgo hy), h.apt, h.apr, by show s.bl ≤ _; rw [hal]; exact h.bnd⟩
  show World.ownsRow _ B _ 5 _ _ _
  rw [hal]
  refine ⟨by rw [flat5_len, hal], Or.inr ⟨g, cap, _, rfl, q1, setRow_heap w g cur _ _ _ q2, q3, q4, ?_, ?_⟩⟩
  · have hq : cur.toList.length = cap * 5 := by simpa using q5
    rw [List.size_toArray, List.length_append, List.length_append, List.length_take, List.length_drop, hq, hXl]
    omega
  · have hcl : cur.toList.length = cap * 5 := by simpa using q5
    rw [List.flatMap_append, List.flatMap_append, take_flat, drop_flat, ← q6]
    simp only [List.take_take, List.drop_take]
    rw [List.take_append, List.take_append, List.length_append, hXl, List.length_take, hcl]
    rw [List.take_take]
    have a1 : min (s.arr.length * 5) (o * 5) = o * 5 := by omega
    have a2 : min (o * 5) (s.arr.length * 5) = o * 5 := by omega
    have a3 : min (o * 5) (cap * 5) = o * 5 := by omega
    rw [a1, a2, a3, List.take_of_length_le (l := X.flatMap vC) (by rw [hXl]; omega)]
    congr 1
    rw [show s.arr.length * 5 - (o * 5 + X.length * 5) = s.arr.length * 5 - (o + X.length) * 5 by omega, show o * 5 + X.length * 5 = (o + X.length) * 5 by omega]
end Go.Proofs.Ytaaelhhiceildaa
namespace Go.Proofs.Ytaaelhhiceildaa
open Go.RowKit Go.Joins M1
set_option linter.unusedVariables false
theorem src_at {B t b g cap : Nat} {v m : Value} {s : TS} {w : World} (h : Tb B t (.slice (some ⟨g, 0, none⟩) s.arr.length cap) b v m s w) (j K : Nat) (hj : j + K ≤ s.arr.length) : ∀ q u, (((s.arr.drop j).take K).flatMap vC)[q]? = some u → w.cell? ((⟨g, j * 5, none⟩ : Addr).add q) = some u := by
  intro q u hu
  rw [take_flat, drop_flat, List.getElem?_take] at hu
  split at hu
  · rename_i hq
    rw [List.getElem?_drop] at hu
    have ha : (⟨g, j * 5, none⟩ : Addr).add q = ⟨g, j * 5 + q, none⟩ := by unfold Addr.add; split <;> simp_all
    rw [ha, h.row.cellAt (j * 5 + q) (by omega)]
    exact hu
  · cases hu
set_option maxHeartbeats 4000000 in
theorem shup_2 {B t b g cap : Nat} {v m : Value} {s : TS} {w : World} (h : Tb B t (.slice (some ⟨g, 0, none⟩) s.arr.length cap) b v m s w) (j L : Nat) (hj : j + L ≤ s.arr.length) (hL : 2 ≤ L) (hn : s.arr.length ≤ 1000000) :
    Calls Try.prog 42 #[.slice (some ⟨g, j * 5, none⟩) L L] w fun e w' => e = .returned (.tuple #[]) ∧ Tb B t (.slice (some ⟨g, 0, none⟩) s.arr.length cap) b v m ⟨s.arr.take (j + 1) ++ (s.arr.drop j).take (L - 1) ++ s.arr.drop (j + L), s.bl, s.R, s.st⟩ w' ∧ Ch [g] w w' := by
  obtain ⟨i0, hi0, jz0, jz1, jz2⟩ := info_parts info_val
  have hl1 : (1 : Int) ≤ (L : Int) := by omega
  have hl2 : ¬ (L : Int) = 1 := by omega
  have hXl : (((s.arr.drop j).take (L - 1))).length = L - 1 := by simp; omega
  have hXf : ((((s.arr.drop j).take (L - 1))).flatMap vC).length = (L - 1) * 5 := by rw [flat5_len, hXl]
  obtain ⟨cur, c1, c2, c3, hT⟩ := h.laid (j + 1) ((s.arr.drop j).take (L - 1)) (by rw [hXl]; omega)
  have hr := run_copy5 (P := Try.prog) w 45 45 3 26 g (j * 5 + 5) (L - 1) (L - 1) ⟨g, j * 5, none⟩ L L cur 26 ((((s.arr.drop j).take (L - 1))).flatMap vC) Try.underlying45 (by rw [hi0]; simp [jz1]) c1 (by rw [hXf]; congr 1; exact (by simp only [Nat.min_def]; split <;> omega)) (src_at h j (L - 1) (by omega)) (by rw [hXf]; omega) (vC_onel _)
  rw [show (j + 1) * 5 = j * 5 + 5 by omega, hXl, show (j + 1) + (L - 1) = j + L by omega] at hT
  have HT := Lib.hid (And.intro hT (ch_row (g := g) w (cur.toList.take (j * 5 + 5) ++ (((s.arr.drop j).take (L - 1))).flatMap vC ++ cur.toList.drop (j * 5 + 5 + ((((s.arr.drop j).take (L - 1))).flatMap vC).length)).toArray))
  clear hT c1 c2 c3 hXl hXf h
  generalize (w.setRow g (cur.toList.take (j * 5 + 5) ++ (((s.arr.drop j).take (L - 1))).flatMap vC ++ cur.toList.drop (j * 5 + 5 + ((((s.arr.drop j).take (L - 1))).flatMap vC).length)).toArray) = W1 at *
  go_enter Try.func42, Try.ntmps42
  go_wp2
  go_end0
  exact ⟨rfl, HT.out⟩
set_option maxHeartbeats 4000000 in
theorem shdn_2 {B t b g cap : Nat} {v m : Value} {s : TS} {w : World} (h : Tb B t (.slice (some ⟨g, 0, none⟩) s.arr.length cap) b v m s w) (j L : Nat) (hj : j + L ≤ s.arr.length) (hL : 2 ≤ L) (hn : s.arr.length ≤ 1000000) :
    Calls Try.prog 43 #[.slice (some ⟨g, j * 5, none⟩) L L] w fun e w' => e = .returned (.tuple #[]) ∧ Tb B t (.slice (some ⟨g, 0, none⟩) s.arr.length cap) b v m ⟨s.arr.take j ++ (s.arr.drop (j + 1)).take (L - 1) ++ s.arr.drop (j + (L - 1)), s.bl, s.R, s.st⟩ w' ∧ Ch [g] w w' := by
  obtain ⟨i0, hi0, jz0, jz1, jz2⟩ := info_parts info_val
  have hl1 : (1 : Int) ≤ (L : Int) := by omega
  have hl2 : ¬ (L : Int) = 1 := by omega
  have hXl : (((s.arr.drop (j + 1)).take (L - 1))).length = L - 1 := by simp; omega
  have hXf : ((((s.arr.drop (j + 1)).take (L - 1))).flatMap vC).length = (L - 1) * 5 := by rw [flat5_len, hXl]
  obtain ⟨cur, c1, c2, c3, hT⟩ := h.laid j ((s.arr.drop (j + 1)).take (L - 1)) (by rw [hXl]; omega)
  have hr := run_copy5 (P := Try.prog) w 45 45 3 26 g (j * 5) L L ⟨g, j * 5 + 5, none⟩ (L - 1) (L - 1) cur 26 ((((s.arr.drop (j + 1)).take (L - 1))).flatMap vC) Try.underlying45 (by rw [hi0]; simp [jz1]) c1 (by rw [hXf]; congr 1; exact (by simp only [Nat.min_def]; split <;> omega)) (by have := src_at h (j + 1) (L - 1) (by omega); rw [show (j + 1) * 5 = j * 5 + 5 by omega] at this; exact this) (by rw [hXf]; omega) (vC_onel _)
  rw [show j * 5 = j * 5 by omega, hXl, show j + (L - 1) = j + (L - 1) by omega] at hT
  have HT := Lib.hid (And.intro hT (ch_row (g := g) w (cur.toList.take (j * 5) ++ (((s.arr.drop (j + 1)).take (L - 1))).flatMap vC ++ cur.toList.drop (j * 5 + ((((s.arr.drop (j + 1)).take (L - 1))).flatMap vC).length)).toArray))
  clear hT c1 c2 c3 hXl hXf h
  generalize (w.setRow g (cur.toList.take (j * 5) ++ (((s.arr.drop (j + 1)).take (L - 1))).flatMap vC ++ cur.toList.drop (j * 5 + ((((s.arr.drop (j + 1)).take (L - 1))).flatMap vC).length)).toArray) = W1 at *
  go_enter Try.func43, Try.ntmps43
  go_wp2
  go_end0
  exact ⟨rfl, HT.out⟩
end Go.Proofs.Ytaaelhhiceildaa
namespace Go.Proofs.Ytaaelhhiceildaa
open Go.RowKit Go.Joins M1
set_option linter.unusedVariables false
theorem run_copy_none5 {P : Program} (w : World) (dT sT ty elem : TypeId) (d a : Option Addr) (dLen dCap sLen sCap : Nat) (hu : P.underlying dT = some (.slice elem)) (hs : (P.info? elem).map (·.size) = some 5) (hn : Nat.min sLen dLen = 0) :
    (Builtin.copy_ #[dT, sT] ty #[.slice d dLen dCap, .slice a sLen sCap]).run P w = .ok (goInt 0) w := by
  cases hq : P.info? elem with
  | none => simp [hq] at hs
  | some i =>
    have hl : ∀ (x : Addr), (loadCells x 0).run P w = .ok #[] w := fun x => by simpa using run_loadCells_list (P := P) w x [] (by simp)
    cases d <;> cases a <;> simp [Builtin.copy_, run_underlying hu, Builtin.lenOf, Builtin.firstCells, sizeOf, typeInfo, hq, hn, storeCells, hl]
set_option maxHeartbeats 4000000 in
theorem shup_1 (g j : Nat) (w : World) :
    Calls Try.prog 42 #[.slice (some ⟨g, j * 5, none⟩) 1 1] w fun e w' => e = .returned (.tuple #[]) ∧ w' = w := by
  obtain ⟨i0, hi0, jz0, jz1, jz2⟩ := info_parts info_val
  have hr : ∀ (d a : Option Addr) (dc sc : Nat), (Builtin.copy_ #[45, 45] 3 #[.slice d 0 dc, .slice a 1 sc]).run Try.prog w = .ok (goInt 0) w := fun d a dc sc => run_copy_none5 w _ _ _ 26 _ _ _ _ _ _ Try.underlying45 (by rw [hi0]; simp [jz1]) (by decide)
  go_enter Try.func42, Try.ntmps42
  go_wp2
  go_end0
  exact ⟨rfl, rfl⟩
set_option maxHeartbeats 4000000 in
theorem shdn_1 (g j : Nat) (w : World) :
    Calls Try.prog 43 #[.slice (some ⟨g, j * 5, none⟩) 1 1] w fun e w' => e = .returned (.tuple #[]) ∧ w' = w := by
  obtain ⟨i0, hi0, jz0, jz1, jz2⟩ := info_parts info_val
  have hr : ∀ (d a : Option Addr) (dc sc : Nat), (Builtin.copy_ #[45, 45] 3 #[.slice a 1 sc, .slice d 0 dc]).run Try.prog w = .ok (goInt 0) w := fun d a dc sc => run_copy_none5 w _ _ _ 26 _ _ _ _ _ _ Try.underlying45 (by rw [hi0]; simp [jz1]) (by decide)
  go_enter Try.func43, Try.ntmps43
  go_wp2
  go_end0
  exact ⟨rfl, rfl⟩
theorem shup_any {B t b g cap : Nat} {v m : Value} {s : TS} {w : World} (h : Tb B t (.slice (some ⟨g, 0, none⟩) s.arr.length cap) b v m s w) (j L : Nat) (hj : j + L ≤ s.arr.length) (hL : 1 ≤ L) (hn : s.arr.length ≤ 1000000) :
    Calls Try.prog 42 #[.slice (some ⟨g, j * 5, none⟩) L L] w fun e w' => e = .returned (.tuple #[]) ∧ Tb B t (.slice (some ⟨g, 0, none⟩) s.arr.length cap) b v m ⟨s.arr.take (j + 1) ++ (s.arr.drop j).take (L - 1) ++ s.arr.drop (j + L), s.bl, s.R, s.st⟩ w' ∧ Ch [g] w w' := by
  by_cases h2 : 2 ≤ L
  · exact shup_2 h j L hj h2 hn
  · obtain rfl : L = 1 := by omega
    refine (shup_1 g j w).mono ?_
    rintro e w' ⟨rfl, rfl⟩
    refine ⟨rfl, ?_, Ch.refl _ _⟩
    have e : s.arr.take (j + 1) ++ (s.arr.drop j).take (1 - 1) ++ s.arr.drop (j + 1) = s.arr := by simp
    rw [e]
    exact h
theorem shdn_any {B t b g cap : Nat} {v m : Value} {s : TS} {w : World} (h : Tb B t (.slice (some ⟨g, 0, none⟩) s.arr.length cap) b v m s w) (j L : Nat) (hj : j + L ≤ s.arr.length) (hL : 1 ≤ L) (hn : s.arr.length ≤ 1000000) :
    Calls Try.prog 43 #[.slice (some ⟨g, j * 5, none⟩) L L] w fun e w' => e = .returned (.tuple #[]) ∧ Tb B t (.slice (some ⟨g, 0, none⟩) s.arr.length cap) b v m ⟨s.arr.take j ++ (s.arr.drop (j + 1)).take (L - 1) ++ s.arr.drop (j + (L - 1)), s.bl, s.R, s.st⟩ w' ∧ Ch [g] w w' := by
  by_cases h2 : 2 ≤ L
  · exact shdn_2 h j L hj h2 hn
  · obtain rfl : L = 1 := by omega
    refine (shdn_1 g j w).mono ?_
    rintro e w' ⟨rfl, rfl⟩
    refine ⟨rfl, ?_, Ch.refl _ _⟩
    have e : s.arr.take j ++ (s.arr.drop (j + 1)).take (1 - 1) ++ s.arr.drop (j + (1 - 1)) = s.arr := by simp
    rw [e]
    exact h
end Go.Proofs.Ytaaelhhiceildaa
