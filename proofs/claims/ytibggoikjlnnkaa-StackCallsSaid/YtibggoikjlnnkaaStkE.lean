/- Layer 17: Put, Copy. -/
import Derived.Test.YtibggoikjlnnkaaStkD
import Derived.Test.YtibggoikjlnnkaaStkM
namespace Go.Proofs.Ytibggoikjlnnkaa
open Go.RowKit Go.Joins M1
set_option linter.unusedVariables false
def atV (l : List V5) (i : Int) : V5 := match absI l.length i with
  | some k => l.getD k v5z
  | none => v5z
def atE (l : List V5) (i : Int) : Int := match absI l.length i with
  | some _ => 0
  | none => 6
def putE (l : List V5) (i : Int) (x : V5) : Int := match absI l.length i with
  | some _ => if okV x = true then 0 else 2
  | none => 6
def putL (l : List V5) (i : Int) (x : V5) : List V5 := match absI l.length i with
  | some k => if okV x = true then l.set k x else l
  | none => l
def absV (l : List V5) (i : Int) : Int := match absI l.length i with
  | some k => (k : Int) + 1
  | none => 0
theorem at_all (B t : Nat) (va : Value) (l : List V5) (lim : Nat) (w : World) (h : Sk 63 B t va l lim w) (i : Int) :
    Calls Try.prog 22 #[.pointer (some ⟨t, 0, none⟩), .int .i64 i] w fun e w' => e = .returned (.tuple #[.agg #[.int .i64 (atV l i).k, .int .i64 (atV l i).p, .int .i64 (atV l i).q, .string (atV l i).s, .int .i64 (atV l i).r], .int .i64 (atE l i)]) ∧ Below w.heap.size w w' := by
  unfold atV atE
  cases he : absI l.length i with
  | none => exact at_none B t va l lim w h i he
  | some k =>
    have hk := absI_lt he
    exact at_some B t va l lim w h i k hk he _ (by simp [List.getD, hk])
theorem abs_all (B t : Nat) (va : Value) (l : List V5) (lim : Nat) (w : World) (h : Sk 63 B t va l lim w) (i : Int) :
    Calls Try.prog 32 #[.pointer (some ⟨t, 0, none⟩), .int .i64 i] w fun e w' => e = .returned (.tuple #[.int .i64 (absV l i), .int .i64 (atE l i)]) ∧ w = w' := by
  unfold absV atE
  cases he : absI l.length i with
  | none => exact abs_none B t va l lim w h i he
  | some k => exact abs_some B t va l lim w h i k he
theorem rat_all (B t : Nat) (va : Value) (l : List V5) (lim : Nat) (w : World) (h : Sk 65 B t va l lim w) (i : Int) :
    Calls Try.prog 38 #[.pointer (some ⟨t, 0, none⟩), .int .i64 i] w fun e w' => e = .returned (.tuple #[.agg #[.int .i64 (atV l i).k, .int .i64 (atV l i).p, .int .i64 (atV l i).q, .string (atV l i).s, .int .i64 (atV l i).r], .int .i64 (atE l i)]) ∧ Below w.heap.size w w' := by
  unfold atV atE
  cases he : absI l.length i with
  | none => exact rat_none B t va l lim w h i he
  | some k =>
    have hk := absI_lt he
    exact rat_some B t va l lim w h i k hk he _ (by simp [List.getD, hk])
theorem rabs_all (B t : Nat) (va : Value) (l : List V5) (lim : Nat) (w : World) (h : Sk 65 B t va l lim w) (i : Int) :
    Calls Try.prog 37 #[.pointer (some ⟨t, 0, none⟩), .int .i64 i] w fun e w' => e = .returned (.tuple #[.int .i64 (absV l i), .int .i64 (atE l i)]) ∧ w = w' := by
  unfold absV atE
  cases he : absI l.length i with
  | none => exact rabs_none B t va l lim w h i he
  | some k => exact rabs_some B t va l lim w h i k he
/-- A value is replaced. -/
theorem Sk.put {T : TypeId} {B t lim g cap : Nat} {l : List V5} {w : World} (h : Sk T B t (.slice (some ⟨g, 0, none⟩) l.length cap) l lim w) (j : Nat) (hj : j < l.length) (x : V5) :
    SkSaid T B t (.slice (some ⟨g, 0, none⟩) l.length cap) (l.set j x) lim w (stL w g (j * 5) (vC x)) := by
  have hc : Ch [g] w (stL w g (j * 5) (vC x)) := stL_ch (by simp) _ _ (Ch.refl _ _)
  refine sk_patch h hc (by simp) ?_
  have hr := h.row
  rw [← map_flat] at hr
  have := row_store (n := 5) (vC x) (C := l.map vC) (fun c hc => by obtain ⟨y, _, rfl⟩ := List.mem_map.1 hc; rfl) j 0 (by simpa using hj) (by rw [vC_len]; omega) hr
  rw [List.getElem_map, show patch (vC l[j]) 0 (vC x) = vC x from rfl, ← List.map_set, map_flat] at this
  simpa using this
theorem put_nil (i : Int) (x : V5) (w : World) : Calls Try.prog 29 #[.pointer none, .int .i64 i, .agg #[.int .i64 x.k, .int .i64 x.p, .int .i64 x.q, .string x.s, .int .i64 x.r]] w fun e w' => e = .returned (.int .i64 1) ∧ Ch [] w w' := by
  have Q := Lib.hid (from_nil i (w.alloc (.cells #[.int .i64 x.k, .int .i64 x.p, .int .i64 x.q, .string x.s, .int .i64 x.r] 35)))
  go_enter Try.func29, Try.ntmps29
  go_wp2_with (go_at_call 46; (with_reducible refine (Q.out).mono ?_); rintro e w1 ⟨rfl, rfl⟩)
  go_ret
  exact ⟨rfl, (Ch.refl [] w).alloc _⟩
theorem put_none (B t : Nat) (va : Value) (l : List V5) (lim : Nat) (w : World) (h : Sk 63 B t va l lim w) (i : Int) (he : absI l.length i = none) (x : V5) :
    Calls Try.prog 29 #[.pointer (some ⟨t, 0, none⟩), .int .i64 i, .agg #[.int .i64 x.k, .int .i64 x.p, .int .i64 x.q, .string x.s, .int .i64 x.r]] w fun e w' => e = .returned (.int .i64 6) ∧ SkSaid 63 B t va l lim w w' := by
  have H := Lib.hid h
  have Q := Lib.hid (from_none B t va l lim (w.alloc (.cells #[.int .i64 x.k, .int .i64 x.p, .int .i64 x.q, .string x.s, .int .i64 x.r] 35)) (h.ch0 ((Ch.refl [] w).alloc _)) i he)
  clear h he
  go_enter Try.func29, Try.ntmps29
  go_wp2_with (go_at_call 46; (with_reducible refine (Q.out).mono ?_); rintro e w1 ⟨rfl, rfl⟩)
  go_ret
  exact ⟨rfl, sk_0 H.out ((Ch.refl [] w).alloc _)⟩
set_option maxHeartbeats 1000000 in
theorem put_bad (B t : Nat) (g cap : Nat) (l : List V5) (lim : Nat) (w : World) (h : Sk 63 B t (.slice (some ⟨g, 0, none⟩) l.length cap) l lim w) (i : Int) (k : Nat) (hk : k < l.length) (he : absI l.length i = some k) (x : V5) (hx1 : okV x = false) :
    Calls Try.prog 29 #[.pointer (some ⟨t, 0, none⟩), .int .i64 i, .agg #[.int .i64 x.k, .int .i64 x.p, .int .i64 x.q, .string x.s, .int .i64 x.r]] w fun e w' => e = .returned (.int .i64 2) ∧ SkSaid 63 B t (.slice (some ⟨g, 0, none⟩) l.length cap) l lim w w' := by
  have H := Lib.hid h
  have HK := Lib.hid hk
  have Q := Lib.hid (from_some B t g cap l lim (w.alloc (.cells #[.int .i64 x.k, .int .i64 x.p, .int .i64 x.q, .string x.s, .int .i64 x.r] 35)) (h.ch0 ((Ch.refl [] w).alloc _)) i k he)
  have HB : Hid (Blk 35 w.heap.size #[.int .i64 x.k, .int .i64 x.p, .int .i64 x.q, .string x.s, .int .i64 x.r] (w.alloc (.cells #[.int .i64 x.k, .int .i64 x.p, .int .i64 x.q, .string x.s, .int .i64 x.r] 35))) := Lib.hid (Blk.new w _ _ _ rfl)
  have HC : Hid (Ch [] w (w.alloc (.cells #[.int .i64 x.k, .int .i64 x.p, .int .i64 x.q, .string x.s, .int .i64 x.r] 35))) := Lib.hid ((Ch.refl [] w).alloc _)
  have QV : Hid (∀ W, Calls Try.prog 48 #[.agg #[.int .i64 x.k, .int .i64 x.p, .int .i64 x.q, .string x.s, .int .i64 x.r]] W fun e w' => e = .returned (.bool false) ∧ Below W.heap.size W w') := Lib.hid fun W => by rw [← (show okV x = false from hx1)]; exact valid5 x.k x.p x.q x.s x.r W
  have hL : l.length ≤ 1000 := Nat.le_trans h.le h.top
  clear h he hx1 hk
  go_enter Try.func29, Try.ntmps29
  go_upto_region 1 with fail
  generalize (w.alloc (.cells #[.int .i64 x.k, .int .i64 x.p, .int .i64 x.q, .string x.s, .int .i64 x.r] 35)) = w0 at *
  have u0 : w0.cell? ⟨w.heap.size, 0, none⟩ = some (.int .i64 x.k) := HB.out.cell 0
  have u1 : w0.cell? ⟨w.heap.size, 1, none⟩ = some (.int .i64 x.p) := HB.out.cell 1
  have u2 : w0.cell? ⟨w.heap.size, 2, none⟩ = some (.int .i64 x.q) := HB.out.cell 2
  have u3 : w0.cell? ⟨w.heap.size, 3, none⟩ = some (.string x.s) := HB.out.cell 3
  have u4 : w0.cell? ⟨w.heap.size, 4, none⟩ = some (.int .i64 x.r) := HB.out.cell 4
  have lu := HB.out.lt
  go_wp2_with (first | (go_at_call 46; (with_reducible refine (Q.out).mono ?_); rintro e w1 ⟨rfl, rfl⟩) | (go_at_call 48; (with_reducible refine (QV.out _).mono ?_); rintro e w1 ⟨rfl, hb1⟩; have HC1 : Hid (Ch [] w w1) := Lib.hid (HC.out.trans (Ch.of_below hb1)); have HB1 := Lib.hid (HB.out.below hb1); clear hb1))
  go_ret
  exact ⟨rfl, sk_0 H.out HC1.out⟩
set_option maxHeartbeats 1000000 in
theorem put_ok (B t : Nat) (g cap : Nat) (l : List V5) (lim : Nat) (w : World) (h : Sk 63 B t (.slice (some ⟨g, 0, none⟩) l.length cap) l lim w) (i : Int) (k : Nat) (hk : k < l.length) (he : absI l.length i = some k) (x : V5) (hx1 : okV x = true) :
    Calls Try.prog 29 #[.pointer (some ⟨t, 0, none⟩), .int .i64 i, .agg #[.int .i64 x.k, .int .i64 x.p, .int .i64 x.q, .string x.s, .int .i64 x.r]] w fun e w' => e = .returned (.int .i64 0) ∧ SkSaid 63 B t (.slice (some ⟨g, 0, none⟩) l.length cap) (l.set k x) lim w w' := by
  have H := Lib.hid h
  have HK := Lib.hid hk
  have Q := Lib.hid (from_some B t g cap l lim (w.alloc (.cells #[.int .i64 x.k, .int .i64 x.p, .int .i64 x.q, .string x.s, .int .i64 x.r] 35)) (h.ch0 ((Ch.refl [] w).alloc _)) i k he)
  have HB : Hid (Blk 35 w.heap.size #[.int .i64 x.k, .int .i64 x.p, .int .i64 x.q, .string x.s, .int .i64 x.r] (w.alloc (.cells #[.int .i64 x.k, .int .i64 x.p, .int .i64 x.q, .string x.s, .int .i64 x.r] 35))) := Lib.hid (Blk.new w _ _ _ rfl)
  have HC : Hid (Ch [] w (w.alloc (.cells #[.int .i64 x.k, .int .i64 x.p, .int .i64 x.q, .string x.s, .int .i64 x.r] 35))) := Lib.hid ((Ch.refl [] w).alloc _)
  have QV : Hid (∀ W, Calls Try.prog 48 #[.agg #[.int .i64 x.k, .int .i64 x.p, .int .i64 x.q, .string x.s, .int .i64 x.r]] W fun e w' => e = .returned (.bool true) ∧ Below W.heap.size W w') := Lib.hid fun W => by rw [← (show okV x = true from hx1)]; exact valid5 x.k x.p x.q x.s x.r W
  have hL : l.length ≤ 1000 := Nat.le_trans h.le h.top
  clear h he hx1 hk
  go_enter Try.func29, Try.ntmps29
  go_upto_region 1 with fail
  generalize (w.alloc (.cells #[.int .i64 x.k, .int .i64 x.p, .int .i64 x.q, .string x.s, .int .i64 x.r] 35)) = w0 at *
  have u0 : w0.cell? ⟨w.heap.size, 0, none⟩ = some (.int .i64 x.k) := HB.out.cell 0
  have u1 : w0.cell? ⟨w.heap.size, 1, none⟩ = some (.int .i64 x.p) := HB.out.cell 1
  have u2 : w0.cell? ⟨w.heap.size, 2, none⟩ = some (.int .i64 x.q) := HB.out.cell 2
  have u3 : w0.cell? ⟨w.heap.size, 3, none⟩ = some (.string x.s) := HB.out.cell 3
  have u4 : w0.cell? ⟨w.heap.size, 4, none⟩ = some (.int .i64 x.r) := HB.out.cell 4
  have lu := HB.out.lt
  go_upto_region 6 with (first | (go_at_call 46; (with_reducible refine (Q.out).mono ?_); rintro e w1 ⟨rfl, rfl⟩) | (go_at_call 48; (with_reducible refine (QV.out _).mono ?_); rintro e w1 ⟨rfl, hb1⟩; have HC1 : Hid (Ch [] w w1) := Lib.hid (HC.out.trans (Ch.of_below hb1)); have HB1 := Lib.hid (HB.out.below hb1); clear hb1))
  clear u0 u1 u2 u3 u4 lu
  have HC2 : Hid (Ch [] w w1) := HC1
  have h1 := H.out.ch0 HC1.out
  have HP := Lib.hid (h1.put k HK.out x)
  have u0 : w1.cell? ⟨w.heap.size, 0, none⟩ = some (.int .i64 x.k) := HB1.out.cell 0
  have u1 : w1.cell? ⟨w.heap.size, 1, none⟩ = some (.int .i64 x.p) := HB1.out.cell 1
  have u2 : w1.cell? ⟨w.heap.size, 2, none⟩ = some (.int .i64 x.q) := HB1.out.cell 2
  have u3 : w1.cell? ⟨w.heap.size, 3, none⟩ = some (.string x.s) := HB1.out.cell 3
  have u4 : w1.cell? ⟨w.heap.size, 4, none⟩ = some (.int .i64 x.r) := HB1.out.cell 4
  have lu := HB1.out.lt
  have hgl := (h1.lt g (by simp [skS, Go.Proofs.Ytibggoikjlnnkaa.ob, Value.ownBlock])).2
  obtain ⟨y, hy⟩ : ∃ y, y = l[k]'HK.out := ⟨_, rfl⟩
  have hv : ∀ q, q < 5 → w1.cell? ⟨g, k * 5 + q, none⟩ = (vC y)[q]? := fun q hq => by
    rw [h1.row.cellAt (k * 5 + q) (by have := HK.out; omega), flat_at vC 5 vC_len _ k q HK.out hq, hy]
  have d0 : w1.cell? ⟨g, k * 5, none⟩ = some (.int .i64 y.k) := hv 0 (by omega)
  have d1 : w1.cell? ⟨g, k * 5 + 1, none⟩ = some (.int .i64 y.p) := hv 1 (by omega)
  have d2 : w1.cell? ⟨g, k * 5 + 2, none⟩ = some (.int .i64 y.q) := hv 2 (by omega)
  have d3 : w1.cell? ⟨g, k * 5 + 3, none⟩ = some (.string y.s) := hv 3 (by omega)
  have d4 : w1.cell? ⟨g, k * 5 + 4, none⟩ = some (.int .i64 y.r) := hv 4 (by omega)
  have f0 := h1.row.frozenAt (k * 5)
  have f1 := h1.row.frozenAt (k * 5 + 1)
  have f2 := h1.row.frozenAt (k * 5 + 2)
  have f3 := h1.row.frozenAt (k * 5 + 3)
  have f4 := h1.row.frozenAt (k * 5 + 4)
  have hlt : (0 : Int) < ((l.length - k : Nat) : Int) := by have := HK.out; omega
  have hk1 : (k : Int) < (l.length : Int) := by have := HK.out; omega
  have hk0 : (0 : Int) ≤ (k : Int) := by omega
  have dk : IntKind.i64.wrap ((k : Int) + 1 - 1) = (k : Int) := by rw [show (k : Int) + 1 - 1 = k by omega]; exact IntWalk.i64_in _ (by have := HK.out; omega)
  have c0 : w1.cell? ⟨t, 0, none⟩ = some (.slice (some ⟨g, 0, none⟩) l.length cap) := h1.blk.cell 0
  have hbt := h1.blk.lt
  have hgw : ¬ w.heap.size = g := by have := (H.out.lt g (by simp [skS, Go.Proofs.Ytibggoikjlnnkaa.ob, Value.ownBlock])).2; omega
  have hgw2 : ¬ g = w.heap.size := fun e => hgw e.symm
  clear hv h1 hy HC1
  go_wp2
  go_ret
  refine ⟨rfl, SkSaid.before HC2.out ?_⟩
  exact HP.out
theorem put_all (B t : Nat) (va : Value) (l : List V5) (lim : Nat) (w : World) (h : Sk 63 B t va l lim w) (i : Int) (x : V5) :
    Calls Try.prog 29 #[.pointer (some ⟨t, 0, none⟩), .int .i64 i, .agg #[.int .i64 x.k, .int .i64 x.p, .int .i64 x.q, .string x.s, .int .i64 x.r]] w fun e w' => e = .returned (.int .i64 (putE l i x)) ∧ SkSaid 63 B t va (putL l i x) lim w w' := by
  unfold putE putL
  cases he : absI l.length i with
  | none => exact put_none B t va l lim w h i he x
  | some k =>
    have hk := absI_lt he
    obtain ⟨g, cap, rfl⟩ := h.formN (by omega)
    cases hx : okV x with
    | false => exact put_bad B t g cap l lim w h i k hk he x hx
    | true => exact put_ok B t g cap l lim w h i k hk he x hx
def copyE (l : List V5) (i j : Int) : Int := if atE l i = 0 then putE l j (atV l i) else atE l i
def copyL (l : List V5) (i j : Int) : List V5 := if atE l i = 0 then putL l j (atV l i) else l
theorem copy_nil (i j : Int) (w : World) : Calls Try.prog 33 #[.pointer none, .int .i64 i, .int .i64 j] w fun e w' => e = .returned (.int .i64 1) ∧ Ch [] w w' := by
  have Q := Lib.hid (at_nil w i)
  go_enter Try.func33, Try.ntmps33
  go_wp2_with (go_at_call 22; (with_reducible refine (Q.out).mono ?_); rintro e w1 ⟨rfl, hb1⟩; have HB1 := Lib.hid hb1; clear hb1)
  go_ret
  exact ⟨rfl, (Ch.of_below HB1.out).alloc _⟩
theorem copy_none (B t : Nat) (va : Value) (l : List V5) (lim : Nat) (w : World) (h : Sk 63 B t va l lim w) (i j : Int) (he : absI l.length i = none) :
    Calls Try.prog 33 #[.pointer (some ⟨t, 0, none⟩), .int .i64 i, .int .i64 j] w fun e w' => e = .returned (.int .i64 6) ∧ SkSaid 63 B t va l lim w w' := by
  have H := Lib.hid h
  have Q := Lib.hid (at_none B t va l lim w h i he)
  clear h he
  go_enter Try.func33, Try.ntmps33
  go_wp2_with (go_at_call 22; (with_reducible refine (Q.out).mono ?_); rintro e w1 ⟨rfl, hb1⟩; have HB1 := Lib.hid hb1; clear hb1)
  go_ret
  exact ⟨rfl, sk_0 H.out ((Ch.of_below HB1.out).alloc _)⟩
theorem copy_some (B t : Nat) (va : Value) (l : List V5) (lim : Nat) (w : World) (h : Sk 63 B t va l lim w) (i j : Int) (k : Nat) (hk : k < l.length) (he : absI l.length i = some k) (x : V5) (hx : l[k] = x) :
    Calls Try.prog 33 #[.pointer (some ⟨t, 0, none⟩), .int .i64 i, .int .i64 j] w fun e w' => e = .returned (.int .i64 (putE l j x)) ∧ SkSaid 63 B t va (putL l j x) lim w w' := by
  have H := Lib.hid h
  have Q := Lib.hid (at_some B t va l lim w h i k hk he x hx)
  have Q2 : Hid (∀ W, Ch [] w W → _) := Lib.hid fun W (hW : Ch [] w W) => put_all B t va l lim W (h.ch0 hW) j x
  clear h he hx
  generalize putE l j x = pe at *
  generalize putL l j x = pl at *
  go_enter Try.func33, Try.ntmps33
  go_wp2_with (first | (go_at_call 22; (with_reducible refine (Q.out).mono ?_); rintro e w1 ⟨rfl, hb1⟩; have HC1 : Hid (Ch [] w w1) := Lib.hid (Ch.of_below hb1); have HC2 : Hid (Ch [] w (w1.alloc (.cells #[.int .i64 x.k, .int .i64 x.p, .int .i64 x.q, .string x.s, .int .i64 x.r] 35))) := Lib.hid (HC1.out.alloc _); clear hb1) | (go_at_call 29; (with_reducible refine (Q2.out _ HC2.out).mono ?_); rintro e w4 ⟨rfl, HS⟩; have HS := Lib.hid HS))
  go_ret
  exact ⟨rfl, SkSaid.before HC2.out HS.out⟩
theorem copy_all (B t : Nat) (va : Value) (l : List V5) (lim : Nat) (w : World) (h : Sk 63 B t va l lim w) (i j : Int) :
    Calls Try.prog 33 #[.pointer (some ⟨t, 0, none⟩), .int .i64 i, .int .i64 j] w fun e w' => e = .returned (.int .i64 (copyE l i j)) ∧ SkSaid 63 B t va (copyL l i j) lim w w' := by
  unfold copyE copyL atV atE
  cases he : absI l.length i with
  | none => exact copy_none B t va l lim w h i j he
  | some k =>
    have hk := absI_lt he
    exact copy_some B t va l lim w h i j k hk he _ (by simp [List.getD, hk])
theorem rput_nil (i : Int) (x : V5) (w : World) : Calls Try.prog 39 #[.pointer none, .int .i64 i, .agg #[.int .i64 x.k, .int .i64 x.p, .int .i64 x.q, .string x.s, .int .i64 x.r]] w fun e w' => e = .returned (.int .i64 1) ∧ Ch [] w w' := by
  have Q := Lib.hid (rabs_nil i (w.alloc (.cells #[.int .i64 x.k, .int .i64 x.p, .int .i64 x.q, .string x.s, .int .i64 x.r] 35)))
  go_enter Try.func39, Try.ntmps39
  go_wp2_with (go_at_call 37; (with_reducible refine (Q.out).mono ?_); rintro e w1 ⟨rfl, rfl⟩)
  go_ret
  exact ⟨rfl, (Ch.refl [] w).alloc _⟩
theorem rput_none (B t : Nat) (va : Value) (l : List V5) (lim : Nat) (w : World) (h : Sk 65 B t va l lim w) (i : Int) (he : absI l.length i = none) (x : V5) :
    Calls Try.prog 39 #[.pointer (some ⟨t, 0, none⟩), .int .i64 i, .agg #[.int .i64 x.k, .int .i64 x.p, .int .i64 x.q, .string x.s, .int .i64 x.r]] w fun e w' => e = .returned (.int .i64 6) ∧ SkSaid 65 B t va l lim w w' := by
  have H := Lib.hid h
  have Q := Lib.hid (rabs_none B t va l lim (w.alloc (.cells #[.int .i64 x.k, .int .i64 x.p, .int .i64 x.q, .string x.s, .int .i64 x.r] 35)) (h.ch0 ((Ch.refl [] w).alloc _)) i he)
  clear h he
  go_enter Try.func39, Try.ntmps39
  go_wp2_with (go_at_call 37; (with_reducible refine (Q.out).mono ?_); rintro e w1 ⟨rfl, rfl⟩)
  go_ret
  exact ⟨rfl, sk_0 H.out ((Ch.refl [] w).alloc _)⟩
set_option maxHeartbeats 1000000 in
theorem rput_bad (B t : Nat) (g cap : Nat) (l : List V5) (lim : Nat) (w : World) (h : Sk 65 B t (.slice (some ⟨g, 0, none⟩) l.length cap) l lim w) (i : Int) (k : Nat) (hk : k < l.length) (he : absI l.length i = some k) (x : V5) (hx1 : okV x = false) :
    Calls Try.prog 39 #[.pointer (some ⟨t, 0, none⟩), .int .i64 i, .agg #[.int .i64 x.k, .int .i64 x.p, .int .i64 x.q, .string x.s, .int .i64 x.r]] w fun e w' => e = .returned (.int .i64 2) ∧ SkSaid 65 B t (.slice (some ⟨g, 0, none⟩) l.length cap) l lim w w' := by
  have H := Lib.hid h
  have HK := Lib.hid hk
  have Q := Lib.hid (rabs_some B t _ l lim (w.alloc (.cells #[.int .i64 x.k, .int .i64 x.p, .int .i64 x.q, .string x.s, .int .i64 x.r] 35)) (h.ch0 ((Ch.refl [] w).alloc _)) i k he)
  have HB : Hid (Blk 35 w.heap.size #[.int .i64 x.k, .int .i64 x.p, .int .i64 x.q, .string x.s, .int .i64 x.r] (w.alloc (.cells #[.int .i64 x.k, .int .i64 x.p, .int .i64 x.q, .string x.s, .int .i64 x.r] 35))) := Lib.hid (Blk.new w _ _ _ rfl)
  have HC : Hid (Ch [] w (w.alloc (.cells #[.int .i64 x.k, .int .i64 x.p, .int .i64 x.q, .string x.s, .int .i64 x.r] 35))) := Lib.hid ((Ch.refl [] w).alloc _)
  have QV : Hid (∀ W, Calls Try.prog 23 #[.agg #[.int .i64 x.k, .int .i64 x.p, .int .i64 x.q, .string x.s, .int .i64 x.r]] W fun e w' => e = .returned (.bool false) ∧ Below W.heap.size W w') := Lib.hid fun W => by rw [← (show okV x = false from hx1)]; exact rvalid5 x.k x.p x.q x.s x.r W
  have hL : l.length ≤ 1000 := Nat.le_trans h.le h.top
  clear h he hx1 hk
  go_enter Try.func39, Try.ntmps39
  go_upto_region 1 with fail
  generalize (w.alloc (.cells #[.int .i64 x.k, .int .i64 x.p, .int .i64 x.q, .string x.s, .int .i64 x.r] 35)) = w0 at *
  have u0 : w0.cell? ⟨w.heap.size, 0, none⟩ = some (.int .i64 x.k) := HB.out.cell 0
  have u1 : w0.cell? ⟨w.heap.size, 1, none⟩ = some (.int .i64 x.p) := HB.out.cell 1
  have u2 : w0.cell? ⟨w.heap.size, 2, none⟩ = some (.int .i64 x.q) := HB.out.cell 2
  have u3 : w0.cell? ⟨w.heap.size, 3, none⟩ = some (.string x.s) := HB.out.cell 3
  have u4 : w0.cell? ⟨w.heap.size, 4, none⟩ = some (.int .i64 x.r) := HB.out.cell 4
  have lu := HB.out.lt
  go_wp2_with (first | (go_at_call 37; (with_reducible refine (Q.out).mono ?_); rintro e w1 ⟨rfl, rfl⟩) | (go_at_call 23; (with_reducible refine (QV.out _).mono ?_); rintro e w1 ⟨rfl, hb1⟩; have HC1 : Hid (Ch [] w w1) := Lib.hid (HC.out.trans (Ch.of_below hb1)); have HB1 := Lib.hid (HB.out.below hb1); clear hb1))
  go_ret
  exact ⟨rfl, sk_0 H.out HC1.out⟩
set_option maxHeartbeats 1000000 in
theorem rput_ok (B t : Nat) (g cap : Nat) (l : List V5) (lim : Nat) (w : World) (h : Sk 65 B t (.slice (some ⟨g, 0, none⟩) l.length cap) l lim w) (i : Int) (k : Nat) (hk : k < l.length) (he : absI l.length i = some k) (x : V5) (hx1 : okV x = true) :
    Calls Try.prog 39 #[.pointer (some ⟨t, 0, none⟩), .int .i64 i, .agg #[.int .i64 x.k, .int .i64 x.p, .int .i64 x.q, .string x.s, .int .i64 x.r]] w fun e w' => e = .returned (.int .i64 0) ∧ SkSaid 65 B t (.slice (some ⟨g, 0, none⟩) l.length cap) (l.set k x) lim w w' := by
  have H := Lib.hid h
  have HK := Lib.hid hk
  have Q := Lib.hid (rabs_some B t _ l lim (w.alloc (.cells #[.int .i64 x.k, .int .i64 x.p, .int .i64 x.q, .string x.s, .int .i64 x.r] 35)) (h.ch0 ((Ch.refl [] w).alloc _)) i k he)
  have HB : Hid (Blk 35 w.heap.size #[.int .i64 x.k, .int .i64 x.p, .int .i64 x.q, .string x.s, .int .i64 x.r] (w.alloc (.cells #[.int .i64 x.k, .int .i64 x.p, .int .i64 x.q, .string x.s, .int .i64 x.r] 35))) := Lib.hid (Blk.new w _ _ _ rfl)
  have HC : Hid (Ch [] w (w.alloc (.cells #[.int .i64 x.k, .int .i64 x.p, .int .i64 x.q, .string x.s, .int .i64 x.r] 35))) := Lib.hid ((Ch.refl [] w).alloc _)
  have QV : Hid (∀ W, Calls Try.prog 23 #[.agg #[.int .i64 x.k, .int .i64 x.p, .int .i64 x.q, .string x.s, .int .i64 x.r]] W fun e w' => e = .returned (.bool true) ∧ Below W.heap.size W w') := Lib.hid fun W => by rw [← (show okV x = true from hx1)]; exact rvalid5 x.k x.p x.q x.s x.r W
  have hL : l.length ≤ 1000 := Nat.le_trans h.le h.top
  clear h he hx1 hk
  go_enter Try.func39, Try.ntmps39
  go_upto_region 1 with fail
  generalize (w.alloc (.cells #[.int .i64 x.k, .int .i64 x.p, .int .i64 x.q, .string x.s, .int .i64 x.r] 35)) = w0 at *
  have u0 : w0.cell? ⟨w.heap.size, 0, none⟩ = some (.int .i64 x.k) := HB.out.cell 0
  have u1 : w0.cell? ⟨w.heap.size, 1, none⟩ = some (.int .i64 x.p) := HB.out.cell 1
  have u2 : w0.cell? ⟨w.heap.size, 2, none⟩ = some (.int .i64 x.q) := HB.out.cell 2
  have u3 : w0.cell? ⟨w.heap.size, 3, none⟩ = some (.string x.s) := HB.out.cell 3
  have u4 : w0.cell? ⟨w.heap.size, 4, none⟩ = some (.int .i64 x.r) := HB.out.cell 4
  have lu := HB.out.lt
  go_upto_region 6 with (first | (go_at_call 37; (with_reducible refine (Q.out).mono ?_); rintro e w1 ⟨rfl, rfl⟩) | (go_at_call 23; (with_reducible refine (QV.out _).mono ?_); rintro e w1 ⟨rfl, hb1⟩; have HC1 : Hid (Ch [] w w1) := Lib.hid (HC.out.trans (Ch.of_below hb1)); have HB1 := Lib.hid (HB.out.below hb1); clear hb1))
  clear u0 u1 u2 u3 u4 lu
  have HC2 : Hid (Ch [] w w1) := HC1
  have h1 := H.out.ch0 HC1.out
  have HP := Lib.hid (h1.put k HK.out x)
  have u0 : w1.cell? ⟨w.heap.size, 0, none⟩ = some (.int .i64 x.k) := HB1.out.cell 0
  have u1 : w1.cell? ⟨w.heap.size, 1, none⟩ = some (.int .i64 x.p) := HB1.out.cell 1
  have u2 : w1.cell? ⟨w.heap.size, 2, none⟩ = some (.int .i64 x.q) := HB1.out.cell 2
  have u3 : w1.cell? ⟨w.heap.size, 3, none⟩ = some (.string x.s) := HB1.out.cell 3
  have u4 : w1.cell? ⟨w.heap.size, 4, none⟩ = some (.int .i64 x.r) := HB1.out.cell 4
  have lu := HB1.out.lt
  have hgl := (h1.lt g (by simp [skS, Go.Proofs.Ytibggoikjlnnkaa.ob, Value.ownBlock])).2
  obtain ⟨y, hy⟩ : ∃ y, y = l[k]'HK.out := ⟨_, rfl⟩
  have hv : ∀ q, q < 5 → w1.cell? ⟨g, k * 5 + q, none⟩ = (vC y)[q]? := fun q hq => by
    rw [h1.row.cellAt (k * 5 + q) (by have := HK.out; omega), flat_at vC 5 vC_len _ k q HK.out hq, hy]
  have d0 : w1.cell? ⟨g, k * 5, none⟩ = some (.int .i64 y.k) := hv 0 (by omega)
  have d1 : w1.cell? ⟨g, k * 5 + 1, none⟩ = some (.int .i64 y.p) := hv 1 (by omega)
  have d2 : w1.cell? ⟨g, k * 5 + 2, none⟩ = some (.int .i64 y.q) := hv 2 (by omega)
  have d3 : w1.cell? ⟨g, k * 5 + 3, none⟩ = some (.string y.s) := hv 3 (by omega)
  have d4 : w1.cell? ⟨g, k * 5 + 4, none⟩ = some (.int .i64 y.r) := hv 4 (by omega)
  have f0 := h1.row.frozenAt (k * 5)
  have f1 := h1.row.frozenAt (k * 5 + 1)
  have f2 := h1.row.frozenAt (k * 5 + 2)
  have f3 := h1.row.frozenAt (k * 5 + 3)
  have f4 := h1.row.frozenAt (k * 5 + 4)
  have hlt : (0 : Int) < ((l.length - k : Nat) : Int) := by have := HK.out; omega
  have hk1 : (k : Int) < (l.length : Int) := by have := HK.out; omega
  have hk0 : (0 : Int) ≤ (k : Int) := by omega
  have dk : IntKind.i64.wrap ((k : Int) + 1 - 1) = (k : Int) := by rw [show (k : Int) + 1 - 1 = k by omega]; exact IntWalk.i64_in _ (by have := HK.out; omega)
  have c0 : w1.cell? ⟨t, 0, none⟩ = some (.slice (some ⟨g, 0, none⟩) l.length cap) := h1.blk.cell 0
  have hbt := h1.blk.lt
  have hgw : ¬ w.heap.size = g := by have := (H.out.lt g (by simp [skS, Go.Proofs.Ytibggoikjlnnkaa.ob, Value.ownBlock])).2; omega
  have hgw2 : ¬ g = w.heap.size := fun e => hgw e.symm
  clear hv h1 hy HC1
  go_region
  go_wp2
  go_ret
  refine ⟨rfl, SkSaid.before HC2.out ?_⟩
  exact HP.out.after (Ch.refl [] _).drew
theorem rput_all (B t : Nat) (va : Value) (l : List V5) (lim : Nat) (w : World) (h : Sk 65 B t va l lim w) (i : Int) (x : V5) :
    Calls Try.prog 39 #[.pointer (some ⟨t, 0, none⟩), .int .i64 i, .agg #[.int .i64 x.k, .int .i64 x.p, .int .i64 x.q, .string x.s, .int .i64 x.r]] w fun e w' => e = .returned (.int .i64 (putE l i x)) ∧ SkSaid 65 B t va (putL l i x) lim w w' := by
  unfold putE putL
  cases he : absI l.length i with
  | none => exact rput_none B t va l lim w h i he x
  | some k =>
    have hk := absI_lt he
    obtain ⟨g, cap, rfl⟩ := h.formN (by omega)
    cases hx : okV x with
    | false => exact rput_bad B t g cap l lim w h i k hk he x hx
    | true => exact rput_ok B t g cap l lim w h i k hk he x hx
theorem rcopy_nil (i j : Int) (w : World) : Calls Try.prog 43 #[.pointer none, .int .i64 i, .int .i64 j] w fun e w' => e = .returned (.int .i64 1) ∧ Ch [] w w' := by
  have Q := Lib.hid (rat_nil w i)
  go_enter Try.func43, Try.ntmps43
  go_wp2_with (go_at_call 38; (with_reducible refine (Q.out).mono ?_); rintro e w1 ⟨rfl, hb1⟩; have HB1 := Lib.hid hb1; clear hb1)
  go_ret
  exact ⟨rfl, (Ch.of_below HB1.out).alloc _⟩
theorem rcopy_none (B t : Nat) (va : Value) (l : List V5) (lim : Nat) (w : World) (h : Sk 65 B t va l lim w) (i j : Int) (he : absI l.length i = none) :
    Calls Try.prog 43 #[.pointer (some ⟨t, 0, none⟩), .int .i64 i, .int .i64 j] w fun e w' => e = .returned (.int .i64 6) ∧ SkSaid 65 B t va l lim w w' := by
  have H := Lib.hid h
  have Q := Lib.hid (rat_none B t va l lim w h i he)
  clear h he
  go_enter Try.func43, Try.ntmps43
  go_wp2_with (go_at_call 38; (with_reducible refine (Q.out).mono ?_); rintro e w1 ⟨rfl, hb1⟩; have HB1 := Lib.hid hb1; clear hb1)
  go_ret
  exact ⟨rfl, sk_0 H.out ((Ch.of_below HB1.out).alloc _)⟩
theorem rcopy_some (B t : Nat) (va : Value) (l : List V5) (lim : Nat) (w : World) (h : Sk 65 B t va l lim w) (i j : Int) (k : Nat) (hk : k < l.length) (he : absI l.length i = some k) (x : V5) (hx : l[k] = x) :
    Calls Try.prog 43 #[.pointer (some ⟨t, 0, none⟩), .int .i64 i, .int .i64 j] w fun e w' => e = .returned (.int .i64 (putE l j x)) ∧ SkSaid 65 B t va (putL l j x) lim w w' := by
  have H := Lib.hid h
  have Q := Lib.hid (rat_some B t va l lim w h i k hk he x hx)
  have Q2 : Hid (∀ W, Ch [] w W → _) := Lib.hid fun W (hW : Ch [] w W) => rput_all B t va l lim W (h.ch0 hW) j x
  clear h he hx
  generalize putE l j x = pe at *
  generalize putL l j x = pl at *
  go_enter Try.func43, Try.ntmps43
  go_wp2_with (first | (go_at_call 38; (with_reducible refine (Q.out).mono ?_); rintro e w1 ⟨rfl, hb1⟩; have HC1 : Hid (Ch [] w w1) := Lib.hid (Ch.of_below hb1); have HC2 : Hid (Ch [] w (w1.alloc (.cells #[.int .i64 x.k, .int .i64 x.p, .int .i64 x.q, .string x.s, .int .i64 x.r] 35))) := Lib.hid (HC1.out.alloc _); clear hb1) | (go_at_call 39; (with_reducible refine (Q2.out _ HC2.out).mono ?_); rintro e w4 ⟨rfl, HS⟩; have HS := Lib.hid HS))
  go_ret
  exact ⟨rfl, SkSaid.before HC2.out HS.out⟩
theorem rcopy_all (B t : Nat) (va : Value) (l : List V5) (lim : Nat) (w : World) (h : Sk 65 B t va l lim w) (i j : Int) :
    Calls Try.prog 43 #[.pointer (some ⟨t, 0, none⟩), .int .i64 i, .int .i64 j] w fun e w' => e = .returned (.int .i64 (copyE l i j)) ∧ SkSaid 65 B t va (copyL l i j) lim w w' := by
  unfold copyE copyL atV atE
  cases he : absI l.length i with
  | none => exact rcopy_none B t va l lim w h i j he
  | some k =>
    have hk := absI_lt he
    exact rcopy_some B t va l lim w h i j k hk he _ (by simp [List.getD, hk])
end Go.Proofs.Ytibggoikjlnnkaa
