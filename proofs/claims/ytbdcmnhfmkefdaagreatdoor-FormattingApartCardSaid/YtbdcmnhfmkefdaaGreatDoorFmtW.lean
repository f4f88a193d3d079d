/- The laws of layer 9: arguments that came in. -/
import Derived.Test.YtbdcmnhfmkefdaaGreatDoorFmtY
import Derived.Carry
import Derived.Deep.Slices
import Derived.ChangeArms
namespace Go.Proofs.YtbdcmnhfmkefdaaGreatDoor
open Go.ChangeShapes Go.WideShapes Go.ChangeAt Go.RowKit Go.Joins Go.Deep M1 M2 M9
set_option linter.unusedVariables false
theorem cellsVal : Tryz.prog.cellsOf 46 = 5 := by kernel_rfl
theorem cellsNumU : Tryz.prog.cellsOf 44 = 2 := by kernel_rfl
theorem cellsIntU : Tryz.prog.cellsOf 3 = 1 := by kernel_rfl
theorem cellsStrU : Tryz.prog.cellsOf 9 = 1 := by kernel_rfl
theorem len5 {α : Type} {l : List α} (h : l.length = 5) : ∃ a b c d e, l = [a, b, c, d, e] := by
  match l, h with
  | [a, b, c, d, e], _ => exact ⟨a, b, c, d, e, rfl⟩
theorem len4u {α : Type} {l : List α} (h : l.length = 4) : ∃ a b c d, l = [a, b, c, d] := by
  match l, h with
  | [a, b, c, d], _ => exact ⟨a, b, c, d, rfl⟩
theorem len2u {α : Type} {l : List α} (h : l.length = 2) : ∃ a b, l = [a, b] := by
  match l, h with
  | [a, b], _ => exact ⟨a, b, rfl⟩
theorem addr_addU (g o n : Nat) : (⟨g, o, none⟩ : Addr).add n = ⟨g, o + n, none⟩ := by
  unfold Addr.add; split
  · rename_i h; subst h; rfl
  · rfl
instance : Inhabited Ar := ⟨⟨0, 0, 0, ⟨#[]⟩, 0⟩⟩
theorem open_args {H : Type} {enc : TypeId × Value → H} {W : World} {sp : Nat → Bool} {fuel len cap : Nat} {a : Option Addr} {x : DataW H × List MemPlace} (h : DataW.trod enc Tryz.prog W 0 sp true fuel 34 [.slice a len cap] = some x) :
    ∃ l : List Ar, Args W (.slice a len cap) l ∧ l.length = len ∧ len ≤ maxLen := by
  rcases open_slice Tryz.underlying34 h with ⟨hc, _⟩ | ⟨b, len', cap', m, n, D, Pl, hc, _, hl, hcm, hmm, _, hi⟩
  · simp only [List.cons.injEq, Value.slice.injEq, and_true] at hc
    obtain ⟨rfl, rfl, rfl⟩ := hc
    exact ⟨[], args_nil _ _, rfl, Nat.zero_le _⟩
  · simp only [List.cons.injEq, Value.slice.injEq, and_true] at hc
    obtain ⟨rfl, rfl, rfl⟩ := hc
    have hlm : len ≤ m := by rw [hmm]; split <;> omega
    have each : ∀ i, i < len → ∃ t : Ar, W.cell? (b.add (i * 5)) = some (.int .i64 t.kind) ∧ W.cell? ((b.add (i * 5)).add 1) = some (.int .i64 t.p) ∧ W.cell? ((b.add (i * 5)).add 2) = some (.int .i64 t.q) ∧ W.cell? ((b.add (i * 5)).add 3) = some (.string t.s) ∧ W.cell? ((b.add (i * 5)).add 4) = some (.int .i64 t.ref) := by
      intro i hil
      obtain ⟨cs, h1, h2⟩ := hi i (by omega)
      rw [cellsVal] at h1
      obtain ⟨_, hlen, hcell⟩ := World.cells?_some h1
      obtain ⟨xs, n', _, _, _, hxl, hf⟩ := DataW.trod_struct Tryz.underlying46 h2
      have hxl4 : xs.length = 4 := hxl
      obtain ⟨v0, v1, v2, v3, v4, rfl⟩ := len5 hlen
      obtain ⟨y0, y1, y2, y3, rfl⟩ := len4u hxl4
      have f0 : DataW.trod enc Tryz.prog W 0 sp true n' 3 (([v0, v1, v2, v3, v4].drop 0).take (Tryz.prog.cellsOf 3)) = some y0 := hf 0 _ rfl
      have f1 : DataW.trod enc Tryz.prog W 0 sp true n' 44 (([v0, v1, v2, v3, v4].drop 1).take (Tryz.prog.cellsOf 44)) = some y1 := hf 1 _ rfl
      have f2 : DataW.trod enc Tryz.prog W 0 sp true n' 9 (([v0, v1, v2, v3, v4].drop 3).take (Tryz.prog.cellsOf 9)) = some y2 := hf 2 _ rfl
      have f3 : DataW.trod enc Tryz.prog W 0 sp true n' 3 (([v0, v1, v2, v3, v4].drop 4).take (Tryz.prog.cellsOf 3)) = some y3 := hf 3 _ rfl
      rw [cellsIntU] at f0 f3
      rw [cellsStrU] at f2
      rw [cellsNumU] at f1
      obtain ⟨zs, n2, _, _, _, hzl, hg⟩ := DataW.trod_struct Tryz.underlying44 f1
      have hzl2 : zs.length = 2 := hzl
      obtain ⟨z0, z1, rfl⟩ := len2u hzl2
      simp only [List.drop_succ_cons, List.drop_zero, List.take_succ_cons, List.take_zero] at hg
      have g0 : DataW.trod enc Tryz.prog W 0 sp true n2 3 (([v1, v2].drop 0).take (Tryz.prog.cellsOf 3)) = some z0 := hg 0 _ rfl
      have g1 : DataW.trod enc Tryz.prog W 0 sp true n2 3 (([v1, v2].drop 1).take (Tryz.prog.cellsOf 3)) = some z1 := hg 1 _ rfl
      rw [cellsIntU] at g0 g1
      obtain ⟨k, e0, _, _⟩ := DataW.trod_int Tryz.underlying3 f0
      obtain ⟨xx, e2, _, _⟩ := DataW.trod_string Tryz.underlying9 f2
      obtain ⟨rr, e3, _, _⟩ := DataW.trod_int Tryz.underlying3 f3
      obtain ⟨pp, e4, _, _⟩ := DataW.trod_int Tryz.underlying3 g0
      obtain ⟨qq, e5, _, _⟩ := DataW.trod_int Tryz.underlying3 g1
      simp only [List.drop_zero, List.drop_succ_cons, List.take_succ_cons, List.take_zero, List.cons.injEq, and_true] at e0 e2 e3 e4 e5
      subst e0 e2 e3 e4 e5
      refine ⟨⟨k, pp, qq, xx, rr⟩, ?_, ?_, ?_, ?_, ?_⟩
      · have := hcell 0 (by omega); simpa [Addr.add] using this
      · have := hcell 1 (by omega); simpa using this
      · have := hcell 2 (by omega); simpa using this
      · have := hcell 3 (by omega); simpa using this
      · have := hcell 4 (by omega); simpa using this
    obtain ⟨I, hI⟩ : ∃ I : Nat → Ar, ∀ i, i < len → W.cell? (b.add (i * 5)) = some (.int .i64 (I i).kind) ∧ W.cell? ((b.add (i * 5)).add 1) = some (.int .i64 (I i).p) ∧ W.cell? ((b.add (i * 5)).add 2) = some (.int .i64 (I i).q) ∧ W.cell? ((b.add (i * 5)).add 3) = some (.string (I i).s) ∧ W.cell? ((b.add (i * 5)).add 4) = some (.int .i64 (I i).ref) :=
      ⟨fun i => if h : i < len then Classical.choose (each i h) else default, fun i h => by have := Classical.choose_spec (each i h); simpa [h] using this⟩
    obtain ⟨g, o, spt⟩ := b
    refine ⟨(List.range len).map I, ⟨some ⟨g, o, spt⟩, cap, by simp, fun h0 => ?_⟩, by simp, Nat.le_trans hl hcm⟩
    have h0 : 0 < len := by simpa using h0
    have hsp : spt = none := by
      have := World.cell?_spot (hI 0 h0).1
      simpa [Addr.add] using this
    subst hsp
    refine ⟨g, o, rfl, World.block_lt_of_cell? W _ (hI 0 h0).1, fun j hj => ?_⟩
    have hjl : j < len := by simpa using hj
    obtain ⟨h1, h2, h3, h4, h5⟩ := hI j hjl
    rw [addr_addU] at h1 h2 h3 h4 h5
    rw [addr_addU] at h2 h3 h4 h5
    rw [List.getElem_map, List.getElem_range]
    exact ⟨h1, h2, h3, h4, h5⟩
/-- More than is tried. -/
def largeF (f : ByteArray) (l : List Ar) : Bool := decide (500 < f.size) || decide (30 < l.length) || l.any fun a => decide (1500 < a.s.size)
theorem largeF_no {f : ByteArray} {l : List Ar} (h : largeF f l = false) : f.size ≤ 500 ∧ l.length ≤ 30 ∧ ∀ a ∈ l, a.s.size ≤ 1500 := by
  unfold largeF at h
  simp only [Bool.or_eq_false_iff, decide_eq_false_iff_not, List.any_eq_false] at h
  exact ⟨by omega, by omega, fun a ha => by have := h.2 a ha; simp at this; omega⟩
def LgSaid (b : Bool) (e : Ending) : Prop := e = .returned (.bool b)
theorem any_take_stop {l : List Ar} {k : Nat} (hk : k < l.length) (h : 1500 < l[k].s.size) : (l.any fun a => decide (1500 < a.s.size)) = true := List.any_eq_true.2 ⟨l[k], List.getElem_mem hk, by simpa using h⟩
set_option maxHeartbeats 4000000 in
theorem large9 (f : ByteArray) (v : Value) (l : List Ar) (w : World) (ha : Args w v l) (hl : l.length ≤ maxLen) :
    Calls Tryz.prog 14 #[.string f, v] w fun e w' => LgSaid (largeF f l) e ∧ w = w' := by
  unfold maxLen at hl
  obtain ⟨p, c, rfl, hp⟩ := ha.form
  by_cases h5 : 500 < f.size
  · have d0 : (500 : Int) < (f.size : Int) := by omega
    have HX : Hid (LgSaid (largeF f l) (.returned (.bool true))) := Lib.hid (by unfold LgSaid largeF; simp [h5])
    clear h5
    go_enter Tryz.func14, Tryz.ntmps14
    go_wp2
    go_ret
    exact ⟨HX.out, rfl⟩
  have d0 : ¬ (500 : Int) < (f.size : Int) := by omega
  by_cases h3 : 30 < l.length
  · have d1 : (30 : Int) < (l.length : Int) := by omega
    have HX : Hid (LgSaid (largeF f l) (.returned (.bool true))) := Lib.hid (by unfold LgSaid largeF; simp [h3])
    clear h3 h5
    go_enter Tryz.func14, Tryz.ntmps14
    go_wp2
    go_ret
    exact ⟨HX.out, rfl⟩
  have d1 : ¬ (30 : Int) < (l.length : Int) := by omega
  have HR : Hid (largeF f l = l.any fun a => decide (1500 < a.s.size)) := Lib.hid (by unfold largeF; simp [h3, h5])
  have HP := Lib.hid hp
  clear h3 h5 hp ha
  go_enter Tryz.func14, Tryz.ntmps14
  go_wp2
  go_loop [5] (fun v5 => ∃ k : Nat, k ≤ l.length ∧ v5 = .int .i64 (k : Int) ∧ Hid (∀ j (h : j < l.length), j < k → l[j].s.size ≤ 1500)) (fun v5 => l.length - (intOf v5).toNat)
  case atStart => exact ⟨0, Nat.zero_le _, rfl, Lib.hid fun j _ h => absurd h (by omega)⟩
  case round =>
    obtain ⟨k, hk, rfl, HK⟩ := hrel
    by_cases hlt : k < l.length
    · have hlt' : (k : Int) < (l.length : Int) := by omega
      obtain ⟨g, o, rfl, hg, hA⟩ := HP.out (by omega)
      obtain ⟨e0, e1, e2, e3, e4⟩ := hA k hlt
      have hst := any_take_stop hlt
      have HK2 := Lib.hid fun (h : l[k].s.size ≤ 1500) => fun j (hj : j < l.length) (h1 : j < k + 1) => (by
        by_cases e : j = k
        · subst e; exact h
        · exact HK.out j hj (by omega) : l[j].s.size ≤ 1500)
      generalize l[k] = a at *
      clear hA e0 e1 e2 e4
      by_cases h15 : 1500 < a.s.size
      · have d2 : (1500 : Int) < (a.s.size : Int) := by omega
        have HX : Hid (LgSaid (largeF f l) (.returned (.bool true))) := Lib.hid (by unfold LgSaid; rw [HR.out, hst h15])
        clear h15 hst
        go_wp2
        go_ret
        exact ⟨HX.out, rfl⟩
      · have d2 : ¬ (1500 : Int) < (a.s.size : Int) := by omega
        have HK3 := Lib.hid (HK2.out (by omega))
        clear h15 hst HK2 HK
        go_wp2
        go_round
        case rel => exact ⟨k + 1, by omega, by go_num, HK3⟩
        case measure => simp [intOf]; omega
    · have hke : k = l.length := by omega
      have hlt' : ¬ (k : Int) < (l.length : Int) := by omega
      have HX : Hid (LgSaid (largeF f l) (.returned (.bool false))) := Lib.hid (by
        unfold LgSaid; rw [HR.out, List.any_eq_false.2 fun a ha => ?_]
        obtain ⟨j, hj, rfl⟩ := List.mem_iff_getElem.1 ha
        have := HK.out j hj (by omega)
        simp; omega)
      clear hke
      go_wp2
      go_ret
      exact ⟨HX.out, rfl⟩
end Go.Proofs.YtbdcmnhfmkefdaaGreatDoor
