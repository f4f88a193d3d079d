/- LexerJoin. No condition. -/
import Derived.Test.YtbcbddglgfakpaaDoorLexS
import Derived.Test.YtbcbddglgfakpaaDoorCards
import Derived.Test.YtbcbddglgfakpaaDoorTie
import Derived.ProofKit
import Derived.OpenShut
import Derived.ChangeOld
import Derived.Lib.SmallJoins
import Derived.Deep.DeepHandedRow
import Derived.Stop.LaidErr
import Derived.Lay
import Derived.MakeChecks
import Derived.Carry
import Derived.Deep.Slices
import Derived.ChangeArms
namespace Go.Proofs.YtbcbddglgfakpaaDoor.lexerJoinLaw
open Go.ChangeMaps (open_string shut_string)
open Go.ChangeShapes Go.WideShapes Go.ChangeAt Go.RowKit Go.Joins Go.Deep
set_option linter.unusedVariables false
theorem own : ownKnob Tryd.prog.godebug = none := by kernel_rfl
theorem cellsTok : Tryd.prog.cellsOf 29 = 4 := by kernel_rfl
theorem cellsInt : Tryd.prog.cellsOf 3 = 1 := by kernel_rfl
theorem cellsStr : Tryd.prog.cellsOf 9 = 1 := by kernel_rfl
theorem len4 {α : Type} {l : List α} (h : l.length = 4) : ∃ a b c d, l = [a, b, c, d] := by
  match l, h with
  | [a, b, c, d], _ => exact ⟨a, b, c, d, rfl⟩
theorem addr_add (g o n : Nat) : (⟨g, o, none⟩ : Addr).add n = ⟨g, o + n, none⟩ := by
  unfold Addr.add; split
  · rename_i h; subst h; rfl
  · rfl
instance : Inhabited TI := ⟨⟨0, ⟨#[]⟩, 0, 0⟩⟩
theorem open_toks {H : Type} {enc : TypeId × Value → H} {W : World} {sp : Nat → Bool} {fuel len cap : Nat} {a : Option Addr} {x : DataW H × List MemPlace} (h : DataW.trod enc Tryd.prog W 0 sp true fuel 24 [.slice a len cap] = some x) :
    ∃ (g o : Nat) (ts : List TI), ts.length = len ∧ (0 < len → a = some ⟨g, o, none⟩) ∧ ArgT W g o ts ∧ (0 < len → g < W.heap.size) ∧ len ≤ maxLen := by
  rcases open_slice Tryd.underlying24 h with ⟨hc, _⟩ | ⟨b, len', cap', m, n, D, Pl, hc, _, hl, hcm, hmm, _, hi⟩
  · simp only [List.cons.injEq, Value.slice.injEq, and_true] at hc
    obtain ⟨rfl, rfl, rfl⟩ := hc
    exact ⟨0, 0, [], rfl, fun h => by omega, fun j hj => by simp at hj, fun h => by omega, Nat.zero_le _⟩
  · simp only [List.cons.injEq, Value.slice.injEq, and_true] at hc
    obtain ⟨rfl, rfl, rfl⟩ := hc
    have hlm : len ≤ m := by rw [hmm]; split <;> omega
    have each : ∀ i, i < len → ∃ t : TI, W.cell? (b.add (i * 4)) = some (.int .i64 t.k) ∧ W.cell? ((b.add (i * 4)).add 1) = some (.string t.x) ∧ W.cell? ((b.add (i * 4)).add 2) = some (.int .i64 t.ln) ∧ W.cell? ((b.add (i * 4)).add 3) = some (.int .i64 t.a) := by
      intro i hil
      obtain ⟨cs, h1, h2⟩ := hi i (by omega)
      rw [cellsTok] at h1
      obtain ⟨_, hlen, hcell⟩ := World.cells?_some h1
      obtain ⟨xs, n', _, _, _, hxl, hf⟩ := DataW.trod_struct Tryd.underlying29 h2
      have hxl4 : xs.length = 4 := hxl
      obtain ⟨v0, v1, v2, v3, rfl⟩ := len4 hlen
      obtain ⟨y0, y1, y2, y3, rfl⟩ := len4 hxl4
      have f0 : DataW.trod enc Tryd.prog W 0 sp true n' 3 (([v0, v1, v2, v3].drop 0).take (Tryd.prog.cellsOf 3)) = some y0 := hf 0 _ rfl
      have f1 : DataW.trod enc Tryd.prog W 0 sp true n' 9 (([v0, v1, v2, v3].drop 1).take (Tryd.prog.cellsOf 9)) = some y1 := hf 1 _ rfl
      have f2 : DataW.trod enc Tryd.prog W 0 sp true n' 3 (([v0, v1, v2, v3].drop 2).take (Tryd.prog.cellsOf 3)) = some y2 := hf 2 _ rfl
      have f3 : DataW.trod enc Tryd.prog W 0 sp true n' 3 (([v0, v1, v2, v3].drop 3).take (Tryd.prog.cellsOf 3)) = some y3 := hf 3 _ rfl
      rw [cellsInt] at f0 f2 f3
      rw [cellsStr] at f1
      obtain ⟨k, e0, _, _⟩ := DataW.trod_int Tryd.underlying3 f0
      obtain ⟨xx, e1, _, _⟩ := DataW.trod_string Tryd.underlying9 f1
      obtain ⟨ln, e2, _, _⟩ := DataW.trod_int Tryd.underlying3 f2
      obtain ⟨aa, e3, _, _⟩ := DataW.trod_int Tryd.underlying3 f3
      simp only [List.drop_zero, List.drop_succ_cons, List.take_succ_cons, List.take_zero, List.cons.injEq, and_true] at e0 e1 e2 e3
      subst e0 e1 e2 e3
      refine ⟨⟨k, xx, ln, aa⟩, ?_, ?_, ?_, ?_⟩
      · have := hcell 0 (by omega); simpa [Addr.add] using this
      · have := hcell 1 (by omega); simpa using this
      · have := hcell 2 (by omega); simpa using this
      · have := hcell 3 (by omega); simpa using this
    obtain ⟨I, hI⟩ : ∃ I : Nat → TI, ∀ i, i < len → W.cell? (b.add (i * 4)) = some (.int .i64 (I i).k) ∧ W.cell? ((b.add (i * 4)).add 1) = some (.string (I i).x) ∧ W.cell? ((b.add (i * 4)).add 2) = some (.int .i64 (I i).ln) ∧ W.cell? ((b.add (i * 4)).add 3) = some (.int .i64 (I i).a) :=
      ⟨fun i => if h : i < len then Classical.choose (each i h) else default, fun i h => by have := Classical.choose_spec (each i h); simpa [h] using this⟩
    obtain ⟨g, o, spt⟩ := b
    by_cases h0 : 0 < len
    · have hsp : spt = none := by
        have := World.cell?_spot (hI 0 h0).1
        simpa [Addr.add] using this
      subst hsp
      refine ⟨g, o, (List.range len).map I, by simp, fun _ => rfl, fun j hj => ?_, fun _ => ?_, Nat.le_trans hl hcm⟩
      · have hjl : j < len := by simpa using hj
        obtain ⟨h1, h2, h3, h4⟩ := hI j hjl
        rw [addr_add] at h1 h2 h3 h4
        rw [addr_add] at h2 h3 h4
        rw [List.getElem_map, List.getElem_range]
        exact ⟨h1, h2, h3, h4⟩
      · have := (hI 0 h0).1
        exact World.block_lt_of_cell? W _ this
    · have : len = 0 := by omega
      subst this
      exact ⟨0, 0, [], rfl, fun h => by omega, fun j hj => by simp at hj, fun h => by omega, Nat.zero_le _⟩

abbrev L5 : List (String × DataW Unit) := Rows.lexerJoinRow.laid
theorem laid_met (os : Os) (args : Array Value) : laidMetH Tryd.prog L5 ((World.laidAll Tryd.prog os L5).forCall (fun _ _ => 0) ⟨#[], args, []⟩).memory := by
  rw [MakeChecks.laidMetH_plain _ _ _ (by kernel_rfl)]
  exact laidMet_laidAll _ (by kernel_rfl) (by kernel_rfl)
theorem wit_shaped (os : Os) (args : Array Value) : ((World.laidAll Tryd.prog os L5).forCall (fun _ _ => 0) ⟨#[], args, []⟩).Shaped Tryd.prog :=
  World.shaped_of_ZipB (by kernel_rfl) (by kernel_rfl)
theorem out : laidOutB Tryd.prog = true := by kernel_rfl
theorem reads (os : Os) {H : Type} (enc : TypeId × Value → H) : ∃ places, DataW.whole enc Tryd.prog ((World.laidAll Tryd.prog os L5).forCall (fun _ _ => 0) ⟨#[], #[.slice none 0 0], []⟩).memory Tryd.f6.params.toList Rows.lexerJoinSpec.vars false #[Value.slice none 0 0].toList 8 = some ([.nil], [], places) :=
  ⟨[], by kernel_rfl⟩
set_option maxRecDepth 100000 in
theorem lifted (os : Os) (started : os.Started) (H : Type) (enc : TypeId × Value → H) (F : Stop.Interp) :
    ReturnsInHanded {} Tryd.checked os 6 .any ((OpenSpec.ofChange Rows.lexerJoinSpec).preRow enc Tryd.prog Tryd.f6 Rows.lexerJoinRow.domain false L5) (((OpenSpec.ofChange Rows.lexerJoinSpec).at F).post enc Tryd.prog Tryd.f6 false true false false) := by
  obtain ⟨places, hx⟩ := reads os enc
  refine returnsInHanded_of_row (C := Tryd.checked) (s := OpenSpec.ofChange Rows.lexerJoinSpec) own started (by kernel_rfl) Tryd.func6
    ⟨World.laidAll Tryd.prog os L5, fun _ _ => 0, ⟨#[], #[.slice none 0 0], []⟩, World.laidAll_os _ _ _, wit_shaped os _, rfl, (Input.okWide_of_okWideB (by kernel_rfl)).2,
      OpenSpec.preRow_of_cond 8 hx (by kernel_rfl) (fun k hk => by cases hk) (by kernel_rfl) (laid_met os _), by
        simp only [Assume.holds]
        exact ⟨by simp, by simp, fun _ => Modest.zero, by simp, by simp⟩⟩ ?_
  intro W base args ds gs before hval0 hW _ _ _ hL hsh _
  have hval : ∀ (j : Nat) t v, Tryd.f6.params[j]? = some t → args[j]? = some v → Value.okWide Tryd.prog W .any base t v := hval0
  have hW' := hW
  obtain ⟨p, q, hA0, hV, rfl, hfz, hnd⟩ := hW
  have hA : DataW.TrodAll enc Tryd.prog W 0 (fun _ => true) true Tryd.f6.params.toList args.toList ds p := hA0
  rw [Tryd.params6] at hA hval
  obtain ⟨v0, vs0, d0, ds0, p_0, q_0, hargs, rfl, rfl, h0, r0⟩ := trodAll_cons hA
  obtain ⟨rfl, rfl, rfl⟩ := trodAll_nil r0
  obtain rfl : args = #[v0] := by cases args; simp_all
  obtain ⟨rfl, rfl⟩ := trodVars_none hV
  obtain ⟨a, len, cap, rfl⟩ := okWide_slice Tryd.underlying24 (hval 0 24 v0 rfl rfl)
  have h0k := h0
  obtain ⟨fuel, hf⟩ := h0
  obtain ⟨g, o, ts, hlen, hp, hAt, hg, hmx⟩ := open_toks hf
  subst hlen
  clear hA0 hval0
  simp only [List.append_nil] at hW'
  refine (joinLaw_any a g o cap ts W hp hAt hg hmx).mono fun e W' ⟨he, bel⟩ => ?_
  subst he
  exact ⟨_, rfl, _, _, _, [], _, [], hW', trodAll_mk1 (shut_bool Tryd.underlying4 _), (trodAll_cons_mk (Below.trod out (by kernel_rfl) (of_decide_eq_true (by kernel_rfl)) h0k bel (fun x hx => by simpa using hW'.lt x hx)) trodAll_mk0), rfl, bel.frame _, fun h => by cases h⟩

theorem said : Rows.LexerJoinSaid :=
  OpenClaim.holds_of_cond 6 Tryd.f6 rfl rfl rfl rfl rfl rfl rfl ⟨rfl, rfl, rfl, rfl, rfl⟩ rfl rfl rfl rfl rfl (by kernel_rfl) Tryd.func6 (by kernel_rfl)
    (of_decide_eq_true (by kernel_rfl)) (by unfold Func.isWrapper; first | (rw [if_pos (by decide +kernel)]; kernel_rfl) | (rw [if_neg (by decide +kernel)]; exact ⟨rfl, rfl⟩))
    (fun os started H enc _ F => by rw [OpenClaim.pre_eq_preRow]; exact lifted os started H enc F)
theorem plain (f : FuncId) (fn : Func) (hf : Tryd.pinned.checked.prog.funcNamed "scripting/scriptinglaw03.LexerJoin" = some f) (hfn : Tryd.pinned.checked.prog.funcs[f]? = some fn) :
    true = Tryd.pinned.checked.prog.looks [] ∧ ∀ (j : Nat) t, fn.params[j]? = some t → Tryd.pinned.checked.prog.wantsStandIn t = false := by
  obtain rfl : f = 6 := Option.some.inj ((show Tryd.prog.funcNamed "scripting/scriptinglaw03.LexerJoin" = some 6 by kernel_rfl).symm.trans hf) |>.symm
  obtain rfl : fn = Tryd.f6 := (Option.some.inj (Tryd.func6.symm.trans hfn)).symm
  refine ⟨by kernel_rfl, fun j t ht => ?_⟩
  rw [Tryd.params6] at ht
  have hm : t ∈ [24] := by simpa using Array.mem_of_getElem? ht
  have hall : ([24].all fun u => !Tryd.prog.wantsStandIn u) = true := by kernel_rfl
  exact (show Tryd.prog.wantsStandIn t = false by simpa using List.all_eq_true.1 hall t hm)

/-- The given statement. -/
theorem proved : Rows.LexerJoinCardSaid :=
  Claim7.holds_tied_plain_at .later [] _ _ _ _ said (fun _ h => by cases h) (by kernel_rfl) (fun _ h => by cases h) lexerJoin_row_tie rfl ⟨rfl, rfl⟩ (by kernel_rfl) rfl plain (by kernel_rfl)
#print axioms proved
end Go.Proofs.YtbcbddglgfakpaaDoor.lexerJoinLaw
