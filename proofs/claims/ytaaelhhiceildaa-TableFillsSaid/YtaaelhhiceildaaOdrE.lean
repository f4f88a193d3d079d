/- Layer 12: the functions of ordered maps (3). -/
import Derived.Test.YtaaelhhiceildaaOdrD
import Derived.Deep.DeepCutAuto
import Derived.Deep.CutBlock
import Derived.BigQuiet
namespace Go.Proofs.Ytaaelhhiceildaa
open Go.RowKit M1
set_option linter.unusedVariables false
theorem rab_eq {s t : Sl} (hk : s.key = t.key) (hv : s.val = t.val) (hg : s.bh = 0 ↔ t.bh = 0) : rab s = rab t := by
  unfold rab liveB
  rw [hk, hv]
  by_cases h : t.bh = 0
  · simp [h, hg.2 h]
  · have : s.bh ≠ 0 := fun e => h (hg.1 e)
    simp [h, this]
theorem set_getD {L : List Sl} {f : Nat} {s : Sl} {j : Nat} (hj : j < (L.set f s).length) : (L.set f s)[j] = if f = j then s else L[j]'(by simpa using hj) := by
  rw [List.getElem_set]
theorem set_bh {L : List Sl} (hI : Inv L) {f a : Nat} (hf : f < L.length) (hg : L[f].bh ≠ 0) (h1 : f < a) (h2 : a ≤ L.length) (h3 : ∀ j (hj : j < L.length), f ≤ j → j < a → L[j].bh ≠ 0) :
    Inv (L.set f ⟨L[f].key, L[f].val, a⟩) ∧ rabs (L.set f ⟨L[f].key, L[f].val, a⟩) = rabs L := by
  have hb : ∀ j (hj : j < L.length), ((L.set f ⟨L[f].key, L[f].val, a⟩)[j]'(by simpa using hj)).bh ≠ 0 ↔ L[j].bh ≠ 0 := by
    intro j hj
    rw [set_getD]
    by_cases e : f = j
    · subst e; rw [if_pos rfl]; exact ⟨fun _ => hg, fun _ => by simp; omega⟩
    · rw [if_neg e]
  refine ⟨⟨fun i hi hbi => ?_, fun i hi hbi => ?_, fun s hs hbs => ?_⟩, ?_⟩
  · have hi' : i < L.length := by simpa using hi
    rw [set_getD] at hbi
    by_cases e : f = i
    · subst e
      rw [set_getD]
      simp only [if_true, List.length_set]
      exact ⟨h1, h2, fun j hj hij hja => by
        have hj' : j < L.length := by simpa using hj
        exact (hb j hj').2 (h3 j hj' hij hja)⟩
    · rw [if_neg e] at hbi
      rw [set_getD, if_neg e]
      obtain ⟨q1, q2, q3⟩ := hI.jump i hi' hbi
      refine ⟨q1, by simpa using q2, fun j hj hij hja => ?_⟩
      have hj' : j < L.length := by simpa using hj
      exact (hb j hj').2 (q3 j hj' hij hja)
  · have hi' : i < L.length := by simpa using hi
    rw [set_getD] at hbi ⊢
    by_cases e : f = i
    · subst e; rw [if_pos rfl] at hbi; simp at hbi; omega
    · rw [if_neg e] at hbi ⊢
      rw [lastI_set _ _ _ _ (fun _ => rfl)]
      exact hI.live i hi' hbi
  · obtain ⟨i, hi, rfl⟩ := List.getElem_of_mem hs
    have hi' : i < L.length := by simpa using hi
    rw [set_getD] at hbs ⊢
    by_cases e : f = i
    · subst e; rw [if_pos rfl]; show L[f].val = v5z; exact hI.gone _ (List.getElem_mem hf) hg
    · rw [if_neg e] at hbs ⊢; exact hI.gone _ (List.getElem_mem hi') hbs
  · unfold rabs
    rw [List.map_set, show rab ⟨L[f].key, L[f].val, a⟩ = rab L[f] from rab_eq rfl rfl ⟨fun e => absurd e (by show a ≠ 0; omega), fun e => absurd e hg⟩]
    apply List.ext_getElem
    · simp
    · intro i h1 h2
      rw [List.getElem_set]
      split
      · rename_i e; subst e; simp
      · rfl
theorem map_flat {α : Type} (f : α → List Value) (L : List α) : (L.map f).flatten = L.flatMap f := by rw [List.flatMap_def]
def mpP (B : Nat) (m : Value) (L : List Sl) (w : World) : Prop := ∃ l : MP, (∀ k, look l k = (lastI L k).map (fun i => (i : Int))) ∧ Uniq l ∧ ((m = .map none ∧ l = []) ∨ ∃ g, m = .map (some g) ∧ B ≤ g ∧ Mp g l w)
theorem mpP.ch {B : Nat} {m : Value} {L : List Sl} {w w' : World} {S : List Nat} (h : mpP B m L w) (hc : Ch S w w') (hS : ∀ g ∈ mb m, g ∉ S) : mpP B m L w' := by
  obtain ⟨l, h1, h2, h3⟩ := h
  refine ⟨l, h1, h2, ?_⟩
  rcases h3 with h3 | ⟨g, rfl, hg, hm⟩
  · exact .inl h3
  · exact .inr ⟨g, rfl, hg, hm.ch hc (hS g (by simp [mb]))⟩
/-- The row and the map are different blocks, and neither is the head. -/
theorem Om.apart {B b : Nat} {v m : Value} {L : List Sl} {w : World} (h : Om B b v m L w) : (∀ g ∈ ob v, g ≠ b) ∧ (∀ g ∈ mb m, g ≠ b) ∧ ∀ g ∈ mb m, g ∉ ob v := by
  refine ⟨ob_blk h.row h.blk (by decide), ?_, ?_⟩
  · intro g hg e
    subst e
    obtain ⟨l, _, _, ⟨rfl, _⟩ | ⟨g', rfl, _, es, c, hb, _⟩⟩ := h.mp
    · simp [mb] at hg
    · simp only [mb, List.mem_singleton] at hg
      subst hg
      have := h.blk
      unfold Blk at this
      rw [hb] at this; cases this
  · intro g hg ho
    obtain ⟨l, _, _, ⟨rfl, _⟩ | ⟨g', rfl, _, es, c, hb, _⟩⟩ := h.mp
    · simp [mb] at hg
    · simp only [mb, List.mem_singleton] at hg
      subst hg
      rcases h.row.2 with ⟨rfl, _⟩ | ⟨g2, cap, cur, rfl, _, hg2, _⟩
      · simp [Go.Proofs.Ytaaelhhiceildaa.ob, Value.ownBlock] at ho
      · have : g = g2 := by simpa [Go.Proofs.Ytaaelhhiceildaa.ob, Value.ownBlock] using ho
        subst this
        rw [hb] at hg2; cases hg2
theorem Om.n_eq {B b n cap : Nat} {p : Option Addr} {m : Value} {L : List Sl} {w : World} (h : Om B b (.slice p n cap) m L w) : n = L.length := by
  obtain ⟨p, c, e⟩ := ownB_form h.row
  injection e
theorem Om.put {B b g cap : Nat} {m : Value} {L : List Sl} {w : World} (h : Om B b (.slice (some ⟨g, 0, none⟩) L.length cap) m L w) (i : Nat) (hi : i < L.length) (us : List Value) (j : Nat) (hj : j + us.length ≤ 11) (s' : Sl) (hs : slC s' = patch (slC L[i]) j us) (hk : s'.key = L[i].key) :
    Blk 72 b #[.slice (some ⟨g, 0, none⟩) L.length cap, .int .i64 (cnt L), m] (stL w g (i * 11 + j) us) ∧
    (stL w g (i * 11 + j) us).ownsRow B 78 11 (.slice (some ⟨g, 0, none⟩) L.length cap) (L.set i s').length ((L.set i s').flatMap slC) ∧ mpP B m (L.set i s') (stL w g (i * 11 + j) us) ∧ Ch [g] w (stL w g (i * 11 + j) us) := by
  obtain ⟨p1, p2, p3⟩ := h.apart
  have hgb : g ≠ b := p1 g (mem_ob.2 rfl)
  refine ⟨stL_blk (fun e => hgb e.symm) us _ h.blk, ?_, ?_, stL_ch (by simp) us _ (Ch.refl _ _)⟩
  · have hr := h.row
    rw [← map_flat] at hr
    have := row_store (n := 11) us (C := L.map slC) (fun c hc => by obtain ⟨s, _, rfl⟩ := List.mem_map.1 hc; rfl) i j (by simpa using hi) hj hr
    rw [List.getElem_map, ← hs, ← List.map_set, map_flat] at this
    simpa using this
  · have hc : Ch [g] w (stL w g (i * 11 + j) us) := stL_ch (by simp) us _ (Ch.refl _ _)
    obtain ⟨l, h1, h2, h3⟩ := mpP.ch h.mp hc (fun g' hg' => by
      simp only [List.mem_singleton]
      intro e
      exact p3 g' hg' (mem_ob.2 (by rw [e]; rfl)))
    exact ⟨l, fun k => by rw [h1 k, lastI_set _ _ _ _ (fun _ => hk)], h2, h3⟩
theorem set_cnt {L : List Sl} {L' : List Sl} (h : rabs L' = rabs L) : cnt L' = cnt L := by rw [← lenR_abs, h, lenR_abs]
/-- A gone slot points further. -/
theorem Om.hop {B b g cap n : Nat} {m : Value} {L : List Sl} {w : World} (h : Om B b (.slice (some ⟨g, 0, none⟩) n cap) m L w) {f a : Nat} (hf : f < L.length) (hg : L[f].bh ≠ 0) (h1 : f < a) (h2 : a ≤ L.length) (h3 : ∀ j (hj : j < L.length), f ≤ j → j < a → L[j].bh ≠ 0) :
    ∃ L', Om B b (.slice (some ⟨g, 0, none⟩) n cap) m L' (w.setCell ⟨g, f * 11 + 10, none⟩ (.int .i64 a)) ∧ rabs L' = rabs L ∧ L'.length = L.length ∧ (∀ j (hj : j < L.length) (hj' : j < L'.length), f < j → L'[j] = L[j]) ∧ Ch [g] w (w.setCell ⟨g, f * 11 + 10, none⟩ (.int .i64 a)) := by
  obtain rfl := h.n_eq
  obtain ⟨s1, s2⟩ := set_bh h.inv hf hg h1 h2 h3
  obtain ⟨q1, q2, q3, q4⟩ := h.put f hf [.int .i64 a] 10 (by simp) ⟨L[f].key, L[f].val, a⟩ rfl rfl
  refine ⟨_, ⟨?_, h.lo, ?_, q3, s1⟩, s2, by simp, fun j hj hj' hfj => ?_, q4⟩
  · rw [set_cnt s2]; exact q1
  · rw [List.length_set] at q2 ⊢; exact q2
  · rw [set_getD, if_neg (by omega)]
theorem gone_iff {L L' : List Sl} (h : rabs L' = rabs L) (j : Nat) (h1 : j < L'.length) (h2 : j < L.length) : L'[j].bh ≠ 0 ↔ L[j].bh ≠ 0 := by
  have e : (rab L'[j]).gone = (rab L[j]).gone := by
    rw [← rabs_at L' j h1, ← rabs_at L j h2]; simp only [h]
  constructor
  · intro g g0; rw [rab_gone g, rab_live g0] at e; cases e
  · intro g g0; rw [rab_gone g, rab_live g0] at e; cases e
def presL (L : List Sl) (a : Nat) : Nat := (firstL (rabs L) a).getD L.length
theorem presL_eq {L : List Sl} {a i : Nat} (ha : a ≤ i) (hi : i ≤ L.length) (hl : ∀ (h : i < L.length), L[i].bh = 0) (hg : ∀ j (hj : j < L.length), a ≤ j → j < i → L[j].bh ≠ 0) : presL L a = i := by
  unfold presL
  by_cases h : i < L.length
  · rw [firstL_mk ha (by rw [rabs_len]; exact h) (by rw [rabs_at L i h]; exact rab_live (hl h)) (fun j hj h1 h2 => by
      rw [rabs_len] at hj
      rw [rabs_at L j hj]; exact rab_gone (hg j hj h1 h2))]
    rfl
  · rw [firstL_no (fun j hj h1 => by
      rw [rabs_len] at hj
      rw [rabs_at L j hj]; exact rab_gone (hg j hj h1 (by omega)))]
    show L.length = i
    omega
set_option maxHeartbeats 2000000 in
theorem present_any (B b : Nat) (v m : Value) (L : List Sl) (a : Nat) (w : World) (h : Om B b v m L w) (hL : L.length ≤ 1000000) (ha : a ≤ L.length) :
    Calls Try.prog 58 #[.pointer (some ⟨b, 0, none⟩), .int .i64 (a : Int)] w fun e w' => e = .returned (.int .i64 (presL L a : Int)) ∧ (∃ L', Om B b v m L' w' ∧ rabs L' = rabs L ∧ L'.length = L.length) ∧ Ch (omS b v m) w w' := by
  obtain ⟨p, cap, rfl, hp⟩ := h.form
  obtain ⟨c0, c1, c2, f0, f1, f2, hb⟩ := h.cells
  have HO := Lib.hid h
  have HL := Lib.hid hL
  have HP := Lib.hid hp
  clear h hp
  go_enter Try.func58, Try.ntmps58
  go_wp2
  go_loopw [5] (fun v5 wr => ∃ i : Nat, i ≤ L.length ∧ v5 = .int .i64 (i : Int) ∧ Hid (wr = w) ∧ Hid (a ≤ i ∧ ∀ j (hj : j < L.length), a ≤ j → j < i → L[j].bh ≠ 0)) (fun v5 _ => L.length - (intOf v5).toNat)
  case atStart => exact ⟨a, ha, rfl, Lib.hid rfl, Lib.hid ⟨Nat.le_refl _, fun j _ h1 h2 => by omega⟩⟩
  case round =>
    obtain ⟨i, hi, rfl, HW, HA⟩ := hrel
    rename World => W0
    obtain rfl : w = W0 := HW.out.symm
    by_cases hlt : i < L.length
    · have hlt' : (i : Int) < (L.length : Int) := by omega
      obtain ⟨g, rfl⟩ := HP.out (by omega)
      have cb := (HO.out.slot i hlt).2.2.2.2.2.2.2.2.2.2
      by_cases hbz : L[i].bh = 0
      · have d : ¬ (0 : Int) < (L[i].bh : Int) := by omega
        have HPR : Hid (presL L a = i) := Lib.hid (presL_eq HA.out.1 hi (fun _ => hbz) HA.out.2)
        have HLV : Hid (∀ (h : i < L.length), L[i].bh = 0) := Lib.hid fun _ => hbz
        generalize (L[i].bh : Int) = bh at *
        clear hbz
        go_wp2
        clear cb d
        clear c0 c1 c2 f0 f1 f2 hb
        go_loopw [1] (fun v1 wr => ∃ f : Nat, f ≤ i ∧ v1 = .int .i64 (f : Int) ∧ Hid (a ≤ f ∧ ∃ L', Om B b (.slice (some ⟨g, 0, none⟩) L.length cap) m L' wr ∧ rabs L' = rabs L ∧ L'.length = L.length ∧ Ch (omS b (.slice (some ⟨g, 0, none⟩) L.length cap) m) w wr)) (fun v1 _ => i - (intOf v1).toNat)
        case atStart => exact ⟨a, HA.out.1, rfl, Lib.hid ⟨Nat.le_refl _, L, HO.out, rfl, rfl, Ch.refl _ _⟩⟩
        case round =>
          obtain ⟨f, hfi, rfl, HF⟩ := hrel
          rename World => W1
          obtain ⟨haf, L', ho, hr, hn, hc⟩ := HF.out
          obtain ⟨c0, c1, c2, f0, f1, f2, hb⟩ := ho.cells
          have HO1 := Lib.hid ho
          have HC1 := Lib.hid hc
          clear ho hc HF
          by_cases hlt : f < i
          · have hlt' : (f : Int) < (i : Int) := by omega
            have hfl : (f : Int) < (L.length : Int) := by omega
            have hfL : f < L'.length := by omega
            have hgf : L'[f].bh ≠ 0 := (gone_iff hr f hfL (by omega)).2 (HA.out.2 f (by omega) haf hlt)
            skip
            have cb := (HO1.out.slot f hfL).2.2.2.2.2.2.2.2.2.2
            obtain ⟨j1, j2, j3⟩ := HO1.out.inv.jump f hfL hgf
            have hji : L'[f].bh ≤ i := by
              by_cases e : L'[f].bh ≤ i
              · exact e
              · have hil : i < L.length := by omega
                have := (gone_iff hr i (by omega) hil).1 (j3 i (by omega) (by omega) (by omega))
                exact absurd (HLV.out hil) this
            obtain ⟨L2, ho2, hr2, hn2, _, hc2⟩ := HO1.out.hop (a := i) hfL hgf hlt (by omega) (fun j hj h1 h2 => (gone_iff hr j hj (by omega)).2 (HA.out.2 j (by omega) (by omega) h2))
            have HO2 := Lib.hid ho2
            have HC2 := Lib.hid (HC1.out.trans (hc2.mono (fun x hx => by simp at hx; subst hx; simp [omS, ob, Value.ownBlock])))
            have gf : W1.frozen? ⟨g, f * 11 + 10, none⟩ = false := by
              have hrow := HO1.out.row
              rw [hn] at hrow
              exact hrow.frozenAt (f * 11 + 10)
            generalize hbq : L'[f].bh = bh at *
            clear j3 ho2 hc2 hgf hbq
            go_wp2
            go_roundw
            case rel => exact ⟨bh, hji, by first | rfl | trivial, Lib.hid ⟨by omega, L2, HO2.out, hr2.trans hr, hn2.trans hn, HC2.out⟩⟩
            case measure => simp [intOf]; omega
          · have hlt' : ¬ (f : Int) < (i : Int) := by omega
            have hfe : f = i := by omega
            clear c0 c1 c2 f0 f1 f2 hb
            go_wp2
            go_ret
            exact ⟨by rw [HPR.out] <;> rfl, ⟨L', HO1.out, hr, hn⟩, HC1.out⟩
      · obtain ⟨j1, j2, j3⟩ := HO.out.inv.jump i hlt hbz
        have d : (0 : Int) < (L[i].bh : Int) := by omega
        have HA2 : Hid (a ≤ L[i].bh ∧ ∀ j (hj : j < L.length), a ≤ j → j < L[i].bh → L[j].bh ≠ 0) := Lib.hid ⟨by have := HA.out.1; omega, fun j hj h1 h2 => by
          by_cases hji : j < i
          · exact HA.out.2 j hj h1 hji
          · exact j3 j hj (by omega) h2⟩
        generalize L[i].bh = bh at *
        clear j3
        go_wp2
        go_roundw
        case rel => exact ⟨bh, j2, by first | rfl | trivial, Lib.hid (by first | rfl | trivial), HA2⟩
        case measure => simp [intOf]; omega
    · have hlt' : ¬ (i : Int) < (L.length : Int) := by omega
      have HPR : Hid (presL L a = i) := Lib.hid (presL_eq HA.out.1 hi (fun e => absurd e hlt) HA.out.2)
      have HLV : Hid (∀ (h : i < L.length), L[i].bh = 0) := Lib.hid fun h => absurd h hlt
      go_wp2
      clear c0 c1 c2 f0 f1 f2 hb
      go_loopw [1] (fun v1 wr => ∃ f : Nat, f ≤ i ∧ v1 = .int .i64 (f : Int) ∧ Hid (a ≤ f ∧ ∃ L', Om B b (.slice p L.length cap) m L' wr ∧ rabs L' = rabs L ∧ L'.length = L.length ∧ Ch (omS b (.slice p L.length cap) m) w wr)) (fun v1 _ => i - (intOf v1).toNat)
      case atStart => exact ⟨a, HA.out.1, rfl, Lib.hid ⟨Nat.le_refl _, L, HO.out, rfl, rfl, Ch.refl _ _⟩⟩
      case round =>
        obtain ⟨f, hfi, rfl, HF⟩ := hrel
        rename World => W1
        obtain ⟨haf, L', ho, hr, hn, hc⟩ := HF.out
        obtain ⟨c0, c1, c2, f0, f1, f2, hb⟩ := ho.cells
        have HO1 := Lib.hid ho
        have HC1 := Lib.hid hc
        clear ho hc HF
        by_cases hlt : f < i
        · have hlt' : (f : Int) < (i : Int) := by omega
          have hfl : (f : Int) < (L.length : Int) := by omega
          have hfL : f < L'.length := by omega
          have hgf : L'[f].bh ≠ 0 := (gone_iff hr f hfL (by omega)).2 (HA.out.2 f (by omega) haf hlt)
          obtain ⟨g, rfl⟩ := HP.out (by omega)
          have cb := (HO1.out.slot f hfL).2.2.2.2.2.2.2.2.2.2
          obtain ⟨j1, j2, j3⟩ := HO1.out.inv.jump f hfL hgf
          have hji : L'[f].bh ≤ i := by
            by_cases e : L'[f].bh ≤ i
            · exact e
            · have hil : i < L.length := by omega
              have := (gone_iff hr i (by omega) hil).1 (j3 i (by omega) (by omega) (by omega))
              exact absurd (HLV.out hil) this
          obtain ⟨L2, ho2, hr2, hn2, _, hc2⟩ := HO1.out.hop (a := i) hfL hgf hlt (by omega) (fun j hj h1 h2 => (gone_iff hr j hj (by omega)).2 (HA.out.2 j (by omega) (by omega) h2))
          have HO2 := Lib.hid ho2
          have HC2 := Lib.hid (HC1.out.trans (hc2.mono (fun x hx => by simp at hx; subst hx; simp [omS, ob, Value.ownBlock])))
          have gf : W1.frozen? ⟨g, f * 11 + 10, none⟩ = false := by
            have hrow := HO1.out.row
            rw [hn] at hrow
            exact hrow.frozenAt (f * 11 + 10)
          generalize hbq : L'[f].bh = bh at *
          clear j3 ho2 hc2 hgf hbq
          go_wp2
          go_roundw
          case rel => exact ⟨bh, hji, by first | rfl | trivial, Lib.hid ⟨by omega, L2, HO2.out, hr2.trans hr, hn2.trans hn, HC2.out⟩⟩
          case measure => simp [intOf]; omega
        · have hlt' : ¬ (f : Int) < (i : Int) := by omega
          have hfe : f = i := by omega
          clear c0 c1 c2 f0 f1 f2 hb
          go_wp2
          go_ret
          exact ⟨by rw [HPR.out] <;> rfl, ⟨L', HO1.out, hr, hn⟩, HC1.out⟩
end Go.Proofs.Ytaaelhhiceildaa
