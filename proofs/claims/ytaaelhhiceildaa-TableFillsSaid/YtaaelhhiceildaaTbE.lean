/- Layer 13: renew. -/
import Derived.Test.YtaaelhhiceildaaTbD
namespace Go.Proofs.Ytaaelhhiceildaa
open Go.RowKit Go.Joins M1
set_option linter.unusedVariables false
theorem own_base {w : World} {B B' : Nat} {e : TypeId} {size n : Nat} {v : Value} {xs : List Value} (h : w.ownsRow B e size v n xs) (hb : B' ≤ B) : w.ownsRow B' e size v n xs := by
  obtain ⟨q1, q2⟩ := h
  refine ⟨q1, q2.imp id ?_⟩
  rintro ⟨x, cp, cur, r1, r2, r3⟩
  exact ⟨x, cp, cur, r1, Nat.le_trans hb r2, r3⟩
theorem OmR.base {B B' b : Nat} {v m : Value} {R : List Rs} {w : World} (h : OmR B b v m R w) (hb : B' ≤ B) : OmR B' b v m R w := by
  obtain ⟨L, ⟨h1, h2, h3, ⟨l, h4, h5, h6⟩, h7⟩, h8⟩ := h
  refine ⟨L, ⟨h1, Nat.le_trans hb h2, own_base h3 hb, ⟨l, h4, h5, ?_⟩, h7⟩, h8⟩
  rcases h6 with h6 | ⟨g, q1, q2, q3⟩
  · exact .inl h6
  · exact .inr ⟨g, q1, Nat.le_trans hb q2, q3⟩
/-- The slots of a map that is filled anew. -/
def renR (R : List Rs) : List Rs := (keysR R).foldl (fun F k => setR F k (getR R k)) []
def renP (R : List Rs) (i : Nat) : List Rs := ((keysR R).take i).foldl (fun F k => setR F k (getR R k)) []
theorem renP_step {R : List Rs} {i : Nat} (hi : i < (keysR R).length) : renP R (i + 1) = setR (renP R i) (keysR R)[i] (getR R (keysR R)[i]) := by
  unfold renP
  rw [List.take_succ_eq_append_getElem hi, List.foldl_append]; rfl
theorem setR_len (R : List Rs) (k v : V5) : (setR R k v).length ≤ R.length + 1 := by
  have hi : (insR R k v).length ≤ R.length + 1 := by
    unfold insR
    rw [List.length_append]
    have := List.length_filter_le aliveR R
    split <;> simp <;> omega
  unfold setR
  split
  · omega
  · split
    · split
      · rw [List.length_set]; omega
      · split
        · rw [List.length_set]; omega
        · exact hi
    · split
      · omega
      · exact hi
theorem renP_len (R : List Rs) : ∀ i, i ≤ (keysR R).length → (renP R i).length ≤ i
  | 0, _ => by simp [renP]
  | i + 1, h => by
    rw [renP_step (by omega)]
    have := setR_len (renP R i) (keysR R)[i] (getR R (keysR R)[i])
    have := renP_len R i (by omega)
    omega
theorem keysR_len (R : List Rs) : (keysR R).length = lenR R := by unfold keysR lenR; rw [List.length_map]
def renewS (s : TS) : TS := ⟨s.arr, s.bl, renR s.R, false⟩
set_option maxHeartbeats 16000000 in
theorem renew_any (B t : Nat) (va : Value) (b : Nat) (v m : Value) (s : TS) (w : World) (h : Tb B t va b v m s w) (hR : s.R.length ≤ 1000000) (hBw : B ≤ w.heap.size) :
    Calls Try.prog 49 #[.pointer (some ⟨t, 0, none⟩)] w fun e w' => e = .returned (.tuple #[]) ∧ TbSaid B t va b v m (renewS s) w w' := by
  have QN := Lib.hid (new_R w.heap.size w (Nat.le_refl _))
  have HT := Lib.hid h
  have HKL : Hid ((keysR s.R).length ≤ 1000000) := Lib.hid (by have := keysR_len s.R; have := lenR_le s.R; omega)
  have HBW := Lib.hid hBw
  clear h hBw
  go_enter Try.func49, Try.ntmps49
  go_upto_region 1 with (go_at_call 25; (with_reducible refine (QN.out).mono ?_); rintro e w1 ⟨f, rfl, hf1, hfb, hb1⟩)
  have HF1 := Lib.hid hf1
  have HB1 := Lib.hid hb1
  have HT1 := Lib.hid (HT.out.below hb1)
  have c2 : w1.cell? ⟨t, 2, none⟩ = some (.pointer (some ⟨b, 0, none⟩)) := HT1.out.blk.cell 2
  have hbl := HT1.out.blk.lt
  have QK := Lib.hid (keys_R B b v m s.R w1 HT1.out.om hR)
  clear hf1 hfb hb1 QN
  go_wp2_with (go_at_call 61; (with_reducible refine (QK.out).mono ?_); rintro e w2 ⟨⟨vK, rfl, hr2⟩, hb2⟩; obtain ⟨pK, cK, rfl⟩ := ownB_form hr2; have HR2 := Lib.hid hr2; have HB2 := Lib.hid hb2; clear hr2 hb2)
  clear c2 hbl QK
  have HFK : Hid (∀ W : World, W.ownsRow w1.heap.size 26 5 (.slice pK (keysR s.R).length cK) (keysR s.R).length ((keysR s.R).flatMap vC) → 0 < (keysR s.R).length → ∃ g, pK = some ⟨g, 0, none⟩ ∧ g < W.heap.size ∧ ∀ i (hi : i < (keysR s.R).length) j, j < 5 → W.cell? ⟨g, i * 5 + j, none⟩ = (vC (keysR s.R)[i])[j]?) := Lib.hid fun W h h0 => by
    rcases Joins.ownsRow_forms h with ⟨e1, e2⟩ | ⟨g, cap, e1⟩
    · omega
    · injection e1 with e1 e2 e3
      subst e1; subst e3
      exact ⟨g, rfl, (own_lo h (mem_ob.2 rfl)).2, fun i hi j hj => by
        rw [h.cellAt (i * 5 + j) (by omega), flat_at vC 5 vC_len _ i j hi hj]⟩
  have HBW2 : Hid (Below w.heap.size w w2) := Lib.hid (HB1.out.trans (HB2.out.mono HB1.out.size))
  have HF2 : Hid (OmR w.heap.size f (.slice none 0 0) (.map none) (renP s.R 0) w2) := Lib.hid (HF1.out.ch (Ch.of_below (S := []) HB2.out) (fun g _ => not_nil g))
  have HFS : Hid (∀ g ∈ omS f (.slice none 0 0) (.map none), g < w1.heap.size) := Lib.hid fun g hg => (HF1.out.lt g hg).2
  go_loopw [12] (fun v12 wr => ∃ (i : Nat) (vf mf : Value), i ≤ (keysR s.R).length ∧ v12 = .int .i64 (i : Int) ∧ Hid (OmR w.heap.size f vf mf (renP s.R i) wr ∧ Below w.heap.size w wr ∧ wr.ownsRow w1.heap.size 26 5 (.slice pK (keysR s.R).length cK) (keysR s.R).length ((keysR s.R).flatMap vC)) ∧ Hid (w2.heap.size ≤ wr.heap.size) ∧ Hid (∀ g ∈ omS f vf mf, g < w1.heap.size ∨ w2.heap.size ≤ g)) (fun v12 _ => (keysR s.R).length - (intOf v12).toNat)
  case atStart => exact ⟨0, .slice none 0 0, .map none, Nat.zero_le _, rfl, Lib.hid ⟨HF2.out, HBW2.out, HR2.out⟩, Lib.hid (Nat.le_refl _), Lib.hid fun g hg => .inl (HFS.out g hg)⟩
  case round =>
    obtain ⟨i, vf, mf, hi, rfl, HX, HSZ, HG⟩ := hrel
    rename World => wr
    clear HF2 HFS
    have HTr := Lib.hid (HT.out.below HX.out.2.1)
    by_cases hlt : i < (keysR s.R).length
    · have hlt' : (i : Int) < ((keysR s.R).length : Int) := by omega
      have hi0' : (0 : Int) ≤ (i : Int) := by omega
      have di : IntKind.i64.wrap ((i : Int) + 1) = (i : Int) + 1 := IntWalk.i64_in _ (by have := HKL.out; omega)
      obtain ⟨g, rfl, hgl, key⟩ := HFK.out wr HX.out.2.2 (by omega)
      have HST : Hid (renP s.R (i + 1) = setR (renP s.R i) (keysR s.R)[i] (getR s.R (keysR s.R)[i])) := Lib.hid (renP_step hlt)
      have QG : Hid (∀ W, OmR B b v m s.R W → Calls Try.prog 33 #[.pointer (some ⟨b, 0, none⟩), .agg #[.int .i64 ((keysR s.R)[i]).k, .int .i64 ((keysR s.R)[i]).p, .int .i64 ((keysR s.R)[i]).q, .string ((keysR s.R)[i]).s, .int .i64 ((keysR s.R)[i]).r]] W fun e w' => e = .returned (.agg #[.int .i64 (getR s.R (keysR s.R)[i]).k, .int .i64 (getR s.R (keysR s.R)[i]).p, .int .i64 (getR s.R (keysR s.R)[i]).q, .string (getR s.R (keysR s.R)[i]).s, .int .i64 (getR s.R (keysR s.R)[i]).r]) ∧ Below W.heap.size W w') := Lib.hid fun W hw => get_R B b v m s.R _ W hw hR
      have HPL : Hid ((renP s.R i).length ≤ 1000000) := Lib.hid (by have := renP_len s.R i hi; have := HKL.out; omega)
      have key2 := key i hlt
      generalize getR s.R (keysR s.R)[i] = z at *
      generalize (keysR s.R)[i] = y at *
      have QS : Hid (∀ W, OmR w.heap.size f vf mf (renP s.R i) W → w.heap.size ≤ W.heap.size → Calls Try.prog 48 #[.pointer (some ⟨f, 0, none⟩), .agg #[.int .i64 y.k, .int .i64 y.p, .int .i64 y.q, .string y.s, .int .i64 y.r], .agg #[.int .i64 z.k, .int .i64 z.p, .int .i64 z.q, .string z.s, .int .i64 z.r]] W fun e w' => (∃ n, e = .returned (.int .i64 n)) ∧ (∃ v' m', OmR w.heap.size f v' m' (setR (renP s.R i) y z) w' ∧ ∀ g ∈ omS f v' m', g ∈ omS f vf mf ∨ W.heap.size ≤ g) ∧ Ch (omS f vf mf) W w') := Lib.hid fun W hw hb => (set_R w.heap.size f vf mf (renP s.R i) y z W hw HPL.out hb).mono fun e w' hh => ⟨⟨_, hh.1⟩, hh.2⟩
      have d0 : wr.cell? ⟨g, i * 5, none⟩ = some (.int .i64 y.k) := key2 0 (by omega)
      have d1 : wr.cell? ⟨g, i * 5 + 1, none⟩ = some (.int .i64 y.p) := key2 1 (by omega)
      have d2 : wr.cell? ⟨g, i * 5 + 2, none⟩ = some (.int .i64 y.q) := key2 2 (by omega)
      have d3 : wr.cell? ⟨g, i * 5 + 3, none⟩ = some (.string y.s) := key2 3 (by omega)
      have d4 : wr.cell? ⟨g, i * 5 + 4, none⟩ = some (.int .i64 y.r) := key2 4 (by omega)
      clear key key2
      have HC3 : Hid (Ch [] wr (wr.alloc (.cells #[.int .i64 y.k, .int .i64 y.p, .int .i64 y.q, .string y.s, .int .i64 y.r] 26))) := Lib.hid ((Ch.refl [] wr).alloc _)
      have K3 : Hid (Blk 26 wr.heap.size #[.int .i64 y.k, .int .i64 y.p, .int .i64 y.q, .string y.s, .int .i64 y.r] (wr.alloc (.cells #[.int .i64 y.k, .int .i64 y.p, .int .i64 y.q, .string y.s, .int .i64 y.r] 26))) := Lib.hid (Blk.new wr _ _ _ rfl)
      go_upto_region 4 with fail
      generalize (wr.alloc (.cells #[.int .i64 y.k, .int .i64 y.p, .int .i64 y.q, .string y.s, .int .i64 y.r] 26)) = w3 at *
      clear d0 d1 d2 d3 d4 hgl
      have u0 : w3.cell? ⟨wr.heap.size, 0, none⟩ = some (.int .i64 y.k) := K3.out.cell 0
      have u1 : w3.cell? ⟨wr.heap.size, 1, none⟩ = some (.int .i64 y.p) := K3.out.cell 1
      have u2 : w3.cell? ⟨wr.heap.size, 2, none⟩ = some (.int .i64 y.q) := K3.out.cell 2
      have u3 : w3.cell? ⟨wr.heap.size, 3, none⟩ = some (.string y.s) := K3.out.cell 3
      have u4 : w3.cell? ⟨wr.heap.size, 4, none⟩ = some (.int .i64 y.r) := K3.out.cell 4
      have lu := K3.out.lt
      have HT3 := Lib.hid (HTr.out.ch0 HC3.out)
      have c2 : w3.cell? ⟨t, 2, none⟩ = some (.pointer (some ⟨b, 0, none⟩)) := HT3.out.blk.cell 2
      have hbl := HT3.out.blk.lt
      go_region_law (first | (go_simp; go_at_call 33; (with_reducible refine (QG.out _ ?hc).mono ?_); (case hc => first | exact HT3.out.om.ch ((Ch.refl [] w3).drew) (fun g' _ => not_nil g') | exact HT3.out.om | exact HT3.out.om.ch ((Ch.refl [] w3).drewN _) (fun g' _ => not_nil g')); rintro e w4 ⟨rfl, hb4⟩; (first | have HC4 : Hid (Ch [] w3 w4) := Lib.hid (Ch.of_below hb4) | have HC4 : Hid (Ch [] w3 w4) := Lib.hid (((Ch.refl [] w3).drew).trans (Ch.of_below hb4)) | have HC4 : Hid (Ch [] w3 w4) := Lib.hid (((Ch.refl [] w3).drewN _).trans (Ch.of_below hb4))); have K4 := Lib.hid (K3.out.ch HC4.out (not_nil _)); have x0 : w4.cell? ⟨wr.heap.size, 0, none⟩ = some (.int .i64 y.k) := K4.out.cell 0; have x1 : w4.cell? ⟨wr.heap.size, 1, none⟩ = some (.int .i64 y.p) := K4.out.cell 1; have x2 : w4.cell? ⟨wr.heap.size, 2, none⟩ = some (.int .i64 y.q) := K4.out.cell 2; have x3 : w4.cell? ⟨wr.heap.size, 3, none⟩ = some (.string y.s) := K4.out.cell 3; have x4 : w4.cell? ⟨wr.heap.size, 4, none⟩ = some (.int .i64 y.r) := K4.out.cell 4; have lx := K4.out.lt; clear hb4) | (go_simp; go_at_call 48; (with_reducible refine (QS.out _ ?hc ?hd).mono ?_); (case hc => first | exact HX.out.1.ch (HC3.out.trans HC4.out) (fun g' _ => not_nil g') | exact HX.out.1.ch ((HC3.out.trans HC4.out).drew) (fun g' _ => not_nil g') | exact HX.out.1.ch ((HC3.out.trans HC4.out).drewN _) (fun g' _ => not_nil g')); (case hd => first | exact Nat.le_trans HX.out.2.1.size (HC3.out.trans HC4.out).size | exact Nat.le_trans HX.out.2.1.size (HC3.out.trans HC4.out).drew.size); rintro e w5 ⟨⟨n, rfl⟩, ⟨v5, m5, ho5, hf5⟩, hc5⟩; have HO5 := Lib.hid (And.intro ho5 (And.intro hf5 hc5)); clear ho5 hf5 hc5))
      all_goals (
        have HC45 : Hid (Ch (omS f vf mf) wr w5) := Lib.hid (by first | exact ((HC3.out.trans HC4.out).mono (fun g' hg' => absurd hg' (not_nil g'))).trans HO5.out.2.2 | exact ((HC3.out.trans HC4.out).drew.mono (fun g' hg' => absurd hg' (not_nil g'))).trans HO5.out.2.2)
        have HX5 : Hid (OmR w.heap.size f v5 m5 (renP s.R (i + 1)) w5 ∧ Below w.heap.size w w5 ∧ w5.ownsRow w1.heap.size 26 5 (.slice (some ⟨g, 0, none⟩) (keysR s.R).length cK) (keysR s.R).length ((keysR s.R).flatMap vC)) := Lib.hid ⟨by rw [HST.out]; exact HO5.out.1, HX.out.2.1.trans (HC45.out.belowB (fun g' hg' => (HX.out.1.lt g' hg').1) HX.out.2.1.size), HC45.out.ownB HX.out.2.2 (fun g' hg' hg2 => by have h1 := own_lo HR2.out hg'; have h2 := HG.out g' hg2; omega)⟩
        have HG5 : Hid (∀ g' ∈ omS f v5 m5, g' < w1.heap.size ∨ w2.heap.size ≤ g') := Lib.hid fun g' hg' => by
          rcases HO5.out.2.1 g' hg' with q | q
          · exact HG.out g' q
          · right
            have h1 := HSZ.out
            have h4 := HC3.out.size
            have h5 := HC4.out.size
            (try simp at q)
            omega
        go_wp2
        go_roundw
        (case rel => exact ⟨i + 1, v5, m5, by omega, by go_num, HX5, Lib.hid (Nat.le_trans HSZ.out HC45.out.size), HG5⟩)
        (case measure => simp [intOf]; omega))
    · have hlt' : ¬ (i : Int) < ((keysR s.R).length : Int) := by omega
      have HF : Hid (OmR w.heap.size f vf mf (renR s.R) wr) := Lib.hid (by have := HX.out.1; rw [show renP s.R i = renR s.R from by unfold renP renR; rw [show i = (keysR s.R).length by omega, List.take_length]] at this; exact this)
      have c2 : wr.cell? ⟨t, 2, none⟩ = some (.pointer (some ⟨b, 0, none⟩)) := HTr.out.blk.cell 2
      have c3 : wr.cell? ⟨t, 3, none⟩ = some (.bool s.st) := HTr.out.blk.cell 3
      have f2 := HTr.out.blk.fz 2
      have f3 := HTr.out.blk.fz 3
      have hbl := HTr.out.blk.lt
      have HE : Hid (TbSaid B t va b v m (renewS s) w ((wr.setCell ⟨t, 2, none⟩ (.pointer (some ⟨f, 0, none⟩))).setCell ⟨t, 3, none⟩ (.bool false))) := Lib.hid (by
        have hs : Ch [t] wr ((wr.setCell ⟨t, 2, none⟩ (.pointer (some ⟨f, 0, none⟩))).setCell ⟨t, 3, none⟩ (.bool false)) := ((Ch.refl [t] wr).set t 2 _ (.inl (by simp))).set t 3 _ (.inl (by simp))
        have htl := (HT.out.lt t (by simp [tbS])).2
        have hof : ∀ g ∈ omS f vf mf, w.heap.size ≤ g := fun g hg => (HF.out.lt g hg).1
        refine ⟨⟨va, f, vf, mf, ⟨(HTr.out.blk.set 2 _).set 3 _, HTr.out.lo, hs.ownB HTr.out.row (fun g hg => by simp; exact (HTr.out.apr g hg).1), (HF.out.base HBW.out).ch hs (fun g hg => by simp; intro e; have := hof g hg; omega), fun hg => by have := hof t hg; omega, fun g hg => ⟨(HTr.out.apr g hg).1, fun h2 => by have := hof g h2; have := (HT.out.lt g (by simp [tbS, hg])).2; omega⟩, HTr.out.bnd⟩, fun g hg => ?_⟩, ?_⟩
        · simp only [tbS, List.mem_cons, List.mem_append] at hg ⊢
          rcases hg with q | q | q
          · exact .inl (.inl q)
          · exact .inl (.inr (.inl q))
          · exact .inr (hof g q)
        · exact (Ch.of_below HX.out.2.1).trans (hs.mono (by simp [tbS])))
      go_wp2
      go_end0
      exact ⟨rfl, HE.out⟩
end Go.Proofs.Ytaaelhhiceildaa
