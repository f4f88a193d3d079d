/- Layer 13: extend. -/
import Derived.Test.YtaaelhhiceildaaTbF
import Derived.Test.YtaaelhhiceildaaOdrR
import Derived.Deep.AppendLies
namespace Go.Proofs.Ytaaelhhiceildaa
open Go.RowKit Go.Joins M1
set_option linter.unusedVariables false
def lenAt (w : World) (t : Nat) : Nat := match w.cell? ⟨t, 0, none⟩ with
  | some (.slice _ n _) => n
  | _ => 0
/-- The state of the walk. -/
structure ExW (B t : Nat) (va : Value) (b : Nat) (v m : Value) (n : Nat) (w0 : World) (va' : Value) (b' : Nat) (v' m' : Value) (s' : TS) (x : V5) (W : World) : Prop where
  tb : Tb B t va' b' v' m' s' W
  fr : ∀ g ∈ tbS t va' b' v' m', g ∈ tbS t va b v m ∨ w0.heap.size ≤ g
  ch : Ch (n :: tbS t va b v m) w0 W
  bx : Blk 26 n #[.int .i64 x.k, .int .i64 x.p, .int .i64 x.q, .string x.s, .int .i64 x.r] W
theorem ExW.ch0 {B t : Nat} {va : Value} {b : Nat} {v m : Value} {n : Nat} {w0 : World} {va' : Value} {b' : Nat} {v' m' : Value} {s' : TS} {x : V5} {W W' : World} (h : ExW B t va b v m n w0 va' b' v' m' s' x W) (hc : Ch [] W W') : ExW B t va b v m n w0 va' b' v' m' s' x W' :=
  ⟨h.tb.ch0 hc, h.fr, h.ch.trans (hc.mono (fun g hg => absurd hg (not_nil g))), h.bx.ch hc (not_nil _)⟩
/-- A call that writes the table's blocks alone. -/
theorem ExW.next {B t : Nat} {va : Value} {b : Nat} {v m : Value} {n : Nat} {w0 : World} {va' : Value} {b' : Nat} {v' m' : Value} {s' s2 : TS} {x : V5} {W W' : World} (h : ExW B t va b v m n w0 va' b' v' m' s' x W) (hn : n < w0.heap.size) (hnt : n ∉ tbS t va b v m) {va2 : Value} {b2 : Nat} {v2 m2 : Value} (k : Tb B t va2 b2 v2 m2 s2 W') (hf : ∀ g ∈ tbS t va2 b2 v2 m2, g ∈ tbS t va' b' v' m' ∨ W.heap.size ≤ g) (hc : Ch (tbS t va' b' v' m') W W') : ExW B t va b v m n w0 va2 b2 v2 m2 s2 x W' := by
  have hs := h.ch.size
  have hnn : n ∉ tbS t va' b' v' m' := fun hq => by
    rcases h.fr n hq with q | q
    · exact hnt q
    · omega
  refine ⟨k, fun g hg => ?_, ⟨hc.os.trans h.ch.os, hc.tape.trans h.ch.tape, hc.output.trans h.ch.output, Nat.le_trans hs hc.size, fun g q1 q2 => (hc.block g (Nat.lt_of_lt_of_le q1 hs) (fun e => ?_)).trans (h.ch.block g q1 q2)⟩, h.bx.ch hc hnn⟩
  · rcases hf g hg with q | q
    · exact h.fr g q
    · right; omega
  · rcases h.fr g e with q | q
    · exact q2 (List.mem_cons_of_mem _ q)
    · omega
/-- The box is written. -/
theorem ExW.box {B t : Nat} {va : Value} {b : Nat} {v m : Value} {n : Nat} {w0 : World} {va' : Value} {b' : Nat} {v' m' : Value} {s' : TS} {x z : V5} {W : World} (h : ExW B t va b v m n w0 va' b' v' m' s' x W) (hn : n < w0.heap.size) (hnt : n ∉ tbS t va b v m) : ExW B t va b v m n w0 va' b' v' m' s' z (st5 W n (.int .i64 z.k) (.int .i64 z.p) (.int .i64 z.q) (.string z.s) (.int .i64 z.r)) := by
  have hc : Ch [n] W (st5 W n (.int .i64 z.k) (.int .i64 z.p) (.int .i64 z.q) (.string z.s) (.int .i64 z.r)) := st5_ch (Ch.refl _ _) (.inl (by simp))
  have hnn : n ∉ tbS t va' b' v' m' := fun hq => by
    rcases h.fr n hq with q | q
    · exact hnt q
    · omega
  exact ⟨h.tb.ch hc (fun g hg e => hnn (by rw [List.mem_singleton] at e; rw [← e]; exact hg)), h.fr, h.ch.trans (hc.mono (fun g hg => by rw [List.mem_singleton] at hg; rw [hg]; exact List.mem_cons_self)), st5_blk h.bx⟩
theorem Ch.after {S : List Nat} {w w1 W : World} {n : Nat} (h : Ch [] w w1) (hn : w.heap.size ≤ n) (k : Ch (n :: S) w1 W) : Ch S w W :=
  ⟨k.os.trans h.os, k.tape.trans h.tape, k.output.trans h.output, Nat.le_trans h.size k.size, fun g h1 h2 => (k.block g (Nat.lt_of_lt_of_le h1 h.size) (fun e => by
    rcases List.mem_cons.1 e with e | e
    · omega
    · exact h2 e)).trans (h.block g h1 (not_nil g))⟩
/-- What the walk leaves. -/
theorem ExW.fin {B t : Nat} {va : Value} {b : Nat} {v m : Value} {n : Nat} {w w0 : World} {va' : Value} {b' : Nat} {v' m' : Value} {s' : TS} {x : V5} {W W' : World} (h : ExW B t va b v m n w0 va' b' v' m' s' x W) (h0 : Ch [] w w0) (hn : w.heap.size ≤ n) (hc : Ch [] W W') : Tb B t va' b' v' m' s' W' ∧ (∀ g ∈ tbS t va' b' v' m', g ∈ tbS t va b v m ∨ w.heap.size ≤ g) ∧ Ch (tbS t va b v m) w W' :=
  ⟨h.tb.ch0 hc, fun g hg => by
    rcases h.fr g hg with q | q
    · exact .inl q
    · right; have := h0.size; omega, (h0.after hn h.ch).trans (hc.mono (fun g hg => absurd hg (not_nil g)))⟩
theorem ExW.chS {B t : Nat} {va : Value} {b : Nat} {v m : Value} {n : Nat} {w0 : World} {va' : Value} {b' : Nat} {v' m' : Value} {s' : TS} {x : V5} {S : List Nat} {W W' : World} (h : ExW B t va b v m n w0 va' b' v' m' s' x W) (hc : Ch S W W') (hS : ∀ g ∈ S, w0.heap.size ≤ g ∧ g ∉ tbS t va' b' v' m' ∧ g ≠ n) : ExW B t va b v m n w0 va' b' v' m' s' x W' :=
  ⟨h.tb.ch hc (fun g q1 q2 => (hS g q2).2.1 q1), h.fr, ⟨hc.os.trans h.ch.os, hc.tape.trans h.ch.tape, hc.output.trans h.ch.output, Nat.le_trans h.ch.size hc.size, fun g q1 q2 => (hc.block g (Nat.lt_of_lt_of_le q1 h.ch.size) (fun e => by have := (hS g e).1; omega)).trans (h.ch.block g q1 q2)⟩, h.bx.ch hc (fun e => (hS n e).2.2 rfl)⟩
theorem ex_om {B t : Nat} {va : Value} {b : Nat} {v m : Value} {n : Nat} {w0 : World} {va' : Value} {b' : Nat} {v' m' : Value} {s' : TS} {x : V5} {W W0 W' : World} (h : ExW B t va b v m n w0 va' b' v' m' s' x W) (h0 : Ch [] W W0) (hn : n < w0.heap.size) (hnt : n ∉ tbS t va b v m) (ho : OmR B b' v' m' s'.R W') (hc : Ch (omS b' v' m') W0 W') : ExW B t va b v m n w0 va' b' v' m' s' x W' := by
  have hall : Ch (omS b' v' m') W W' := (h0.mono (fun g hg => absurd hg (not_nil g))).trans hc
  exact h.next hn hnt ⟨h.tb.blk.ch hall h.tb.apt, h.tb.lo, hall.ownB h.tb.row (fun g hg => (h.tb.apr g hg).2), ho, h.tb.apt, h.tb.apr, h.tb.bnd⟩ (fun g hg => .inl hg) (hall.mono (fun g hg => by simp [tbS, hg]))
set_option maxHeartbeats 16000000 in
set_option maxRecDepth 100000 in
theorem ext_any (B t : Nat) (va : Value) (b : Nat) (v m : Value) (s : TS) (w : World) (h : Tb B t va b v m s w) (x0 : V5) (hg : Good s.R) (hL : s.arr.length + s.R.length ≤ 900000) (hBw : B ≤ w.heap.size) :
    Calls Try.prog 30 #[.pointer (some ⟨t, 0, none⟩), .agg #[.int .i64 x0.k, .int .i64 x0.p, .int .i64 x0.q, .string x0.s, .int .i64 x0.r]] w fun e w' => e = .returned (.tuple #[]) ∧ TbSaid B t va b v m (extS s x0) w w' := by
  obtain ⟨i0, hi0, jz0, jz1, jz2⟩ := info_parts info_val
  have hlr := lenR_le s.R
  have HT0 : Hid (Tb B t va b v m s (w.alloc (.cells #[.int .i64 x0.k, .int .i64 x0.p, .int .i64 x0.q, .string x0.s, .int .i64 x0.r] 26))) := Lib.hid (h.ch0 ((Ch.refl [] w).alloc _))
  have HC0 : Hid (Ch [] w (w.alloc (.cells #[.int .i64 x0.k, .int .i64 x0.p, .int .i64 x0.q, .string x0.s, .int .i64 x0.r] 26))) := Lib.hid ((Ch.refl [] w).alloc _)
  have HK0 : Hid (Blk 26 w.heap.size #[.int .i64 x0.k, .int .i64 x0.p, .int .i64 x0.q, .string x0.s, .int .i64 x0.r] (w.alloc (.cells #[.int .i64 x0.k, .int .i64 x0.p, .int .i64 x0.q, .string x0.s, .int .i64 x0.r] 26))) := Lib.hid (Blk.new w _ _ _ rfl)
  have HNT : Hid (∀ g ∈ tbS t va b v m, g < w.heap.size) := Lib.hid fun g hg => (h.lt g hg).2
  have HE0 : Hid (Ex s x0 (lenR s.R + 2) s x0) := Lib.hid (ex_zero s x0 hg (vld_small (by omega) (by omega)))
  have HLL := Lib.hid hL
  have HLR := Lib.hid hlr
  have HBW := Lib.hid hBw
  have HW1 : Hid (w.heap.size < (w.alloc (.cells #[.int .i64 x0.k, .int .i64 x0.p, .int .i64 x0.q, .string x0.s, .int .i64 x0.r] 26)).heap.size) := Lib.hid (Blk.new w 26 #[.int .i64 x0.k, .int .i64 x0.p, .int .i64 x0.q, .string x0.s, .int .i64 x0.r] _ rfl).lt
  clear h hg hL hBw hlr
  go_enter Try.func30, Try.ntmps30
  go_upto_region 1 with fail
  generalize (w.alloc (.cells #[.int .i64 x0.k, .int .i64 x0.p, .int .i64 x0.q, .string x0.s, .int .i64 x0.r] 26)) = w0 at *
  go_loopw [4] (fun v4 wr => ∃ (s' : TS) (va' : Value) (b' : Nat) (v' m' : Value) (x : V5) (f : Nat), Hid (ExW B t va b v m w.heap.size w0 va' b' v' m' s' x wr) ∧ Hid (Ex s x0 f s' x)) (fun _ wr => s.arr.length + lenR s.R + 2 - lenAt wr t)
  case atStart => exact ⟨s, va, b, v, m, x0, _, Lib.hid ⟨HT0.out, fun g hg => .inl hg, Ch.refl _ _, HK0.out⟩, HE0⟩
  case round =>
    obtain ⟨s', va', b', v', m', x, f, HX, HE⟩ := hrel
    rename World => wr
    have HBR : Hid (B ≤ wr.heap.size) := Lib.hid (Nat.le_trans HBW.out (Nat.le_trans HC0.out.size HX.out.ch.size))
    obtain ⟨p, cap, rfl, hp⟩ := HX.out.tb.form
    clear hp
    have k0 : wr.cell? ⟨w.heap.size, 0, none⟩ = some (.int .i64 x.k) := HX.out.bx.cell 0
    have k1 : wr.cell? ⟨w.heap.size, 1, none⟩ = some (.int .i64 x.p) := HX.out.bx.cell 1
    have k2 : wr.cell? ⟨w.heap.size, 2, none⟩ = some (.int .i64 x.q) := HX.out.bx.cell 2
    have k3 : wr.cell? ⟨w.heap.size, 3, none⟩ = some (.string x.s) := HX.out.bx.cell 3
    have k4 : wr.cell? ⟨w.heap.size, 4, none⟩ = some (.int .i64 x.r) := HX.out.bx.cell 4
    have hkl := HX.out.bx.lt
    by_cases hx : x.k = 0
    · have ex : (x.k != 0) = false := by simp [hx]
      have HEE : Hid (extE s x0 = s') := Lib.hid (ex_end HE.out hx)
      clear hx
      have HRE : Hid (s'.R.length ≤ 1000000) := Lib.hid (by have h1 := HE.out.len; have h2 := HLL.out; omega)
      have c2 : wr.cell? ⟨t, 2, none⟩ = some (.pointer (some ⟨b', 0, none⟩)) := HX.out.tb.blk.cell 2
      have hbl := HX.out.tb.blk.lt
      cases hst : s'.st with
      | false =>
        have c3 : wr.cell? ⟨t, 3, none⟩ = some (.bool false) := by have := HX.out.tb.blk.cell 3; rw [hst] at this; exact this
        have HES : Hid (extS s x0 = s') := Lib.hid (by unfold extS; rw [HEE.out, if_neg (by rw [hst]; simp)])
        clear hst
        go_upto_region 9 with fail
        go_quiet (fail)
        go_wp2_with fail
        go_end0
        have HFN : ∀ W, Ch [] wr W → TbSaid B t va b v m s' w W := fun W hc => by
          have h1 := HX.out.fin HC0.out (Nat.le_refl _) hc
          exact ⟨⟨_, _, _, _, h1.1, h1.2.1⟩, h1.2.2⟩
        exact ⟨rfl, by rw [HES.out]; exact HFN _ (by first | exact Ch.refl _ _ | exact (Ch.refl _ _).drew | exact (Ch.refl _ _).drewN _)⟩
      | true =>
        have c3 : wr.cell? ⟨t, 3, none⟩ = some (.bool true) := by have := HX.out.tb.blk.cell 3; rw [hst] at this; exact this
        have QSL : Hid (∀ W, OmR B b' v' m' s'.R W → Calls Try.prog 41 #[.pointer (some ⟨b', 0, none⟩)] W fun e w' => e = .returned (.int .i64 (s'.R.length : Int)) ∧ W = w') := Lib.hid fun W hw => slots_R B b' v' m' s'.R W hw
        have QLE : Hid (∀ W, OmR B b' v' m' s'.R W → Calls Try.prog 36 #[.pointer (some ⟨b', 0, none⟩)] W fun e w' => e = .returned (.int .i64 (lenR s'.R : Int)) ∧ W = w') := Lib.hid fun W hw => len_R B b' v' m' s'.R W hw
        have dl : IntKind.i64.wrap (2 * (lenR s'.R : Int)) = 2 * (lenR s'.R : Int) := IntWalk.i64_in _ (by have := lenR_le s'.R; have := HRE.out; omega)
        have ho6 := HX.out.tb.om
        have hW := Below.refl wr.heap.size wr
        have hcc : ∀ c o, c < wr.heap.size → wr.drew.cell? ⟨c, o, none⟩ = wr.cell? ⟨c, o, none⟩ := fun _ _ _ => rfl
        go_upto_region 9 with fail
        by_cases hq : 2 * lenR s'.R ≤ s'.R.length
        · have HES : Hid (extS s x0 = renewS s') := Lib.hid (by unfold extS; rw [HEE.out, if_pos ⟨hst, hq⟩])
          have hq2 : (2 * (lenR s'.R : Int) ≤ (s'.R.length : Int)) := by omega
          clear hq
          generalize (lenR s'.R : Int) = ln at *
          generalize (s'.R.length : Int) = sl at *
          go_region_held3 (fun w' => (∀ c o, c < wr.heap.size → w'.cell? ⟨c, o, none⟩ = wr.cell? ⟨c, o, none⟩) ∧ OmR B b' v' m' s'.R w' ∧ Below wr.heap.size wr w') (first | assumption | exact ⟨hcc, ho6.ch ((Ch.refl [] wr).drew) (by simp), hW.drew⟩) (first | (go_at_call 41; have hE := (‹_ ∧ OmR _ _ _ _ _ _ ∧ Below _ _ _›).2.1; (with_reducible refine (QSL.out _ hE).mono ?_); clear hE; rintro e w7 ⟨rfl, rfl⟩) | (go_at_call 36; have hE := (‹_ ∧ OmR _ _ _ _ _ _ ∧ Below _ _ _›).2.1; (with_reducible refine (QLE.out _ hE).mono ?_); clear hE; rintro e w7 ⟨rfl, rfl⟩))
          all_goals (
            have hS := ‹_ ∧ OmR _ _ _ _ _ _ ∧ Below _ _ _›
            generalize wr.drew = Y1 at *
            have HC1 : Hid (Ch [] wr Y1) := Lib.hid (Ch.of_below hS.2.2)
            have HFN := Lib.hid (HX.out.fin HC0.out (Nat.le_refl _) HC1.out)
            clear hS ho6 hW hcc c2 c3 hbl
            have QR := Lib.hid (renew_any B t _ b' v' m' s' Y1 HFN.out.1 HRE.out (Nat.le_trans HBR.out HC1.out.size))
            go_wp2_with (go_at_call 49; (with_reducible refine (QR.out).mono ?_); rintro e Y2 ⟨rfl, hr2⟩)
            have HR2 := Lib.hid hr2
            clear hr2
            go_end0
            exact ⟨rfl, by rw [HES.out]; exact tb_chain HFN.out.2.1 HFN.out.2.2 HR2.out⟩)
        · have HES : Hid (extS s x0 = s') := Lib.hid (by unfold extS; rw [HEE.out, if_neg (fun q => hq q.2)])
          have hq2 : ¬ (2 * (lenR s'.R : Int) ≤ (s'.R.length : Int)) := by omega
          clear hq
          generalize (lenR s'.R : Int) = ln at *
          generalize (s'.R.length : Int) = sl at *
          go_region_held3 (fun w' => (∀ c o, c < wr.heap.size → w'.cell? ⟨c, o, none⟩ = wr.cell? ⟨c, o, none⟩) ∧ OmR B b' v' m' s'.R w' ∧ Below wr.heap.size wr w') (first | assumption | exact ⟨hcc, ho6.ch ((Ch.refl [] wr).drew) (by simp), hW.drew⟩) (first | (go_at_call 41; have hE := (‹_ ∧ OmR _ _ _ _ _ _ ∧ Below _ _ _›).2.1; (with_reducible refine (QSL.out _ hE).mono ?_); clear hE; rintro e w7 ⟨rfl, rfl⟩) | (go_at_call 36; have hE := (‹_ ∧ OmR _ _ _ _ _ _ ∧ Below _ _ _›).2.1; (with_reducible refine (QLE.out _ hE).mono ?_); clear hE; rintro e w7 ⟨rfl, rfl⟩))
          all_goals (
            have hS := ‹_ ∧ OmR _ _ _ _ _ _ ∧ Below _ _ _›
            generalize wr.drew = Y1 at *
            have HC1 : Hid (Ch [] wr Y1) := Lib.hid (Ch.of_below hS.2.2)
            have HFN := Lib.hid (HX.out.fin HC0.out (Nat.le_refl _) HC1.out)
            clear hS ho6 hW hcc c2 c3 hbl
            go_wp2_with fail
            go_end0
            exact ⟨rfl, by rw [HES.out]; exact ⟨⟨_, _, _, _, HFN.out.1, HFN.out.2.1⟩, HFN.out.2.2⟩⟩)
    · have ex : (x.k != 0) = true := bne_iff_ne.2 hx
      have HBN := Lib.hid (HE.out.bnd hx)
      have HLN : Hid (s'.arr.length + 1 ≤ 900001) := Lib.hid (by have := HBN.out; have := HLL.out; have := HLR.out; omega)
      have HRN : Hid (s'.R.length ≤ 900000) := Lib.hid (by have := HE.out.len; have := HLL.out; omega)
      obtain ⟨f2, hE2⟩ := ex_step HE.out hx (vld_small (by omega) (by have := HLN.out; omega)) (vld_small (by omega) (by have := HLN.out; omega))
      have HE2 := Lib.hid hE2
      have HLA : Hid (lenAt wr t = s'.arr.length) := Lib.hid (by unfold lenAt; rw [show wr.cell? ⟨t, 0, none⟩ = some (.slice p s'.arr.length cap) from HX.out.tb.blk.cell 0])
      have c0 : wr.cell? ⟨t, 0, none⟩ = some (.slice p s'.arr.length cap) := HX.out.tb.blk.cell 0
      have hbl := HX.out.tb.blk.lt
      clear hx hE2
      have HNM : Hid (w.heap.size < w0.heap.size ∧ w.heap.size ∉ tbS t va b v m) := Lib.hid ⟨HW1.out, fun hq => absurd (HNT.out _ hq) (Nat.lt_irrefl _)⟩
      go_upto_region 2 with fail
      go_cut [19] from 9 to 62 (fun v19 wx => ∃ va1, Hid (ExW B t va b v m w.heap.size w0 va1 b' v' m' ⟨s'.arr ++ [x], s'.bl, s'.R, s'.st⟩ x wx))
      case first =>
        go_region_law (refine step_append_lies _ (by rfl) _ _ 45 (by rfl) B 26 i0 (.agg #[.int .i64 0, .int .i64 0, .int .i64 0, .string ⟨#[]⟩, .int .i64 0]) 5 48 Try.underlying45 hi0 jz0 jz1 jz2 rfl (by decide) _ s'.arr.length (s'.arr.flatMap vC) (by rfl) (Ch.ownB (by first | exact ((Ch.refl [] wr).drew).alloc _ | exact ((Ch.refl [] wr).alloc _).drew) HX.out.tb.row (fun g _ => not_nil g)) ⟨wr.heap.size, 0, none⟩ 1 1 (vC x) (by rfl) (by rfl) (by first | exact vC_at x wr.drew _ rfl | exact vC_at x wr _ rfl) (vC_one _) (by decide) (by unfold maxLen; have := HLN.out; omega) (by have := HLN.out; omega) (by have := HBR.out; simp; omega) _ (by rfl) ?_; intro g1 cp w5 hown1 hgrow hat hlt1; have h35 : Ch (ob (.slice p s'.arr.length cap)) wr w5 := Ch.trans (by first | exact ((Ch.refl _ wr).drew).alloc _ | exact ((Ch.refl _ wr).alloc _).drew) (Ch.of_grown hgrow (fun y e => mem_ob.2 e)); have H35 := Lib.hid h35; have HO1 := Lib.hid hown1; have HAT := Lib.hid hat; have hbk5 := HX.out.tb.blk.ch h35 (fun hy => (HX.out.tb.apr _ hy).1 rfl); have HBK5 := Lib.hid hbk5; have u0 : w5.cell? ⟨t, 0, none⟩ = some (.slice p s'.arr.length cap) := hbk5.cell 0; have v0 := hbk5.fz 0; have hb5 := hbk5.lt; clear h35 hown1 hgrow hat hbk5)
        all_goals (
          have hg1t : g1 ≠ t := ob_blk HO1.out HBK5.out (by decide) g1 (mem_ob.2 rfl)
          have hs : Ch [t] w5 (w5.setCell ⟨t, 0, none⟩ (.slice (some ⟨g1, 0, none⟩) (s'.arr.length + 1) cp)) := (Ch.refl [t] w5).set t 0 _ (.inl (by simp))
          have hg1 : g1 ∈ ob (Value.slice p s'.arr.length cap) ∨ wr.heap.size ≤ g1 := by
            rcases HAT.out with h' | h'
            · left; rw [mem_ob, h']
            · right; rw [h']; simp
          have hg1m : g1 ∉ omS b' v' m' := fun hm => by
            rcases hg1 with q | q
            · exact (HX.out.tb.apr g1 q).2 hm
            · have := (HX.out.tb.om.lt g1 hm).2; omega
          have HT5 : Tb B t (.slice (some ⟨g1, 0, none⟩) (s'.arr.length + 1) cp) b' v' m' ⟨s'.arr ++ [x], s'.bl, s'.R, s'.st⟩ (w5.setCell ⟨t, 0, none⟩ (.slice (some ⟨g1, 0, none⟩) (s'.arr.length + 1) cp)) := by
            refine ⟨HBK5.out.set 0 _, HX.out.tb.lo, ?_, (HX.out.tb.om.ch H35.out (fun g hg hg2 => (HX.out.tb.apr g hg2).2 hg)).ch hs (fun g hg => by simp; intro e; subst e; exact HX.out.tb.apt hg), HX.out.tb.apt, fun g hg => ?_, ?_⟩
            · have := hs.ownB HO1.out (fun y hy => by simp [Go.Proofs.Ytaaelhhiceildaa.ob, Value.ownBlock] at hy; subst hy; simpa using hg1t)
              show World.ownsRow _ B _ 5 _ (s'.arr ++ [x]).length ((s'.arr ++ [x]).flatMap vC)
              rw [List.length_append, List.flatMap_append]
              simpa using this
            · simp [Go.Proofs.Ytaaelhhiceildaa.ob, Value.ownBlock] at hg
              subst hg
              exact ⟨hg1t, hg1m⟩
            · have := HX.out.tb.bnd
              show s'.bl ≤ (s'.arr ++ [x]).length
              rw [List.length_append]; omega
          have HXX := Lib.hid (HX.out.next HNM.out.1 HNM.out.2 HT5 (fun g hg => by
            simp only [tbS, List.mem_cons, List.mem_append] at hg ⊢
            rcases hg with q | q | q
            · exact .inl (.inl q)
            · simp [Go.Proofs.Ytaaelhhiceildaa.ob, Value.ownBlock] at q
              subst q
              rcases hg1 with q | q
              · exact .inl (.inr (.inl q))
              · exact .inr q
            · exact .inl (.inr (.inr q))) ((H35.out.mono (fun g hg => by simp [tbS, hg])).trans (hs.mono (fun g hg => by simp at hg; subst hg; simp [tbS]))))
          clear HT5 hs hg1 hg1m hg1t
          go_wp2_with fail
          go_meet
          exact ⟨_, HXX⟩)
      obtain ⟨va1, HX1⟩ := hcut
      rename World => V1
      clear k0 k1 k2 k3 k4 hkl c0 hbl
      have HLX : Hid ((⟨s'.arr ++ [x], s'.bl, s'.R, s'.st⟩ : TS).arr.length = s'.arr.length + 1) := Lib.hid (by simp)
      obtain ⟨p1, cap1, rfl, hp1⟩ := HX1.out.tb.form
      clear hp1
      rw [show (⟨s'.arr ++ [x], s'.bl, s'.R, s'.st⟩ : TS).arr.length = s'.arr.length + 1 from HLX.out] at HX1
      have c0 : V1.cell? ⟨t, 0, none⟩ = some (.slice p1 (s'.arr.length + 1) cap1) := HX1.out.tb.blk.cell 0
      have hbl := HX1.out.tb.blk.lt
      obtain ⟨kx, hkx⟩ : ∃ kx, keyV ((s'.arr.length : Int) + 1) = kx := ⟨_, rfl⟩
      have HKX := Lib.hid hkx
      clear hkx
      have QI : Hid (∀ W, Calls Try.prog 29 #[.int .i64 ((s'.arr.length : Int) + 1)] W fun e w' => e = .returned (.agg #[.int .i64 kx.k, .int .i64 kx.p, .int .i64 kx.q, .string kx.s, .int .i64 kx.r]) ∧ Below W.heap.size W w') := Lib.hid fun W => by rw [← HKX.out]; exact ofInt_any _ W
      go_upto_region 4 with (go_at_call 29; (with_reducible refine (QI.out _).mono ?_); rintro e w6 ⟨rfl, hb6⟩)
      have HX6 : Hid (ExW B t va b v m w.heap.size w0 (.slice p1 (s'.arr.length + 1) cap1) b' v' m' ⟨s'.arr ++ [x], s'.bl, s'.R, s'.st⟩ x (w6.alloc (.cells #[.int .i64 kx.k, .int .i64 kx.p, .int .i64 kx.q, .string kx.s, .int .i64 kx.r] 26))) := Lib.hid (HX1.out.ch0 ((Ch.of_below hb6).alloc _))
      have KK6 : Hid (Blk 26 w6.heap.size #[.int .i64 kx.k, .int .i64 kx.p, .int .i64 kx.q, .string kx.s, .int .i64 kx.r] (w6.alloc (.cells #[.int .i64 kx.k, .int .i64 kx.p, .int .i64 kx.q, .string kx.s, .int .i64 kx.r] 26))) := Lib.hid (Blk.new w6 _ _ _ rfl)
      have HZ6 : Hid (w0.heap.size ≤ w6.heap.size) := Lib.hid (Nat.le_trans HX1.out.ch.size hb6.size)
      have HNK : Hid (w6.heap.size ∉ tbS t (.slice p1 (s'.arr.length + 1) cap1) b' v' m') := Lib.hid (fun hq => by have h1 := (HX1.out.tb.lt _ hq).2; have h2 := hb6.size; omega)
      clear hb6 c0 hbl
      generalize (w6.alloc (.cells #[.int .i64 kx.k, .int .i64 kx.p, .int .i64 kx.q, .string kx.s, .int .i64 kx.r] 26)) = V2 at *
      generalize w6.heap.size = nk at *
      have QN : Hid (∀ W, Ch [] V2 W → Calls Try.prog 40 #[.pointer (some ⟨b', 0, none⟩), .agg #[.int .i64 kx.k, .int .i64 kx.p, .int .i64 kx.q, .string kx.s, .int .i64 kx.r]] W fun e w' => e = .returned (NxV (nextR s'.R kx)) ∧ OmR B b' v' m' s'.R w' ∧ Ch (omS b' v' m') W w') := Lib.hid fun W hc => next_R B b' v' m' s'.R kx W (HX6.out.tb.om.ch hc (fun g _ => not_nil g)) (by have := HRN.out; omega)
      obtain ⟨y, hy⟩ : ∃ y, nextR s'.R kx = y := ⟨_, rfl⟩
      rw [hy] at QN
      unfold NxV at QN
      have HY := Lib.hid hy
      clear hy
      have c2 : V2.cell? ⟨t, 2, none⟩ = some (.pointer (some ⟨b', 0, none⟩)) := HX6.out.tb.blk.cell 2
      have hbl := HX6.out.tb.blk.lt
      have kk0 : V2.cell? ⟨nk, 0, none⟩ = some (.int .i64 kx.k) := KK6.out.cell 0
      have kk1 : V2.cell? ⟨nk, 1, none⟩ = some (.int .i64 kx.p) := KK6.out.cell 1
      have kk2 : V2.cell? ⟨nk, 2, none⟩ = some (.int .i64 kx.q) := KK6.out.cell 2
      have kk3 : V2.cell? ⟨nk, 3, none⟩ = some (.string kx.s) := KK6.out.cell 3
      have kk4 : V2.cell? ⟨nk, 4, none⟩ = some (.int .i64 kx.r) := KK6.out.cell 4
      have kl := KK6.out.lt
      go_cut [8] from 9 to 62 (fun v8 wx => v8 = .int .i64 y.err ∧ Hid (ExW B t va b v m w.heap.size w0 (.slice p1 (s'.arr.length + 1) cap1) b' v' m' ⟨s'.arr ++ [x], s'.bl, s'.R, s'.st⟩ x wx) ∧ Hid (Blk 26 nk #[.int .i64 kx.k, .int .i64 kx.p, .int .i64 kx.q, .string kx.s, .int .i64 kx.r] wx))
      case first =>
        have HV2 : Hid (w0.heap.size ≤ V2.heap.size ∧ nk < V2.heap.size) := Lib.hid ⟨HX6.out.ch.size, KK6.out.lt⟩
        have HKS : Hid (∀ W, ExW B t va b v m w.heap.size w0 (.slice p1 (s'.arr.length + 1) cap1) b' v' m' ⟨s'.arr ++ [x], s'.bl, s'.R, s'.st⟩ x W → Blk 26 nk #[.int .i64 kx.k, .int .i64 kx.p, .int .i64 kx.q, .string kx.s, .int .i64 kx.r] W → (W.cell? ⟨t, 2, none⟩ = some (.pointer (some ⟨b', 0, none⟩)) ∧ W.cell? ⟨nk, 0, none⟩ = some (.int .i64 kx.k) ∧ W.cell? ⟨nk, 1, none⟩ = some (.int .i64 kx.p) ∧ W.cell? ⟨nk, 2, none⟩ = some (.int .i64 kx.q) ∧ W.cell? ⟨nk, 3, none⟩ = some (.string kx.s) ∧ W.cell? ⟨nk, 4, none⟩ = some (.int .i64 kx.r) ∧ Hid (ExW B t va b v m w.heap.size w0 (.slice p1 (s'.arr.length + 1) cap1) b' v' m' ⟨s'.arr ++ [x], s'.bl, s'.R, s'.st⟩ x W ∧ Blk 26 nk #[.int .i64 kx.k, .int .i64 kx.p, .int .i64 kx.q, .string kx.s, .int .i64 kx.r] W))) := Lib.hid fun W h1 h2 => ⟨h1.tb.blk.cell 2, h2.cell 0, h2.cell 1, h2.cell 2, h2.cell 3, h2.cell 4, Lib.hid ⟨h1, h2⟩⟩
        have HCH : Hid (∀ S W W', (W.cell? ⟨t, 2, none⟩ = some (.pointer (some ⟨b', 0, none⟩)) ∧ W.cell? ⟨nk, 0, none⟩ = some (.int .i64 kx.k) ∧ W.cell? ⟨nk, 1, none⟩ = some (.int .i64 kx.p) ∧ W.cell? ⟨nk, 2, none⟩ = some (.int .i64 kx.q) ∧ W.cell? ⟨nk, 3, none⟩ = some (.string kx.s) ∧ W.cell? ⟨nk, 4, none⟩ = some (.int .i64 kx.r) ∧ Hid (ExW B t va b v m w.heap.size w0 (.slice p1 (s'.arr.length + 1) cap1) b' v' m' ⟨s'.arr ++ [x], s'.bl, s'.R, s'.st⟩ x W ∧ Blk 26 nk #[.int .i64 kx.k, .int .i64 kx.p, .int .i64 kx.q, .string kx.s, .int .i64 kx.r] W)) → Ch S W W' → (∀ g ∈ S, V2.heap.size ≤ g) → (W'.cell? ⟨t, 2, none⟩ = some (.pointer (some ⟨b', 0, none⟩)) ∧ W'.cell? ⟨nk, 0, none⟩ = some (.int .i64 kx.k) ∧ W'.cell? ⟨nk, 1, none⟩ = some (.int .i64 kx.p) ∧ W'.cell? ⟨nk, 2, none⟩ = some (.int .i64 kx.q) ∧ W'.cell? ⟨nk, 3, none⟩ = some (.string kx.s) ∧ W'.cell? ⟨nk, 4, none⟩ = some (.int .i64 kx.r) ∧ Hid (ExW B t va b v m w.heap.size w0 (.slice p1 (s'.arr.length + 1) cap1) b' v' m' ⟨s'.arr ++ [x], s'.bl, s'.R, s'.st⟩ x W' ∧ Blk 26 nk #[.int .i64 kx.k, .int .i64 kx.p, .int .i64 kx.q, .string kx.s, .int .i64 kx.r] W'))) := Lib.hid fun S W W' hs hc hg => by
          obtain ⟨_, _, _, _, _, _, h6⟩ := hs
          refine HKS.out W' (h6.out.1.chS hc (fun g hgs => ?_)) (h6.out.2.ch hc (fun hq => by have := hg _ hq; have := HV2.out.2; omega))
          have h1 := HV2.out.1
          have h2 := hg g hgs
          exact ⟨by omega, fun hm => by have := (HX6.out.tb.lt g hm).2; omega, fun e => by have := HX6.out.bx.lt; omega⟩
        have HSF : Hid (∀ W, (W.cell? ⟨t, 2, none⟩ = some (.pointer (some ⟨b', 0, none⟩)) ∧ W.cell? ⟨nk, 0, none⟩ = some (.int .i64 kx.k) ∧ W.cell? ⟨nk, 1, none⟩ = some (.int .i64 kx.p) ∧ W.cell? ⟨nk, 2, none⟩ = some (.int .i64 kx.q) ∧ W.cell? ⟨nk, 3, none⟩ = some (.string kx.s) ∧ W.cell? ⟨nk, 4, none⟩ = some (.int .i64 kx.r) ∧ Hid (ExW B t va b v m w.heap.size w0 (.slice p1 (s'.arr.length + 1) cap1) b' v' m' ⟨s'.arr ++ [x], s'.bl, s'.R, s'.st⟩ x W ∧ Blk 26 nk #[.int .i64 kx.k, .int .i64 kx.p, .int .i64 kx.q, .string kx.s, .int .i64 kx.r] W)) → Hid (ExW B t va b v m w.heap.size w0 (.slice p1 (s'.arr.length + 1) cap1) b' v' m' ⟨s'.arr ++ [x], s'.bl, s'.R, s'.st⟩ x W) ∧ Hid (Blk 26 nk #[.int .i64 kx.k, .int .i64 kx.p, .int .i64 kx.q, .string kx.s, .int .i64 kx.r] W)) := Lib.hid fun W hs => ⟨Lib.hid hs.2.2.2.2.2.2.out.1, Lib.hid hs.2.2.2.2.2.2.out.2⟩
        have HS0 : (V2.cell? ⟨t, 2, none⟩ = some (.pointer (some ⟨b', 0, none⟩)) ∧ V2.cell? ⟨nk, 0, none⟩ = some (.int .i64 kx.k) ∧ V2.cell? ⟨nk, 1, none⟩ = some (.int .i64 kx.p) ∧ V2.cell? ⟨nk, 2, none⟩ = some (.int .i64 kx.q) ∧ V2.cell? ⟨nk, 3, none⟩ = some (.string kx.s) ∧ V2.cell? ⟨nk, 4, none⟩ = some (.int .i64 kx.r) ∧ Hid (ExW B t va b v m w.heap.size w0 (.slice p1 (s'.arr.length + 1) cap1) b' v' m' ⟨s'.arr ++ [x], s'.bl, s'.R, s'.st⟩ x V2 ∧ Blk 26 nk #[.int .i64 kx.k, .int .i64 kx.p, .int .i64 kx.q, .string kx.s, .int .i64 kx.r] V2)) := HKS.out _ HX6.out KK6.out
        have HDW : Hid (∀ (W : World), (W.cell? ⟨t, 2, none⟩ = some (.pointer (some ⟨b', 0, none⟩)) ∧ W.cell? ⟨nk, 0, none⟩ = some (.int .i64 kx.k) ∧ W.cell? ⟨nk, 1, none⟩ = some (.int .i64 kx.p) ∧ W.cell? ⟨nk, 2, none⟩ = some (.int .i64 kx.q) ∧ W.cell? ⟨nk, 3, none⟩ = some (.string kx.s) ∧ W.cell? ⟨nk, 4, none⟩ = some (.int .i64 kx.r) ∧ Hid (ExW B t va b v m w.heap.size w0 (.slice p1 (s'.arr.length + 1) cap1) b' v' m' ⟨s'.arr ++ [x], s'.bl, s'.R, s'.st⟩ x W ∧ Blk 26 nk #[.int .i64 kx.k, .int .i64 kx.p, .int .i64 kx.q, .string kx.s, .int .i64 kx.r] W)) → (W.drew.cell? ⟨t, 2, none⟩ = some (.pointer (some ⟨b', 0, none⟩)) ∧ W.drew.cell? ⟨nk, 0, none⟩ = some (.int .i64 kx.k) ∧ W.drew.cell? ⟨nk, 1, none⟩ = some (.int .i64 kx.p) ∧ W.drew.cell? ⟨nk, 2, none⟩ = some (.int .i64 kx.q) ∧ W.drew.cell? ⟨nk, 3, none⟩ = some (.string kx.s) ∧ W.drew.cell? ⟨nk, 4, none⟩ = some (.int .i64 kx.r) ∧ Hid (ExW B t va b v m w.heap.size w0 (.slice p1 (s'.arr.length + 1) cap1) b' v' m' ⟨s'.arr ++ [x], s'.bl, s'.R, s'.st⟩ x W.drew ∧ Blk 26 nk #[.int .i64 kx.k, .int .i64 kx.p, .int .i64 kx.q, .string kx.s, .int .i64 kx.r] W.drew))) := Lib.hid fun W hs => HCH.out [] _ _ hs ((Ch.refl [] _).drew) (fun g hg => absurd hg (not_nil g))
        have HAL : Hid (∀ (W : World) (o : Obj), (W.cell? ⟨t, 2, none⟩ = some (.pointer (some ⟨b', 0, none⟩)) ∧ W.cell? ⟨nk, 0, none⟩ = some (.int .i64 kx.k) ∧ W.cell? ⟨nk, 1, none⟩ = some (.int .i64 kx.p) ∧ W.cell? ⟨nk, 2, none⟩ = some (.int .i64 kx.q) ∧ W.cell? ⟨nk, 3, none⟩ = some (.string kx.s) ∧ W.cell? ⟨nk, 4, none⟩ = some (.int .i64 kx.r) ∧ Hid (ExW B t va b v m w.heap.size w0 (.slice p1 (s'.arr.length + 1) cap1) b' v' m' ⟨s'.arr ++ [x], s'.bl, s'.R, s'.st⟩ x W ∧ Blk 26 nk #[.int .i64 kx.k, .int .i64 kx.p, .int .i64 kx.q, .string kx.s, .int .i64 kx.r] W)) → ((W.alloc o).cell? ⟨t, 2, none⟩ = some (.pointer (some ⟨b', 0, none⟩)) ∧ (W.alloc o).cell? ⟨nk, 0, none⟩ = some (.int .i64 kx.k) ∧ (W.alloc o).cell? ⟨nk, 1, none⟩ = some (.int .i64 kx.p) ∧ (W.alloc o).cell? ⟨nk, 2, none⟩ = some (.int .i64 kx.q) ∧ (W.alloc o).cell? ⟨nk, 3, none⟩ = some (.string kx.s) ∧ (W.alloc o).cell? ⟨nk, 4, none⟩ = some (.int .i64 kx.r) ∧ Hid (ExW B t va b v m w.heap.size w0 (.slice p1 (s'.arr.length + 1) cap1) b' v' m' ⟨s'.arr ++ [x], s'.bl, s'.R, s'.st⟩ x (W.alloc o) ∧ Blk 26 nk #[.int .i64 kx.k, .int .i64 kx.p, .int .i64 kx.q, .string kx.s, .int .i64 kx.r] (W.alloc o)))) := Lib.hid fun W o hs => HCH.out [] _ _ hs ((Ch.refl [] _).alloc _) (fun g hg => absurd hg (not_nil g))
        have HST : Hid (∀ (W : World) (g : Nat) (a0 a1 a2 a3 a4 : Value), (W.cell? ⟨t, 2, none⟩ = some (.pointer (some ⟨b', 0, none⟩)) ∧ W.cell? ⟨nk, 0, none⟩ = some (.int .i64 kx.k) ∧ W.cell? ⟨nk, 1, none⟩ = some (.int .i64 kx.p) ∧ W.cell? ⟨nk, 2, none⟩ = some (.int .i64 kx.q) ∧ W.cell? ⟨nk, 3, none⟩ = some (.string kx.s) ∧ W.cell? ⟨nk, 4, none⟩ = some (.int .i64 kx.r) ∧ Hid (ExW B t va b v m w.heap.size w0 (.slice p1 (s'.arr.length + 1) cap1) b' v' m' ⟨s'.arr ++ [x], s'.bl, s'.R, s'.st⟩ x W ∧ Blk 26 nk #[.int .i64 kx.k, .int .i64 kx.p, .int .i64 kx.q, .string kx.s, .int .i64 kx.r] W)) → V2.heap.size ≤ g → ((((((W.setCell ⟨g, 0, none⟩ a0).setCell ⟨g, 1, none⟩ a1).setCell ⟨g, 2, none⟩ a2).setCell ⟨g, 3, none⟩ a3).setCell ⟨g, 4, none⟩ a4).cell? ⟨t, 2, none⟩ = some (.pointer (some ⟨b', 0, none⟩)) ∧ (((((W.setCell ⟨g, 0, none⟩ a0).setCell ⟨g, 1, none⟩ a1).setCell ⟨g, 2, none⟩ a2).setCell ⟨g, 3, none⟩ a3).setCell ⟨g, 4, none⟩ a4).cell? ⟨nk, 0, none⟩ = some (.int .i64 kx.k) ∧ (((((W.setCell ⟨g, 0, none⟩ a0).setCell ⟨g, 1, none⟩ a1).setCell ⟨g, 2, none⟩ a2).setCell ⟨g, 3, none⟩ a3).setCell ⟨g, 4, none⟩ a4).cell? ⟨nk, 1, none⟩ = some (.int .i64 kx.p) ∧ (((((W.setCell ⟨g, 0, none⟩ a0).setCell ⟨g, 1, none⟩ a1).setCell ⟨g, 2, none⟩ a2).setCell ⟨g, 3, none⟩ a3).setCell ⟨g, 4, none⟩ a4).cell? ⟨nk, 2, none⟩ = some (.int .i64 kx.q) ∧ (((((W.setCell ⟨g, 0, none⟩ a0).setCell ⟨g, 1, none⟩ a1).setCell ⟨g, 2, none⟩ a2).setCell ⟨g, 3, none⟩ a3).setCell ⟨g, 4, none⟩ a4).cell? ⟨nk, 3, none⟩ = some (.string kx.s) ∧ (((((W.setCell ⟨g, 0, none⟩ a0).setCell ⟨g, 1, none⟩ a1).setCell ⟨g, 2, none⟩ a2).setCell ⟨g, 3, none⟩ a3).setCell ⟨g, 4, none⟩ a4).cell? ⟨nk, 4, none⟩ = some (.int .i64 kx.r) ∧ Hid (ExW B t va b v m w.heap.size w0 (.slice p1 (s'.arr.length + 1) cap1) b' v' m' ⟨s'.arr ++ [x], s'.bl, s'.R, s'.st⟩ x (((((W.setCell ⟨g, 0, none⟩ a0).setCell ⟨g, 1, none⟩ a1).setCell ⟨g, 2, none⟩ a2).setCell ⟨g, 3, none⟩ a3).setCell ⟨g, 4, none⟩ a4) ∧ Blk 26 nk #[.int .i64 kx.k, .int .i64 kx.p, .int .i64 kx.q, .string kx.s, .int .i64 kx.r] (((((W.setCell ⟨g, 0, none⟩ a0).setCell ⟨g, 1, none⟩ a1).setCell ⟨g, 2, none⟩ a2).setCell ⟨g, 3, none⟩ a3).setCell ⟨g, 4, none⟩ a4)))) := Lib.hid fun W g a0 a1 a2 a3 a4 hs hg => HCH.out [g] W (st5 W g a0 a1 a2 a3 a4) hs (st5_ch (Ch.refl _ _) (.inl (by simp))) (fun y hy => by simp at hy; omega)
        go_region_held3? (fun W => (W.cell? ⟨t, 2, none⟩ = some (.pointer (some ⟨b', 0, none⟩)) ∧ W.cell? ⟨nk, 0, none⟩ = some (.int .i64 kx.k) ∧ W.cell? ⟨nk, 1, none⟩ = some (.int .i64 kx.p) ∧ W.cell? ⟨nk, 2, none⟩ = some (.int .i64 kx.q) ∧ W.cell? ⟨nk, 3, none⟩ = some (.string kx.s) ∧ W.cell? ⟨nk, 4, none⟩ = some (.int .i64 kx.r) ∧ Hid (ExW B t va b v m w.heap.size w0 (.slice p1 (s'.arr.length + 1) cap1) b' v' m' ⟨s'.arr ++ [x], s'.bl, s'.R, s'.st⟩ x W ∧ Blk 26 nk #[.int .i64 kx.k, .int .i64 kx.p, .int .i64 kx.q, .string kx.s, .int .i64 kx.r] W))) (((repeat (first | (with_reducible refine HDW.out _ ?_) | (with_reducible refine HAL.out _ _ ?_) | (with_reducible refine HST.out _ _ _ _ _ _ _ ?_ (by first | exact Nat.le_refl _ | exact Nat.le_succ _ | exact HX7S.out | exact Nat.le_succ_of_le HX7S.out)))); with_reducible assumption)) (first | (go_simp; go_at_call 40; (with_reducible refine (QN.out _ ?hc).mono ?_); (case hc => with_reducible exact (Ch.refl [] V2).drew); rintro e w7 ⟨rfl, ho7, hc7⟩; (first | have HX7 := Lib.hid (ex_om HX6.out (Ch.refl [] V2).drew HNM.out.1 HNM.out.2 ho7 hc7)); (first | have KK7 := Lib.hid ((KK6.out.ch (Ch.refl [] V2).drew (not_nil _)).ch hc7 (fun hq => HNK.out (by simp [tbS, hq])))); have HX7S : Hid (V2.heap.size ≤ w7.heap.size) := Lib.hid (Nat.le_trans (Ch.refl [] V2).size hc7.size); have hs7 := HKS.out _ HX7.out KK7.out; clear ho7 hc7) | (go_simp; go_at_call 40; (with_reducible refine (QN.out _ ?hc).mono ?_); (case hc => with_reducible exact ((Ch.refl [] V2).alloc _).drew); rintro e w7 ⟨rfl, ho7, hc7⟩; (first | have HX7 := Lib.hid (ex_om HX6.out ((Ch.refl [] V2).alloc _).drew HNM.out.1 HNM.out.2 ho7 hc7)); (first | have KK7 := Lib.hid ((KK6.out.ch ((Ch.refl [] V2).alloc _).drew (not_nil _)).ch hc7 (fun hq => HNK.out (by simp [tbS, hq])))); have HX7S : Hid (V2.heap.size ≤ w7.heap.size) := Lib.hid (Nat.le_trans ((Ch.refl [] V2).alloc _).size hc7.size); have b0 : Blk 26 (V2.heap.size) #[.int .i64 0, .int .i64 0, .int .i64 0, .string ⟨#[]⟩, .int .i64 0] w7 := ((Blk.new V2 26 #[.int .i64 0, .int .i64 0, .int .i64 0, .string ⟨#[]⟩, .int .i64 0] _ rfl).ch ((Ch.refl [] _).drew) (not_nil _)).ch hc7 (fun hq => by have := (HX6.out.tb.om.lt _ hq).2; omega); have e00 : w7.cell? ⟨V2.heap.size, 0, none⟩ = some (.int .i64 0) := b0.cell 0; have ef00 := b0.fz 0; have e01 : w7.cell? ⟨V2.heap.size, 1, none⟩ = some (.int .i64 0) := b0.cell 1; have ef01 := b0.fz 1; have e02 : w7.cell? ⟨V2.heap.size, 2, none⟩ = some (.int .i64 0) := b0.cell 2; have ef02 := b0.fz 2; have e03 : w7.cell? ⟨V2.heap.size, 3, none⟩ = some (.string ⟨#[]⟩) := b0.cell 3; have ef03 := b0.fz 3; have e04 : w7.cell? ⟨V2.heap.size, 4, none⟩ = some (.int .i64 0) := b0.cell 4; have ef04 := b0.fz 4; have el0 := b0.lt; clear b0; have hs7 := HKS.out _ HX7.out KK7.out; clear ho7 hc7) | (go_simp; go_at_call 40; (with_reducible refine (QN.out _ ?hc).mono ?_); (case hc => with_reducible exact (((Ch.refl [] V2).alloc _).alloc _).drew); rintro e w7 ⟨rfl, ho7, hc7⟩; (first | have HX7 := Lib.hid (ex_om HX6.out (((Ch.refl [] V2).alloc _).alloc _).drew HNM.out.1 HNM.out.2 ho7 hc7)); (first | have KK7 := Lib.hid ((KK6.out.ch (((Ch.refl [] V2).alloc _).alloc _).drew (not_nil _)).ch hc7 (fun hq => HNK.out (by simp [tbS, hq])))); have HX7S : Hid (V2.heap.size ≤ w7.heap.size) := Lib.hid (Nat.le_trans (((Ch.refl [] V2).alloc _).alloc _).size hc7.size); have b0 : Blk 26 (V2.heap.size) #[.int .i64 0, .int .i64 0, .int .i64 0, .string ⟨#[]⟩, .int .i64 0] w7 := (((Blk.new V2 26 #[.int .i64 0, .int .i64 0, .int .i64 0, .string ⟨#[]⟩, .int .i64 0] _ rfl).ch ((Ch.refl [] _).alloc _) (not_nil _)).ch ((Ch.refl [] _).drew) (not_nil _)).ch hc7 (fun hq => by have := (HX6.out.tb.om.lt _ hq).2; omega); have e00 : w7.cell? ⟨V2.heap.size, 0, none⟩ = some (.int .i64 0) := b0.cell 0; have ef00 := b0.fz 0; have e01 : w7.cell? ⟨V2.heap.size, 1, none⟩ = some (.int .i64 0) := b0.cell 1; have ef01 := b0.fz 1; have e02 : w7.cell? ⟨V2.heap.size, 2, none⟩ = some (.int .i64 0) := b0.cell 2; have ef02 := b0.fz 2; have e03 : w7.cell? ⟨V2.heap.size, 3, none⟩ = some (.string ⟨#[]⟩) := b0.cell 3; have ef03 := b0.fz 3; have e04 : w7.cell? ⟨V2.heap.size, 4, none⟩ = some (.int .i64 0) := b0.cell 4; have ef04 := b0.fz 4; have el0 := b0.lt; clear b0; have b1 : Blk 26 (V2.heap.size + 1) #[.int .i64 0, .int .i64 0, .int .i64 0, .string ⟨#[]⟩, .int .i64 0] w7 := ((Blk.new (V2.alloc (.cells #[.int .i64 0, .int .i64 0, .int .i64 0, .string ⟨#[]⟩, .int .i64 0] 26)) 26 #[.int .i64 0, .int .i64 0, .int .i64 0, .string ⟨#[]⟩, .int .i64 0] (V2.heap.size + 1) (by simp)).ch ((Ch.refl [] _).drew) (not_nil _)).ch hc7 (fun hq => by have := (HX6.out.tb.om.lt _ hq).2; omega); have e10 : w7.cell? ⟨V2.heap.size + 1, 0, none⟩ = some (.int .i64 0) := b1.cell 0; have ef10 := b1.fz 0; have e11 : w7.cell? ⟨V2.heap.size + 1, 1, none⟩ = some (.int .i64 0) := b1.cell 1; have ef11 := b1.fz 1; have e12 : w7.cell? ⟨V2.heap.size + 1, 2, none⟩ = some (.int .i64 0) := b1.cell 2; have ef12 := b1.fz 2; have e13 : w7.cell? ⟨V2.heap.size + 1, 3, none⟩ = some (.string ⟨#[]⟩) := b1.cell 3; have ef13 := b1.fz 3; have e14 : w7.cell? ⟨V2.heap.size + 1, 4, none⟩ = some (.int .i64 0) := b1.cell 4; have ef14 := b1.fz 4; have el1 := b1.lt; clear b1; have hs7 := HKS.out _ HX7.out KK7.out; clear ho7 hc7))
        all_goals (go_wp2_with fail; go_meet; refine ⟨rfl, ?_⟩; (with_reducible refine HSF.out _ ?_); (repeat (first | (with_reducible refine HDW.out _ ?_) | (with_reducible refine HAL.out _ _ ?_) | (with_reducible refine HST.out _ _ _ _ _ _ _ ?_ (by first | exact Nat.le_refl _ | exact Nat.le_succ _ | exact HX7S.out | exact Nat.le_succ_of_le HX7S.out)))); with_reducible assumption)
      obtain ⟨rfl, HX7, KK7⟩ := hcut
      rename World => V3
      clear QN HX6 KK6 HX1
      (try clear c2); (try clear hbl); (try clear kk0 kk1 kk2 kk3 kk4 kl); (try clear hkl c0 k0 k1 k2 k3 k4)
      obtain ⟨qe, hqe⟩ : ∃ q, (y.err == 0) = q := ⟨_, rfl⟩
      have HQE := Lib.hid hqe
      go_upto_if 40 with fail
      clear hqe
      go_cut [40] from 9 to 62 (fun v40 wx => Hid (ExW B t va b v m w.heap.size w0 (.slice p1 (s'.arr.length + 1) cap1) b' v' m' ⟨s'.arr ++ [x], s'.bl, s'.R, s'.st || qe⟩ x wx) ∧ Hid (Blk 26 nk #[.int .i64 kx.k, .int .i64 kx.p, .int .i64 kx.q, .string kx.s, .int .i64 kx.r] wx))
      case first =>
        cases qe with
        | true =>
          have c3 : V3.cell? ⟨t, 3, none⟩ = some (.bool s'.st) := HX7.out.tb.blk.cell 3
          have f3 := HX7.out.tb.blk.fz 3
          have hbl := HX7.out.tb.blk.lt
          have hs : Ch [t] V3 (V3.setCell ⟨t, 3, none⟩ (.bool true)) := (Ch.refl [t] V3).set t 3 _ (.inl (by simp))
          have hT := HX7.out.tb
          have HR1 := Lib.hid (HX7.out.next HNM.out.1 HNM.out.2 (s2 := ⟨s'.arr ++ [x], s'.bl, s'.R, s'.st || true⟩) ⟨by rw [Bool.or_true]; exact hT.blk.set 3 _, hT.lo, hs.ownB hT.row (fun y hy => by simp; exact (hT.apr y hy).1), hT.om.ch hs (fun y hy => by simp; intro e; subst e; exact hT.apt hy), hT.apt, hT.apr, hT.bnd⟩ (fun g hg => .inl hg) (hs.mono (fun g hg => by simp at hg; subst hg; simp [tbS])))
          have HR2 := Lib.hid (KK7.out.ch hs (by simp; intro e; exact HNK.out (by simp [tbS, e])))
          clear hs hT
          go_wp2_with fail
          go_meet
          exact ⟨HR1, HR2⟩
        | false =>
          go_wp2_with fail
          go_meet
          exact ⟨by rw [Bool.or_false]; exact HX7, KK7⟩
      obtain ⟨HX8, KK8⟩ := hcut
      clear HX7 KK7
      rename World => V4
      go_upto_region 7 with fail
      go_cut [50] from 9 to 62 (fun v50 wx => ∃ (va2 : Value) (b2 : Nat) (v2 m2 : Value), Hid (ExW B t va b v m w.heap.size w0 va2 b2 v2 m2 ⟨s'.arr ++ [x], s'.bl, setR s'.R kx v5z, s'.st || qe⟩ x wx))
      case first =>
        have c2 : V4.cell? ⟨t, 2, none⟩ = some (.pointer (some ⟨b', 0, none⟩)) := HX8.out.tb.blk.cell 2
        have hbl := HX8.out.tb.blk.lt
        have kk0 : V4.cell? ⟨nk, 0, none⟩ = some (.int .i64 kx.k) := KK8.out.cell 0
        have kk1 : V4.cell? ⟨nk, 1, none⟩ = some (.int .i64 kx.p) := KK8.out.cell 1
        have kk2 : V4.cell? ⟨nk, 2, none⟩ = some (.int .i64 kx.q) := KK8.out.cell 2
        have kk3 : V4.cell? ⟨nk, 3, none⟩ = some (.string kx.s) := KK8.out.cell 3
        have kk4 : V4.cell? ⟨nk, 4, none⟩ = some (.int .i64 kx.r) := KK8.out.cell 4
        have kl := KK8.out.lt
        have QS : Hid (∀ W', Ch [] V4 W' → Calls Try.prog 48 #[.pointer (some ⟨b', 0, none⟩), .agg #[.int .i64 kx.k, .int .i64 kx.p, .int .i64 kx.q, .string kx.s, .int .i64 kx.r], .agg #[.int .i64 0, .int .i64 0, .int .i64 0, .string ⟨#[]⟩, .int .i64 0]] W' fun e w' => e = .returned (.int .i64 (errR kx v5z)) ∧ (∃ v2 m2, OmR B b' v2 m2 (setR s'.R kx v5z) w' ∧ ∀ g ∈ omS b' v2 m2, g ∈ omS b' v' m' ∨ W'.heap.size ≤ g) ∧ Ch (omS b' v' m') W' w') := Lib.hid fun W' hc => set_R B b' v' m' s'.R kx v5z W' (HX8.out.tb.om.ch hc (fun g _ => not_nil g)) (by have := HRN.out; omega) (Nat.le_trans HBW.out (Nat.le_trans HC0.out.size (Nat.le_trans HX8.out.ch.size hc.size)))
        go_region_law (go_simp; go_at_call 48; (with_reducible refine (QS.out _ ?hc).mono ?_); (case hc => first | exact Ch.refl _ _ | exact (Ch.refl _ _).drew | exact (Ch.refl _ _).drewN _); rintro e w3 ⟨rfl, ⟨v3, m3, ho3, hf3⟩, hc3⟩; (first | have HE3 := Lib.hid (tb_setR HX8.out.tb (Ch.refl [] _) ho3 hf3 hc3) | have HE3 := Lib.hid (tb_setR HX8.out.tb ((Ch.refl [] _).drew) ho3 hf3 hc3) | have HE3 := Lib.hid (tb_setR HX8.out.tb ((Ch.refl [] _).drewN _) ho3 hf3 hc3)); clear ho3 hf3 hc3)
        all_goals (
          go_wp2_with fail
          go_meet
          obtain ⟨⟨va2, b2, v2, m2, k1, k2⟩, k3⟩ := HE3.out
          exact ⟨va2, b2, v2, m2, Lib.hid (HX8.out.next HNM.out.1 HNM.out.2 k1 k2 k3)⟩)
      obtain ⟨va2, b2, v2, m2, HX9⟩ := hcut
      clear HX8 KK8 HNK
      rename World => Y5
      have HEA : Hid ((⟨s'.arr ++ [x], s'.bl, setR s'.R kx v5z, s'.st || qe⟩ : TS) = extA s' x) := Lib.hid (by
        unfold extA
        rw [show extK s' = kx from HKX.out, HY.out, ← HQE.out]
        rfl)
      rw [HEA.out] at HX9
      have HL9 : Hid ((extA s' x).arr.length = s'.arr.length + 1) := Lib.hid (by simp [extA])
      obtain ⟨p2, cap2, rfl, hp2⟩ := HX9.out.tb.form
      clear hp2
      rw [HL9.out] at HX9
      obtain ⟨lx, hlx⟩ : ∃ lx, keyV ((s'.arr.length : Int) + 1 + 1) = lx := ⟨_, rfl⟩
      have HLX2 := Lib.hid hlx
      clear hlx
      obtain ⟨gx, hgx⟩ : ∃ gx, extV s' = gx := ⟨_, rfl⟩
      have HGX := Lib.hid hgx
      have HGR : Hid (getR (extA s' x).R lx = gx) := Lib.hid (by rw [extA_R, ← hgx, ← HLX2.out]; rfl)
      clear hgx
      have HRA : Hid ((extA s' x).R.length ≤ 1000000) := Lib.hid (by have h1 := HE2.out.len; have h2 := HLL.out; omega)
      rw [HGX.out] at HE2
      have dl : IntKind.i64.wrap ((s'.arr.length : Int) + 1 + 1) = (s'.arr.length : Int) + 1 + 1 := IntWalk.i64_in _ (by have := HLN.out; omega)
      have QI2 : Hid (∀ W, Calls Try.prog 29 #[.int .i64 ((s'.arr.length : Int) + 1 + 1)] W fun e w' => e = .returned (.agg #[.int .i64 lx.k, .int .i64 lx.p, .int .i64 lx.q, .string lx.s, .int .i64 lx.r]) ∧ Below W.heap.size W w') := Lib.hid fun W => by rw [← HLX2.out]; exact ofInt_any _ W
      have QG : Hid (∀ W, OmR B b2 v2 m2 (extA s' x).R W → Calls Try.prog 33 #[.pointer (some ⟨b2, 0, none⟩), .agg #[.int .i64 lx.k, .int .i64 lx.p, .int .i64 lx.q, .string lx.s, .int .i64 lx.r]] W fun e w' => e = .returned (.agg #[.int .i64 gx.k, .int .i64 gx.p, .int .i64 gx.q, .string gx.s, .int .i64 gx.r]) ∧ Below W.heap.size W w') := Lib.hid fun W hw => by rw [← HGR.out]; exact get_R B b2 v2 m2 _ lx W hw HRA.out
      have c0 : Y5.cell? ⟨t, 0, none⟩ = some (.slice p2 (s'.arr.length + 1) cap2) := HX9.out.tb.blk.cell 0
      have c2 : Y5.cell? ⟨t, 2, none⟩ = some (.pointer (some ⟨b2, 0, none⟩)) := HX9.out.tb.blk.cell 2
      have hbl := HX9.out.tb.blk.lt
      go_upto_region 8 with fail
      go_region_law (first | (go_simp; go_at_call 29; (with_reducible refine (QI2.out _).mono ?_); rintro e w6 ⟨rfl, hb6⟩; (first | have HC6 : Hid (Ch [] Y5 w6) := Lib.hid (Ch.of_below hb6) | have HC6 : Hid (Ch [] Y5 w6) := Lib.hid (((Ch.refl [] Y5).drew).trans (Ch.of_below hb6)) | have HC6 : Hid (Ch [] Y5 w6) := Lib.hid (((Ch.refl [] Y5).drewN _).trans (Ch.of_below hb6))); have HX10 := Lib.hid (HX9.out.ch0 HC6.out); have c2b : w6.cell? ⟨t, 2, none⟩ = some (.pointer (some ⟨b2, 0, none⟩)) := HX10.out.tb.blk.cell 2; have hblb := HX10.out.tb.blk.lt; clear hb6) | (go_simp; go_at_call 33; (with_reducible refine (QG.out _ ?hc).mono ?_); (case hc => first | exact HX10.out.tb.om | exact HX10.out.tb.om.ch ((Ch.refl [] _).drew) (fun g _ => not_nil g)); rintro e w7 ⟨rfl, hb7⟩; (first | have HC7 : Hid (Ch [] Y5 w7) := Lib.hid (HC6.out.trans (Ch.of_below hb7)) | have HC7 : Hid (Ch [] Y5 w7) := Lib.hid (HC6.out.drew.trans (Ch.of_below hb7))); have HX11 := Lib.hid (HX9.out.ch0 HC7.out); have k0 : w7.cell? ⟨w.heap.size, 0, none⟩ = some (.int .i64 x.k) := HX11.out.bx.cell 0; have k1 : w7.cell? ⟨w.heap.size, 1, none⟩ = some (.int .i64 x.p) := HX11.out.bx.cell 1; have k2 : w7.cell? ⟨w.heap.size, 2, none⟩ = some (.int .i64 x.q) := HX11.out.bx.cell 2; have k3 : w7.cell? ⟨w.heap.size, 3, none⟩ = some (.string x.s) := HX11.out.bx.cell 3; have k4 : w7.cell? ⟨w.heap.size, 4, none⟩ = some (.int .i64 x.r) := HX11.out.bx.cell 4; have kf0 := HX11.out.bx.fz 0; have kf1 := HX11.out.bx.fz 1; have kf2 := HX11.out.bx.fz 2; have kf3 := HX11.out.bx.fz 3; have kf4 := HX11.out.bx.fz 4; have kl := HX11.out.bx.lt; clear hb7))
      all_goals (
        have HXF := Lib.hid (HX11.out.box (z := gx) HNM.out.1 HNM.out.2)
        have HLF : Hid (lenAt (st5 w7 w.heap.size (.int .i64 gx.k) (.int .i64 gx.p) (.int .i64 gx.q) (.string gx.s) (.int .i64 gx.r)) t = s'.arr.length + 1) := Lib.hid (by
          unfold lenAt
          rw [show (st5 w7 w.heap.size (.int .i64 gx.k) (.int .i64 gx.p) (.int .i64 gx.q) (.string gx.s) (.int .i64 gx.r)).cell? ⟨t, 0, none⟩ = some (.slice p2 (s'.arr.length + 1) cap2) from HXF.out.tb.blk.cell 0])
        clear c0 c2 hbl dl
        go_wp2_with fail
        go_roundw
        (case rel => exact ⟨extA s' x, _, b2, v2, m2, gx, f2, HXF, HE2⟩)
        (case measure =>
          have h1 := HLF.out
          have h2 := HLA.out
          have h3 := HBN.out
          unfold st5 at h1
          rw [h1, h2]
          omega))
end Go.Proofs.Ytaaelhhiceildaa
