/- Layer 17: a stack with lists beside it; the law's filled. -/
import Derived.Test.YtibggoikjlnnkaaStkJ
namespace Go.Proofs.Ytibggoikjlnnkaa
open Go.RowKit Go.Joins M1
set_option linter.unusedVariables false
/-- A stack, and rows of values beside it. -/
def Fl (T : TypeId) (w : World) (t : Nat) (l : List V5) (lim : Nat) (rs : List (Value × List V5)) (W : World) : Prop :=
  ∃ va, Sk T w.heap.size t va l lim W ∧ (∀ r ∈ rs, W.ownsRow w.heap.size 35 5 r.1 r.2.length (r.2.flatMap vC) ∧ ∀ g ∈ ob r.1, g ∉ skS t va) ∧ Ch [] w W
theorem Fl.step {T : TypeId} {w W W' : World} {t lim : Nat} {l : List V5} {rs : List (Value × List V5)} (h : Fl T w t l lim rs W) (hc : Ch [] W W') : Fl T w t l lim rs W' := by
  obtain ⟨va, h1, h2, h3⟩ := h
  exact ⟨va, h1.ch0 hc, fun r hr => ⟨hc.ownB (h2 r hr).1 (fun g _ => not_nil g), (h2 r hr).2⟩, h3.trans hc⟩
theorem Fl.said {T : TypeId} {w W W' : World} {t lim : Nat} {va : Value} {l l' : List V5} {rs : List (Value × List V5)} (h1 : Sk T w.heap.size t va l lim W) (h2 : ∀ r ∈ rs, W.ownsRow w.heap.size 35 5 r.1 r.2.length (r.2.flatMap vC) ∧ ∀ g ∈ ob r.1, g ∉ skS t va) (h3 : Ch [] w W) (h : SkSaid T w.heap.size t va l' lim W W') : Fl T w t l' lim rs W' := by
  obtain ⟨⟨va', k1, k2⟩, k3⟩ := h
  refine ⟨va', k1, fun r hr => ⟨k3.ownB (h2 r hr).1 (h2 r hr).2, fun g hg hm => ?_⟩, h3.fresh (fun g hg => (h1.lt g hg).1) k3⟩
  rcases k2 g hm with q | q
  · exact (h2 r hr).2 g hg q
  · have := (own_lo (h2 r hr).1 hg).2; omega
theorem Fl.vals {T : TypeId} {w W : World} {t lim : Nat} {l : List V5} {rs : List (Value × List V5)} (h : Fl T w t l lim rs W) {r : Value × List V5} (hr : r ∈ rs) : ValsA W r.1 r.2 := by
  obtain ⟨va, h1, h2, h3⟩ := h
  exact ValsA.of_row (h2 r hr).1
theorem Fl.ch {T : TypeId} {w W : World} {t lim : Nat} {l : List V5} {rs : List (Value × List V5)} (h : Fl T w t l lim rs W) : Ch [] w W := by
  obtain ⟨va, h1, h2, h3⟩ := h; exact h3
theorem Fl.len {T : TypeId} {w W : World} {t lim : Nat} {l : List V5} {rs : List (Value × List V5)} (h : Fl T w t l lim rs W) : l.length ≤ lim ∧ lim ≤ 1000 := by
  obtain ⟨va, h1, h2, h3⟩ := h; exact ⟨h1.le, h1.top⟩
theorem Fl.sub {T : TypeId} {w W : World} {t lim : Nat} {l : List V5} {rs rs' : List (Value × List V5)} (h : Fl T w t l lim rs W) (hs : ∀ r ∈ rs', r ∈ rs) : Fl T w t l lim rs' W := by
  obtain ⟨va, h1, h2, h3⟩ := h; exact ⟨va, h1, fun r hr => h2 r (hs r hr), h3⟩
theorem Fl.rowlt {T : TypeId} {w W : World} {t lim : Nat} {l : List V5} {rs : List (Value × List V5)} (h : Fl T w t l lim rs W) {r : Value × List V5} (hr : r ∈ rs) : ∀ g ∈ ob r.1, g < W.heap.size := by
  obtain ⟨va, h1, h2, h3⟩ := h; exact fun g hg => (own_lo (h2 r hr).1 hg).2
/-- A row is laid anew. -/
theorem Fl.row {T : TypeId} {w W W' : World} {t lim : Nat} {l L' : List V5} {v v' : Value} {L : List V5} {rs : List (Value × List V5)} (h : Fl T w t l lim ((v, L) :: rs) W) (hd : ∀ r ∈ rs, ∀ g ∈ ob r.1, g ∉ ob v) (hc : Ch (ob v) W W') (ho : W'.ownsRow w.heap.size 35 5 v' L'.length (L'.flatMap vC)) (hv : ∀ g ∈ ob v', g ∈ ob v ∨ W.heap.size ≤ g) : Fl T w t l lim ((v', L') :: rs) W' := by
  obtain ⟨va, h1, h2, h3⟩ := h
  have hv0 := h2 (v, L) (by simp)
  refine ⟨va, h1.ch hc (fun g hg hm => hv0.2 g hm hg), fun r hr => ?_, h3.fresh (fun g hg => (own_lo hv0.1 hg).1) hc⟩
  simp only [List.mem_cons] at hr
  rcases hr with rfl | hr
  · refine ⟨ho, fun g hg hm => ?_⟩
    rcases hv g hg with q | q
    · exact hv0.2 g q hm
    · have := (h1.lt g hm).2; omega
  · have := h2 r (by simp [hr])
    exact ⟨hc.ownB this.1 (hd r hr), this.2⟩
theorem fpush {w W : World} {t lim : Nat} {l : List V5} {rs : List (Value × List V5)} (h : Fl 63 w t l lim rs W) (x : V5) :
    Calls Try.prog 24 #[.pointer (some ⟨t, 0, none⟩), .agg #[.int .i64 x.k, .int .i64 x.p, .int .i64 x.q, .string x.s, .int .i64 x.r]] W fun e w' => e = .returned (.int .i64 (pushE l lim x)) ∧ Fl 63 w t (pushL l lim x) lim rs w' := by
  obtain ⟨va, h1, h2, h3⟩ := h
  refine (push_all _ t va l lim W h1 x h3.size).mono ?_
  rintro e w' ⟨rfl, hs⟩
  exact ⟨rfl, Fl.said h1 h2 h3 hs⟩
theorem fsettop {w W : World} {t lim : Nat} {l : List V5} {rs : List (Value × List V5)} (h : Fl 63 w t l lim rs W) (n : Int) :
    Calls Try.prog 30 #[.pointer (some ⟨t, 0, none⟩), .int .i64 n] W fun e w' => e = .returned (.int .i64 (topE lim n)) ∧ Fl 63 w t (topL l lim n) lim rs w' := by
  obtain ⟨va, h1, h2, h3⟩ := h
  refine (settop_all _ t va l lim W h1 n h3.size).mono ?_
  rintro e w' ⟨rfl, hs⟩
  exact ⟨rfl, Fl.said h1 h2 h3 hs⟩
theorem fput {w W : World} {t lim : Nat} {l : List V5} {rs : List (Value × List V5)} (h : Fl 63 w t l lim rs W) (i : Int) (x : V5) :
    Calls Try.prog 29 #[.pointer (some ⟨t, 0, none⟩), .int .i64 i, .agg #[.int .i64 x.k, .int .i64 x.p, .int .i64 x.q, .string x.s, .int .i64 x.r]] W fun e w' => e = .returned (.int .i64 (putE l i x)) ∧ Fl 63 w t (putL l i x) lim rs w' := by
  obtain ⟨va, h1, h2, h3⟩ := h
  refine (put_all _ t va l lim W h1 i x).mono ?_
  rintro e w' ⟨rfl, hs⟩
  exact ⟨rfl, Fl.said h1 h2 h3 hs⟩
theorem finsert {w W : World} {t lim : Nat} {l : List V5} {rs : List (Value × List V5)} (h : Fl 63 w t l lim rs W) (i : Int) :
    Calls Try.prog 25 #[.pointer (some ⟨t, 0, none⟩), .int .i64 i] W fun e w' => e = .returned (.int .i64 (atE l i)) ∧ Fl 63 w t (rotateL l i 1) lim rs w' := by
  obtain ⟨va, h1, h2, h3⟩ := h
  refine (insert_all _ t va l lim W h1 i h3.size).mono ?_
  rintro e w' ⟨rfl, hs⟩
  exact ⟨rfl, Fl.said h1 h2 h3 hs⟩
theorem fremove {w W : World} {t lim : Nat} {l : List V5} {rs : List (Value × List V5)} (h : Fl 63 w t l lim rs W) (i : Int) :
    Calls Try.prog 26 #[.pointer (some ⟨t, 0, none⟩), .int .i64 i] W fun e w' => e = .returned (.int .i64 (atE l i)) ∧ Fl 63 w t (remL l i) lim rs w' := by
  obtain ⟨va, h1, h2, h3⟩ := h
  refine (remove_all _ t va l lim W h1 i).mono ?_
  rintro e w' ⟨rfl, hs⟩
  exact ⟨rfl, Fl.said h1 h2 h3 hs⟩
theorem frotate {w W : World} {t lim : Nat} {l : List V5} {rs : List (Value × List V5)} (h : Fl 63 w t l lim rs W) (i n : Int) :
    Calls Try.prog 21 #[.pointer (some ⟨t, 0, none⟩), .int .i64 i, .int .i64 n] W fun e w' => e = .returned (.int .i64 (atE l i)) ∧ Fl 63 w t (rotateL l i n) lim rs w' := by
  obtain ⟨va, h1, h2, h3⟩ := h
  refine (rotate_all _ t va l lim W h1 i n h3.size).mono ?_
  rintro e w' ⟨rfl, hs⟩
  exact ⟨rfl, Fl.said h1 h2 h3 hs⟩
theorem fprog {w W : World} {t lim : Nat} {l : List V5} {rs : List (Value × List V5)} (h : Fl 63 w t l lim rs W) (c : Cl) :
    Calls Try.prog 13 #[.pointer (some ⟨t, 0, none⟩), .agg #[.int .i64 c.k, .int .i64 c.n, .int .i64 c.m, .int .i64 c.v.k, .int .i64 c.v.p, .int .i64 c.v.q, .string c.v.s, .int .i64 c.v.r]] W fun e w' => e = .returned (.tuple #[.int .i64 (progN l c), .agg #[.int .i64 (progV l c).k, .int .i64 (progV l c).p, .int .i64 (progV l c).q, .string (progV l c).s, .int .i64 (progV l c).r], .int .i64 (progE lim l c)]) ∧ Fl 63 w t (progL lim l c) lim rs w' := by
  obtain ⟨va, h1, h2, h3⟩ := h
  refine (prog_all _ t va l lim W h1 h3.size c).mono ?_
  rintro e w' ⟨rfl, hs⟩
  exact ⟨rfl, Fl.said h1 h2 h3 hs⟩
theorem froom {w W : World} {t lim : Nat} {l : List V5} {rs : List (Value × List V5)} (h : Fl 63 w t l lim rs W) (i : Int) :
    Calls Try.prog 27 #[.pointer (some ⟨t, 0, none⟩), .int .i64 i] W fun e w' => e = .returned (.int .i64 (roomE l lim i)) ∧ Fl 63 w t l lim rs w' := by
  have h0 := h
  obtain ⟨va, h1, h2, h3⟩ := h
  refine (room_any _ t va l lim W h1 i).mono ?_
  rintro e w' ⟨rfl, hs⟩
  exact ⟨rfl, h0.step hs⟩
theorem fat {w W : World} {t lim : Nat} {l : List V5} {rs : List (Value × List V5)} (h : Fl 63 w t l lim rs W) (i : Int) :
    Calls Try.prog 22 #[.pointer (some ⟨t, 0, none⟩), .int .i64 i] W fun e w' => e = .returned (.tuple #[.agg #[.int .i64 (atV l i).k, .int .i64 (atV l i).p, .int .i64 (atV l i).q, .string (atV l i).s, .int .i64 (atV l i).r], .int .i64 (atE l i)]) ∧ Fl 63 w t l lim rs w' := by
  have h0 := h
  obtain ⟨va, h1, h2, h3⟩ := h
  refine (at_all _ t va l lim W h1 i).mono ?_
  rintro e w' ⟨rfl, hs⟩
  exact ⟨rfl, h0.step (Ch.of_below hs)⟩
theorem ftop {w W : World} {t lim : Nat} {l : List V5} {rs : List (Value × List V5)} (h : Fl 63 w t l lim rs W) :
    Calls Try.prog 15 #[.pointer (some ⟨t, 0, none⟩)] W fun e w' => e = .returned (.int .i64 (l.length : Int)) ∧ Fl 63 w t l lim rs w' := by
  have h0 := h
  obtain ⟨va, h1, h2, h3⟩ := h
  refine (top_any _ t va l lim W h1).mono ?_
  rintro e w' ⟨rfl, rfl⟩
  exact ⟨rfl, h0⟩
theorem flist {w W : World} {t lim : Nat} {l : List V5} {rs : List (Value × List V5)} (h : Fl 63 w t l lim rs W) :
    Calls Try.prog 18 #[.pointer (some ⟨t, 0, none⟩)] W fun e w' => ∃ p c, e = .returned (.slice p l.length c) ∧ Fl 63 w t l lim ((.slice p l.length c, l) :: rs) w' ∧ (∀ g ∈ ob (.slice p l.length c), W.heap.size ≤ g) ∧ Ch [] W w' := by
  have h0 := h
  obtain ⟨va, h1, h2, h3⟩ := h
  refine (list_any _ t va l lim W h1).mono ?_
  rintro e w' ⟨⟨v', rfl, ho⟩, hs⟩
  obtain ⟨p, c, rfl⟩ := ownB_form ho
  have hc : Ch [] W w' := Ch.of_below hs
  have hW := h3.size
  refine ⟨p, c, rfl, ⟨va, h1.ch0 hc, fun r hr => ?_, h3.trans hc⟩, fun g hg => (own_lo ho hg).1, hc⟩
  simp only [List.mem_cons] at hr
  rcases hr with rfl | hr
  · refine ⟨⟨ho.1, ?_⟩, fun g hg hm => ?_⟩
    · rcases ho.2 with q | ⟨g, cap, cur, e, q1, q2⟩
      · exact .inl q
      · exact .inr ⟨g, cap, cur, e, Nat.le_trans hW q1, q2⟩
    · have q1 := (own_lo ho hg).1
      have q2 := (h1.lt g hm).2
      omega
  · exact ⟨hc.ownB (h2 r hr).1 (fun g _ => not_nil g), (h2 r hr).2⟩
def flF (l : List V5) (k : Nat) : List V5 := (l.take k).filter okV
theorem flF_step {l : List V5} {k : Nat} {x : V5} (hx : l[k]? = some x) : flF l (k + 1) = if okV x = true then flF l k ++ [x] else flF l k := by
  unfold flF
  rw [List.take_add_one, hx, List.filter_append]
  cases h : okV x <;> simp [h]
theorem flF_len (l : List V5) (k : Nat) : (flF l k).length ≤ k := by
  unfold flF
  exact Nat.le_trans (List.length_filter_le _ _) (by rw [List.length_take]; omega)
theorem flF_ok (l : List V5) (k : Nat) : ∀ x ∈ flF l k, okV x = true := by
  intro x hx
  unfold flF at hx
  exact (List.mem_filter.1 hx).2
set_option maxHeartbeats 8000000 in
theorem filled_any (a : Value) (l : List V5) (w : World) (h : ValsA w a l) (hl : l.length ≤ maxLen) :
    Calls Try.prog 20 #[a] w fun e w' => ∃ t p c, e = .returned (.tuple #[.pointer (some ⟨t, 0, none⟩), .slice p (flF l 60).length c]) ∧ Fl 63 w t (flF l 60) 1000 [(.slice p (flF l 60).length c, flF l 60)] w' := by
  have hl2 : l.length ≤ 9223372036854775807 := hl
  have hA0 := h
  obtain ⟨pa, ca, rfl, ha⟩ := h.form
  have HA := Lib.hid ha
  clear ha h hA0
  have QNEW : Hid (Calls Try.prog 11 #[.int .i64 1000] w fun e w' => e = .returned (.tuple #[.pointer (some ⟨w.heap.size, 0, none⟩), .int .i64 0]) ∧ Sk 63 w.heap.size w.heap.size (.slice none 0 0) [] 1000 w' ∧ Below w.heap.size w w') := Lib.hid (sknew_ok w.heap.size 1000 w (Nat.le_refl _) (by decide) (by decide))
  go_enter Try.func20, Try.ntmps20
  go_upto_region 2 with (go_at_call 11; (with_reducible refine (QNEW.out).mono ?_); rintro e w1 ⟨rfl, hs, hb⟩; have HS0 := Lib.hid hs; have HB0 := Lib.hid hb; clear hs hb)
  obtain ⟨t, ht⟩ : ∃ t, t = w.heap.size := ⟨_, rfl⟩
  have HT := Lib.hid ht
  have HF0 : Hid (Fl 63 w t (flF l 0) 1000 [(.slice (some ⟨w1.heap.size, 0, none⟩) (flF l 0).length 0, flF l 0)] (w1.alloc (.cells #[] 35))) := Lib.hid (by
    have hc : Ch [] w1 (w1.alloc (.cells #[] 35)) := (Ch.refl [] w1).alloc _
    have hlt := HS0.out.blk.lt
    refine ⟨.slice none 0 0, by rw [ht]; exact HS0.out.ch0 hc, fun r hr => ?_, (Ch.of_below HB0.out).trans hc⟩
    simp only [List.mem_singleton] at hr
    subst hr
    refine ⟨World.ownsRow_lit (w := w1) #[] 0 (e := 35) (size := 5) HB0.out.size (Nat.zero_le _) rfl, fun g hg hm => ?_⟩
    simp [Go.Proofs.Ytibggoikjlnnkaa.ob, Value.ownBlock] at hg
    simp [skS, Go.Proofs.Ytibggoikjlnnkaa.ob, Value.ownBlock] at hm
    omega)
  rw [← ht]
  clear ht
  go_wp2
  go_loopw [6, 7] (fun v6 v7 wr => ∃ (k : Nat) (p : Option Addr) (c : Nat), k ≤ l.length ∧ k ≤ 60 ∧ v6 = .slice p (flF l k).length c ∧ v7 = .int .i64 (k : Int) ∧ Hid (Fl 63 w t (flF l k) 1000 [(.slice p (flF l k).length c, flF l k)] wr)) (fun _ v7 _ => 60 - (intOf v7).toNat)
  case atStart => exact ⟨0, some ⟨w1.heap.size, 0, none⟩, 0, Nat.zero_le _, by decide, rfl, rfl, HF0⟩
  case round =>
    obtain ⟨k, p, c, hk, hk60, rfl, rfl, HF⟩ := hrel
    rename World => wr
    by_cases hlt : k < l.length ∧ k < 60
    · obtain ⟨hlt1, hlt2⟩ := hlt
      have hi1 : (k : Int) < (l.length : Int) := by omega
      have hi2 : (k : Int) < 60 := by omega
      have hi0 : (0 : Int) ≤ (k : Int) := by omega
      obtain ⟨g1, o1, rfl, hg1, k1⟩ := HA.out (by omega)
      obtain ⟨x, hx⟩ : ∃ x, x = l[k] := ⟨_, rfl⟩
      have HX : Hid (l[k]? = some x) := Lib.hid (by rw [hx, List.getElem?_eq_getElem hlt1])
      have HCL : Hid (∀ W, Ch [] w W → (∀ j, j < 5 → W.cell? ⟨g1, o1 + k * 5 + j, none⟩ = (vC x)[j]?) ∧ g1 < W.heap.size) := Lib.hid fun W hc => ⟨fun j hj => (hc.below.cell (p := ⟨g1, _, none⟩) hg1).trans (by rw [hx]; exact k1 k j hlt1 hj), Nat.lt_of_lt_of_le hg1 hc.size⟩
      clear k1 hx
      have HLN : Hid ((flF l k).length ≤ k) := Lib.hid (flF_len l k)
      have HK60 := Lib.hid (And.intro hlt1 hlt2)
      have hm1 := (HCL.out wr HF.out.ch).1
      have hgl := (HCL.out wr HF.out.ch).2
      have s0 : wr.cell? ⟨g1, o1 + k * 5, none⟩ = some (.int .i64 x.k) := hm1 0 (by omega)
      have s1 : wr.cell? ⟨g1, o1 + k * 5 + 1, none⟩ = some (.int .i64 x.p) := hm1 1 (by omega)
      have s2 : wr.cell? ⟨g1, o1 + k * 5 + 2, none⟩ = some (.int .i64 x.q) := hm1 2 (by omega)
      have s3 : wr.cell? ⟨g1, o1 + k * 5 + 3, none⟩ = some (.string x.s) := hm1 3 (by omega)
      have s4 : wr.cell? ⟨g1, o1 + k * 5 + 4, none⟩ = some (.int .i64 x.r) := hm1 4 (by omega)
      clear hm1 hlt1 hlt2
      cases hok : okV x with
      | true =>
        have QV : Hid (∀ W, Calls Try.prog 23 #[.agg #[.int .i64 x.k, .int .i64 x.p, .int .i64 x.q, .string x.s, .int .i64 x.r]] W fun e w' => e = .returned (.bool true) ∧ Below W.heap.size W w') := Lib.hid fun W => by rw [← (show okV x = true from hok)]; exact rvalid5 x.k x.p x.q x.s x.r W
        have QP : Hid (∀ W, Fl 63 w t (flF l k) 1000 [(.slice p (flF l k).length c, flF l k)] W → Calls Try.prog 24 #[.pointer (some ⟨t, 0, none⟩), .agg #[.int .i64 x.k, .int .i64 x.p, .int .i64 x.q, .string x.s, .int .i64 x.r]] W fun e w' => e = .returned (.int .i64 0) ∧ Fl 63 w t (flF l k ++ [x]) 1000 [(.slice p (flF l k).length c, flF l k)] w') := Lib.hid fun W hW => by
          have := fpush hW x
          have e1 : pushE (flF l k) 1000 x = 0 := by unfold pushE; rw [hok]; have := HLN.out; have := HK60.out; simp; omega
          unfold pushL at this
          rw [e1] at this
          simpa using this
        have HST : Hid (flF l (k + 1) = flF l k ++ [x]) := Lib.hid (by rw [flF_step HX.out, if_pos hok])
        clear hok
        obtain ⟨N, hN⟩ : ∃ N, N = (flF l k).length := ⟨_, rfl⟩
        have HN := Lib.hid hN
        rw [← hN] at QP HF ⊢
        clear hN
        go_upto_region 7 with (first | (go_at_call 23; (with_reducible refine (QV.out _).mono ?_); rintro e w2 ⟨rfl, hb2⟩; have HF2 := Lib.hid (HF.out.step (Ch.of_below hb2)); have hm2 := (HCL.out w2 HF2.out.ch).1; have hgl2 := (HCL.out w2 HF2.out.ch).2; have u0 : w2.cell? ⟨g1, o1 + k * 5, none⟩ = some (.int .i64 x.k) := hm2 0 (by omega); have u1 : w2.cell? ⟨g1, o1 + k * 5 + 1, none⟩ = some (.int .i64 x.p) := hm2 1 (by omega); have u2 : w2.cell? ⟨g1, o1 + k * 5 + 2, none⟩ = some (.int .i64 x.q) := hm2 2 (by omega); have u3 : w2.cell? ⟨g1, o1 + k * 5 + 3, none⟩ = some (.string x.s) := hm2 3 (by omega); have u4 : w2.cell? ⟨g1, o1 + k * 5 + 4, none⟩ = some (.int .i64 x.r) := hm2 4 (by omega); clear hb2 hm2) | (go_at_call 24; (with_reducible refine (QP.out _ HF2.out).mono ?_); rintro e w3 ⟨rfl, hs⟩; have HF3 := Lib.hid hs; have hm3 := (HCL.out w3 HF3.out.ch).1; have hgl3 := (HCL.out w3 HF3.out.ch).2; have z0 : w3.cell? ⟨g1, o1 + k * 5, none⟩ = some (.int .i64 x.k) := hm3 0 (by omega); have z1 : w3.cell? ⟨g1, o1 + k * 5 + 1, none⟩ = some (.int .i64 x.p) := hm3 1 (by omega); have z2 : w3.cell? ⟨g1, o1 + k * 5 + 2, none⟩ = some (.int .i64 x.q) := hm3 2 (by omega); have z3 : w3.cell? ⟨g1, o1 + k * 5 + 3, none⟩ = some (.string x.s) := hm3 3 (by omega); have z4 : w3.cell? ⟨g1, o1 + k * 5 + 4, none⟩ = some (.int .i64 x.r) := hm3 4 (by omega); clear hs hm3))
        have HF4 := Lib.hid (HF3.out.step ((Ch.refl [] w3).alloc (.cells #[.int .i64 x.k, .int .i64 x.p, .int .i64 x.q, .string x.s, .int .i64 x.r] 35)))
        have HR4 : Hid ((w3.alloc (.cells #[.int .i64 x.k, .int .i64 x.p, .int .i64 x.q, .string x.s, .int .i64 x.r] 35)).ownsRow w.heap.size 35 5 (.slice p N c) (flF l k).length ((flF l k).flatMap vC)) := Lib.hid (by
          obtain ⟨va, h1, h2, h3⟩ := HF4.out
          exact (h2 (.slice p N c, flF l k) (by simp)).1)
        have HV1 := Lib.hid (vals_one x w3)
        have HBw : Hid (w.heap.size ≤ (w3.alloc (.cells #[.int .i64 x.k, .int .i64 x.p, .int .i64 x.q, .string x.s, .int .i64 x.r] 35)).heap.size ∧ (flF l k).length + [x].length ≤ 1000000) := Lib.hid ⟨HF4.out.ch.size, by have := HLN.out; have := HK60.out; simp; omega⟩
        go_wp2_with (at_builtin; refine append_vals rfl _ _ rfl w.heap.size _ (flF l k) rfl HR4.out (some ⟨w3.heap.size, 0, none⟩) 1 1 [x] rfl HV1.out (fun e => by cases e) HBw.out.2 HBw.out.1 ?_)
        intro v' W' ho' hc' hg'
        obtain ⟨p2, c2, rfl⟩ := ownB_form ho'
        have HF5 : Hid (Fl 63 w t (flF l k ++ [x]) 1000 [(.slice p2 ((flF l k).length + 1) c2, flF l k ++ [x])] W') := Lib.hid (HF4.out.row (fun r hr => by simp at hr) hc' (by simpa using ho') (by simpa using hg'))
        clear ho' hc' hg'
        go_wp2
        go_roundw
        case rel => exact ⟨k + 1, p2, c2, by have := HK60.out; omega, by have := HK60.out; omega, by rw [HST.out, List.length_append]; rfl, by go_num, by rw [HST.out, List.length_append]; exact HF5⟩
        case measure => have := HK60.out; simp [intOf]; omega
      | false =>
        have QV : Hid (∀ W, Calls Try.prog 23 #[.agg #[.int .i64 x.k, .int .i64 x.p, .int .i64 x.q, .string x.s, .int .i64 x.r]] W fun e w' => e = .returned (.bool false) ∧ Below W.heap.size W w') := Lib.hid fun W => by rw [← (show okV x = false from hok)]; exact rvalid5 x.k x.p x.q x.s x.r W
        have HST : Hid (flF l (k + 1) = flF l k) := Lib.hid (by rw [flF_step HX.out, hok]; rfl)
        clear hok
        go_wp2_with (go_at_call 23; (with_reducible refine (QV.out _).mono ?_); rintro e w2 ⟨rfl, hb2⟩; have HF2 := Lib.hid (HF.out.step (Ch.of_below hb2)); clear hb2)
        go_roundw
        case rel => exact ⟨k + 1, _, c, by have := HK60.out; omega, by have := HK60.out; omega, by rw [HST.out], by go_num, by rw [HST.out]; exact HF2⟩
        case measure => have := HK60.out; simp [intOf]; omega
    · have HE : Hid (flF l k = flF l 60) := Lib.hid (by
        by_cases h : k = 60
        · rw [h]
        · unfold flF
          rw [List.take_of_length_le (by omega), List.take_of_length_le (by omega)])
      have HF2 : Hid (Fl 63 w t (flF l 60) 1000 [(.slice p (flF l 60).length c, flF l 60)] wr) := Lib.hid (by have := HF.out; rw [HE.out] at this; exact this)
      rw [HE.out]
      by_cases h1 : k < l.length
      · have hi1 : (k : Int) < (l.length : Int) := by omega
        have hi2 : ¬ (k : Int) < 60 := by omega
        clear hlt
        go_wp2
        go_ret2
        exact ⟨t, p, c, rfl, HF2.out⟩
      · have hi1 : ¬ (k : Int) < (l.length : Int) := by omega
        clear hlt
        go_wp2
        go_ret2
        exact ⟨t, p, c, rfl, HF2.out⟩
end Go.Proofs.Ytibggoikjlnnkaa
