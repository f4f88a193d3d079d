/- Layer 18: Put in whole. -/
import Derived.Test.YtbfeahafogbbhaaRegY
namespace Go.Proofs.Ytbfeahafogbbhaa
open Go.RowKit Go.Joins M1
set_option linter.unusedVariables false
def putE (nm : ByteArray) (x : V5) (N : MP) : Int :=
  if 4096 < nm.size then 14 else if okV x = false then 2 else if x.k = 0 then 0 else if look N nm = none ∧ N.length = 1000 then 17 else 0
def putN (nm : ByteArray) (x : V5) (N : MP) : MP :=
  if putE nm x N = 0 then (if x.k = 0 then delM N nm else putM N nm x) else N
theorem len_put (N : MP) (k : ByteArray) (x : V5) : (putM N k x).length = if look N k = none then N.length + 1 else N.length := by
  induction N with
  | nil => rfl
  | cons a l ih =>
    obtain ⟨v, i⟩ := a
    unfold putM look
    by_cases h : k = v
    · simp [h]
    · simp only [if_neg h, List.length_cons, ih]
      split <;> rfl
theorem len_del (N : MP) (k : ByteArray) : (delM N k).length ≤ N.length := by
  induction N with
  | nil => exact Nat.le_refl _
  | cons a l ih =>
    obtain ⟨v, i⟩ := a
    unfold delM
    by_cases h : k = v
    · simp [h]
    · simp only [if_neg h, List.length_cons]; omega
theorem put_some_said {B t g : Nat} {vk vf : Value} {K : List V5} {F : List Int} {N N' : MP} {w w' : World} (h : Rg B t vk vf (.map (some g)) K F w) (hn : Nm B (.map (some g)) N w) (hB : B ≤ g) (hc : Ch [g] w w') (hm : Mp g N' w') (hu : Uniq N') (hl : N'.length ≤ 1000) : PutSaid B t vk vf (.map (some g)) K F N' w w' :=
  ⟨.map (some g), h.ch hc (fun y hy => hn.free h y hy), ⟨.inr ⟨g, rfl, hB, hm⟩, hu, hl⟩, fun y hy => .inl hy, hc.mono (fun y hy => by simp [nmS] at hy ⊢; exact .inr hy)⟩
theorem put_new_said {B t g : Nat} {vk vf : Value} {K : List V5} {F : List Int} {N' : MP} {w w' : World} (h : Rg B t vk vf (.map none) K F w) (hB : B ≤ w.heap.size) (hg : w.heap.size ≤ g) (hb : Blk 66 t #[vk, vf, .map (some g)] w') (hc : Ch [t] w w') (hm : Mp g N' w') (hu : Uniq N') (hl : N'.length ≤ 1000) : PutSaid B t vk vf (.map none) K F N' w w' :=
  ⟨.map (some g), ⟨hb, h.lo, hc.ownB h.rk (fun y hy => by simpa using h.apk y hy), hc.ownB h.rf (fun y hy => by simpa using h.apf y hy)⟩, ⟨.inr ⟨g, rfl, Nat.le_trans hB hg, hm⟩, hu, hl⟩, fun y hy => by simp [nmS] at hy; subst hy; exact .inr hg, hc.mono (fun y hy => by simp at hy; simp [hy])⟩
theorem put_any (B t : Nat) (vk vf vm : Value) (K : List V5) (F : List Int) (N : MP) (w : World) (h : Rg B t vk vf vm K F w) (hn : Nm B vm N w) (hB : B ≤ w.heap.size) (nm : ByteArray) (x : V5) :
    Calls Try.prog 22 #[.pointer (some ⟨t, 0, none⟩), .string nm, .agg #[.int .i64 x.k, .int .i64 x.p, .int .i64 x.q, .string x.s, .int .i64 x.r]] w fun e w' => e = .returned (.int .i64 (putE nm x N)) ∧ PutSaid B t vk vf vm K F (putN nm x N) w w' := by
  by_cases hs : 4096 < nm.size
  · have e1 : putE nm x N = 14 := by unfold putE; rw [if_pos hs]
    have e2 : putN nm x N = N := by unfold putN; rw [e1]; rfl
    rw [e1, e2]
    exact (put_long B t vk vf vm K F N w h hn nm x hs).mono fun e w' ⟨q1, q2⟩ => ⟨q1, put_0 h hn q2⟩
  have hs' : nm.size ≤ 4096 := by omega
  cases hv : okV x with
  | false =>
    have e1 : putE nm x N = 2 := by unfold putE; rw [if_neg hs, if_pos hv]
    have e2 : putN nm x N = N := by unfold putN; rw [e1]; rfl
    rw [e1, e2]
    exact (put_bad B t vk vf vm K F N w h hn nm x hs' hv).mono fun e w' ⟨q1, q2⟩ => ⟨q1, put_0 h hn q2⟩
  | true =>
    have hv' : ¬ okV x = false := by rw [hv]; simp
    by_cases hz : x.k = 0
    · have e1 : putE nm x N = 0 := by unfold putE; rw [if_neg hs, if_neg hv', if_pos hz]
      have e2 : putN nm x N = delM N nm := by unfold putN; rw [e1, if_pos rfl, if_pos hz]
      rw [e1, e2]
      rcases hn.mp with ⟨rfl, rfl⟩ | ⟨g, rfl, h2, h3⟩
      · exact (put_delnil B t vk vf K F w h nm x hs' hv hz).mono fun e w' ⟨q1, q2⟩ => ⟨q1, put_0 h hn q2⟩
      · exact (put_del B t g vk vf K F N w h h2 h3 hn.uq hn.top nm x hs' hv hz).mono fun e w' ⟨q1, q2, q3⟩ => ⟨q1, put_some_said h hn h2 q2 q3 (uniq_del _ _ hn.uq) (Nat.le_trans (len_del _ _) hn.top)⟩
    · by_cases hf : look N nm = none ∧ N.length = 1000
      · have e1 : putE nm x N = 17 := by unfold putE; rw [if_neg hs, if_neg hv', if_neg hz, if_pos hf]
        have e2 : putN nm x N = N := by unfold putN; rw [e1]; rfl
        rw [e1, e2]
        exact (put_full B t vk vf vm K F N w h hn nm x hs' hv hz hf.1 hf.2).mono fun e w' ⟨q1, q2⟩ => ⟨q1, put_0 h hn q2⟩
      · have e1 : putE nm x N = 0 := by unfold putE; rw [if_neg hs, if_neg hv', if_neg hz, if_neg hf]
        have e2 : putN nm x N = putM N nm x := by unfold putN; rw [e1, if_pos rfl, if_neg hz]
        have hl : (putM N nm x).length ≤ 1000 := by
          rw [len_put]
          have := hn.top
          split
          · rename_i q
            have : ¬ N.length = 1000 := fun q2 => hf ⟨q, q2⟩
            omega
          · exact this
        rw [e1, e2]
        rcases hn.mp with ⟨rfl, rfl⟩ | ⟨g, rfl, h2, h3⟩
        · refine (put_new B t vk vf K F w h nm x hs' hv hz).mono ?_
          rintro e w' ⟨q1, g, q2, q3, q4, q5⟩
          exact ⟨q1, put_new_said h hB q2 q3 q4 q5 (uniq_put _ _ _ hn.uq) hl⟩
        · refine (put_some B t g vk vf K F N w h h2 h3 hn.uq hn.top nm x hs' hv hz ?_).mono fun e w' ⟨q1, q2, q3⟩ => ⟨q1, put_some_said h hn h2 q2 q3 (uniq_put _ _ _ hn.uq) hl⟩
          cases hq : look N nm with
          | some y => exact .inl rfl
          | none => exact .inr fun q => hf ⟨hq, q⟩
end Go.Proofs.Ytbfeahafogbbhaa
