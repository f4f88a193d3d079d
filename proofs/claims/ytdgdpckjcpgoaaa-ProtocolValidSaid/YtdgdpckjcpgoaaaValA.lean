/- Contracts of layer 11: values compared, made, valid. -/
import Derived.Test.YtdgdpckjcpgoaaaRatA
import Derived.Test.YtdgdpckjcpgoaaaCh
import Derived.Below
import Derived.ProofKit
import Derived.OpenShut
import Derived.Laws.StructEq
import Derived.BigQuiet
import Derived.RegionTactic
import Derived.Deep.RegionLaw
import Derived.Deep.RegionWith
namespace Go.Proofs.Ytdgdpckjcpgoaaa
open Go.RowKit M1
set_option linter.unusedVariables false
/-- A value as data. -/
structure V5 where
  k : Int
  p : Int
  q : Int
  s : ByteArray
  r : Int
deriving DecidableEq

def eqV (k p q : Int) (s : ByteArray) (r k' p' q' : Int) (s' : ByteArray) (r' : Int) : Bool := (k == k') && ((p == p') && ((q == q') && (decide (s = s') && (r == r'))))
theorem beqS (a b : ByteArray) : (a.toList == b.toList) = decide (a = b) := by
  rw [ByteArray.toList_eq, ByteArray.toList_eq, Bool.eq_iff_iff]
  simp only [beq_iff_eq, decide_eq_true_eq]
  constructor
  · intro h
    obtain ⟨⟨x⟩⟩ := a
    obtain ⟨⟨y⟩⟩ := b
    simp at h
    rw [h]
  · intro h; rw [h]
theorem eqV_iff {k p q : Int} {s : ByteArray} {r k' p' q' : Int} {s' : ByteArray} {r' : Int} : eqV k p q s r k' p' q' s' r' = true ↔ (k = k' ∧ p = p' ∧ q = q' ∧ s = s' ∧ r = r') := by
  unfold eqV; simp
theorem eqIn_num (a b c d : Int) (n : Nat) (w : World) : (Op.equalIn (n + 2) 24 (.agg #[.int .i64 a, .int .i64 b]) (.agg #[.int .i64 c, .int .i64 d])).run Try.prog w = .ok ((a == c) && (b == d)) w := by
  have hf : (Try.prog.fieldsOf 24).toList.map (fun f => (f.name, f.type, f.offset)) = [("P", 3, 0), ("Q", 3, 1)] := by kernel_rfl
  have p0 : ∀ (x y : Int) (w : World), (part 3 #[.int .i64 x, .int .i64 y] 0).run Try.prog w = .ok (.int .i64 x) w := fun _ _ _ => by kernel_rfl
  have p1 : ∀ (x y : Int) (w : World), (part 3 #[.int .i64 x, .int .i64 y] 1).run Try.prog w = .ok (.int .i64 y) w := fun _ _ _ => by kernel_rfl
  have hI : Try.prog.underlying 3 = some (.int .i64) := by kernel_rfl
  rw [run_equalIn_struct (P := Try.prog) w (n + 1) 24 _ _ (by kernel_rfl) (by kernel_rfl)]
  generalize (Try.prog.fieldsOf 24).toList = F at hf
  rcases F with _ | ⟨f, _ | ⟨g, _ | ⟨x, F⟩⟩⟩
  · simp at hf
  · simp at hf
  · simp at hf
    obtain ⟨⟨h1, h2, h3⟩, h4, h5, h6⟩ := hf
    unfold Op.eqFields
    simp only [h1, h2, h3, Sem.run_ite, Sem.run_bind, p0, Result.andThen_ok, run_equalIn_int w n _ .i64 .i64 a c hI]
    unfold Op.eqFields
    simp only [h4, h5, h6, Sem.run_ite, Sem.run_bind, p1, Result.andThen_ok, run_equalIn_int w n _ .i64 .i64 b d hI]
    unfold Op.eqFields
    cases h : (a == c) <;> cases h' : (b == d) <;> simp
  · simp at hf
theorem eqIn_val (k p q : Int) (s : ByteArray) (r k' p' q' : Int) (s' : ByteArray) (r' : Int) (n : Nat) (w : World) : (Op.equalIn (n + 3) 26 (.agg #[.int .i64 k, .int .i64 p, .int .i64 q, .string s, .int .i64 r]) (.agg #[.int .i64 k', .int .i64 p', .int .i64 q', .string s', .int .i64 r'])).run Try.prog w = .ok (eqV k p q s r k' p' q' s' r') w := by
  have hf : (Try.prog.fieldsOf 26).toList.map (fun f => (f.name, f.type, f.offset)) = [("Kind", 3, 0), ("Num", 24, 1), ("Str", 9, 3), ("Ref", 3, 4)] := by kernel_rfl
  have p0 : ∀ (k p q : Int) (s : ByteArray) (r : Int) (w : World), (part 3 #[.int .i64 k, .int .i64 p, .int .i64 q, .string s, .int .i64 r] 0).run Try.prog w = .ok (.int .i64 k) w := fun _ _ _ _ _ _ => by kernel_rfl
  have p1 : ∀ (k p q : Int) (s : ByteArray) (r : Int) (w : World), (part 24 #[.int .i64 k, .int .i64 p, .int .i64 q, .string s, .int .i64 r] 1).run Try.prog w = .ok (.agg #[.int .i64 p, .int .i64 q]) w := fun _ _ _ _ _ _ => by kernel_rfl
  have p3 : ∀ (k p q : Int) (s : ByteArray) (r : Int) (w : World), (part 9 #[.int .i64 k, .int .i64 p, .int .i64 q, .string s, .int .i64 r] 3).run Try.prog w = .ok (.string s) w := fun _ _ _ _ _ _ => by kernel_rfl
  have p4 : ∀ (k p q : Int) (s : ByteArray) (r : Int) (w : World), (part 3 #[.int .i64 k, .int .i64 p, .int .i64 q, .string s, .int .i64 r] 4).run Try.prog w = .ok (.int .i64 r) w := fun _ _ _ _ _ _ => by kernel_rfl
  have hI : Try.prog.underlying 3 = some (.int .i64) := by kernel_rfl
  have hS : Try.prog.underlying 9 = some .string := by kernel_rfl
  rw [run_equalIn_struct (P := Try.prog) w (n + 2) 26 _ _ (by kernel_rfl) (by kernel_rfl)]
  generalize (Try.prog.fieldsOf 26).toList = F at hf
  rcases F with _ | ⟨f0, _ | ⟨f1, _ | ⟨f2, _ | ⟨f3, _ | ⟨x, F⟩⟩⟩⟩⟩
  · simp at hf
  · simp at hf
  · simp at hf
  · simp at hf
  · simp at hf
    obtain ⟨⟨a1, a2, a3⟩, ⟨b1, b2, b3⟩, ⟨c1, c2, c3⟩, d1, d2, d3⟩ := hf
    unfold Op.eqFields
    simp only [a1, a2, a3, Sem.run_ite, Sem.run_bind, p0, Result.andThen_ok, run_equalIn_int w (n + 1) _ .i64 .i64 k k' hI]
    unfold Op.eqFields
    simp only [b1, b2, b3, Sem.run_ite, Sem.run_bind, p1, Result.andThen_ok, eqIn_num p q p' q' n w]
    unfold Op.eqFields
    simp only [c1, c2, c3, Sem.run_ite, Sem.run_bind, p3, Result.andThen_ok, run_equalIn_string w (n + 1) _ s s' hS, beqS]
    unfold Op.eqFields
    simp only [d1, d2, d3, Sem.run_ite, Sem.run_bind, p4, Result.andThen_ok, run_equalIn_int w (n + 1) _ .i64 .i64 r r' hI]
    unfold Op.eqFields eqV
    cases h : (k == k') <;> cases h2 : (p == p') <;> cases h3 : (q == q') <;> cases h4 : decide (s = s') <;> cases h5 : (r == r') <;> simp
  · simp at hf
theorem eq_val (k p q : Int) (s : ByteArray) (r k' p' q' : Int) (s' : ByteArray) (r' : Int) (w : World) : (binOp .eql 26 (.agg #[.int .i64 k, .int .i64 p, .int .i64 q, .string s, .int .i64 r]) (.agg #[.int .i64 k', .int .i64 p', .int .i64 q', .string s', .int .i64 r'])).run Try.prog w = .ok (.bool (eqV k p q s r k' p' q' s' r')) w := by
  rw [run_eql_struct, eqIn_val _ _ _ _ _ _ _ _ _ _ 9997, Result.andThen_ok]
theorem neq_val (k p q : Int) (s : ByteArray) (r k' p' q' : Int) (s' : ByteArray) (r' : Int) (w : World) : (binOp .neq 26 (.agg #[.int .i64 k, .int .i64 p, .int .i64 q, .string s, .int .i64 r]) (.agg #[.int .i64 k', .int .i64 p', .int .i64 q', .string s', .int .i64 r'])).run Try.prog w = .ok (.bool (!eqV k p q s r k' p' q' s' r')) w := by
  rw [run_neq_struct, eqIn_val _ _ _ _ _ _ _ _ _ _ 9997, Result.andThen_ok]
theorem eq_num (a b c d : Int) (w : World) : (binOp .eql 24 (.agg #[.int .i64 a, .int .i64 b]) (.agg #[.int .i64 c, .int .i64 d])).run Try.prog w = .ok (.bool ((a == c) && (b == d))) w := by
  rw [run_eql_struct, eqIn_num _ _ _ _ 9998, Result.andThen_ok]
theorem vstep {B B' : Nat} {a b c : World} (h : Below B' b c) (hB : B ≤ B') (k : Below B a b) : Below B a c := k.trans (h.mono hB)
/-- Five stores: a value is stored whole. -/
def st5 (W : World) (R : Nat) (a0 a1 a2 a3 a4 : Value) : World := ((((W.setCell ⟨R, 0, none⟩ a0).setCell ⟨R, 1, none⟩ a1).setCell ⟨R, 2, none⟩ a2).setCell ⟨R, 3, none⟩ a3).setCell ⟨R, 4, none⟩ a4
theorem st5_blk {T : TypeId} {W : World} {R : Nat} {b0 b1 b2 b3 b4 a0 a1 a2 a3 a4 : Value} (h : Blk T R #[b0, b1, b2, b3, b4] W) : Blk T R #[a0, a1, a2, a3, a4] (st5 W R a0 a1 a2 a3 a4) :=
  ((((h.set 0 a0).set 1 a1).set 2 a2).set 3 a3).set 4 a4
theorem st5_bel {B : Nat} {w W : World} {R : Nat} {a0 a1 a2 a3 a4 : Value} (h : Below B w W) (hR : B ≤ R) : Below B w (st5 W R a0 a1 a2 a3 a4) :=
  ((((h.setCell (p := ⟨R, 0, none⟩) hR a0).setCell (p := ⟨R, 1, none⟩) hR a1).setCell (p := ⟨R, 2, none⟩) hR a2).setCell (p := ⟨R, 3, none⟩) hR a3).setCell (p := ⟨R, 4, none⟩) hR a4
theorem st5_ch {S : List Nat} {w W : World} {R : Nat} {a0 a1 a2 a3 a4 : Value} (h : Ch S w W) (hR : R ∈ S ∨ w.heap.size ≤ R) : Ch S w (st5 W R a0 a1 a2 a3 a4) :=
  ((((h.set R 0 a0 hR).set R 1 a1 hR).set R 2 a2 hR).set R 3 a3 hR).set R 4 a4 hR
theorem ofStr_any (s : ByteArray) (w : World) :
    Calls Try.prog 35 #[.string s] w fun e w' => e = .returned (.agg #[.int .i64 3, .int .i64 0, .int .i64 0, .string s, .int .i64 0]) ∧ Below w.heap.size w w' := by
  go_enter Try.func35, Try.ntmps35
  go_wp2
  refine bodyPost_ret (v := .agg #[.int .i64 3, .int .i64 0, .int .i64 0, .string s, .int .i64 0]) (by simp [results, Try.results35, go_sem]) rfl ⟨rfl, ?_⟩
  repeat (first | exact Below.refl _ _ | refine below_drewN ?_ _ | refine Below.drew ?_ | refine Below.setCell ?_ (by first | omega | (simp; done) | (simp; omega)) _ | refine Below.alloc ?_ (by first | omega | (simp; done) | (simp; omega)) _ | refine vstep (by assumption) (by first | omega | (simp; done) | (simp; omega)) ?_)
theorem ofBool_any (b : Bool) (w : World) :
    Calls Try.prog 46 #[.bool b] w fun e w' => e = .returned (.agg #[.int .i64 1, .int .i64 0, .int .i64 0, .string ⟨#[]⟩, .int .i64 (if b = true then 1 else 0)]) ∧ Below w.heap.size w w' := by
  cases b
  · go_enter Try.func46, Try.ntmps46
    go_wp2
    refine bodyPost_ret (v := .agg #[.int .i64 1, .int .i64 0, .int .i64 0, .string ⟨#[]⟩, .int .i64 0]) (by simp [results, Try.results46, go_sem]) rfl ⟨rfl, ?_⟩
    repeat (first | exact Below.refl _ _ | refine below_drewN ?_ _ | refine Below.drew ?_ | refine Below.setCell ?_ (by first | omega | (simp; done) | (simp; omega)) _ | refine Below.alloc ?_ (by first | omega | (simp; done) | (simp; omega)) _ | refine vstep (by assumption) (by first | omega | (simp; done) | (simp; omega)) ?_)
  · go_enter Try.func46, Try.ntmps46
    go_wp2
    refine bodyPost_ret (v := .agg #[.int .i64 1, .int .i64 0, .int .i64 0, .string ⟨#[]⟩, .int .i64 1]) (by simp [results, Try.results46, go_sem]) rfl ⟨rfl, ?_⟩
    repeat (first | exact Below.refl _ _ | refine below_drewN ?_ _ | refine Below.drew ?_ | refine Below.setCell ?_ (by first | omega | (simp; done) | (simp; omega)) _ | refine Below.alloc ?_ (by first | omega | (simp; done) | (simp; omega)) _ | refine vstep (by assumption) (by first | omega | (simp; done) | (simp; omega)) ?_)
end Go.Proofs.Ytdgdpckjcpgoaaa
