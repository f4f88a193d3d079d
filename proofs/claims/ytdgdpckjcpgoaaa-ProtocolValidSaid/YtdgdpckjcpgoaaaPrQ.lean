/- Layer 20: what the walks of the laws use. -/
import Derived.Test.YtdgdpckjcpgoaaaPrO
import Derived.Test.YtdgdpckjcpgoaaaPrF
import Derived.Deep.RegionHeld3
namespace Go.Proofs.Ytdgdpckjcpgoaaa
open Go.RowKit Go.Joins M1
set_option linter.unusedVariables false
theorem AO.of {B : Nat} {w : World} {a : Act} (vl vk : Value) (h1 : Rw B vl a.l w) (h2 : Rw B vk a.kp w) : AO B (aV a vl vk) a w := ⟨vl, vk, rfl, h1, h2⟩
theorem return_ao (v : Value) (l : List V5) (w : World) (h : VA w v l) (hl : l.length ≤ 1000000) :
    Calls Try.prog 12 #[v] w fun e w' => ∃ va, e = .returned va ∧ AO w.heap.size va (retA l) w' ∧ Ch [] w w' := by
  refine (return_any v l w h hl).mono ?_
  rintro e w' ⟨vl, rfl, hr, hc⟩
  exact ⟨_, rfl, ⟨vl, .slice none 0 0, rfl, hr, Rw.nil _ _⟩, hc⟩
theorem fail_ao (x : V5) (lv : Int) (w : World) :
    Calls Try.prog 14 #[.agg #[.int .i64 x.k, .int .i64 x.p, .int .i64 x.q, .string x.s, .int .i64 x.r], .int .i64 lv] w fun e w' => ∃ va, e = .returned va ∧ AO w.heap.size va (failA x lv) w' ∧ Ch [] w w' := by
  refine (fail_any x lv w).mono ?_
  rintro e w' ⟨vl, rfl, hr, hc⟩
  exact ⟨_, rfl, ⟨vl, .slice none 0 0, rfl, hr, Rw.nil _ _⟩, hc⟩
theorem error_ao (s : ByteArray) (w : World) :
    Calls Try.prog 16 #[.string s] w fun e w' => ∃ va, e = .returned va ∧ AO w.heap.size va (errA s) w' ∧ Ch [] w w' := by
  refine (error_any s w).mono ?_
  rintro e w' ⟨vl, rfl, hr, hc⟩
  exact ⟨_, rfl, ⟨vl, .slice none 0 0, rfl, hr, Rw.nil _ _⟩, hc⟩
theorem call_ao (x : V5) (v vk : Value) (l lk : List V5) (nx : Int) (w : World) (h : VA w v l) (hk : VA w vk lk) (hl : l.length ≤ 1000000) (hlk : lk.length ≤ 1000000) :
    Calls Try.prog 18 #[.agg #[.int .i64 x.k, .int .i64 x.p, .int .i64 x.q, .string x.s, .int .i64 x.r], v, .int .i64 nx, vk] w fun e w' => ∃ va, e = .returned va ∧ AO w.heap.size va (callA 3 x l nx lk) w' ∧ Ch [] w w' := by
  refine (call_any x v vk l lk nx w h hk hl hlk).mono ?_
  rintro e w' ⟨vl, vp, rfl, hr, hr2, hc⟩
  exact ⟨_, rfl, ⟨vl, vp, rfl, hr, hr2⟩, hc⟩
theorem try_ao (x : V5) (v vk : Value) (l lk : List V5) (nx : Int) (w : World) (h : VA w v l) (hk : VA w vk lk) (hl : l.length ≤ 1000000) (hlk : lk.length ≤ 1000000) :
    Calls Try.prog 20 #[.agg #[.int .i64 x.k, .int .i64 x.p, .int .i64 x.q, .string x.s, .int .i64 x.r], v, .int .i64 nx, vk] w fun e w' => ∃ va, e = .returned va ∧ AO w.heap.size va (callA 4 x l nx lk) w' ∧ Ch [] w w' := by
  refine (try_any x v vk l lk nx w h hk hl hlk).mono ?_
  rintro e w' ⟨vl, vp, rfl, hr, hr2, hc⟩
  exact ⟨_, rfl, ⟨vl, vp, rfl, hr, hr2⟩, hc⟩
theorem yield_ao (v vk : Value) (l lk : List V5) (nx : Int) (w : World) (h : VA w v l) (hk : VA w vk lk) (hl : l.length ≤ 1000000) (hlk : lk.length ≤ 1000000) :
    Calls Try.prog 22 #[v, .int .i64 nx, vk] w fun e w' => ∃ va, e = .returned va ∧ AO w.heap.size va (yldA l nx lk) w' ∧ Ch [] w w' := by
  refine (yield_any v vk l lk nx w h hk hl hlk).mono ?_
  rintro e w' ⟨vl, vp, rfl, hr, hr2, hc⟩
  exact ⟨_, rfl, ⟨vl, vp, rfl, hr, hr2⟩, hc⟩
theorem rreturn_ao (v : Value) (l : List V5) (w : World) (h : VA w v l) (hl : l.length ≤ 1000000) :
    Calls Try.prog 13 #[v] w fun e w' => ∃ va, e = .returned va ∧ AO w.heap.size va (retA l) w' ∧ Ch [] w w' := by
  refine (rreturn_any v l w h hl).mono ?_
  rintro e w' ⟨vl, rfl, hr, hc⟩
  exact ⟨_, rfl, ⟨vl, .slice none 0 0, rfl, hr, Rw.nil _ _⟩, hc⟩
theorem rfail_ao (x : V5) (lv : Int) (w : World) :
    Calls Try.prog 15 #[.agg #[.int .i64 x.k, .int .i64 x.p, .int .i64 x.q, .string x.s, .int .i64 x.r], .int .i64 lv] w fun e w' => ∃ va, e = .returned va ∧ AO w.heap.size va (failA x lv) w' ∧ Ch [] w w' := by
  refine (rfail_any x lv w).mono ?_
  rintro e w' ⟨vl, rfl, hr, hc⟩
  exact ⟨_, rfl, ⟨vl, .slice none 0 0, rfl, hr, Rw.nil _ _⟩, hc⟩
theorem rerror_ao (s : ByteArray) (w : World) :
    Calls Try.prog 17 #[.string s] w fun e w' => ∃ va, e = .returned va ∧ AO w.heap.size va (errA s) w' ∧ Ch [] w w' := by
  refine (rerror_any s w).mono ?_
  rintro e w' ⟨vl, rfl, hr, hc⟩
  exact ⟨_, rfl, ⟨vl, .slice none 0 0, rfl, hr, Rw.nil _ _⟩, hc⟩
theorem rcall_ao (x : V5) (v vk : Value) (l lk : List V5) (nx : Int) (w : World) (h : VA w v l) (hk : VA w vk lk) (hl : l.length ≤ 1000000) (hlk : lk.length ≤ 1000000) :
    Calls Try.prog 19 #[.agg #[.int .i64 x.k, .int .i64 x.p, .int .i64 x.q, .string x.s, .int .i64 x.r], v, .int .i64 nx, vk] w fun e w' => ∃ va, e = .returned va ∧ AO w.heap.size va (callA 3 x l nx lk) w' ∧ Ch [] w w' := by
  refine (rcall_any x v vk l lk nx w h hk hl hlk).mono ?_
  rintro e w' ⟨vl, vp, rfl, hr, hr2, hc⟩
  exact ⟨_, rfl, ⟨vl, vp, rfl, hr, hr2⟩, hc⟩
theorem rtry_ao (x : V5) (v vk : Value) (l lk : List V5) (nx : Int) (w : World) (h : VA w v l) (hk : VA w vk lk) (hl : l.length ≤ 1000000) (hlk : lk.length ≤ 1000000) :
    Calls Try.prog 21 #[.agg #[.int .i64 x.k, .int .i64 x.p, .int .i64 x.q, .string x.s, .int .i64 x.r], v, .int .i64 nx, vk] w fun e w' => ∃ va, e = .returned va ∧ AO w.heap.size va (callA 4 x l nx lk) w' ∧ Ch [] w w' := by
  refine (rtry_any x v vk l lk nx w h hk hl hlk).mono ?_
  rintro e w' ⟨vl, vp, rfl, hr, hr2, hc⟩
  exact ⟨_, rfl, ⟨vl, vp, rfl, hr, hr2⟩, hc⟩
theorem ryield_ao (v vk : Value) (l lk : List V5) (nx : Int) (w : World) (h : VA w v l) (hk : VA w vk lk) (hl : l.length ≤ 1000000) (hlk : lk.length ≤ 1000000) :
    Calls Try.prog 23 #[v, .int .i64 nx, vk] w fun e w' => ∃ va, e = .returned va ∧ AO w.heap.size va (yldA l nx lk) w' ∧ Ch [] w w' := by
  refine (ryield_any v vk l lk nx w h hk hl hlk).mono ?_
  rintro e w' ⟨vl, vp, rfl, hr, hr2, hc⟩
  exact ⟨_, rfl, ⟨vl, vp, rfl, hr, hr2⟩, hc⟩
end Go.Proofs.Ytdgdpckjcpgoaaa
