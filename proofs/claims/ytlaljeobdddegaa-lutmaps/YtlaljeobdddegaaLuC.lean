import Derived.Test.YtlaljeobdddegaaLuA
namespace Go.Proofs.Ytlaljeobdddegaa.L
open Go.RowKit

set_option maxRecDepth 100000 in
set_option maxHeartbeats 8000000 in
theorem firstTable_any (w : World) (p : Nat) (S : NtS) (N : NtD) (h : BoxAt w p S N) (h0 : 0 ≤ N.ins) (h1 : N.ins ≤ 60000) (h2 : N.init.length < huge) :
    Calls Try.prog 67 #[.pointer (some ⟨p, 0, none⟩)] w fun e w' => e = .returned (.int .i64 N.first) ∧ ∃ n, w' = w.drewN n := by
  simp only [huge] at h2
  obtain ⟨lt, c0, c1, c2, c3, c4⟩ := h
  go_enter Try.func67, Try.ntmps67
  go_wp2
  go_quiet (fail)
  go_wp2
  go_ret
  exact ⟨ret_int rfl, _, rfl⟩

set_option maxRecDepth 100000 in
set_option maxHeartbeats 8000000 in
theorem signals_any (w : World) (p : Nat) (S : NtS) (N : NtD) (h : BoxAt w p S N) (h0 : 0 ≤ N.ins) (h1 : N.ins ≤ 60000) (h2 : N.init.length < huge) (h3 : N.tabs.length < big) :
    Calls Try.prog 53 #[.pointer (some ⟨p, 0, none⟩)] w fun e w' => e = .returned (.int .i64 N.sigs) ∧ ∃ n, w' = w.drewN n := by
  have FG : Hid (∀ w, BoxAt w p S N → Calls Try.prog 67 #[.pointer (some ⟨p, 0, none⟩)] w fun e w' => e = .returned (.int .i64 N.first) ∧ ∃ n, w' = w.drewN n) := fun w hb => firstTable_any w p S N hb h0 h1 h2
  simp only [big, huge] at h2 h3
  have HH := hidden h
  obtain ⟨lt, c0, c1, c2, c3, c4⟩ := h
  have e1 : N.sigs = N.first + N.tabs.length := rfl
  have e2 : N.first = 2 + N.ins + N.init.length := rfl
  rw [e1]
  generalize N.first = F at *
  go_enter Try.func53, Try.ntmps53
  go_wp2
  go_quiet ((go_at_call 67; exact Calls.quiet_of (FG.out _ (HH.out.to HH.out.lt (Below.drewN (Below.refl _ _) _)))))
  go_wp2
  go_ret
  exact ⟨ret_int (by omega), _, rfl⟩

theorem rowAt_flat {B : Nat} {w : World} {b sz : Nat} {els : List (List Value)} (hb : b < B) (hs : ∀ l, l ∈ els → l.length = sz) (h : ∀ (m : Nat) (v : Value), els.flatten[m]? = some v → w.cell? ⟨b, m, none⟩ = some v) : RowAt B w (some ⟨b, 0, none⟩) sz els := by
  intro hne
  refine ⟨b, 0, rfl, hb, fun i cs hi j x hx => ?_⟩
  rw [Nat.zero_add]
  apply h
  clear h
  induction els generalizing i with
  | nil => simp at hi
  | cons l r ih =>
    have hl := hs l List.mem_cons_self
    cases i with
    | zero =>
      simp at hi; subst hi
      have hj := (List.getElem?_eq_some_iff.1 hx).1
      rw [List.flatten_cons, List.getElem?_append_left (by omega)]
      simpa using hx
    | succ i =>
      have hi' : r[i]? = some cs := by simpa using hi
      rw [List.flatten_cons, List.getElem?_append_right (by rw [hl, Nat.succ_mul]; omega)]
      have := ih (fun l hl => hs l (List.mem_cons_of_mem _ hl)) (List.ne_nil_of_mem (List.mem_of_getElem? hi')) i hi'
      rw [hl]
      rw [show (i + 1) * sz + j - sz = i * sz + j by rw [Nat.succ_mul]; omega]
      exact this
theorem cell_new {w : World} {cs : Array Value} {t b j : Nat} (h : b = w.heap.size) : (w.alloc (.cells cs t)).cell? ⟨b, j, none⟩ = cs[j]? := by
  subst h; simp
theorem rowAt_nil {B : Nat} {w : World} {a : Option Addr} {sz : Nat} : RowAt B w a sz [] := fun h => absurd rfl h
end Go.Proofs.Ytlaljeobdddegaa.L
