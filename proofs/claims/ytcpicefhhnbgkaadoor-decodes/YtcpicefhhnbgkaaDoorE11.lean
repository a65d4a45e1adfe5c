import Derived.Test.YtcpicefhhnbgkaaDoorE10
namespace Go.Proofs.YtcpicefhhnbgkaaDoor
open Go.RowKit Cf

theorem flat_get {α : Type} (enc : α → List Value) (sz : Nat) (hs : ∀ x, (enc x).length = sz) (xs : List α) (j : Nat) (hj : j < xs.length) (r : Nat) (hr : r < sz) : (xs.flatMap enc)[j * sz + r]? = (enc xs[j])[r]? := by
  induction xs generalizing j with
  | nil => cases hj
  | cons x l ih =>
    rw [List.flatMap_cons]
    cases j with
    | zero =>
      rw [Nat.zero_mul, Nat.zero_add, List.getElem?_append_left (by rw [hs]; exact hr)]
      rfl
    | succ j =>
      rw [List.getElem?_append_right (by rw [hs, Nat.succ_mul]; omega), hs, show (j + 1) * sz + r - sz = j * sz + r by rw [Nat.succ_mul]; omega]
      exact ih j (by simpa using hj)
/-- where a row's things lie -/
theorem row_cells {α : Type} {base e sz : Nat} {enc : α → List Value} (hs : ∀ x, (enc x).length = sz) {w : World} {v : Value} {xs : List α} (h : IsRow base e sz enc w v xs) :
    (v = .slice none 0 0 ∧ xs = []) ∨ ∃ g cap, v = .slice (some ⟨g, 0, none⟩) xs.length cap ∧ ∀ j (hj : j < xs.length) r u, (enc xs[j])[r]? = some u → w.cell? ⟨g, j * sz + r, none⟩ = some u := by
  rcases h.2 with ⟨rfl, hn⟩ | ⟨g, cap, cur, rfl, hg, hh, _, _, _, ht⟩
  · exact .inl ⟨rfl, List.eq_nil_of_length_eq_zero hn⟩
  · refine .inr ⟨g, cap, rfl, fun j hj r u hu => ?_⟩
    have hr : r < sz := by
      have := (List.getElem?_eq_some_iff.1 hu).1
      rw [hs] at this
      exact this
    have := h.cells (g := g) rfl (j * sz + r) u (by rw [flat_get enc sz hs xs j hj r hr]; exact hu)
    unfold Addr.add at this
    split at this
    · rename_i h0; rw [h0]; exact this
    · simpa using this

set_option maxHeartbeats 400000 in
theorem sameTypes_any (w : World) (b1 b2 : Nat) (v1 v2 : Value) (xs : List Ty) (h1 : Hid (IsRow b1 41 2 encTy w v1 xs)) (h2 : Hid (IsRow b2 41 2 encTy w v2 xs)) (hl : xs.length ≤ 65536) :
    Calls Tryd.prog 35 #[v1, v2] w fun e w' => e = .returned (.bool true) ∧ w.grownBy w' none := by
  by_cases hx : xs = []
  · subst hx
    obtain ⟨a1, k1, rfl⟩ := own_slice h1.out
    obtain ⟨a2, k2, rfl⟩ := own_slice h2.out
    go_enter Tryd.func35, Tryd.ntmps35
    go_wp2_with fail
    go_loop [5] (fun i => i = .int .i64 0) (fun _ => 0)
    case atStart => rfl
    case round =>
      subst hrel
      go_wp2_with fail
      go_ret
      exact ⟨rfl, gb_refl _ _⟩
  · rcases row_cells (enc := encTy) (fun _ => rfl) h1.out with ⟨-, hn⟩ | ⟨g1, k1, rfl, hc1⟩
    · exact absurd hn hx
    rcases row_cells (enc := encTy) (fun _ => rfl) h2.out with ⟨-, hn⟩ | ⟨g2, k2, rfl, hc2⟩
    · exact absurd hn hx
    · have HC1 : Hid (∀ j (hj : j < xs.length) r u, (encTy xs[j])[r]? = some u → w.cell? ⟨g1, j * 2 + r, none⟩ = some u) := hc1
      have HC2 : Hid (∀ j (hj : j < xs.length) r u, (encTy xs[j])[r]? = some u → w.cell? ⟨g2, j * 2 + r, none⟩ = some u) := hc2
      clear hc1 hc2
      go_enter Tryd.func35, Tryd.ntmps35
      go_wp2_with fail
      go_loopw [5] (fun i wr => ∃ j : Nat, j ≤ xs.length ∧ i = .int .i64 j ∧ Hid (∀ a, wr.cell? a = w.cell? a) ∧ Hid (w.grownBy wr none)) (fun i _ => xs.length - (intOf i).toNat)
      case atStart => exact ⟨0, Nat.zero_le _, rfl, fun _ => rfl, gb_refl _ _⟩
      case round =>
        obtain ⟨j, hj, rfl, HQ, HGW⟩ := hrel
        by_cases hlt : j < xs.length
        · have d0 : wr.cell? ⟨g1, j * 2, none⟩ = some (.int .i64 xs[j].kind) := (HQ.out _).trans (HC1.out j hlt 0 _ rfl)
          have d1 : wr.cell? ⟨g1, j * 2 + 1, none⟩ = some (.string xs[j].name) := (HQ.out _).trans (HC1.out j hlt 1 _ rfl)
          have e0 : wr.cell? ⟨g2, j * 2, none⟩ = some (.int .i64 xs[j].kind) := (HQ.out _).trans (HC2.out j hlt 0 _ rfl)
          have e1 : wr.cell? ⟨g2, j * 2 + 1, none⟩ = some (.string xs[j].name) := (HQ.out _).trans (HC2.out j hlt 1 _ rfl)
          go_wp2_with fail
          go_quiet (fail)
          go_wp2_with fail
          go_roundw
          case rel => exact ⟨j + 1, hlt, by go_num, fun a => HQ.out a, gb_tn HGW.out (gb_drewN _ _ _)⟩
          case measure => simp [intOf]; omega
        · go_wp2_with fail
          go_ret
          exact ⟨rfl, HGW.out⟩
end Go.Proofs.YtcpicefhhnbgkaaDoor
