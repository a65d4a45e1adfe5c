import Derived.Test.YtcpicefhhnbgkaaDoorE13
namespace Go.Proofs.YtcpicefhhnbgkaaDoor
open Go.RowKit Cf

theorem rep_len {α : Type} {p : St → R α} : ∀ {n : Nat} {st st1 : St} {l : List α}, rep p n st = .ok (l, st1) → l.length = n ∧ ∀ x ∈ l, ∃ s0 s1, p s0 = .ok (x, s1) := by
  intro n
  induction n with
  | zero => intro st st1 l h; simp only [rep, Except.ok.injEq, Prod.mk.injEq] at h; obtain ⟨rfl, -⟩ := h; simp
  | succ n ih =>
    intro st st1 l h
    simp only [rep] at h
    cases hp : p st with
    | error er => rw [hp] at h; cases h
    | ok q =>
      obtain ⟨x, s1⟩ := q
      rw [hp] at h
      dsimp only at h
      cases hr : rep p n s1 with
      | error er => rw [hr] at h; cases h
      | ok q =>
        obtain ⟨l2, s2⟩ := q
        rw [hr] at h
        simp only [Except.ok.injEq, Prod.mk.injEq] at h
        obtain ⟨rfl, -⟩ := h
        obtain ⟨h1, h2⟩ := ih hr
        refine ⟨by simp [h1], fun y hy => ?_⟩
        rcases List.mem_cons.1 hy with rfl | hy
        · exact ⟨_, _, hp⟩
        · exact h2 y hy
theorem list_len {α : Type} {f : ByteArray} {k : Nat} {p : St → R α} {st st1 : St} {l : List α} (h : list f k p st = .ok (l, st1)) : l.length < 256 ^ k ∧ ∀ x ∈ l, ∃ s0 s1, p s0 = .ok (x, s1) := by
  unfold list at h
  cases hn : num f k st with
  | error er => rw [hn] at h; cases h
  | ok q =>
    obtain ⟨n, s1⟩ := q
    rw [hn] at h
    dsimp only at h
    obtain ⟨h1, h2⟩ := rep_len h
    have := (num_lt hn).2
    exact ⟨by omega, h2⟩
theorem then_ok {α β : Type} {r : R α} {m : α → St → R β} {q : β × St} (h : then_ r m = .ok q) : ∃ a st, r = .ok (a, st) ∧ m a st = .ok q := by
  unfold then_ at h
  cases r with
  | error er => cases h
  | ok p => exact ⟨p.1, p.2, rfl, h⟩
theorem meth_small {f : ByteArray} {st st1 : St} {m : Me} (h : meth f st = .ok (m, st1)) : m.params.length ≤ 65536 ∧ m.code.length ≤ 65536 ∧ m.handlers.length ≤ 65536 := by
  rw [meth_then] at h
  obtain ⟨n, s1, h1, h⟩ := then_ok h
  obtain ⟨ps, s2, h2, h⟩ := then_ok h
  obtain ⟨rt, s3, h3, h⟩ := then_ok h
  obtain ⟨so, s4, h4, h⟩ := then_ok h
  obtain ⟨lo, s5, h5, h⟩ := then_ok h
  obtain ⟨is, s6, h6, h⟩ := then_ok h
  obtain ⟨hs, s7, h7, h⟩ := then_ok h
  cases h
  have a1 := (list_len h2).1
  have a2 := (list_len h6).1
  have a3 := (list_len h7).1
  dsimp only
  omega
theorem cls_small {f : ByteArray} {st st1 : St} {c : Cl} (h : cls f st = .ok (c, st1)) : Small c := by
  rw [cls_then] at h
  obtain ⟨n, s1, h1, h⟩ := then_ok h
  obtain ⟨sp, s2, h2, h⟩ := then_ok h
  obtain ⟨fs, s3, h3, h⟩ := then_ok h
  obtain ⟨ms, s4, h4, h⟩ := then_ok h
  cases h
  have a1 := (list_len h3).1
  obtain ⟨a2, a3⟩ := list_len h4
  refine ⟨by dsimp only; omega, by dsimp only; omega, fun j hj => ?_⟩
  obtain ⟨s0, s1, hm⟩ := a3 _ (List.getElem_mem hj)
  exact meth_small hm
theorem dec_small {f : ByteArray} {c : Cl} (h : dec f = .ok c) : Small c := by
  have h0 : ¬ 2048 < f.size := by
    intro hb
    simp only [dec, hb, if_true] at h
    cases h
  rw [dec_whole h0] at h
  cases hw : whole f ⟨0, 0, []⟩ with
  | error er => rw [hw] at h; cases h
  | ok q =>
    obtain ⟨c', st⟩ := q
    rw [hw] at h
    cases h
    unfold whole at hw
    obtain ⟨u1, s1, h1, hw⟩ := then_ok hw
    obtain ⟨u2, s2, h2, hw⟩ := then_ok hw
    obtain ⟨u3, s3, h3, hw⟩ := then_ok hw
    obtain ⟨c2, s4, h4, hw⟩ := then_ok hw
    obtain ⟨u5, s5, h5, hw⟩ := then_ok hw
    cases hw
    exact cls_small h4
theorem zero_small : Small ⟨⟨#[]⟩, ⟨#[]⟩, [], []⟩ := ⟨by simp, by simp, fun j hj => by simp at hj⟩
theorem zero_isCl (base : Nat) (w : World) : isCl base w (.agg #[.string ⟨#[]⟩, .string ⟨#[]⟩, .slice none 0 0, .slice none 0 0]) ⟨⟨#[]⟩, ⟨#[]⟩, [], []⟩ :=
  ⟨none, 0, none, 0, rfl, World.ownsRow_nil _ _ _ _, .nil _ _⟩
end Go.Proofs.YtcpicefhhnbgkaaDoor
