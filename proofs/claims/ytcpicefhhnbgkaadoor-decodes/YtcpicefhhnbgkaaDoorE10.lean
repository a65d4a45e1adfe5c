import Derived.Test.YtcpicefhhnbgkaaDoorE9
namespace Go.Proofs.YtcpicefhhnbgkaaDoor
open Go.RowKit Cf

/-- the whole reader as one reading -/
def whole (f : ByteArray) : St → R Cl := fun st => then_ (magic f 87 0 st) fun _ st1 => then_ (magic f 49 1 st1) fun _ st2 => then_ (list f 1 (pushName f) st2) fun _ st3 => then_ (cls f st3) fun c st4 => then_ (endR f st4) fun _ st5 => .ok (c, st5)
/-- its answer -/
def answer {α : Type} (r : R α) : Except Er α := match r with | .ok (a, _) => .ok a | .error er => .error er
theorem dec_whole {f : ByteArray} (h0 : ¬ 2048 < f.size) : dec f = answer (whole f ⟨0, 0, []⟩) := by
  simp only [dec, h0, if_false, whole]
  cases magic f 87 0 ⟨0, 0, []⟩ with
  | error er => rfl
  | ok q =>
    obtain ⟨u, st1⟩ := q
    dsimp only [then_]
    cases magic f 49 1 st1 with
    | error er => rfl
    | ok q =>
      obtain ⟨u, st2⟩ := q
      dsimp only
      cases list f 1 (pushName f) st2 with
      | error er => rfl
      | ok q =>
        obtain ⟨xs, st3⟩ := q
        dsimp only
        cases cls f st3 with
        | error er => rfl
        | ok q =>
          obtain ⟨c, st4⟩ := q
          dsimp only [endR]
          by_cases h1 : st4.used < st4.pool.length
          · simp only [h1, if_true, answer]
          · by_cases h2 : st4.at_ < f.size
            · simp only [h1, h2, if_true, if_false, answer]
            · simp only [h1, h2, if_false, answer]
theorem cls_then (f : ByteArray) : cls f = fun st => then_ (name f st) fun n st1 => then_ (name f st1) fun sp st2 => then_ (list f 1 (field f) st2) fun fs st3 => then_ (list f 1 (meth f) st3) fun ms st4 => .ok (⟨n, sp, fs, ms⟩, st4) := by
  funext st
  unfold cls then_
  cases name f st with
  | error er => rfl
  | ok q =>
    obtain ⟨n, st1⟩ := q
    dsimp only
    cases name f st1 with
    | error er => rfl
    | ok q =>
      obtain ⟨sp, st2⟩ := q
      dsimp only
      cases list f 1 (field f) st2 with
      | error er => rfl
      | ok q =>
        obtain ⟨fs, st3⟩ := q
        dsimp only
        cases list f 1 (meth f) st3 <;> rfl
theorem seen_cls {f : ByteArray} {s s1 s2 s3 s4 : Except Er St} {n sp : ByteArray} {fs : List Fld} {ms : List Me} (h1 : Seen s (name f) n s1) (h2 : Seen s1 (name f) sp s2) (h3 : Seen s2 (list f 1 (field f)) fs s3) (h4 : Seen s3 (list f 1 (meth f)) ms s4) : Seen s (cls f) ⟨n, sp, fs, ms⟩ s4 := by
  rw [cls_then]
  exact h1.then (h2.then (h3.then (h4.then (Seen.pure _ _))))
theorem seen_whole {f : ByteArray} {s s1 s2 s3 s4 s5 : Except Er St} {xs : List Unit} {c : Cl} (h1 : Seen s (magic f 87 0) () s1) (h2 : Seen s1 (magic f 49 1) () s2) (h3 : Seen s2 (list f 1 (pushName f)) xs s3) (h4 : Seen s3 (cls f) c s4) (h5 : Seen s4 (endR f) () s5) : Seen s (whole f) c s5 := by
  unfold whole
  exact h1.then (h2.then (h3.then (h4.then (h5.then (Seen.pure _ _)))))
theorem field_then (f : ByteArray) : field f = fun st => then_ (name f st) fun n st1 => then_ (kind f st1) fun t st2 => .ok (⟨n, t⟩, st2) := by
  funext st
  unfold field then_
  cases name f st with
  | error er => rfl
  | ok q =>
    obtain ⟨n, st1⟩ := q
    dsimp only
    cases kind f st1 <;> rfl
theorem seen_field {f : ByteArray} {s s1 s2 : Except Er St} {n : ByteArray} {t : Ty} (h1 : Seen s (name f) n s1) (h2 : Seen s1 (kind f) t s2) : Seen s (field f) ⟨n, t⟩ s2 := by
  rw [field_then]
  exact h1.then (h2.then (Seen.pure _ _))
/-- the answer by what was seen -/
theorem answer_ok {f : ByteArray} (h0 : ¬ 2048 < f.size) {c : Cl} {st5 : St} (h : Seen (.ok ⟨0, 0, []⟩) (whole f) c (.ok st5)) : dec f = .ok c := by
  rw [dec_whole h0]
  have h2 : stateOf (whole f ⟨0, 0, []⟩) = .ok st5 := h.2
  have h1 : ∀ a' st, whole f ⟨0, 0, []⟩ = .ok (a', st) → a' = c := h.1
  cases hr : whole f ⟨0, 0, []⟩ with
  | error er => rw [hr] at h2; cases h2
  | ok q => obtain ⟨a, st⟩ := q; rw [h1 a st hr]; rfl
theorem answer_err {f : ByteArray} (h0 : ¬ 2048 < f.size) {c : Cl} {er : Er} (h : Seen (.ok ⟨0, 0, []⟩) (whole f) c (.error er)) : dec f = .error er := by
  rw [dec_whole h0]
  have h2 : stateOf (whole f ⟨0, 0, []⟩) = .error er := h.2
  cases hr : whole f ⟨0, 0, []⟩ with
  | error er' => rw [hr] at h2; cases h2; rfl
  | ok q => obtain ⟨a, st⟩ := q; rw [hr] at h2; cases h2
end Go.Proofs.YtcpicefhhnbgkaaDoor
