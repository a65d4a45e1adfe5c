import Derived.Test.YtcpicefhhnbgkaaDoorE14
namespace Go.Proofs.YtcpicefhhnbgkaaDoor
open Go.RowKit Cf

theorem w64_87 : wrap64 ((ByteArray.mk #[87, 49])[0].toNat : Int) = 87 := by kernel_rfl
theorem w64_49 : wrap64 ((ByteArray.mk #[87, 49])[1].toNat : Int) = 49 := by kernel_rfl

theorem magic_then (f : ByteArray) (c i : Nat) : magic f c i = fun st => then_ (num f 1 st) fun n st1 => if n = c then .ok ((), st1) else .error (3, i) := by
  funext st
  unfold magic then_
  cases num f 1 st <;> rfl
theorem bnd_magic (f : ByteArray) (c i : Nat) (s : Except Er St) : bnd s (magic f c i) = then_ (bnd s (num f 1)) fun n st1 => if n = c then .ok ((), st1) else .error (3, i) := by
  rw [magic_then, bnd_then]
theorem seen_magic_err {f : ByteArray} {c i : Nat} {s : Except Er St} {er : Er} (h : stateOf (bnd s (num f 1)) = .error er) : Seen s (magic f c i) () (.error er) := by
  have e : bnd s (magic f c i) = .error er := by
    rw [bnd_magic]
    cases hr : bnd s (num f 1) with
    | error er' => rw [hr] at h; cases h; rfl
    | ok q => rw [hr] at h; cases h
  unfold Seen
  rw [e]
  exact ⟨(fun _ _ e => by cases e), rfl⟩
theorem seen_magic_ok {f : ByteArray} {c i n : Nat} {s : Except Er St} {st1 : St} (hn : ∀ a' st, bnd s (num f 1) = .ok (a', st) → a' = n) (h : stateOf (bnd s (num f 1)) = .ok st1) (hc : n = c) : Seen s (magic f c i) () (.ok st1) := by
  have e : bnd s (magic f c i) = .ok ((), st1) := by
    rw [bnd_magic]
    cases hr : bnd s (num f 1) with
    | error er' => rw [hr] at h; cases h
    | ok q =>
      obtain ⟨a, st⟩ := q
      rw [hr] at h
      cases h
      have := hn a st1 hr
      subst this
      simp only [then_, hc, if_true]
  unfold Seen
  rw [e]
  exact ⟨(fun _ _ e => by cases e; rfl), rfl⟩
theorem seen_magic_no {f : ByteArray} {c i n : Nat} {s : Except Er St} {st1 : St} (hn : ∀ a' st, bnd s (num f 1) = .ok (a', st) → a' = n) (h : stateOf (bnd s (num f 1)) = .ok st1) (hc : ¬ n = c) : Seen s (magic f c i) () (.error (3, i)) := by
  have e : bnd s (magic f c i) = .error (3, i) := by
    rw [bnd_magic]
    cases hr : bnd s (num f 1) with
    | error er' => rw [hr] at h; cases h
    | ok q =>
      obtain ⟨a, st⟩ := q
      have := hn a st hr
      subst this
      simp only [then_, hc, if_false]
  unfold Seen
  rw [e]
  exact ⟨(fun _ _ e => by cases e), rfl⟩
theorem EyS.errCell {w : World} {b : Nat} {f : ByteArray} {pv : Value} {s : Except Er St} (h : EyS w b f pv s) : ∃ x : Nat, w.cell? ⟨b, 4, none⟩ = some (.int .i64 x) ∧ ((x = 0 ∧ ∃ st, s = .ok st) ∨ (x ≠ 0 ∧ ∃ er, s = .error er)) := by
  cases s with
  | ok st => exact ⟨0, h.2.cells0.2.2.2.2.1, .inl ⟨rfl, st, rfl⟩⟩
  | error er => exact ⟨er.1, h.err.1, .inr ⟨h.1, er, rfl⟩⟩
theorem seen_error {α : Type} (er : Er) (p : St → R α) (a : α) : Seen (.error er) p a (.error er) := ⟨(fun _ _ e => by cases e), rfl⟩
/-- the eye's block, whatever was seen -/
theorem EyS.any {w : World} {b : Nat} {f : ByteArray} {pv : Value} {s : Except Er St} (h : EyS w b f pv s) : ∃ (a : Nat) (names : List ByteArray) (t : Int) (e p : Nat), Ey w b f pv a names t e p ∧
    (∀ st, s = .ok st → a = st.at_ ∧ names = st.pool ∧ t = st.used - 1 ∧ e = 0) ∧ (∀ er, s = .error er → e = er.1 ∧ p = er.2 ∧ e ≠ 0) := by
  cases s with
  | ok st => exact ⟨_, _, _, _, _, h.2, (fun _ e => by cases e; exact ⟨rfl, rfl, rfl, rfl⟩), (fun _ e => by cases e)⟩
  | error er =>
    obtain ⟨h1, a, names, t, h2⟩ := h
    exact ⟨_, _, _, _, _, h2, (fun _ e => by cases e), (fun _ e => by cases e; exact ⟨rfl, rfl, h1⟩)⟩
/-- the two last looks -/
def endP1 (f : ByteArray) (s : Except Er St) : Except Er St := match s with | .ok st => if st.used < st.pool.length then .error (5, f.size) else .ok st | .error er => .error er
def endP2 (f : ByteArray) (s : Except Er St) : Except Er St := match s with | .ok st => if st.at_ < f.size then .error (6, st.at_) else .ok st | .error er => .error er
theorem seen_end (f : ByteArray) (s : Except Er St) : Seen s (endR f) () (endP2 f (endP1 f s)) := by
  cases s with
  | error er => exact seen_error _ _ _
  | ok st =>
    unfold Seen
    simp only [bnd, endR, endP1]
    by_cases h1 : st.used < st.pool.length
    · simp only [h1, if_true, endP2]
      exact ⟨(fun _ _ e => by cases e), rfl⟩
    · simp only [h1, if_false, endP2]
      by_cases h2 : st.at_ < f.size
      · simp only [h2, if_true]
        exact ⟨(fun _ _ e => by cases e), rfl⟩
      · simp only [h2, if_false]
        exact ⟨(fun _ _ _ => trivial), rfl⟩
/-- the number behind a mark leaves the pool as it is -/
theorem num_pool {f : ByteArray} {k : Nat} {s : Except Er St} {st1 : St} (hs : ∀ st, s = .ok st → st.pool = []) (h : stateOf (bnd s (num f k)) = .ok st1) : st1.pool = [] := by
  cases s with
  | error er => cases h
  | ok st =>
    cases hr : num f k st with
    | error er => rw [show bnd (Except.ok st) (num f k) = .error er from hr] at h; cases h
    | ok q =>
      obtain ⟨n, st2⟩ := q
      rw [show bnd (Except.ok st) (num f k) = .ok (n, st2) from hr] at h
      cases h
      rw [(num_lt hr).1]
      exact hs st rfl
theorem pool_seen {w w' : World} {b : Nat} {f : ByteArray} {st : St} {e : Ending} (h : EPool w b f (list f 1 (pushName f) st) e w') : e = .returned (.tuple #[]) ∧ w.grownBy w' (some b) ∧ ∃ pv xs s3, EyS w' b f pv s3 ∧ Seen (.ok st) (list f 1 (pushName f)) xs s3 := by
  obtain ⟨h1, h2, pv, h3⟩ := h
  cases hr : list f 1 (pushName f) st with
  | error er =>
    rw [hr] at h3
    refine ⟨h1, h2, pv, [], _, h3, ?_⟩
    unfold Seen
    rw [show bnd (Except.ok st) (list f 1 (pushName f)) = .error er from hr]
    exact ⟨(fun _ _ e => by cases e), rfl⟩
  | ok q =>
    obtain ⟨xs, st3⟩ := q
    rw [hr] at h3
    refine ⟨h1, h2, pv, xs, _, h3, ?_⟩
    unfold Seen
    rw [show bnd (Except.ok st) (list f 1 (pushName f)) = .ok (xs, st3) from hr]
    exact ⟨(fun _ _ e => by cases e; rfl), rfl⟩

/-- the frame ahead of the class and behind it -/
def deFr0 (f : ByteArray) (R E : Nat) (t : Nat → Value) : Act := ⟨#[.string f, t 1, .pointer (some ⟨R, 0, none⟩), .int .i64 0, .int .i64 0, .pointer (some ⟨E, 0, none⟩), t 6, t 7, t 8, t 9, t 10, t 11, t 12, t 13, t 14, t 15, t 16, t 17, t 18, t 19, t 20, t 21, t 22, t 23, t 24, t 25, t 26, t 27, t 28, t 29, t 30, t 31, t 32, t 33, t 34, t 35, t 36, t 37, t 38, t 39, t 40, t 41, t 42, t 43, t 44, t 45, t 46, t 47, t 48, t 49, t 50, t 51, t 52, t 53, t 54, t 55, t 56, t 57, t 58, t 59, t 60, t 61, t 62, t 63, t 64, t 65, t 66, t 67, t 68, t 69, t 70, t 71, t 72, t 73, t 74, t 75, t 76, t 77, t 78, t 79, t 80, t 81, t 82, t 83, t 84, t 85, t 86, t 87, t 88, t 89, t 90, t 91, t 92, t 93, t 94, t 95, t 96, t 97, t 98, t 99, t 100, t 101, t 102, t 103, t 104, t 105, t 106, t 107, t 108, t 109, t 110, t 111, t 112, t 113, t 114, t 115, t 116, t 117, t 118, t 119, t 120, t 121, t 122, t 123, t 124, t 125, t 126, t 127, t 128, t 129, t 130, t 131, t 132, t 133, t 134, t 135, t 136, t 137, t 138, t 139, t 140, t 141, t 142, t 143, t 144, t 145], []⟩
def deFr (f : ByteArray) (R E C : Nat) (t : Nat → Value) : Act := ⟨#[.string f, t 1, .pointer (some ⟨R, 0, none⟩), .int .i64 0, .int .i64 0, .pointer (some ⟨E, 0, none⟩), t 6, t 7, .pointer (some ⟨C, 0, none⟩), t 9, t 10, t 11, t 12, t 13, t 14, t 15, t 16, t 17, t 18, t 19, t 20, t 21, t 22, t 23, t 24, t 25, t 26, t 27, t 28, t 29, t 30, t 31, t 32, t 33, t 34, t 35, t 36, t 37, t 38, t 39, t 40, t 41, t 42, t 43, t 44, t 45, t 46, t 47, t 48, t 49, t 50, t 51, t 52, t 53, t 54, t 55, t 56, t 57, t 58, t 59, t 60, t 61, t 62, t 63, t 64, t 65, t 66, t 67, t 68, t 69, t 70, t 71, t 72, t 73, t 74, t 75, t 76, t 77, t 78, t 79, t 80, t 81, t 82, t 83, t 84, t 85, t 86, t 87, t 88, t 89, t 90, t 91, t 92, t 93, t 94, t 95, t 96, t 97, t 98, t 99, t 100, t 101, t 102, t 103, t 104, t 105, t 106, t 107, t 108, t 109, t 110, t 111, t 112, t 113, t 114, t 115, t 116, t 117, t 118, t 119, t 120, t 121, t 122, t 123, t 124, t 125, t 126, t 127, t 128, t 129, t 130, t 131, t 132, t 133, t 134, t 135, t 136, t 137, t 138, t 139, t 140, t 141, t 142, t 143, t 144, t 145], []⟩
def DeJ0 (f : ByteArray) (R E : Nat) (Q : World → Prop) (a : Act) (w : World) : Prop := Q w ∧ ∃ t : Nat → Value, a = deFr0 f R E t
theorem DeJ0.of {f : ByteArray} {R E : Nat} {Q : World → Prop} {w : World} (a : Act) (h : a = deFr0 f R E (fun k => a.tmps.getD k undef)) (hR : Q w) : DeJ0 f R E Q a w := ⟨hR, _, h⟩
def DeJ (f : ByteArray) (R E C : Nat) (Q : World → Prop) (a : Act) (w : World) : Prop := Q w ∧ ∃ t : Nat → Value, a = deFr f R E C t
theorem DeJ.of {f : ByteArray} {R E C : Nat} {Q : World → Prop} {w : World} (a : Act) (h : a = deFr f R E C (fun k => a.tmps.getD k undef)) (hR : Q w) : DeJ f R E C Q a w := ⟨hR, _, h⟩

/-- the class in the making, as it lies -/
structure DS (w : World) (R E C : Nat) (f : ByteArray) (pv : Value) (c : Array Value) (s : Except Er St) (wr : World) : Prop where
  eye : EyS wr E f pv s
  me : Blk wr C c 25
  out : Blk wr R #[.string ⟨#[]⟩, .string ⟨#[]⟩, .slice none 0 0, .slice none 0 0] 25
  grown : w.grownBy wr none
/-- and with its two lists -/
structure DL (w : World) (R E C : Nat) (f : ByteArray) (pv : Value) (c : Array Value) (fs : List Fld) (ms : List Me) (lf lm : Value) (s : Except Er St) (wr : World) : Prop where
  ds : DS w R E C f pv c s wr
  rf : IsRow (C + 1) 43 3 encFld wr lf fs
  rm : IsMes (C + 1) wr lm ms
section
variable {w wr w1 : World} {R E C g : Nat} {f : ByteArray} {pv : Value} {c : Array Value} {fs : List Fld} {ms : List Me} {lf lm : Value} {s s1 : Except Er St}
/-- the eye reads on -/
theorem DS.step (h : DS w R E C f pv c s wr) (hg : wr.grownBy w1 (some E)) (he : EyS w1 E f pv s1) (hE : w.heap.size ≤ E) (hC : E ≠ C) (hR : E ≠ R) : DS w R E C f pv c s1 w1 :=
  ⟨he, h.me.keep hg (by simpa using fun e => hC e.symm), h.out.keep hg (by simpa using fun e => hR e.symm), gb_trans h.grown hg (fun k e => .inl (by cases e; exact hE))⟩
theorem DS.setC (h : DS w R E C f pv c s wr) (hC : w.heap.size ≤ C) (hE : E ≠ C) (hR : R ≠ C) (hp : pv.ownBlock ≠ some C) (j : Nat) (v : Value) : DS w R E C f pv (c.setIfInBounds j v) s (wr.setCell ⟨C, j, none⟩ v) :=
  ⟨h.eye.keep (gb_set _ ⟨C, j, none⟩ _) (by simpa using hE) (.inr hp), h.me.set j v, h.out.keep (gb_set _ ⟨C, j, none⟩ _) (by simpa using hR), gb_newSet h.grown hC j v⟩
theorem DS.fresh (h : DS w R E C f pv c s wr) (hg : wr.grownBy w1 none) : DS w R E C f pv c s w1 :=
  ⟨h.eye.keep0 hg, h.me.keep hg (by simp), h.out.keep hg (by simp), gb_tn h.grown hg⟩
theorem DS.beside (h : DS w R E C f pv c s wr) (hg : wr.grownBy w1 (some g)) (hE : E ≠ g) (hC : C ≠ g) (hR : R ≠ g) (hp : pv.ownBlock ≠ some g) (hw : w.heap.size ≤ g) : DS w R E C f pv c s w1 :=
  ⟨h.eye.keep hg (by simpa using hE) (.inr hp), h.me.keep hg (by simpa using hC), h.out.keep hg (by simpa using hR), gb_trans h.grown hg (fun k e => .inl (by cases e; exact hw))⟩
/-- a list's slice turns -/
theorem DS.turn {e sz n : Nat} {l : Value} {cs : List Value} (h : DS w R E C f pv c s wr) (ho : wr.ownsRow (C + 1) e sz l n cs) (hg : wr.grownBy w1 l.ownBlock) (hE : E < C) (hR : R < C) (hw : w.heap.size ≤ C) (hp : ∀ k, C ≤ k → pv.ownBlock ≠ some k) : DS w R E C f pv c s w1 :=
  ⟨h.eye.keep hg (fun e => own_ne ho (show E < C + 1 by omega) e.symm) (pool_apart hp ho (by omega)), h.me.keep hg (fun e => own_ne ho (show C < C + 1 by omega) e.symm), h.out.keep hg (fun e => own_ne ho (show R < C + 1 by omega) e.symm),
    gb_trans h.grown hg (fun k e => .inl (by have := (own_some ho e).1; omega))⟩
theorem DL.step (h : DL w R E C f pv c fs ms lf lm s wr) (hg : wr.grownBy w1 (some E)) (he : EyS w1 E f pv s1) (hE : w.heap.size ≤ E) (hC : E < C) (hR : E ≠ R) : DL w R E C f pv c fs ms lf lm s1 w1 :=
  ⟨h.ds.step hg he hE (by omega) hR, h.rf.keep hg (fun k e => by cases e; omega), h.rm.keep hg (fun k e => by cases e; omega)⟩
theorem DL.setC (h : DL w R E C f pv c fs ms lf lm s wr) (hC : w.heap.size ≤ C) (hE : E ≠ C) (hR : R ≠ C) (hp : pv.ownBlock ≠ some C) (j : Nat) (v : Value) : DL w R E C f pv (c.setIfInBounds j v) fs ms lf lm s (wr.setCell ⟨C, j, none⟩ v) :=
  ⟨h.ds.setC hC hE hR hp j v, h.rf.keep (gb_set _ ⟨C, j, none⟩ _) (fun k e => by cases e; simp), h.rm.keep (gb_set _ ⟨C, j, none⟩ _) (fun k e => by cases e; simp)⟩
theorem DL.fresh (h : DL w R E C f pv c fs ms lf lm s wr) (hg : wr.grownBy w1 none) : DL w R E C f pv c fs ms lf lm s w1 :=
  ⟨⟨h.ds.eye.keep0 hg, h.ds.me.keep hg (by simp), h.ds.out.keep hg (by simp), gb_tn h.ds.grown hg⟩, h.rf.keep hg (by simp), h.rm.keep hg (by simp)⟩
end
theorem edec_ret (W : World) (t : Array Value) (R : Nat) (x0 x1 x2 x3 : Value) (T : TypeId) (x y : Int) (h2 : t.getD 2 undef = .pointer (some ⟨R, 0, none⟩)) (h3 : t.getD 3 undef = .int .i64 x) (h4 : t.getD 4 undef = .int .i64 y) (h : Blk W R #[x0, x1, x2, x3] T) :
    (results Tryd.f11 t).run Tryd.prog W = .ok (.tuple #[.agg #[x0, x1, x2, x3], .int .i64 x, .int .i64 y]) W := by
  have c0 := h.cell 0 x0 rfl
  have c1 := h.cell 1 x1 rfl
  have c2 := h.cell 2 x2 rfl
  have c3 := h.cell 3 x3 rfl
  rw [Array.getD_eq_getD_getElem?] at h2 h3 h4
  simp [results, Tryd.results11, go_sem, h2, h3, h4, c0, c1, c2, c3]
end Go.Proofs.YtcpicefhhnbgkaaDoor
