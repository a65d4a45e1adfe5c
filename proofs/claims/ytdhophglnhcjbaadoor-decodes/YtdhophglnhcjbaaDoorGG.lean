/- Contracts of the functions that the law goes through: a part of the proof that the last text tells. -/
import Derived.Test.YtdhophglnhcjbaaDoorGF
import Derived.Deep.Cut
set_option linter.unusedVariables false
set_option linter.unusedSimpArgs false
namespace Go.Proofs.YtdhophglnhcjbaaDoor
open Go.RowKit Cf

theorem w64_87 : wrap64 ((ByteArray.mk #[87, 49])[0].toNat : Int) = 87 := by kernel_rfl
theorem w64_49 : wrap64 ((ByteArray.mk #[87, 49])[1].toNat : Int) = 49 := by kernel_rfl

theorem magic_then (f : ByteArray) (c i : Nat) : magic f c i = fun st => then_ (num f 1 st) fun n st1 => if n = c then .ok ((), st1) else .error (3, i) := by
  funext st
  unfold magic then_
  cases num f 1 st <;> rfl
theorem bnd_magic (f : ByteArray) (c i : Nat) (s : Except Er St) : bnd s (magic f c i) = then_ (bnd s (num f 1)) fun n st1 => if n = c then .ok ((), st1) else .error (3, i) := by
  rw [magic_then, bnd_then]
theorem seen_magic_err {f : ByteArray} {c i : Nat} {s : Except Er St} {er : Er} (h : stateOf (bnd s (num f 1)) = .error er) : Seen s (magic f c i) () (.error er) := by
  have e : bnd s (magic f c i) = .error er := by
    rw [bnd_magic]
    cases hr : bnd s (num f 1) with
    | error er' => rw [hr] at h; cases h; rfl
    | ok q => rw [hr] at h; cases h
  unfold Seen
  rw [e]
  exact ⟨(fun _ _ e => by cases e), rfl⟩
theorem seen_magic_ok {f : ByteArray} {c i n : Nat} {s : Except Er St} {st1 : St} (hn : ∀ a' st, bnd s (num f 1) = .ok (a', st) → a' = n) (h : stateOf (bnd s (num f 1)) = .ok st1) (hc : n = c) : Seen s (magic f c i) () (.ok st1) := by
  have e : bnd s (magic f c i) = .ok ((), st1) := by
    rw [bnd_magic]
    cases hr : bnd s (num f 1) with
    | error er' => rw [hr] at h; cases h
    | ok q =>
      obtain ⟨a, st⟩ := q
      rw [hr] at h
      cases h
      have := hn a st1 hr
      subst this
      simp only [then_, hc, if_true]
  unfold Seen
  rw [e]
  exact ⟨(fun _ _ e => by cases e; rfl), rfl⟩
theorem seen_magic_no {f : ByteArray} {c i n : Nat} {s : Except Er St} {st1 : St} (hn : ∀ a' st, bnd s (num f 1) = .ok (a', st) → a' = n) (h : stateOf (bnd s (num f 1)) = .ok st1) (hc : ¬ n = c) : Seen s (magic f c i) () (.error (3, i)) := by
  have e : bnd s (magic f c i) = .error (3, i) := by
    rw [bnd_magic]
    cases hr : bnd s (num f 1) with
    | error er' => rw [hr] at h; cases h
    | ok q =>
      obtain ⟨a, st⟩ := q
      have := hn a st hr
      subst this
      simp only [then_, hc, if_false]
  unfold Seen
  rw [e]
  exact ⟨(fun _ _ e => by cases e), rfl⟩
theorem EyS.errCell {w : World} {b : Nat} {f : ByteArray} {pv : Value} {s : Except Er St} (h : EyS w b f pv s) : ∃ x : Nat, w.cell? ⟨b, 4, none⟩ = some (.int .i64 x) ∧ ((x = 0 ∧ ∃ st, s = .ok st) ∨ (x ≠ 0 ∧ ∃ er, s = .error er)) := by
  cases s with
  | ok st => exact ⟨0, h.2.cells0.2.2.2.2.1, .inl ⟨rfl, st, rfl⟩⟩
  | error er => exact ⟨er.1, h.err.1, .inr ⟨h.1, er, rfl⟩⟩
theorem seen_error {α : Type} (er : Er) (p : St → R α) (a : α) : Seen (.error er) p a (.error er) := ⟨(fun _ _ e => by cases e), rfl⟩
/-- the eye's block, whatever was seen -/
theorem EyS.any {w : World} {b : Nat} {f : ByteArray} {pv : Value} {s : Except Er St} (h : EyS w b f pv s) : ∃ (a : Nat) (names : List ByteArray) (t : Int) (e p : Nat), Ey w b f pv a names t e p ∧
    (∀ st, s = .ok st → a = st.at_ ∧ names = st.pool ∧ t = st.used - 1 ∧ e = 0) ∧ (∀ er, s = .error er → e = er.1 ∧ p = er.2 ∧ e ≠ 0) := by
  cases s with
  | ok st => exact ⟨_, _, _, _, _, h.2, (fun _ e => by cases e; exact ⟨rfl, rfl, rfl, rfl⟩), (fun _ e => by cases e)⟩
  | error er =>
    obtain ⟨h1, a, names, t, h2⟩ := h
    exact ⟨_, _, _, _, _, h2, (fun _ e => by cases e), (fun _ e => by cases e; exact ⟨rfl, rfl, h1⟩)⟩
/-- the two last looks -/
def endP1 (f : ByteArray) (s : Except Er St) : Except Er St := match s with | .ok st => if st.used < st.pool.length then .error (5, f.size) else .ok st | .error er => .error er
def endP2 (f : ByteArray) (s : Except Er St) : Except Er St := match s with | .ok st => if st.at_ < f.size then .error (6, st.at_) else .ok st | .error er => .error er
theorem seen_end (f : ByteArray) (s : Except Er St) : Seen s (endR f) () (endP2 f (endP1 f s)) := by
  cases s with
  | error er => exact seen_error _ _ _
  | ok st =>
    unfold Seen
    simp only [bnd, endR, endP1]
    by_cases h1 : st.used < st.pool.length
    · simp only [h1, if_true, endP2]
      exact ⟨(fun _ _ e => by cases e), rfl⟩
    · simp only [h1, if_false, endP2]
      by_cases h2 : st.at_ < f.size
      · simp only [h2, if_true]
        exact ⟨(fun _ _ e => by cases e), rfl⟩
      · simp only [h2, if_false]
        exact ⟨(fun _ _ _ => trivial), rfl⟩
/-- the number behind a mark leaves the pool as it is -/
theorem num_pool {f : ByteArray} {k : Nat} {s : Except Er St} {st1 : St} (hs : ∀ st, s = .ok st → st.pool = []) (h : stateOf (bnd s (num f k)) = .ok st1) : st1.pool = [] := by
  cases s with
  | error er => cases h
  | ok st =>
    cases hr : num f k st with
    | error er => rw [show bnd (Except.ok st) (num f k) = .error er from hr] at h; cases h
    | ok q =>
      obtain ⟨n, st2⟩ := q
      rw [show bnd (Except.ok st) (num f k) = .ok (n, st2) from hr] at h
      cases h
      rw [(num_lt hr).1]
      exact hs st rfl
theorem pool_seen {w w' : World} {b : Nat} {f : ByteArray} {st : St} {e : Ending} (h : EPool w b f (list f 1 (pushName f) st) e w') : e = .returned (.tuple #[]) ∧ w.grownBy w' (some b) ∧ ∃ pv xs s3, EyS w' b f pv s3 ∧ Seen (.ok st) (list f 1 (pushName f)) xs s3 := by
  obtain ⟨h1, h2, pv, h3⟩ := h
  cases hr : list f 1 (pushName f) st with
  | error er =>
    rw [hr] at h3
    refine ⟨h1, h2, pv, [], _, h3, ?_⟩
    unfold Seen
    rw [show bnd (Except.ok st) (list f 1 (pushName f)) = .error er from hr]
    exact ⟨(fun _ _ e => by cases e), rfl⟩
  | ok q =>
    obtain ⟨xs, st3⟩ := q
    rw [hr] at h3
    refine ⟨h1, h2, pv, xs, _, h3, ?_⟩
    unfold Seen
    rw [show bnd (Except.ok st) (list f 1 (pushName f)) = .ok (xs, st3) from hr]
    exact ⟨(fun _ _ e => by cases e; rfl), rfl⟩

/-- the frame ahead of the class and behind it -/
def deFr0 (f : ByteArray) (R E : Nat) (t : Nat → Value) : Act := ⟨#[.string f, t 1, .pointer (some ⟨R, 0, none⟩), .int .i64 0, .int .i64 0, .pointer (some ⟨E, 0, none⟩), t 6, t 7, t 8, t 9, t 10, t 11, t 12, t 13, t 14, t 15, t 16, t 17, t 18, t 19, t 20, t 21, t 22, t 23, t 24, t 25, t 26, t 27, t 28, t 29, t 30, t 31, t 32, t 33, t 34, t 35, t 36, t 37, t 38, t 39, t 40, t 41, t 42, t 43, t 44, t 45, t 46, t 47, t 48, t 49, t 50, t 51, t 52, t 53, t 54, t 55, t 56, t 57, t 58, t 59, t 60, t 61, t 62, t 63, t 64, t 65, t 66, t 67, t 68, t 69, t 70, t 71, t 72, t 73, t 74, t 75, t 76, t 77, t 78, t 79, t 80, t 81, t 82, t 83, t 84, t 85, t 86, t 87, t 88, t 89, t 90, t 91, t 92, t 93, t 94, t 95, t 96, t 97, t 98, t 99, t 100, t 101, t 102, t 103, t 104, t 105, t 106, t 107, t 108, t 109, t 110, t 111, t 112, t 113, t 114, t 115, t 116, t 117, t 118, t 119, t 120, t 121, t 122, t 123, t 124, t 125, t 126, t 127, t 128, t 129, t 130, t 131, t 132, t 133, t 134, t 135, t 136, t 137, t 138, t 139, t 140, t 141, t 142, t 143, t 144, t 145], []⟩
def deFr (f : ByteArray) (R E C : Nat) (t : Nat → Value) : Act := ⟨#[.string f, t 1, .pointer (some ⟨R, 0, none⟩), .int .i64 0, .int .i64 0, .pointer (some ⟨E, 0, none⟩), t 6, t 7, .pointer (some ⟨C, 0, none⟩), t 9, t 10, t 11, t 12, t 13, t 14, t 15, t 16, t 17, t 18, t 19, t 20, t 21, t 22, t 23, t 24, t 25, t 26, t 27, t 28, t 29, t 30, t 31, t 32, t 33, t 34, t 35, t 36, t 37, t 38, t 39, t 40, t 41, t 42, t 43, t 44, t 45, t 46, t 47, t 48, t 49, t 50, t 51, t 52, t 53, t 54, t 55, t 56, t 57, t 58, t 59, t 60, t 61, t 62, t 63, t 64, t 65, t 66, t 67, t 68, t 69, t 70, t 71, t 72, t 73, t 74, t 75, t 76, t 77, t 78, t 79, t 80, t 81, t 82, t 83, t 84, t 85, t 86, t 87, t 88, t 89, t 90, t 91, t 92, t 93, t 94, t 95, t 96, t 97, t 98, t 99, t 100, t 101, t 102, t 103, t 104, t 105, t 106, t 107, t 108, t 109, t 110, t 111, t 112, t 113, t 114, t 115, t 116, t 117, t 118, t 119, t 120, t 121, t 122, t 123, t 124, t 125, t 126, t 127, t 128, t 129, t 130, t 131, t 132, t 133, t 134, t 135, t 136, t 137, t 138, t 139, t 140, t 141, t 142, t 143, t 144, t 145], []⟩
def DeJ0 (f : ByteArray) (R E : Nat) (Q : World → Prop) (a : Act) (w : World) : Prop := Q w ∧ ∃ t : Nat → Value, a = deFr0 f R E t
theorem DeJ0.of {f : ByteArray} {R E : Nat} {Q : World → Prop} {w : World} (a : Act) (h : a = deFr0 f R E (fun k => a.tmps.getD k undef)) (hR : Q w) : DeJ0 f R E Q a w := ⟨hR, _, h⟩
def DeJ (f : ByteArray) (R E C : Nat) (Q : World → Prop) (a : Act) (w : World) : Prop := Q w ∧ ∃ t : Nat → Value, a = deFr f R E C t
theorem DeJ.of {f : ByteArray} {R E C : Nat} {Q : World → Prop} {w : World} (a : Act) (h : a = deFr f R E C (fun k => a.tmps.getD k undef)) (hR : Q w) : DeJ f R E C Q a w := ⟨hR, _, h⟩

/-- the class in the making, as it lies -/
structure DS (w : World) (R E C : Nat) (f : ByteArray) (pv : Value) (c : Array Value) (s : Except Er St) (wr : World) : Prop where
  eye : EyS wr E f pv s
  me : Blk wr C c 25
  out : Blk wr R #[.string ⟨#[]⟩, .string ⟨#[]⟩, .slice none 0 0, .slice none 0 0] 25
  grown : w.grownBy wr none
/-- and with its two lists -/
structure DL (w : World) (R E C : Nat) (f : ByteArray) (pv : Value) (c : Array Value) (fs : List Fld) (ms : List Me) (lf lm : Value) (s : Except Er St) (wr : World) : Prop where
  ds : DS w R E C f pv c s wr
  rf : IsRow (C + 1) 43 3 encFld wr lf fs
  rm : IsMes (C + 1) wr lm ms
section
variable {w wr w1 : World} {R E C g : Nat} {f : ByteArray} {pv : Value} {c : Array Value} {fs : List Fld} {ms : List Me} {lf lm : Value} {s s1 : Except Er St}
/-- the eye reads on -/
theorem DS.step (h : DS w R E C f pv c s wr) (hg : wr.grownBy w1 (some E)) (he : EyS w1 E f pv s1) (hE : w.heap.size ≤ E) (hC : E ≠ C) (hR : E ≠ R) : DS w R E C f pv c s1 w1 :=
  ⟨he, h.me.keep hg (by simpa using fun e => hC e.symm), h.out.keep hg (by simpa using fun e => hR e.symm), gb_trans h.grown hg (fun k e => .inl (by cases e; exact hE))⟩
theorem DS.setC (h : DS w R E C f pv c s wr) (hC : w.heap.size ≤ C) (hE : E ≠ C) (hR : R ≠ C) (hp : pv.ownBlock ≠ some C) (j : Nat) (v : Value) : DS w R E C f pv (c.setIfInBounds j v) s (wr.setCell ⟨C, j, none⟩ v) :=
  ⟨h.eye.keep (gb_set _ ⟨C, j, none⟩ _) (by simpa using hE) (.inr hp), h.me.set j v, h.out.keep (gb_set _ ⟨C, j, none⟩ _) (by simpa using hR), gb_newSet h.grown hC j v⟩
theorem DS.fresh (h : DS w R E C f pv c s wr) (hg : wr.grownBy w1 none) : DS w R E C f pv c s w1 :=
  ⟨h.eye.keep0 hg, h.me.keep hg (by simp), h.out.keep hg (by simp), gb_tn h.grown hg⟩
theorem DS.beside (h : DS w R E C f pv c s wr) (hg : wr.grownBy w1 (some g)) (hE : E ≠ g) (hC : C ≠ g) (hR : R ≠ g) (hp : pv.ownBlock ≠ some g) (hw : w.heap.size ≤ g) : DS w R E C f pv c s w1 :=
  ⟨h.eye.keep hg (by simpa using hE) (.inr hp), h.me.keep hg (by simpa using hC), h.out.keep hg (by simpa using hR), gb_trans h.grown hg (fun k e => .inl (by cases e; exact hw))⟩
/-- a list's slice turns -/
theorem DS.turn {e sz n : Nat} {l : Value} {cs : List Value} (h : DS w R E C f pv c s wr) (ho : wr.ownsRow (C + 1) e sz l n cs) (hg : wr.grownBy w1 l.ownBlock) (hE : E < C) (hR : R < C) (hw : w.heap.size ≤ C) (hp : ∀ k, C ≤ k → pv.ownBlock ≠ some k) : DS w R E C f pv c s w1 :=
  ⟨h.eye.keep hg (fun e => own_ne ho (show E < C + 1 by omega) e.symm) (pool_apart hp ho (by omega)), h.me.keep hg (fun e => own_ne ho (show C < C + 1 by omega) e.symm), h.out.keep hg (fun e => own_ne ho (show R < C + 1 by omega) e.symm),
    gb_trans h.grown hg (fun k e => .inl (by have := (own_some ho e).1; omega))⟩
theorem DL.step (h : DL w R E C f pv c fs ms lf lm s wr) (hg : wr.grownBy w1 (some E)) (he : EyS w1 E f pv s1) (hE : w.heap.size ≤ E) (hC : E < C) (hR : E ≠ R) : DL w R E C f pv c fs ms lf lm s1 w1 :=
  ⟨h.ds.step hg he hE (by omega) hR, h.rf.keep hg (fun k e => by cases e; omega), h.rm.keep hg (fun k e => by cases e; omega)⟩
theorem DL.setC (h : DL w R E C f pv c fs ms lf lm s wr) (hC : w.heap.size ≤ C) (hE : E ≠ C) (hR : R ≠ C) (hp : pv.ownBlock ≠ some C) (j : Nat) (v : Value) : DL w R E C f pv (c.setIfInBounds j v) fs ms lf lm s (wr.setCell ⟨C, j, none⟩ v) :=
  ⟨h.ds.setC hC hE hR hp j v, h.rf.keep (gb_set _ ⟨C, j, none⟩ _) (fun k e => by cases e; simp), h.rm.keep (gb_set _ ⟨C, j, none⟩ _) (fun k e => by cases e; simp)⟩
theorem DL.fresh (h : DL w R E C f pv c fs ms lf lm s wr) (hg : wr.grownBy w1 none) : DL w R E C f pv c fs ms lf lm s w1 :=
  ⟨⟨h.ds.eye.keep0 hg, h.ds.me.keep hg (by simp), h.ds.out.keep hg (by simp), gb_tn h.ds.grown hg⟩, h.rf.keep hg (by simp), h.rm.keep hg (by simp)⟩
end
theorem edec_ret (W : World) (t : Array Value) (R : Nat) (x0 x1 x2 x3 : Value) (T : TypeId) (x y : Int) (h2 : t.getD 2 undef = .pointer (some ⟨R, 0, none⟩)) (h3 : t.getD 3 undef = .int .i64 x) (h4 : t.getD 4 undef = .int .i64 y) (h : Blk W R #[x0, x1, x2, x3] T) :
    (results Tryd.f11 t).run Tryd.prog W = .ok (.tuple #[.agg #[x0, x1, x2, x3], .int .i64 x, .int .i64 y]) W := by
  have c0 := h.cell 0 x0 rfl
  have c1 := h.cell 1 x1 rfl
  have c2 := h.cell 2 x2 rfl
  have c3 := h.cell 3 x3 rfl
  rw [Array.getD_eq_getD_getElem?] at h2 h3 h4
  simp [results, Tryd.results11, go_sem, h2, h3, h4, c0, c1, c2, c3]
end Go.Proofs.YtdhophglnhcjbaaDoor

namespace Go.Proofs.YtdhophglnhcjbaaDoor
open Go.RowKit Cf

set_option maxRecDepth 100000 in
set_option maxHeartbeats 2000000 in
theorem edecode_any (w : World) (f : ByteArray) (_hf : f.size ≤ maxLen) :
    Calls Tryd.prog 11 #[.string f] w (DecEnds w (dec f)) := by
  go_enter Tryd.func11, Tryd.ntmps11
  by_cases hb : 2048 < f.size
  · have hd : dec f = .error (1, 0) := by simp only [dec, hb, if_true]
    have hB0 := Blk.new w #[.string ⟨#[]⟩, .string ⟨#[]⟩, .slice none 0 0, .slice none 0 0] 25
    have z0 := hB0.frozen 0
    have z1 := hB0.frozen 1
    have z2 := hB0.frozen 2
    have z3 := hB0.frozen 3
    have c0 := hB0.cell 0 _ rfl
    have c1 := hB0.cell 1 _ rfl
    have c2 := hB0.cell 2 _ rfl
    have c3 := hB0.cell 3 _ rfl
    go_wp2_with fail
    rw [hd]
    refine bodyPost_ret (v := .tuple #[.agg #[.string ⟨#[]⟩, .string ⟨#[]⟩, .slice none 0 0, .slice none 0 0], .int .i64 1, .int .i64 0]) (edec_ret _ _ w.heap.size _ _ _ _ _ _ _ rfl rfl rfl hB0) rfl ?_
    exact ⟨gb_alloc w _ none, _, (1, 0), rfl, rfl, rfl⟩
  · have H2048 : Hid (¬ 2048 < f.size) := hb
    have hfs : f.size ≤ 2048 := by omega
    have hO := (Blk.new w #[.string ⟨#[]⟩, .string ⟨#[]⟩, .slice none 0 0, .slice none 0 0] 25).keep (gb_alloc _ (.cells #[.string f, .int .i64 0, .slice none 0 0, .int .i64 (-1), .int .i64 0, .int .i64 0] 68) none) (by simp)
    have hB1 := Blk.new (w.alloc (.cells #[.string ⟨#[]⟩, .string ⟨#[]⟩, .slice none 0 0, .slice none 0 0] 25)) #[.string f, .int .i64 0, .slice none 0 0, .int .i64 (-1), .int .i64 0, .int .i64 0] 68
    simp only [size_alloc] at hB1
    obtain ⟨wa, hwa⟩ : ∃ wa, wa = (w.alloc (.cells #[.string ⟨#[]⟩, .string ⟨#[]⟩, .slice none 0 0, .slice none 0 0] 25)).alloc (.cells #[.string f, .int .i64 0, .slice none 0 0, .int .i64 (-1), .int .i64 0, .int .i64 0] 68) := ⟨_, rfl⟩
    have HG0 : Hid (w.grownBy wa none) := by rw [hwa]; exact gb_tr (gb_alloc _ _ _) (gb_alloc _ _ _)
    rw [← hwa] at hO hB1
    have HO : Hid (Blk wa w.heap.size #[.string ⟨#[]⟩, .string ⟨#[]⟩, .slice none 0 0, .slice none 0 0] 25) := hO
    have HE : Hid (EyS wa (w.heap.size + 1) f (.slice none 0 0) (.ok ⟨0, 0, []⟩)) := ⟨⟨hfs, Nat.zero_le _, Nat.zero_le _, Nat.zero_le _⟩, hB1, World.ownsRow_nil _ _ _ _, hfs, Nat.zero_le _, Nat.zero_le _, by simp, by simp⟩
    clear hO hB1
    go_wp2_with fail
    rw [← hwa]
    clear hwa
    obtain ⟨E, hE⟩ : ∃ E, E = w.heap.size + 1 := ⟨_, rfl⟩
    rw [← hE] at HE ⊢
    have hER : E ≠ w.heap.size := by omega
    have hEw : w.heap.size ≤ E := by omega
    clear hE
    refine wp_join (J := DeJ0 f w.heap.size E (fun wr => ∃ s1 s2 : Except Er St, Seen (.ok ⟨0, 0, []⟩) (magic f 87 0) () s1 ∧ Seen s1 (magic f 49 1) () s2 ∧ (∀ st, s2 = .ok st → st.pool = []) ∧
      EyS wr E f (.slice none 0 0) s2 ∧ Blk wr w.heap.size #[.string ⟨#[]⟩, .string ⟨#[]⟩, .slice none 0 0, .slice none 0 0] 25 ∧ w.grownBy wr none)) ?_ ?_
    · rintro a wr ⟨⟨s1, s2, q1, q2, hp, he, ho, hg⟩, t, rfl⟩
      clear HE HO HG0
      have Q1 : Hid (Seen (.ok ⟨0, 0, []⟩) (magic f 87 0) () s1) := q1
      have Q2 : Hid (Seen s1 (magic f 49 1) () s2) := q2
      have HP : Hid (∀ st, s2 = .ok st → st.pool = []) := hp
      have HE : Hid (EyS wr E f (.slice none 0 0) s2) := he
      have HO : Hid (Blk wr w.heap.size #[.string ⟨#[]⟩, .string ⟨#[]⟩, .slice none 0 0, .slice none 0 0] 25) := ho
      have HG : Hid (w.grownBy wr none) := hg
      obtain ⟨x, c4, hx⟩ := he.errCell
      clear he ho hg hp q1 q2
      dsimp only [deFr0]
      go_upto_if 46 with (fail)
      go_cut [] from 42 (fun wx => ∃ (xs : List Unit) (s3 : Except Er St) (pv : Value), Seen s2 (list f 1 (pushName f)) xs s3 ∧ EyS wx E f pv s3 ∧ Blk wx w.heap.size #[.string ⟨#[]⟩, .string ⟨#[]⟩, .slice none 0 0, .slice none 0 0] 25 ∧ w.grownBy wx none)
      case first =>
        rcases hx with ⟨rfl, st, rfl⟩ | ⟨hne, er, rfl⟩
        · go_wp2_with (go_at_call 22; refine (epool_any wr E f st HE (HP.out st rfl)).mono ?_)
          intro e w3 hep
          obtain ⟨rfl, hg3, pv, xs, s3, he3, sn⟩ := pool_seen hep
          dsimp only
          go_wp2_with fail
          go_meet
          case rel => exact ⟨xs, s3, pv, sn, he3, HO.out.keep hg3 (by simp; omega), gb_trans HG.out hg3 (fun k e => .inl (by cases e; exact hEw))⟩
        · have hne' : ¬ (x : Int) = 0 := by omega
          go_wp2_with fail
          go_meet
          case rel => exact ⟨[], .error er, _, seen_error _ _ _, HE.out, HO.out, HG.out⟩
      case rest =>
        obtain ⟨xs, s3, pv, q3, he, ho, hg⟩ := hcut
        clear hx c4 HE HO HG HP
        have Q3 : Hid (Seen s2 (list f 1 (pushName f)) xs s3) := q3
        have HE : Hid (EyS wc E f pv s3) := he
        have HO : Hid (Blk wc w.heap.size #[.string ⟨#[]⟩, .string ⟨#[]⟩, .slice none 0 0, .slice none 0 0] 25) := ho
        have HG : Hid (w.grownBy wc none) := hg
        clear q3 he ho hg
        go_wp2_with (first
          | (go_at_call 20
             have HC2a : Hid (DS w w.heap.size E w1.heap.size f pv #[.string nm, .string sp, .slice none 0 0, .slice none 0 0] s5 (w2.setCell ⟨w1.heap.size, 1, none⟩ (.string sp))) := HC2.out.setC hwC (by omega) (by omega) hpC 1 _
             refine EyEnds.bind (enumber_any _ E f pv s5 1 HC2a.out.eye (by omega)) ?_
             rintro n1 v w3 H3 rfl hs3 hg3
             obtain ⟨s6, hs6e⟩ : ∃ s6, s6 = stateOf (bnd s5 (num f 1)) := ⟨_, rfl⟩
             rw [← hs6e] at hs3
             have HC3 : Hid (DS w w.heap.size E w1.heap.size f pv #[.string nm, .string sp, .slice none 0 0, .slice none 0 0] s6 w3) := HC2a.out.step hg3 hs3.out hEw (by omega) hER
             have M3 : Hid (MidE f 1 (field f) s5 n1 0 [] s6) := by rw [hs6e]; exact MidE.start H3.out
             clear hs6e hs3 hg3 H3 HC2a HC2 z1 d1
             try dsimp only)
          | (go_at_call 23
             refine EyEnds.bind (ename_any _ E f pv s4 HC1.out.eye) ?_
             rintro sp v w2 H2 rfl hs2 hg2
             obtain ⟨s5, hs5e⟩ : ∃ s5, s5 = stateOf (bnd s4 (name f)) := ⟨_, rfl⟩
             rw [← hs5e] at hs2
             have Q5 : Hid (Seen s4 (name f) sp s5) := ⟨H2.out, hs5e.symm⟩
             have HC2 : Hid (DS w w.heap.size E w1.heap.size f pv #[.string nm, .string ⟨#[]⟩, .slice none 0 0, .slice none 0 0] s5 w2) := HC1.out.step hg2 hs2.out hEw (by omega) hER
             have z1 := HC2.out.me.frozen 1
             have d1 := HC2.out.me.cell 1 _ rfl
             clear hs5e hs2 hg2 H2 HC1
             try dsimp only)
          | (go_at_call 23
             refine EyEnds.bind (ename_any wc E f pv s3 HE) ?_
             rintro nm v w1 H1 rfl hs1 hg1
             obtain ⟨s4, hs4e⟩ : ∃ s4, s4 = stateOf (bnd s3 (name f)) := ⟨_, rfl⟩
             rw [← hs4e] at hs1
             have Q4 : Hid (Seen s3 (name f) nm s4) := ⟨H1.out, hs4e.symm⟩
             have hEC : E < w1.heap.size := hs1.out.lt
             have hRC : w.heap.size < w1.heap.size := by omega
             have hwC : w.heap.size ≤ w1.heap.size := by omega
             have HPL : Hid (∀ k, w1.heap.size ≤ k → pv.ownBlock ≠ some k) := fun k hk => hs1.out.poolLt hk
             have hpC : pv.ownBlock ≠ some w1.heap.size := HPL.out _ (Nat.le_refl _)
             have HC1 : Hid (DS w w.heap.size E w1.heap.size f pv #[.string nm, .string ⟨#[]⟩, .slice none 0 0, .slice none 0 0] s4 (w1.alloc (.cells #[.string nm, .string ⟨#[]⟩, .slice none 0 0, .slice none 0 0] 25))) :=
               ⟨hs1.out.keep0 (gb_alloc _ _ _), Blk.new _ _ _, (HO.out.keep hg1 (by simp; omega)).keep (gb_alloc _ _ none) (by simp), gb_tn (gb_trans HG.out hg1 (fun k e => .inl (by cases e; exact hEw))) (gb_alloc _ _ _)⟩
             clear hs4e hs1 hg1 H1 HO HG HE
             try dsimp only))
        refine wp_join (J := DeJ f w.heap.size E w1.heap.size (fun wr => ∃ (fs : List Fld) (s7 : Except Er St) (l : Value), Seen s5 (list f 1 (field f)) fs s7 ∧ DS w w.heap.size E w1.heap.size f pv #[.string nm, .string sp, l, .slice none 0 0] s7 wr ∧ IsRow (w1.heap.size + 1) 43 3 encFld wr l fs)) ?_ ?_
        · rintro a wr ⟨⟨fs, s7, lf, q7, hds, hrow⟩, t, rfl⟩
          clear HC3 M3
          obtain ⟨al, kl, rfl⟩ := own_slice hrow
          have Q7 : Hid (Seen s5 (list f 1 (field f)) fs s7) := q7
          have HS : Hid (DS w w.heap.size E w1.heap.size f pv #[.string nm, .string sp, .slice al fs.length kl, .slice none 0 0] s7 wr) := hds
          have HF : Hid (IsRow (w1.heap.size + 1) 43 3 encFld wr (.slice al fs.length kl) fs) := hrow
          clear hds hrow q7
          dsimp only [deFr]
          go_wp2_with (
            go_at_call 20
            refine EyEnds.bind (enumber_any wr E f pv s7 1 HS.out.eye (by omega)) ?_
            rintro n2 v w4 H4 rfl hs4 hg4
            obtain ⟨s8, hs8e⟩ : ∃ s8, s8 = stateOf (bnd s7 (num f 1)) := ⟨_, rfl⟩
            rw [← hs8e] at hs4
            have HS4 : Hid (DL w w.heap.size E w1.heap.size f pv #[.string nm, .string sp, .slice al fs.length kl, .slice none 0 0] fs [] (.slice al fs.length kl) (.slice none 0 0) s8 w4) := ⟨HS.out.step hg4 hs4.out hEw (by omega) hER, HF.out.keep hg4 (fun k e => by cases e; omega), .nil _ _⟩
            have M4 : Hid (MidE f 1 (meth f) s7 n2 0 [] s8) := by rw [hs8e]; exact MidE.start H4.out
            clear hs8e hs4 hg4 H4 HS HF
            try dsimp only)
          refine wp_join (J := DeJ f w.heap.size E w1.heap.size (fun wr => ∃ (ms : List Me) (s9 : Except Er St) (lm : Value), Seen s7 (list f 1 (meth f)) ms s9 ∧ DL w w.heap.size E w1.heap.size f pv #[.string nm, .string sp, .slice al fs.length kl, lm] fs ms (.slice al fs.length kl) (lm) s9 wr)) ?_ ?_
          · rintro a wr ⟨⟨ms, s9, lm, q9, hdl⟩, t, rfl⟩
            clear HS4 M4
            obtain ⟨am, km, rfl⟩ := hdl.rm.slice
            have QC : Hid (Seen s3 (cls f) ⟨nm, sp, fs, ms⟩ s9) := seen_cls Q4.out Q5.out Q7.out q9
            have HS : Hid (DL w w.heap.size E w1.heap.size f pv #[.string nm, .string sp, .slice al fs.length kl, .slice am ms.length km] fs ms (.slice al fs.length kl) (.slice am ms.length km) s9 wr) := hdl
            clear hdl q9
            dsimp only [deFr]
            obtain ⟨a0, names, t0, e0, p0, hEy, hok, her⟩ := HS.out.ds.eye.any
            obtain ⟨-, c1, c2, c3, c4, c5, -, -, -, -, -⟩ := hEy.cells
            obtain ⟨pa, pk, hpv⟩ := own_slice hEy.own
            rw [hpv] at c2
            have HPV : Hid (pv = .slice pa names.length pk) := hpv
            have hlo := hEy.lo
            have hhi := hEy.hi
            have hnl := hEy.len
            have HOK : Hid (∀ st, s9 = .ok st → a0 = st.at_ ∧ names = st.pool ∧ t0 = st.used - 1 ∧ e0 = 0) := hok
            have HER : Hid (∀ er, s9 = .error er → e0 = er.1 ∧ p0 = er.2 ∧ e0 ≠ 0) := her
            clear hEy hok her hpv
            go_wp2_with fail
            go_quiet (fail)
            go_upto_if 113 with (fail)
            go_cut [] from 103 (fun wx => DL w w.heap.size E w1.heap.size f pv #[.string nm, .string sp, .slice al fs.length kl, .slice am ms.length km] fs ms (.slice al fs.length kl) (.slice am ms.length km) (endP1 f s9) wx)
            case first =>
              cases s9 with
              | error er =>
                have HS1 : Hid (DL w w.heap.size E w1.heap.size f pv #[.string nm, .string sp, .slice al fs.length kl, .slice am ms.length km] fs ms (.slice al fs.length kl) (.slice am ms.length km) (.error er) (wr.drewN nq)) := HS.out.fresh (gb_drewN _ _ _)
                go_wp2_with (go_at_call 21; refine (fail_any _ E f pv (.error er) 5 f.size HS1.out.ds.eye (by omega)).mono ?_; rintro e w7 ⟨rfl, hg7, hs7⟩; have HS7 : Hid (DL w w.heap.size E w1.heap.size f pv #[.string nm, .string sp, .slice al fs.length kl, .slice am ms.length km] fs ms (.slice al fs.length kl) (.slice am ms.length km) (.error er) w7) := HS1.out.step hg7 hs7 hEw hEC hER; clear hg7 hs7; try dsimp only)
                · go_meet
                  case rel => exact HS7.out
                · go_meet
                  case rel => exact HS1.out
              | ok st =>
                have HS1 : Hid (DL w w.heap.size E w1.heap.size f pv #[.string nm, .string sp, .slice al fs.length kl, .slice am ms.length km] fs ms (.slice al fs.length kl) (.slice am ms.length km) (.ok st) (wr.drewN nq)) := HS.out.fresh (gb_drewN _ _ _)
                obtain ⟨rfl, rfl, rfl, rfl⟩ := HOK.out st rfl
                by_cases hu : st.used < st.pool.length
                · have HP1 : Hid (endP1 f (.ok st) = .error (5, f.size)) := by unfold Hid; simp only [endP1, hu, if_true]
                  go_wp2_with (go_at_call 21; refine (fail_any _ E f pv (.ok st) 5 f.size HS1.out.ds.eye (by omega)).mono ?_; rintro e w7 ⟨rfl, hg7, hs7⟩; have HS7 : Hid (DL w w.heap.size E w1.heap.size f pv #[.string nm, .string sp, .slice al fs.length kl, .slice am ms.length km] fs ms (.slice al fs.length kl) (.slice am ms.length km) (.error (5, f.size)) w7) := HS1.out.step hg7 hs7 hEw hEC hER; clear hg7 hs7; try dsimp only)
                  go_meet
                  case rel => rw [HP1.out]; exact HS7.out
                · have HP1 : Hid (endP1 f (.ok st) = .ok st) := by unfold Hid; simp only [endP1, hu, if_false]
                  go_wp2_with fail
                  go_meet
                  case rel => rw [HP1.out]; exact HS1.out
            case rest =>
              obtain ⟨s10, hs10⟩ : ∃ s10, s10 = endP1 f s9 := ⟨_, rfl⟩
              have HS10 : Hid (s10 = endP1 f s9) := hs10
              rw [← hs10] at hcut
              clear HS c1 c2 c3 c4 c5 HPV HOK HER hlo hhi hnl hs10
              have HS : Hid (DL w w.heap.size E w1.heap.size f pv #[.string nm, .string sp, .slice al fs.length kl, .slice am ms.length km] fs ms (.slice al fs.length kl) (.slice am ms.length km) s10 wc) := hcut
              clear hcut
              obtain ⟨a1, names1, t1, e1, p1, hEy, hok, her⟩ := HS.out.ds.eye.any
              obtain ⟨-, c1, -, -, c4, c5, -, -, -, -, -⟩ := hEy.cells
              have hat := hEy.at_
              have HOK : Hid (∀ st, s10 = .ok st → a1 = st.at_ ∧ names1 = st.pool ∧ t1 = st.used - 1 ∧ e1 = 0) := hok
              clear hEy hok her
              go_upto_if 124 with (fail)
              go_cut [] from 103 (fun wx => DL w w.heap.size E w1.heap.size f pv #[.string nm, .string sp, .slice al fs.length kl, .slice am ms.length km] fs ms (.slice al fs.length kl) (.slice am ms.length km) (endP2 f s10) wx)
              case first =>
                cases s10 with
                | error er =>
                  go_wp2_with (go_at_call 21; refine (fail_any _ E f pv (.error er) 6 a1 HS.out.ds.eye (by omega)).mono ?_; rintro e w7 ⟨rfl, hg7, hs7⟩; have HS7 : Hid (DL w w.heap.size E w1.heap.size f pv #[.string nm, .string sp, .slice al fs.length kl, .slice am ms.length km] fs ms (.slice al fs.length kl) (.slice am ms.length km) (.error er) w7) := HS.out.step hg7 hs7 hEw hEC hER; clear hg7 hs7; try dsimp only)
                  · go_meet
                    case rel => exact HS7.out
                  · go_meet
                    case rel => exact HS.out
                | ok st =>
                  obtain ⟨rfl, rfl, rfl, rfl⟩ := HOK.out st rfl
                  by_cases hu : st.at_ < f.size
                  · have HP1 : Hid (endP2 f (.ok st) = .error (6, st.at_)) := by unfold Hid; simp only [endP2, hu, if_true]
                    go_wp2_with (go_at_call 21; refine (fail_any _ E f pv (.ok st) 6 st.at_ HS.out.ds.eye (by omega)).mono ?_; rintro e w7 ⟨rfl, hg7, hs7⟩; have HS7 : Hid (DL w w.heap.size E w1.heap.size f pv #[.string nm, .string sp, .slice al fs.length kl, .slice am ms.length km] fs ms (.slice al fs.length kl) (.slice am ms.length km) (.error (6, st.at_)) w7) := HS.out.step hg7 hs7 hEw hEC hER; clear hg7 hs7; try dsimp only)
                    go_meet
                    case rel => rw [HP1.out]; exact HS7.out
                  · have HP1 : Hid (endP2 f (.ok st) = .ok st) := by unfold Hid; simp only [endP2, hu, if_false]
                    go_wp2_with fail
                    go_meet
                    case rel => rw [HP1.out]; exact HS.out
              case rest =>
                have hcut' := hcut
                obtain ⟨s11, hs11⟩ : ∃ s11, s11 = endP2 f s10 := ⟨_, rfl⟩
                rw [← hs11] at hcut'
                have QE : Hid (Seen s9 (endR f) () s11) := by have := seen_end f s9; rw [← HS10.out, ← hs11] at this; exact this
                clear hcut hs11 HS HS10 HOK c1 c4 c5 hat
                have HS : Hid (DL w w.heap.size E w1.heap.size f pv #[.string nm, .string sp, .slice al fs.length kl, .slice am ms.length km] fs ms (.slice al fs.length kl) (.slice am ms.length km) s11 wc) := hcut'
                clear hcut'
                have o0 := HS.out.ds.out.cell 0 _ rfl
                have o1 := HS.out.ds.out.cell 1 _ rfl
                have o2 := HS.out.ds.out.cell 2 _ rfl
                have o3 := HS.out.ds.out.cell 3 _ rfl
                have z0 := HS.out.ds.out.frozen 0
                have z1 := HS.out.ds.out.frozen 1
                have z2 := HS.out.ds.out.frozen 2
                have z3 := HS.out.ds.out.frozen 3
                cases s11 with
                | error er =>
                  have HD : Hid (dec f = .error er) := answer_err H2048.out (seen_whole Q1.out Q2.out Q3.out QC.out QE.out)
                  obtain ⟨a2, names2, t2, e2, p2, hEy, -, her⟩ := HS.out.ds.eye.any
                  obtain ⟨rfl, rfl, hne⟩ := her er rfl
                  obtain ⟨-, -, -, -, c4, c5, -, -, -, -, -⟩ := hEy.cells
                  have hne' : ¬ (er.1 : Int) = 0 := by omega
                  clear hEy her
                  go_wp2_with fail
                  go_region
                  go_wp2_with fail
                  refine bodyPost_ret (v := .tuple #[.agg #[.string ⟨#[]⟩, .string ⟨#[]⟩, .slice none 0 0, .slice none 0 0], .int .i64 er.1, .int .i64 er.2]) (edec_ret _ _ w.heap.size _ _ _ _ _ _ _ rfl rfl rfl (((((HS.out.ds.out.set 0 _).set 1 _).set 2 _).set 3 _).keep (gb_drew _ none) (by simp))) rfl ?_
                  rw [HD.out]
                  exact ⟨gb_tn (gb_trans HS.out.ds.grown (gb_sets4 (g := w.heap.size)) (fun k e => .inl (by cases e; exact Nat.le_refl _))) (gb_drew _ _), _, er, rfl, rfl, rfl⟩
                | ok st =>
                  have HD : Hid (dec f = .ok ⟨nm, sp, fs, ms⟩) := answer_ok H2048.out (seen_whole Q1.out Q2.out Q3.out QC.out QE.out)
                  have c4 : wc.cell? ⟨E, 4, none⟩ = some (.int .i64 0) := HS.out.ds.eye.2.cells0.2.2.2.2.1
                  have d0 := HS.out.ds.me.cell 0 _ rfl
                  have d1 := HS.out.ds.me.cell 1 _ rfl
                  have d2 := HS.out.ds.me.cell 2 _ rfl
                  have d3 := HS.out.ds.me.cell 3 _ rfl
                  go_wp2_with fail
                  refine bodyPost_ret (v := .tuple #[.agg #[.string nm, .string sp, .slice al fs.length kl, .slice am ms.length km], .int .i64 0, .int .i64 0]) (edec_ret _ _ w.heap.size _ _ _ _ _ _ _ rfl rfl rfl ((((HS.out.ds.out.set 0 _).set 1 _).set 2 _).set 3 _)) rfl ?_
                  rw [HD.out]
                  refine ⟨gb_trans HS.out.ds.grown (gb_sets4 (g := w.heap.size)) (fun k e => .inl (by cases e; exact Nat.le_refl _)), _, (0, 0), rfl, ?_, rfl⟩
                  exact ⟨_, _, _, _, rfl, (HS.out.rf.keep (gb_sets4 (g := w.heap.size)) (fun k e => by cases e; omega)).base (by omega), (HS.out.rm.keep (gb_sets4 (g := w.heap.size)) (fun k e => by cases e; omega)).base (by omega)⟩
          · go_loopw [12] (fun i wr => ∃ (k : Nat) (ms : List Me) (s9 : Except Er St) (l : Value), i = .int .i64 k ∧ k ≤ n2 ∧ ms.length = k ∧ MidE f 1 (meth f) s7 n2 k ms s9 ∧ DL w w.heap.size E w1.heap.size f pv #[.string nm, .string sp, .slice al fs.length kl, l] fs ms (.slice al fs.length kl) (l) s9 wr) (fun i _ => n2 - (intOf i).toNat)
            case atStart => exact ⟨0, [], s8, _, rfl, Nat.zero_le _, rfl, M4.out, HS4.out⟩
            case round =>
              clear M4 HS4
              obtain ⟨k, ms, s9, l, rfl, hk, hlen, hmid, hdl⟩ := hrel
              have HM : Hid (MidE f 1 (meth f) s7 n2 k ms s9) := hmid
              have HS : Hid (DL w w.heap.size E w1.heap.size f pv #[.string nm, .string sp, .slice al fs.length kl, l] fs ms (.slice al fs.length kl) (l) s9 wr) := hdl
              have HL : Hid (ms.length = k) := hlen
              clear hmid hdl hlen
              cases s9 with
              | error er =>
                obtain ⟨c4, ne4⟩ := HS.out.ds.eye.err
                go_wp2_with fail
                all_goals exact DeJ.of _ rfl ⟨ms, _, l, HM.out.err, HS.out⟩
              | ok st3 =>
                have c4 : wr.cell? ⟨E, 4, none⟩ = some (.int .i64 0) := HS.out.ds.eye.2.cells0.2.2.2.2.1
                by_cases hlt : k < n2
                · obtain ⟨i, hi, hz0, hz1, hz2⟩ := info_parts info_Me
                  have hn : n2 < 256 := by obtain ⟨st1, h1, -⟩ := HM.out; exact (bnd_num_ok h1).1
                  have hll : ms.length < 65536 := by have := HL.out; omega
                  obtain ⟨css, hcl, hco, hcc⟩ := HS.out.rm
                  have HCO : Hid (wr.ownsRow (w1.heap.size + 1) 48 8 l ms.length css.flatten) := hco
                  have HCC : Hid (∀ (i : Nat) (c : List Value) (m : Me), css[i]? = some c → ms[i]? = some m → MeCells (fun _ => True) (w1.heap.size + 1) wr c m) := hcc
                  have HCL : Hid (css.length = ms.length) := hcl
                  have hCw : w1.heap.size < wr.heap.size := HS.out.ds.me.lt
                  clear hcl hco hcc
                  go_wp2_with (first
                    | (go_at_call 25
                       refine EyEnds.bind (emethod_any wr E f pv (.ok st3) HS.out.ds.eye) ?_
                       rintro x v w8 H8 ⟨c, rfl, hme⟩ hs8 hg8
                       obtain ⟨t1, ht1⟩ : ∃ t1, t1 = stateOf (bnd (.ok st3) (meth f)) := ⟨_, rfl⟩
                       have hs8a : EyS w8 E f pv t1 := by rw [ht1]; exact hs8.out
                       have U1 : Hid (Seen (.ok st3) (meth f) x t1) := ⟨H8.out, ht1.symm⟩
                       have HS8 : Hid (DL w w.heap.size E w1.heap.size f pv #[.string nm, .string sp, .slice al fs.length kl, l] fs ms (.slice al fs.length kl) (l) t1 w8) := HS.out.step hg8 hs8a hEw hEC hER
                       have HME : Hid (MeCells (fun _ => True) wr.heap.size w8 c x) := hme
                       obtain ⟨pv', cv', hv', rfl, r1, r2, r3, -⟩ := hme
                       obtain ⟨a1, k1, rfl⟩ := own_slice r1
                       obtain ⟨a2, k2, rfl⟩ := own_slice r2
                       obtain ⟨a3, k3, rfl⟩ := own_slice r3
                       have HCO8 : Hid (w8.ownsRow (w1.heap.size + 1) 48 8 l ms.length css.flatten) := World.ownsRow.kept HCO.out hg8 (.inr (own_ne HCO.out (by omega)))
                       have HCC8 : Hid (∀ (i : Nat) (c : List Value) (m : Me), css[i]? = some c → ms[i]? = some m → MeCells (fun _ => True) (w1.heap.size + 1) w8 c m) := fun i c m hc hm => (HCC.out i c m hc hm).keep hg8 (fun k e => by cases e; omega)
                       have d1 := HS8.out.ds.me.cell 3 l rfl
                       have z1 := HS8.out.ds.me.frozen 3
                       have hlt3 : w1.heap.size < w8.heap.size := HS8.out.ds.me.lt
                       have NC : Hid (∀ j u, ([.string x.name, .slice a1 x.params.length k1, .int .i64 x.ret.kind, .string x.ret.name, .int .i64 x.stack, .int .i64 x.locals, .slice a2 x.code.length k2, .slice a3 x.handlers.length k3] : List Value)[j]? = some u → ((w8.alloc (.cells #[.string x.name, .slice a1 x.params.length k1, .int .i64 x.ret.kind, .string x.ret.name, .int .i64 x.stack, .int .i64 x.locals, .slice a2 x.code.length k2, .slice a3 x.handlers.length k3] 48)).alloc (.cells #[.string x.name, .slice a1 x.params.length k1, .int .i64 x.ret.kind, .string x.ret.name, .int .i64 x.stack, .int .i64 x.locals, .slice a2 x.code.length k2, .slice a3 x.handlers.length k3] 48)).cell? ((⟨w8.heap.size + 1, 0, none⟩ : Addr).add j) = some u) := by
                         have := new_cells (w8.alloc (.cells #[.string x.name, .slice a1 x.params.length k1, .int .i64 x.ret.kind, .string x.ret.name, .int .i64 x.stack, .int .i64 x.locals, .slice a2 x.code.length k2, .slice a3 x.handlers.length k3] 48)) [.string x.name, .slice a1 x.params.length k1, .int .i64 x.ret.kind, .string x.ret.name, .int .i64 x.stack, .int .i64 x.locals, .slice a2 x.code.length k2, .slice a3 x.handlers.length k3] 48
                         unfold Hid; simpa using this
                       clear hg8 hs8 hs8a ht1 H8 r1 r2 r3
                       try dsimp only)
                    | (at_builtin
                       go_loud (refine wpList_append_own _ rfl _ _ 23 rfl (w1.heap.size + 1) 48 i _ 8 128 Tryd.underlying23 hi hz0 hz1 hz2 rfl (by decide) _ ms.length css.flatten rfl ((World.ownsRow.alloc HCO8.out _).alloc _) ⟨w8.heap.size + 1, 0, none⟩ 1 1 [.string x.name, .slice a1 x.params.length k1, .int .i64 x.ret.kind, .string x.ret.name, .int .i64 x.stack, .int .i64 x.locals, .slice a2 x.code.length k2, .slice a3 x.handlers.length k3] rfl rfl NC.out (by simp [Value.oneCell']) (len_small rfl hll) (by omega) (by simp; omega) ?_)))
                  intro v' w14 hown hgrow _
                  obtain ⟨a5, k5, rfl⟩ := own_slice hown
                  have hgB := gb_tr (gb_alloc w8 (.cells #[.string x.name, .slice a1 x.params.length k1, .int .i64 x.ret.kind, .string x.ret.name, .int .i64 x.stack, .int .i64 x.locals, .slice a2 x.code.length k2, .slice a3 x.handlers.length k3] 48) none) (gb_alloc _ (.cells #[.string x.name, .slice a1 x.params.length k1, .int .i64 x.ret.kind, .string x.ret.name, .int .i64 x.stack, .int .i64 x.locals, .slice a2 x.code.length k2, .slice a3 x.handlers.length k3] 48) none)
                  have hgA := gb_trans (row := l.ownBlock) (gb_none hgB) hgrow (fun k e => .inr e.symm)
                  have HS14 : Hid (DL w w.heap.size E w1.heap.size f pv #[.string nm, .string sp, .slice al fs.length kl, l] fs (ms ++ [x]) (.slice al fs.length kl) (.slice a5 (ms.length + 1) k5) t1 w14) := ⟨HS8.out.ds.turn HCO8.out hgA hEC hRC hwC HPL.out, World.ownsRow.kept HS8.out.rf hgA (own_kinds HS8.out.rf HCO8.out (by decide)),
                    IsMes.push HCL.out (World.ownsRow.kept HCO8.out hgB (by cases l.ownBlock <;> simp)) (fun i c m hc hm => (HCC8.out i c m hc hm).keep hgB (by simp)) ((HME.out.base (by omega)).keep hgB (by simp)) hown hgrow⟩
                  have z1' : w14.frozen? ⟨w1.heap.size, 3, none⟩ = false := HS14.out.ds.me.frozen 3
                  have d1' : w14.cell? ⟨w1.heap.size, 3, none⟩ = some l := HS14.out.ds.me.cell 3 l rfl
                  clear hown hgrow hgA hgB d1 z1 NC HCO HCC HCO8 HCC8 HS8 HME
                  go_wp2_with fail
                  go_roundw
                  case rel =>
                    have hsn : (ms ++ [x]).length = k + 1 := by have := HL.out; simp; omega
                    exact ⟨k + 1, ms ++ [x], t1, .slice a5 (ms.length + 1) k5, by go_num, hlt, hsn, MidE.step HM.out hlt U1.out, HS14.out.setC hwC (by omega) (by omega) hpC 3 (.slice a5 (ms.length + 1) k5)⟩
                  case measure => simp [intOf]; omega
                · go_wp2_with fail
                  have hk' : k = n2 := by omega
                  subst hk'
                  exact DeJ.of _ rfl ⟨ms, _, l, MidE.done HM.out, HS.out⟩
        · go_loopw [10] (fun i wr => ∃ (k : Nat) (fs : List Fld) (s7 : Except Er St) (l : Value), i = .int .i64 k ∧ k ≤ n1 ∧ fs.length = k ∧ MidE f 1 (field f) s5 n1 k fs s7 ∧ DS w w.heap.size E w1.heap.size f pv #[.string nm, .string sp, l, .slice none 0 0] s7 wr ∧ IsRow (w1.heap.size + 1) 43 3 encFld wr l fs) (fun i _ => n1 - (intOf i).toNat)
          case atStart => exact ⟨0, [], s6, _, rfl, Nat.zero_le _, rfl, M3.out, HC3.out, World.ownsRow_nil _ _ _ _⟩
          case round =>
            clear M3 HC3
            obtain ⟨k, fs, s7, l, rfl, hk, hlen, hmid, hds, hrow⟩ := hrel
            have HM : Hid (MidE f 1 (field f) s5 n1 k fs s7) := hmid
            have HS : Hid (DS w w.heap.size E w1.heap.size f pv #[.string nm, .string sp, l, .slice none 0 0] s7 wr) := hds
            have HR : Hid (IsRow (w1.heap.size + 1) 43 3 encFld wr l fs) := hrow
            have HL : Hid (fs.length = k) := hlen
            clear hmid hds hrow hlen
            cases s7 with
            | error er =>
              obtain ⟨c4, ne4⟩ := HS.out.eye.err
              go_wp2_with fail
              all_goals exact DeJ.of _ rfl ⟨fs, _, l, HM.out.err, HS.out, HR.out⟩
            | ok st3 =>
              have c4 : wr.cell? ⟨E, 4, none⟩ = some (.int .i64 0) := HS.out.eye.2.cells0.2.2.2.2.1
              by_cases hlt : k < n1
              · obtain ⟨i, hi, hz0, hz1, hz2⟩ := info_parts info_Fld
                have hn : n1 < 256 := by obtain ⟨st1, h1, -⟩ := HM.out; exact (bnd_num_ok h1).1
                have hll : fs.length < 65536 := by have := HL.out; omega
                go_wp2_with (first
                  | (go_at_call 24
                     refine EyEnds.bind (ekind_any _ E f pv t1 HS9.out.eye) ?_
                     rintro ft v w10 H10 rfl hs10 hg10
                     obtain ⟨t2, ht2⟩ : ∃ t2, t2 = stateOf (bnd t1 (kind f)) := ⟨_, rfl⟩
                     have hs10a : EyS w10 E f pv t2 := by rw [ht2]; exact hs10.out
                     have U2 : Hid (Seen t1 (kind f) ft t2) := ⟨H10.out, ht2.symm⟩
                     have HS10 : Hid (DS w w.heap.size E w1.heap.size f pv #[.string nm, .string sp, l, .slice none 0 0] t2 w10) := HS9.out.step hg10 hs10a hEw (by omega) hER
                     have HR10 : Hid (IsRow (w1.heap.size + 1) 43 3 encFld w10 l fs) := HR9.out.keep hg10 (fun k e => by cases e; omega)
                     have HF10 : Hid (Blk w10 w8.heap.size #[.string fn, .int .i64 0, .string ⟨#[]⟩] 43) := HF9.out.keep hg10 (by simp; omega)
                     have e0 := HF10.out.cell 0 _ rfl
                     have e1 := HF10.out.cell 1 _ rfl
                     have e2 := HF10.out.cell 2 _ rfl
                     have y1 := HF10.out.frozen 1
                     have y2 := HF10.out.frozen 2
                     have d1 := HS10.out.me.cell 2 l rfl
                     have z1 := HS10.out.me.frozen 2
                     have hlt3 : w8.heap.size < w10.heap.size := HF10.out.lt
                     have HSA : Hid (DS w w.heap.size E w1.heap.size f pv #[.string nm, .string sp, l, .slice none 0 0] t2 ((w10.setCell ⟨w8.heap.size, 1, none⟩ (.int .i64 ft.kind)).setCell ⟨w8.heap.size, 2, none⟩ (.string ft.name))) := (HS10.out.beside (g := w8.heap.size) (gb_set _ ⟨w8.heap.size, 1, none⟩ _) (by omega) (by omega) (by omega) hpG (by omega)).beside (g := w8.heap.size) (gb_set _ ⟨w8.heap.size, 2, none⟩ _) (by omega) (by omega) (by omega) hpG (by omega)
                     have HRA : Hid (IsRow (w1.heap.size + 1) 43 3 encFld ((w10.setCell ⟨w8.heap.size, 1, none⟩ (.int .i64 ft.kind)).setCell ⟨w8.heap.size, 2, none⟩ (.string ft.name)) l fs) := World.ownsRow.kept (World.ownsRow.kept HR10.out (gb_set _ ⟨w8.heap.size, 1, none⟩ _) (.inr hlG)) (gb_set _ ⟨w8.heap.size, 2, none⟩ _) (.inr hlG)
                     have NC : Hid (∀ j u, (encFld ⟨fn, ft⟩)[j]? = some u → (((w10.setCell ⟨w8.heap.size, 1, none⟩ (.int .i64 ft.kind)).setCell ⟨w8.heap.size, 2, none⟩ (.string ft.name)).alloc (.cells (encFld ⟨fn, ft⟩).toArray 43)).cell? ((⟨w10.heap.size, 0, none⟩ : Addr).add j) = some u) := by
                       have := new_cells ((w10.setCell ⟨w8.heap.size, 1, none⟩ (.int .i64 ft.kind)).setCell ⟨w8.heap.size, 2, none⟩ (.string ft.name)) (encFld ⟨fn, ft⟩) 43
                       unfold Hid; simpa using this
                     clear hg10 hs10 hs10a ht2 H10 HS9 HR9 HF9
                     try dsimp only)
                  | (go_at_call 23
                     refine EyEnds.bind (ename_any wr E f pv (.ok st3) HS.out.eye) ?_
                     rintro fn v w8 H8 rfl hs8 hg8
                     obtain ⟨t1, ht1⟩ : ∃ t1, t1 = stateOf (bnd (.ok st3) (name f)) := ⟨_, rfl⟩
                     have hs8a : EyS w8 E f pv t1 := by rw [ht1]; exact hs8.out
                     have U1 : Hid (Seen (.ok st3) (name f) fn t1) := ⟨H8.out, ht1.symm⟩
                     have HS8 : Hid (DS w w.heap.size E w1.heap.size f pv #[.string nm, .string sp, l, .slice none 0 0] t1 w8) := HS.out.step hg8 hs8a hEw (by omega) hER
                     have HR8 : Hid (IsRow (w1.heap.size + 1) 43 3 encFld w8 l fs) := HR.out.keep hg8 (fun k e => by cases e; omega)
                     have hCG : w1.heap.size < w8.heap.size := HS8.out.me.lt
                     have hpG : pv.ownBlock ≠ some w8.heap.size := HPL.out _ (by omega)
                     have hlG : l.ownBlock ≠ some w8.heap.size := fun e => by have := (own_some HR8.out e).2; omega
                     have HS9 : Hid (DS w w.heap.size E w1.heap.size f pv #[.string nm, .string sp, l, .slice none 0 0] t1 (w8.alloc (.cells #[.string fn, .int .i64 0, .string ⟨#[]⟩] 43))) := HS8.out.fresh (gb_alloc _ _ _)
                     have HR9 : Hid (IsRow (w1.heap.size + 1) 43 3 encFld (w8.alloc (.cells #[.string fn, .int .i64 0, .string ⟨#[]⟩] 43)) l fs) := HR8.out.keep (gb_alloc _ _ none) (by simp)
                     have HF9 : Hid (Blk (w8.alloc (.cells #[.string fn, .int .i64 0, .string ⟨#[]⟩] 43)) w8.heap.size #[.string fn, .int .i64 0, .string ⟨#[]⟩] 43) := Blk.new _ _ _
                     clear hg8 hs8 hs8a ht1 H8 HS8 HR8
                     try dsimp only)
                  | (at_builtin
                     go_loud (refine wpList_append_own _ rfl _ _ 22 rfl (w1.heap.size + 1) 43 i _ 3 40 Tryd.underlying22 hi hz0 hz1 hz2 rfl (by decide) _ fs.length (fs.flatMap encFld) rfl (World.ownsRow.alloc HRA.out _) ⟨w10.heap.size, 0, none⟩ 1 1 (encFld ⟨fn, ft⟩) rfl rfl NC.out (by simp [encFld, Value.oneCell']) (len_small rfl hll) (by omega) (by simp; omega) ?_)))
                intro v' w14 hown hgrow _
                obtain ⟨a5, k5, rfl⟩ := own_slice hown
                have hgA := gb_tr (gb_alloc ((w10.setCell ⟨w8.heap.size, 1, none⟩ (.int .i64 ft.kind)).setCell ⟨w8.heap.size, 2, none⟩ (.string ft.name)) (.cells (encFld ⟨fn, ft⟩).toArray 43) _) hgrow
                have HO14 : Hid (IsRow (w1.heap.size + 1) 43 3 encFld w14 (.slice a5 (fs.length + 1) k5) (fs ++ [⟨fn, ft⟩])) := by
                  unfold IsRow Hid
                  rw [List.length_append, ← flat_snoc]
                  exact hown
                have HS14 : Hid (DS w w.heap.size E w1.heap.size f pv #[.string nm, .string sp, l, .slice none 0 0] t2 w14) := HSA.out.turn HRA.out hgA hEC hRC hwC HPL.out
                have z1' : w14.frozen? ⟨w1.heap.size, 2, none⟩ = false := HS14.out.me.frozen 2
                have d1' : w14.cell? ⟨w1.heap.size, 2, none⟩ = some l := HS14.out.me.cell 2 l rfl
                clear hown hgrow hgA d1 z1 HSA HRA NC e0 e1 e2 y1 y2 HS10 HR10 HF10
                go_wp2_with fail
                go_roundw
                case rel =>
                  have hsn : (fs ++ [(⟨fn, ft⟩ : Fld)]).length = k + 1 := by have := HL.out; simp; omega
                  exact ⟨k + 1, fs ++ [(⟨fn, ft⟩ : Fld)], t2, .slice a5 (fs.length + 1) k5, by go_num, hlt, hsn, MidE.step HM.out hlt (seen_field U1.out U2.out), HS14.out.setC hwC (by omega) (by omega) hpC 2 (.slice a5 (fs.length + 1) k5), World.ownsRow.kept HO14.out (gb_set w14 ⟨w1.heap.size, 2, none⟩ _) (.inr (own_ne HO14.out (Nat.lt_succ_self _)))⟩
                case measure => simp [intOf]; omega
              · go_wp2_with fail
                have hk' : k = n1 := by omega
                subst hk'
                exact DeJ.of _ rfl ⟨fs, _, l, MidE.done HM.out, HS.out, HR.out⟩
    · go_loopw [6] (fun i wr => ∃ (k : Nat) (s : Except Er St), i = .int .i64 k ∧ k ≤ 2 ∧ EyS wr E f (.slice none 0 0) s ∧ Blk wr w.heap.size #[.string ⟨#[]⟩, .string ⟨#[]⟩, .slice none 0 0, .slice none 0 0] 25 ∧ w.grownBy wr none ∧ (∀ st, s = .ok st → st.pool = []) ∧
        (k = 0 → s = .ok ⟨0, 0, []⟩) ∧ (k = 1 → Seen (.ok ⟨0, 0, []⟩) (magic f 87 0) () s) ∧ (k = 2 → ∃ s1, Seen (.ok ⟨0, 0, []⟩) (magic f 87 0) () s1 ∧ Seen s1 (magic f 49 1) () s)) (fun i _ => 2 - (intOf i).toNat)
      case atStart => exact ⟨0, _, rfl, by omega, HE.out, HO.out, HG0.out, (fun st e => by cases e; rfl), fun _ => rfl, (fun e => by cases e), (fun e => by cases e)⟩
      case round =>
        clear HE HO HG0
        obtain ⟨k, s, rfl, hk, he, ho, hg, hp, h0, h1, h2⟩ := hrel
        have HE : Hid (EyS wr E f (.slice none 0 0) s) := he
        have HO : Hid (Blk wr w.heap.size #[.string ⟨#[]⟩, .string ⟨#[]⟩, .slice none 0 0, .slice none 0 0] 25) := ho
        have HG : Hid (w.grownBy wr none) := hg
        have HP : Hid (∀ st, s = .ok st → st.pool = []) := hp
        clear he ho hg hp
        by_cases hk2 : k = 2
        · subst hk2
          have H2 : Hid _ := h2 rfl
          clear h0 h1 h2
          go_wp2_with fail
          obtain ⟨s1, g1, g2⟩ := H2.out
          exact DeJ0.of _ rfl ⟨s1, s, g1, g2, HP.out, HE.out, HO.out, HG.out⟩
        · by_cases hk0 : k = 0
          · subst hk0
            have H0 : Hid (s = .ok ⟨0, 0, []⟩) := h0 rfl
            clear h0 h1 h2
            go_wp2_with (go_at_call 20; refine EyEnds.bind (enumber_any wr E f _ s 1 HE (by omega)) ?_)
            rintro n v w3 H3 rfl hs3 hg3
            have HO3 : Hid (Blk w3 w.heap.size #[.string ⟨#[]⟩, .string ⟨#[]⟩, .slice none 0 0, .slice none 0 0] 25) := HO.out.keep hg3 (by simp; omega)
            have HG3 : Hid (w.grownBy w3 none) := gb_trans HG.out hg3 (fun k e => .inl (by cases e; exact hEw))
            clear hg3
            try dsimp only
            obtain ⟨s3, hs3e⟩ : ∃ s3, s3 = stateOf (bnd s (num f 1)) := ⟨_, rfl⟩
            rw [← hs3e] at hs3
            cases s3 with
            | error er =>
              obtain ⟨c4, ne4⟩ := hs3.out.err
              go_wp2_with fail
              exact ⟨⟨1, .error er, rfl, by omega, hs3.out, HO3.out, HG3.out, (fun st e => by cases e), (fun e => by cases e), (fun _ => by rw [← H0.out]; exact seen_magic_err hs3e.symm), (fun e => by cases e)⟩, by simp [intOf]⟩
            | ok st3 =>
              have c4 : w3.cell? ⟨E, 4, none⟩ = some (.int .i64 0) := hs3.out.2.cells0.2.2.2.2.1
              have HS3 : Hid (stateOf (bnd s (num f 1)) = .ok st3) := hs3e.symm
              clear hs3e
              go_wp2_with (go_at_call 21; refine (fail_any w3 E f _ (.ok st3) 3 0 hs3 (by omega)).mono ?_; rintro e w4 ⟨rfl, hg4, hs4⟩; try dsimp only)
              · rename_i hq
                have hn : ¬ n = 87 := by intro e; subst e; rw [w64_87] at hq; revert hq; decide
                exact ⟨⟨1, .error (3, 0), rfl, by omega, hs4, HO3.out.keep hg4 (by simp; omega), gb_trans HG3.out hg4 (fun k e => .inl (by cases e; exact hEw)), (fun st e => by cases e), (fun e => by cases e), (fun _ => by rw [← H0.out]; exact seen_magic_no H3.out HS3.out hn), (fun e => by cases e)⟩, by simp [intOf]⟩
              · rename_i hq
                have hn : n = 87 := by
                  rw [w64_87] at hq
                  have : (n : Int) = 87 := by simpa using hq
                  omega
                exact ⟨⟨1, .ok st3, rfl, by omega, hs3.out, HO3.out, HG3.out, (fun st e => by cases e; exact num_pool HP.out HS3.out), (fun e => by cases e), (fun _ => by rw [← H0.out]; exact seen_magic_ok H3.out HS3.out hn), (fun e => by cases e)⟩, by simp [intOf]⟩
          · have hk1 : k = 1 := by omega
            subst hk1
            have H1 : Hid (Seen (.ok ⟨0, 0, []⟩) (magic f 87 0) () s) := h1 rfl
            clear h0 h1 h2
            go_wp2_with (go_at_call 20; refine EyEnds.bind (enumber_any wr E f _ s 1 HE (by omega)) ?_)
            rintro n v w3 H3 rfl hs3 hg3
            have HO3 : Hid (Blk w3 w.heap.size #[.string ⟨#[]⟩, .string ⟨#[]⟩, .slice none 0 0, .slice none 0 0] 25) := HO.out.keep hg3 (by simp; omega)
            have HG3 : Hid (w.grownBy w3 none) := gb_trans HG.out hg3 (fun k e => .inl (by cases e; exact hEw))
            clear hg3
            try dsimp only
            obtain ⟨s3, hs3e⟩ : ∃ s3, s3 = stateOf (bnd s (num f 1)) := ⟨_, rfl⟩
            rw [← hs3e] at hs3
            cases s3 with
            | error er =>
              obtain ⟨c4, ne4⟩ := hs3.out.err
              go_wp2_with fail
              exact ⟨⟨2, .error er, rfl, by omega, hs3.out, HO3.out, HG3.out, (fun st e => by cases e), (fun e => by cases e), (fun e => by cases e), (fun _ => ⟨s, H1.out, seen_magic_err hs3e.symm⟩)⟩, by simp [intOf]⟩
            | ok st3 =>
              have c4 : w3.cell? ⟨E, 4, none⟩ = some (.int .i64 0) := hs3.out.2.cells0.2.2.2.2.1
              have HS3 : Hid (stateOf (bnd s (num f 1)) = .ok st3) := hs3e.symm
              clear hs3e
              go_wp2_with (go_at_call 21; refine (fail_any w3 E f _ (.ok st3) 3 1 hs3 (by omega)).mono ?_; rintro e w4 ⟨rfl, hg4, hs4⟩; try dsimp only)
              · rename_i hq
                have hn : ¬ n = 49 := by intro e; subst e; rw [w64_49] at hq; revert hq; decide
                exact ⟨⟨2, .error (3, 1), rfl, by omega, hs4, HO3.out.keep hg4 (by simp; omega), gb_trans HG3.out hg4 (fun k e => .inl (by cases e; exact hEw)), (fun st e => by cases e), (fun e => by cases e), (fun e => by cases e), (fun _ => ⟨s, H1.out, seen_magic_no H3.out HS3.out hn⟩)⟩, by simp [intOf]⟩
              · rename_i hq
                have hn : n = 49 := by
                  rw [w64_49] at hq
                  have : (n : Int) = 49 := by simpa using hq
                  omega
                exact ⟨⟨2, .ok st3, rfl, by omega, hs3.out, HO3.out, HG3.out, (fun st e => by cases e; exact num_pool HP.out HS3.out), (fun e => by cases e), (fun e => by cases e), (fun _ => ⟨s, H1.out, seen_magic_ok H3.out HS3.out hn⟩)⟩, by simp [intOf]⟩
end Go.Proofs.YtdhophglnhcjbaaDoor

namespace Go.Proofs.YtdhophglnhcjbaaDoor
open Go.RowKit Cf

/-- what both readers answer -/
def clOf (r : Except Er Cl) : Cl := match r with | .ok k => k | .error _ => ⟨⟨#[]⟩, ⟨#[]⟩, [], []⟩
def erOf (r : Except Er Cl) : Er := match r with | .ok _ => (0, 0) | .error er => er
theorem DecEnds.told {w w' : World} {f : ByteArray} {e : Ending} (h : DecEnds w (dec f) e w') : w.grownBy w' none ∧ ∃ v, e = .returned (.tuple #[v, .int .i64 (erOf (dec f)).1, .int .i64 (erOf (dec f)).2]) ∧ isCl w.heap.size w' v (clOf (dec f)) := by
  obtain ⟨hg, v, c, he, hm⟩ := h
  refine ⟨hg, v, ?_⟩
  cases hd : dec f with
  | ok k =>
    rw [hd] at hm
    obtain ⟨h1, rfl⟩ := hm
    exact ⟨he, h1⟩
  | error er =>
    rw [hd] at hm
    obtain ⟨rfl, rfl⟩ := hm
    exact ⟨he, zero_isCl _ _⟩
theorem small_told (f : ByteArray) : Small (clOf (dec f)) := by
  cases hd : dec f with
  | ok k => exact dec_small hd
  | error er => exact zero_small

theorem num_any (w : World) (x : Nat) : Calls Tryd.prog 9 #[.int .i64 x] w fun e w' => e = .returned (.int .i64 x) ∧ w = w' := by
  go_enter Tryd.func9, Tryd.ntmps9
  go_wp2_with fail
  go_ret
  exact ⟨rfl, rfl⟩

theorem DecEnds.told2 {w w' : World} {f : ByteArray} {e : Ending} {C : Cl} {K : Er} (h : DecEnds w (dec f) e w') (hC : Hid (C = clOf (dec f))) (hK : Hid (K = erOf (dec f))) :
    Hid (w.grownBy w' none) ∧ ∃ a1 k1 a2 k2, e = .returned (.tuple #[.agg #[.string C.name, .string C.super, .slice a1 C.fields.length k1, .slice a2 C.methods.length k2], .int .i64 K.1, .int .i64 K.2]) ∧
      Hid (isCl w.heap.size w' (.agg #[.string C.name, .string C.super, .slice a1 C.fields.length k1, .slice a2 C.methods.length k2]) C) := by
  obtain ⟨hg, v, he, hc⟩ := h.told
  rw [← hC.out] at hc
  rw [← hK.out] at he
  have hcc := hc
  obtain ⟨a1, k1, a2, k2, rfl, -, -⟩ := hc
  exact ⟨hg, a1, k1, a2, k2, he, hcc⟩

set_option maxRecDepth 100000 in
set_option maxHeartbeats 1000000 in
theorem decodes_any (w : World) (f : ByteArray) (hf : f.size ≤ maxLen) (hS : Hid (Shp w)) :
    Calls Tryd.prog 4 #[.string f] w fun e w' => e = .returned (.bool true) ∧ w.grownBy w' none := by
  obtain ⟨C, hC⟩ : ∃ C, C = clOf (dec f) := ⟨_, rfl⟩
  obtain ⟨K, hK⟩ : ∃ K, K = erOf (dec f) := ⟨_, rfl⟩
  have HC : Hid (C = clOf (dec f)) := hC
  have HK : Hid (K = erOf (dec f)) := hK
  have HSM : Hid (Small C) := by rw [hC]; exact small_told f
  clear hC hK
  obtain ⟨K1, K2⟩ := K
  go_enter Tryd.func4, Tryd.ntmps4
  go_wp2_with (first
    | (go_at_call 9
       refine (num_any _ _).mono ?_
       rintro e w4 ⟨rfl, rfl⟩
       try dsimp only)
    | (go_at_call 12
       refine (same_any _ w.heap.size (w1.heap.size + 1) _ _ C HI1 HI2 HSM).mono ?_
       rintro e w3 ⟨rfl, hg3⟩
       have HG3 : Hid (w.grownBy w3 none) := gb_tr HG2.out hg3
       clear hg3 HI1 HI2 HG2
       try dsimp only)
    | (go_at_call 11
       refine (edecode_any _ f hf).mono ?_
       intro e w2 he
       obtain ⟨hg2, a3, k3, a4, k4, rfl, hc2⟩ := he.told2 HC HK
       have HD1 : Hid (Blk w2 w1.heap.size #[.string C.name, .string C.super, .slice a1 C.fields.length k1, .slice a2 C.methods.length k2] 25) := (Blk.new w1 _ _).keep hg2.out (by simp)
       have hlt : w1.heap.size < w2.heap.size := HD1.out.lt
       have hne : w2.heap.size ≠ w1.heap.size := by omega
       have c0 := HD1.out.cell 0 _ rfl
       have c1 := HD1.out.cell 1 _ rfl
       have c2 := HD1.out.cell 2 _ rfl
       have c3 := HD1.out.cell 3 _ rfl
       have HG2 : Hid (w.grownBy (w2.alloc (.cells #[.string C.name, .string C.super, .slice a3 C.fields.length k3, .slice a4 C.methods.length k4] 25)) none) := gb_tr (gb_tr (gb_tr HG1.out (gb_alloc _ _ _)) hg2.out) (gb_alloc _ _ _)
       have HI1 : Hid (isCl w.heap.size (w2.alloc (.cells #[.string C.name, .string C.super, .slice a3 C.fields.length k3, .slice a4 C.methods.length k4] 25)) (.agg #[.string C.name, .string C.super, .slice a1 C.fields.length k1, .slice a2 C.methods.length k2]) C) := ((HI.out.keep (gb_alloc w1 _ none) (by simp)).keep hg2.out (by simp)).keep (gb_alloc _ _ none) (by simp)
       have HI2 : Hid (isCl (w1.heap.size + 1) (w2.alloc (.cells #[.string C.name, .string C.super, .slice a3 C.fields.length k3, .slice a4 C.methods.length k4] 25)) (.agg #[.string C.name, .string C.super, .slice a3 C.fields.length k3, .slice a4 C.methods.length k4]) C) := (hc2.out.base (by simp)).keep (gb_alloc _ _ none) (by simp)
       clear he hg2 hc2 HI HG1
       try dsimp only)
    | (go_at_call 10
       refine (decode_any _ f hf hS).mono ?_
       intro e w1 he
       obtain ⟨hg1, a1, k1, a2, k2, rfl, hc1⟩ := he.told2 HC HK
       have HI : Hid (isCl w.heap.size w1 _ _) := hc1
       have HG1 : Hid (w.grownBy w1 none) := hg1
       clear he hg1 hc1
       try dsimp only))
  go_ret
  exact ⟨rfl, HG3.out⟩
end Go.Proofs.YtdhophglnhcjbaaDoor
