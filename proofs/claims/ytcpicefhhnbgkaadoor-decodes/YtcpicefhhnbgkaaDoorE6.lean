import Derived.Test.YtcpicefhhnbgkaaDoorE5
namespace Go.Proofs.YtcpicefhhnbgkaaDoor
open Go.RowKit Cf

/-- what was seen from a state on -/
def Seen {α : Type} (s : Except Er St) (p : St → R α) (a : α) (s' : Except Er St) : Prop :=
  (∀ a' st, bnd s p = .ok (a', st) → a' = a) ∧ stateOf (bnd s p) = s'
theorem Seen.then {α β : Type} {s s1 s2 : Except Er St} {p : St → R α} {m : α → St → R β} {a : α} {c : β} (h : Seen s p a s1) (h1 : Seen s1 (m a) c s2) : Seen s (fun st => then_ (p st) m) c s2 := by
  obtain ⟨ha, rfl⟩ := h
  obtain ⟨hc, rfl⟩ := h1
  cases s with
  | error er => exact ⟨(fun _ _ e => by cases e), rfl⟩
  | ok st =>
    unfold Seen
    cases hp : p st with
    | error er =>
      have e1 : bnd (Except.ok st) p = .error er := hp
      rw [e1]
      simp only [bnd, hp, then_]
      exact ⟨(fun _ _ e => by cases e), rfl⟩
    | ok q =>
      obtain ⟨a', st1⟩ := q
      have e1 : bnd (Except.ok st) p = .ok (a', st1) := hp
      rw [e1] at hc ha ⊢
      cases ha a' st1 rfl
      simp only [bnd, hp, then_]
      exact ⟨hc, rfl⟩
theorem Seen.pure {α : Type} (s : Except Er St) (a : α) : Seen s (fun st => .ok (a, st)) a s := by
  cases s with
  | error er => exact ⟨(fun _ _ e => by cases e), rfl⟩
  | ok st => exact ⟨fun _ _ e => by cases e; rfl, rfl⟩
theorem Seen.ends {α : Type} {w : World} {b : Nat} {f : ByteArray} {pv : Value} {s s' : Except Er St} {p : St → R α} {val : World → Value → α → Prop} {v : Value} {w' : World} {a : α}
    (h : Seen s p a s') (hg : w.grownBy w' (some b)) (hv : val w' v a) (hs : EyS w' b f pv s') : EyEnds w b f pv (bnd s p) val (.returned v) w' :=
  ⟨hg, v, a, rfl, hv, h.1, by rw [h.2]; exact hs⟩

/-- in the midst of a list -/
def MidE {α : Type} (f : ByteArray) (c : Nat) (p : St → R α) (s : Except Er St) (n k : Nat) (xs : List α) (s2 : Except Er St) : Prop :=
  match s2 with
  | .ok st2 => ∃ st1, bnd s (num f c) = .ok (n, st1) ∧ Mid p n st1 k xs st2
  | .error er => bnd s (list f c p) = .error er
theorem list_then {α : Type} (f : ByteArray) (c : Nat) (p : St → R α) : list f c p = fun st => then_ (num f c st) (rep p) := by
  funext st
  unfold list then_
  cases num f c st <;> rfl
theorem bnd_list {α : Type} (f : ByteArray) (c : Nat) (p : St → R α) (s : Except Er St) : bnd s (list f c p) = then_ (bnd s (num f c)) (rep p) := by
  rw [list_then, bnd_then]
theorem MidE.start {α : Type} {f : ByteArray} {c : Nat} {p : St → R α} {s : Except Er St} {n : Nat} (h : ∀ a' st, bnd s (num f c) = .ok (a', st) → a' = n) : MidE f c p s n 0 [] (stateOf (bnd s (num f c))) := by
  cases hr : bnd s (num f c) with
  | error er => show bnd s (list f c p) = .error er; rw [bnd_list, hr]; rfl
  | ok q => obtain ⟨a', st1⟩ := q; cases h a' st1 hr; exact ⟨st1, hr, .start _ _ _⟩
theorem MidE.step {α : Type} {f : ByteArray} {c : Nat} {p : St → R α} {s : Except Er St} {n k : Nat} {xs : List α} {st2 : St} {a : α} {s3 : Except Er St} (h : MidE f c p s n k xs (.ok st2)) (hk : k < n) (ha : Seen (.ok st2) p a s3) : MidE f c p s n (k + 1) (xs ++ [a]) s3 := by
  obtain ⟨st1, h1, h2⟩ := h
  obtain ⟨h3, rfl⟩ := ha
  cases hp : p st2 with
  | error er =>
    have e1 : bnd (Except.ok st2) p = .error er := hp
    rw [e1]
    show bnd s (list f c p) = .error er
    rw [bnd_list, h1]
    exact h2.fail hk hp
  | ok q =>
    obtain ⟨a', st3⟩ := q
    have e1 : bnd (Except.ok st2) p = .ok (a', st3) := hp
    cases h3 a' st3 e1
    rw [e1]
    exact ⟨st1, h1, h2.step hk hp⟩
theorem MidE.done {α : Type} {f : ByteArray} {c : Nat} {p : St → R α} {s : Except Er St} {n : Nat} {xs : List α} {st2 : St} (h : MidE f c p s n n xs (.ok st2)) : Seen s (list f c p) xs (.ok st2) := by
  obtain ⟨st1, h1, h2⟩ := h
  have e : bnd s (list f c p) = .ok (xs, st2) := by rw [bnd_list, h1]; exact h2.done
  unfold Seen
  rw [e]
  exact ⟨fun _ _ e => by cases e; rfl, rfl⟩
theorem MidE.err {α : Type} {f : ByteArray} {c : Nat} {p : St → R α} {s : Except Er St} {n k : Nat} {xs : List α} {er : Er} (h : MidE f c p s n k xs (.error er)) : Seen s (list f c p) xs (.error er) := by
  have e : bnd s (list f c p) = .error er := h
  unfold Seen
  rw [e]
  exact ⟨(fun _ _ e => by cases e), rfl⟩
theorem meth_then (f : ByteArray) : meth f = fun st => then_ (name f st) fun n st1 => then_ (list f 1 (kind f) st1) fun ps st2 => then_ (kind f st2) fun rt st3 => then_ (num f 1 st3) fun so st4 => then_ (num f 1 st4) fun lo st5 =>
    then_ (list f 2 (ins f) st5) fun is st6 => then_ (list f 1 (handler f) st6) fun hs st7 => .ok (⟨n, ps, rt, so, lo, is, hs⟩, st7) := by
  funext st
  unfold meth then_
  cases name f st with
  | error er => rfl
  | ok q =>
    obtain ⟨n, st1⟩ := q
    dsimp only
    cases list f 1 (kind f) st1 with
    | error er => rfl
    | ok q =>
      obtain ⟨ps, st2⟩ := q
      dsimp only
      cases kind f st2 with
      | error er => rfl
      | ok q =>
        obtain ⟨rt, st3⟩ := q
        dsimp only
        cases num f 1 st3 with
        | error er => rfl
        | ok q =>
          obtain ⟨so, st4⟩ := q
          dsimp only
          cases num f 1 st4 with
          | error er => rfl
          | ok q =>
            obtain ⟨lo, st5⟩ := q
            dsimp only
            cases list f 2 (ins f) st5 with
            | error er => rfl
            | ok q =>
              obtain ⟨is, st6⟩ := q
              dsimp only
              cases list f 1 (handler f) st6 <;> rfl
theorem handler_then (f : ByteArray) : handler f = fun st => then_ (num f 2 st) fun a st1 => then_ (num f 2 st1) fun b st2 => then_ (num f 2 st2) fun c st3 => then_ (name f st3) fun d st4 => .ok (⟨a, b, c, d⟩, st4) := by
  funext st
  unfold handler then_
  cases num f 2 st with
  | error er => rfl
  | ok q =>
    obtain ⟨n, st1⟩ := q
    dsimp only
    cases num f 2 st1 with
    | error er => rfl
    | ok q =>
      obtain ⟨ps, st2⟩ := q
      dsimp only
      cases num f 2 st2 with
      | error er => rfl
      | ok q =>
        obtain ⟨rt, st3⟩ := q
        dsimp only
        cases name f st3 <;> rfl
/-- the method's frame: what it names, and whatever else -/
def meFr (b G B : Nat) (t : Nat → Value) : Act := ⟨#[.pointer (some ⟨b, 0, none⟩), t 1, .pointer (some ⟨G, 0, none⟩), .pointer (some ⟨B, 0, none⟩), t 4, t 5, t 6, t 7, t 8, t 9, t 10, t 11, t 12, t 13, t 14, t 15, t 16, t 17, t 18, t 19, t 20, t 21, t 22, t 23, t 24, t 25, t 26, t 27, t 28, t 29, t 30, t 31, t 32, t 33, t 34, t 35, t 36, t 37, t 38, t 39, t 40, t 41, t 42, t 43, t 44, t 45, t 46, t 47, t 48, t 49, t 50, t 51, t 52, t 53, t 54, t 55, t 56, t 57, t 58, t 59, t 60, t 61, t 62, t 63, t 64, t 65, t 66, t 67, t 68, t 69, t 70, t 71, t 72, t 73, t 74, t 75, t 76, t 77, t 78, t 79, t 80, t 81, t 82, t 83, t 84, t 85, t 86, t 87, t 88, t 89, t 90, t 91, t 92, t 93, t 94, t 95, t 96, t 97, t 98, t 99, t 100], []⟩
/-- a joining of ways -/
def MeJ (b G B : Nat) (R : World → Prop) (a : Act) (w : World) : Prop := R w ∧ ∃ t : Nat → Value, a = meFr b G B t
theorem MeJ.of {b G B : Nat} {R : World → Prop} {w : World} (a : Act) (h : a = meFr b G B (fun k => a.tmps.getD k undef)) (hR : R w) : MeJ b G B R a w := ⟨hR, _, h⟩
theorem wp_join {P : Program} {c : Code} {a : Act} {w : World} {i : Nat} {J K : Act → World → Prop} {Q : Exit → Act → World → Prop} (hJ : ∀ a w, J a w → K a w)
    (h : c.wp P (Exit.inBlock i (Exit.then J (fun _ _ _ => False))) a w) : c.wp P (Exit.inBlock i (Exit.then K Q)) a w := by
  refine Code.wp_mono ?_ h
  intro e a w he
  have key : ∀ e a w, Exit.then J (fun _ _ _ => False) e a w → Exit.then K Q e a w := by
    intro e a w he
    cases e <;> first | exact hJ _ _ he | exact he.elim
  revert he
  cases e <;> simp only [Exit.inBlock] <;> intro he
  all_goals first
    | exact key _ _ _ he
    | (split at he <;> split <;> first | exact key _ _ _ he | contradiction)

theorem pool_apart {w : World} {base e size n m : Nat} {pv l : Value} {cs : List Value} (hp : ∀ k, m ≤ k → pv.ownBlock ≠ some k) (ho : w.ownsRow base e size l n cs) (hm : m ≤ base) : pv.ownBlock = none ∨ pv.ownBlock ≠ l.ownBlock := by
  cases h : pv.ownBlock with
  | none => exact .inl rfl
  | some g => exact .inr (fun e => hp g (Nat.le_trans hm (own_some ho e.symm).1) h)

/-- the method in the making, as it lies -/
structure MS (w : World) (b G B : Nat) (f : ByteArray) (pv : Value) (c : Array Value) (s : Except Er St) (wr : World) : Prop where
  eye : EyS wr b f pv s
  me : Blk wr B c 48
  out : Blk wr G #[.string ⟨#[]⟩, .slice none 0 0, .int .i64 0, .string ⟨#[]⟩, .int .i64 0, .int .i64 0, .slice none 0 0, .slice none 0 0] 48
  grown : w.grownBy wr (some b)
section
variable {w wr w1 : World} {b G B : Nat} {f : ByteArray} {pv : Value} {c : Array Value} {s s1 : Except Er St}
theorem MS.setB (h : MS w b G B f pv c s wr) (hb : b ≠ B) (hG : G ≠ B) (hp : pv.ownBlock ≠ some B) (hB : w.heap.size ≤ B) (j : Nat) (v : Value) : MS w b G B f pv (c.setIfInBounds j v) s (wr.setCell ⟨B, j, none⟩ v) :=
  ⟨h.eye.keep (gb_set _ ⟨B, j, none⟩ _) (by simpa using hb) (.inr hp), h.me.set j v, h.out.keep (gb_set _ ⟨B, j, none⟩ _) (by simpa using hG), gb_newSet h.grown hB j v⟩
theorem MS.step (h : MS w b G B f pv c s wr) (hg : wr.grownBy w1 (some b)) (hs : EyS w1 b f pv s1) (hb : b ≠ B) (hG : b ≠ G) : MS w b G B f pv c s1 w1 :=
  ⟨hs, h.me.keep hg (by simpa using fun e => hb e.symm), h.out.keep hg (by simpa using fun e => hG e.symm), gb_tr h.grown hg⟩
end
theorem row_keep {α : Type} {enc : α → List Value} {w w1 : World} {base e size b : Nat} {v : Value} {xs : List α} (h : IsRow base e size enc w v xs) (hg : w.grownBy w1 (some b)) (hb : b < base) : IsRow base e size enc w1 v xs :=
  World.ownsRow.kept h hg (.inr (own_ne h hb))

theorem seen_handler {f : ByteArray} {s s1 s2 s3 s4 : Except Er St} {x y z : Nat} {d : ByteArray} (h1 : Seen s (num f 2) x s1) (h2 : Seen s1 (num f 2) y s2) (h3 : Seen s2 (num f 2) z s3) (h4 : Seen s3 (name f) d s4) : Seen s (handler f) ⟨x, y, z, d⟩ s4 := by
  rw [handler_then]
  exact h1.then (h2.then (h3.then (h4.then (Seen.pure _ _))))
theorem seen_meth {f : ByteArray} {s s1 s2 s3 s4 s5 s6 s7 : Except Er St} {n : ByteArray} {ps : List Ty} {rt : Ty} {so lo : Nat} {is : List In} {hs : List Hd} (h1 : Seen s (name f) n s1) (h2 : Seen s1 (list f 1 (kind f)) ps s2) (h3 : Seen s2 (kind f) rt s3)
    (h4 : Seen s3 (num f 1) so s4) (h5 : Seen s4 (num f 1) lo s5) (h6 : Seen s5 (list f 2 (ins f)) is s6) (h7 : Seen s6 (list f 1 (handler f)) hs s7) : Seen s (meth f) ⟨n, ps, rt, so, lo, is, hs⟩ s7 := by
  rw [meth_then]
  exact h1.then (h2.then (h3.then (h4.then (h5.then (h6.then (h7.then (Seen.pure _ _)))))))

/-- the method in the making with its three lists -/
structure ML (w : World) (b G B : Nat) (f : ByteArray) (pv : Value) (c : Array Value) (ps : List Ty) (is : List In) (hs : List Hd) (lp lc lh : Value) (s : Except Er St) (wr : World) : Prop where
  ms : MS w b G B f pv c s wr
  rp : IsRow (B + 1) 41 2 encTy wr lp ps
  rc : IsRow (B + 1) 50 4 encIn wr lc is
  rh : IsRow (B + 1) 52 4 encHd wr lh hs
section
variable {w wr w1 : World} {b G B g : Nat} {f : ByteArray} {pv : Value} {c : Array Value} {ps : List Ty} {is : List In} {hs : List Hd} {lp lc lh : Value} {s s1 : Except Er St}
theorem ML.step (h : ML w b G B f pv c ps is hs lp lc lh s wr) (hg : wr.grownBy w1 (some b)) (he : EyS w1 b f pv s1) (hb : b < B) (hG : b ≠ G) : ML w b G B f pv c ps is hs lp lc lh s1 w1 :=
  ⟨h.ms.step hg he (by omega) hG, row_keep h.rp hg (by omega), row_keep h.rc hg (by omega), row_keep h.rh hg (by omega)⟩
/-- a block beside it was written, or new ones came -/
theorem ML.beside (h : ML w b G B f pv c ps is hs lp lc lh s wr) (hg : wr.grownBy w1 (some g)) (hb : b ≠ g) (hB : B ≠ g) (hG : G ≠ g) (hp : pv.ownBlock ≠ some g) (h1 : lp.ownBlock ≠ some g) (h2 : lc.ownBlock ≠ some g) (h3 : lh.ownBlock ≠ some g) (hw : w.heap.size ≤ g) : ML w b G B f pv c ps is hs lp lc lh s w1 :=
  ⟨⟨h.ms.eye.keep hg (by simpa using hb) (.inr hp), h.ms.me.keep hg (by simpa using hB), h.ms.out.keep hg (by simpa using hG), gb_trans h.ms.grown hg (fun k e => .inl (by cases e; exact hw))⟩,
    World.ownsRow.kept h.rp hg (.inr h1), World.ownsRow.kept h.rc hg (.inr h2), World.ownsRow.kept h.rh hg (.inr h3)⟩
theorem ML.fresh (h : ML w b G B f pv c ps is hs lp lc lh s wr) (hg : wr.grownBy w1 none) : ML w b G B f pv c ps is hs lp lc lh s w1 :=
  ⟨⟨h.ms.eye.keep0 hg, h.ms.me.keep hg (by simp), h.ms.out.keep hg (by simp), gb_tn h.ms.grown hg⟩,
    World.ownsRow.kept h.rp hg (by cases lp.ownBlock <;> simp), World.ownsRow.kept h.rc hg (by cases lc.ownBlock <;> simp), World.ownsRow.kept h.rh hg (by cases lh.ownBlock <;> simp)⟩
theorem ML.lies (h : ML w b G B f pv c ps is hs lp lc lh s wr) (hk : wr.heap.size ≤ g) (hp : ∀ k, B ≤ k → pv.ownBlock ≠ some k) : B < g ∧ pv.ownBlock ≠ some g ∧ lp.ownBlock ≠ some g ∧ lc.ownBlock ≠ some g ∧ lh.ownBlock ≠ some g := by
  have hB := h.ms.me.lt
  refine ⟨by omega, hp g (by omega), fun e => ?_, fun e => ?_, fun e => ?_⟩
  · have := (own_some h.rp e).2; omega
  · have := (own_some h.rc e).2; omega
  · have := (own_some h.rh e).2; omega
/-- the handlers' slice turns -/
theorem ML.turn {hs' : List Hd} {lh' : Value} (h : ML w b G B f pv c ps is hs lp lc lh s wr) (hg : wr.grownBy w1 lh.ownBlock) (ho : IsRow (B + 1) 52 4 encHd w1 lh' hs') (hb : b < B) (hGB : G < B) (hw : w.heap.size ≤ B) (hp : ∀ k, B ≤ k → pv.ownBlock ≠ some k) : ML w b G B f pv c ps is hs' lp lc lh' s w1 :=
  ⟨⟨h.ms.eye.keep hg (fun e => own_ne h.rh (show b < B + 1 by omega) e.symm) (pool_apart hp h.rh (by omega)), h.ms.me.keep hg (fun e => own_ne h.rh (show B < B + 1 by omega) e.symm), h.ms.out.keep hg (fun e => own_ne h.rh (show G < B + 1 by omega) e.symm),
      gb_trans h.ms.grown hg (fun k e => .inl (by have := (own_some h.rh e).1; omega))⟩,
    World.ownsRow.kept h.rp hg (own_kinds h.rp h.rh (by decide)), World.ownsRow.kept h.rc hg (own_kinds h.rc h.rh (by decide)), ho⟩
theorem ML.setB (h : ML w b G B f pv c ps is hs lp lc lh s wr) (hb : b ≠ B) (hG : G ≠ B) (hp : pv.ownBlock ≠ some B) (hB : w.heap.size ≤ B) (j : Nat) (v : Value) : ML w b G B f pv (c.setIfInBounds j v) ps is hs lp lc lh s (wr.setCell ⟨B, j, none⟩ v) :=
  ⟨h.ms.setB hb hG hp hB j v, row_keep h.rp (gb_set _ ⟨B, j, none⟩ _) (Nat.lt_succ_self _), row_keep h.rc (gb_set _ ⟨B, j, none⟩ _) (Nat.lt_succ_self _), row_keep h.rh (gb_set _ ⟨B, j, none⟩ _) (Nat.lt_succ_self _)⟩
end
theorem meth_ret (W : World) (t : Array Value) (G : Nat) (x0 x1 x2 x3 x4 x5 x6 x7 : Value) (T : TypeId) (ht : t.getD 2 undef = .pointer (some ⟨G, 0, none⟩)) (h : Blk W G #[x0, x1, x2, x3, x4, x5, x6, x7] T) : (results Tryd.f25 t).run Tryd.prog W = .ok (.agg #[x0, x1, x2, x3, x4, x5, x6, x7]) W := by
  have h0 := h.cell 0 x0 rfl
  have h1 := h.cell 1 x1 rfl
  have h2 := h.cell 2 x2 rfl
  have h3 := h.cell 3 x3 rfl
  have h4 := h.cell 4 x4 rfl
  have h5 := h.cell 5 x5 rfl
  have h6 := h.cell 6 x6 rfl
  have h7 := h.cell 7 x7 rfl
  rw [Array.getD_eq_getD_getElem?] at ht
  simp [results, Tryd.results25, go_sem, ht, h0, h1, h2, h3, h4, h5, h6, h7]
theorem gb_eight {w w1 : World} {row : Option Nat} (h : w.grownBy w1 row) {g : Nat} (hg : w.heap.size ≤ g) {i0 i1 i2 i3 i4 i5 i6 i7 : Nat} {x0 x1 x2 x3 x4 x5 x6 x7 : Value} :
    w.grownBy ((((((((w1.setCell ⟨g, i0, none⟩ x0).setCell ⟨g, i1, none⟩ x1).setCell ⟨g, i2, none⟩ x2).setCell ⟨g, i3, none⟩ x3).setCell ⟨g, i4, none⟩ x4).setCell ⟨g, i5, none⟩ x5).setCell ⟨g, i6, none⟩ x6).setCell ⟨g, i7, none⟩ x7) row := gb_new4 (gb_new4 h hg) hg
end Go.Proofs.YtcpicefhhnbgkaaDoor
