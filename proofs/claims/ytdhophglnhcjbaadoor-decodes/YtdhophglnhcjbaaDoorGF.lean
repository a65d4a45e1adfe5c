/- Contracts of the functions that the law goes through: a part of the proof that the last text tells. -/
import Derived.Test.YtdhophglnhcjbaaDoorGE
set_option linter.unusedVariables false
set_option linter.unusedSimpArgs false
namespace Go.Proofs.YtdhophglnhcjbaaDoor
open Go.RowKit Cf

/-- the whole reader as one reading -/
def whole (f : ByteArray) : St → R Cl := fun st => then_ (magic f 87 0 st) fun _ st1 => then_ (magic f 49 1 st1) fun _ st2 => then_ (list f 1 (pushName f) st2) fun _ st3 => then_ (cls f st3) fun c st4 => then_ (endR f st4) fun _ st5 => .ok (c, st5)
/-- its answer -/
def answer {α : Type} (r : R α) : Except Er α := match r with | .ok (a, _) => .ok a | .error er => .error er
theorem dec_whole {f : ByteArray} (h0 : ¬ 2048 < f.size) : dec f = answer (whole f ⟨0, 0, []⟩) := by
  simp only [dec, h0, if_false, whole]
  cases magic f 87 0 ⟨0, 0, []⟩ with
  | error er => rfl
  | ok q =>
    obtain ⟨u, st1⟩ := q
    dsimp only [then_]
    cases magic f 49 1 st1 with
    | error er => rfl
    | ok q =>
      obtain ⟨u, st2⟩ := q
      dsimp only
      cases list f 1 (pushName f) st2 with
      | error er => rfl
      | ok q =>
        obtain ⟨xs, st3⟩ := q
        dsimp only
        cases cls f st3 with
        | error er => rfl
        | ok q =>
          obtain ⟨c, st4⟩ := q
          dsimp only [endR]
          by_cases h1 : st4.used < st4.pool.length
          · simp only [h1, if_true, answer]
          · by_cases h2 : st4.at_ < f.size
            · simp only [h1, h2, if_true, if_false, answer]
            · simp only [h1, h2, if_false, answer]
theorem cls_then (f : ByteArray) : cls f = fun st => then_ (name f st) fun n st1 => then_ (name f st1) fun sp st2 => then_ (list f 1 (field f) st2) fun fs st3 => then_ (list f 1 (meth f) st3) fun ms st4 => .ok (⟨n, sp, fs, ms⟩, st4) := by
  funext st
  unfold cls then_
  cases name f st with
  | error er => rfl
  | ok q =>
    obtain ⟨n, st1⟩ := q
    dsimp only
    cases name f st1 with
    | error er => rfl
    | ok q =>
      obtain ⟨sp, st2⟩ := q
      dsimp only
      cases list f 1 (field f) st2 with
      | error er => rfl
      | ok q =>
        obtain ⟨fs, st3⟩ := q
        dsimp only
        cases list f 1 (meth f) st3 <;> rfl
theorem seen_cls {f : ByteArray} {s s1 s2 s3 s4 : Except Er St} {n sp : ByteArray} {fs : List Fld} {ms : List Me} (h1 : Seen s (name f) n s1) (h2 : Seen s1 (name f) sp s2) (h3 : Seen s2 (list f 1 (field f)) fs s3) (h4 : Seen s3 (list f 1 (meth f)) ms s4) : Seen s (cls f) ⟨n, sp, fs, ms⟩ s4 := by
  rw [cls_then]
  exact h1.then (h2.then (h3.then (h4.then (Seen.pure _ _))))
theorem seen_whole {f : ByteArray} {s s1 s2 s3 s4 s5 : Except Er St} {xs : List Unit} {c : Cl} (h1 : Seen s (magic f 87 0) () s1) (h2 : Seen s1 (magic f 49 1) () s2) (h3 : Seen s2 (list f 1 (pushName f)) xs s3) (h4 : Seen s3 (cls f) c s4) (h5 : Seen s4 (endR f) () s5) : Seen s (whole f) c s5 := by
  unfold whole
  exact h1.then (h2.then (h3.then (h4.then (h5.then (Seen.pure _ _)))))
theorem field_then (f : ByteArray) : field f = fun st => then_ (name f st) fun n st1 => then_ (kind f st1) fun t st2 => .ok (⟨n, t⟩, st2) := by
  funext st
  unfold field then_
  cases name f st with
  | error er => rfl
  | ok q =>
    obtain ⟨n, st1⟩ := q
    dsimp only
    cases kind f st1 <;> rfl
theorem seen_field {f : ByteArray} {s s1 s2 : Except Er St} {n : ByteArray} {t : Ty} (h1 : Seen s (name f) n s1) (h2 : Seen s1 (kind f) t s2) : Seen s (field f) ⟨n, t⟩ s2 := by
  rw [field_then]
  exact h1.then (h2.then (Seen.pure _ _))
/-- the answer by what was seen -/
theorem answer_ok {f : ByteArray} (h0 : ¬ 2048 < f.size) {c : Cl} {st5 : St} (h : Seen (.ok ⟨0, 0, []⟩) (whole f) c (.ok st5)) : dec f = .ok c := by
  rw [dec_whole h0]
  have h2 : stateOf (whole f ⟨0, 0, []⟩) = .ok st5 := h.2
  have h1 : ∀ a' st, whole f ⟨0, 0, []⟩ = .ok (a', st) → a' = c := h.1
  cases hr : whole f ⟨0, 0, []⟩ with
  | error er => rw [hr] at h2; cases h2
  | ok q => obtain ⟨a, st⟩ := q; rw [h1 a st hr]; rfl
theorem answer_err {f : ByteArray} (h0 : ¬ 2048 < f.size) {c : Cl} {er : Er} (h : Seen (.ok ⟨0, 0, []⟩) (whole f) c (.error er)) : dec f = .error er := by
  rw [dec_whole h0]
  have h2 : stateOf (whole f ⟨0, 0, []⟩) = .error er := h.2
  cases hr : whole f ⟨0, 0, []⟩ with
  | error er' => rw [hr] at h2; cases h2; rfl
  | ok q => obtain ⟨a, st⟩ := q; rw [hr] at h2; cases h2
end Go.Proofs.YtdhophglnhcjbaaDoor

namespace Go.Proofs.YtdhophglnhcjbaaDoor
open Go.RowKit Cf

theorem flat_get {α : Type} (enc : α → List Value) (sz : Nat) (hs : ∀ x, (enc x).length = sz) (xs : List α) (j : Nat) (hj : j < xs.length) (r : Nat) (hr : r < sz) : (xs.flatMap enc)[j * sz + r]? = (enc xs[j])[r]? := by
  induction xs generalizing j with
  | nil => cases hj
  | cons x l ih =>
    rw [List.flatMap_cons]
    cases j with
    | zero =>
      rw [Nat.zero_mul, Nat.zero_add, List.getElem?_append_left (by rw [hs]; exact hr)]
      rfl
    | succ j =>
      rw [List.getElem?_append_right (by rw [hs, Nat.succ_mul]; omega), hs, show (j + 1) * sz + r - sz = j * sz + r by rw [Nat.succ_mul]; omega]
      exact ih j (by simpa using hj)
/-- where a row's things lie -/
theorem row_cells {α : Type} {base e sz : Nat} {enc : α → List Value} (hs : ∀ x, (enc x).length = sz) {w : World} {v : Value} {xs : List α} (h : IsRow base e sz enc w v xs) :
    (v = .slice none 0 0 ∧ xs = []) ∨ ∃ g cap, v = .slice (some ⟨g, 0, none⟩) xs.length cap ∧ ∀ j (hj : j < xs.length) r u, (enc xs[j])[r]? = some u → w.cell? ⟨g, j * sz + r, none⟩ = some u := by
  rcases h.2 with ⟨rfl, hn⟩ | ⟨g, cap, cur, rfl, hg, hh, _, _, _, ht⟩
  · exact .inl ⟨rfl, List.eq_nil_of_length_eq_zero hn⟩
  · refine .inr ⟨g, cap, rfl, fun j hj r u hu => ?_⟩
    have hr : r < sz := by
      have := (List.getElem?_eq_some_iff.1 hu).1
      rw [hs] at this
      exact this
    have := h.cells (g := g) rfl (j * sz + r) u (by rw [flat_get enc sz hs xs j hj r hr]; exact hu)
    unfold Addr.add at this
    split at this
    · rename_i h0; rw [h0]; exact this
    · simpa using this

set_option maxHeartbeats 400000 in
theorem sameTypes_any (w : World) (b1 b2 : Nat) (v1 v2 : Value) (xs : List Ty) (h1 : Hid (IsRow b1 41 2 encTy w v1 xs)) (h2 : Hid (IsRow b2 41 2 encTy w v2 xs)) (hl : xs.length ≤ 65536) :
    Calls Tryd.prog 35 #[v1, v2] w fun e w' => e = .returned (.bool true) ∧ w.grownBy w' none := by
  by_cases hx : xs = []
  · subst hx
    obtain ⟨a1, k1, rfl⟩ := own_slice h1.out
    obtain ⟨a2, k2, rfl⟩ := own_slice h2.out
    go_enter Tryd.func35, Tryd.ntmps35
    go_wp2_with fail
    go_loop [5] (fun i => i = .int .i64 0) (fun _ => 0)
    case atStart => rfl
    case round =>
      subst hrel
      go_wp2_with fail
      go_ret
      exact ⟨rfl, gb_refl _ _⟩
  · rcases row_cells (enc := encTy) (fun _ => rfl) h1.out with ⟨-, hn⟩ | ⟨g1, k1, rfl, hc1⟩
    · exact absurd hn hx
    rcases row_cells (enc := encTy) (fun _ => rfl) h2.out with ⟨-, hn⟩ | ⟨g2, k2, rfl, hc2⟩
    · exact absurd hn hx
    · have HC1 : Hid (∀ j (hj : j < xs.length) r u, (encTy xs[j])[r]? = some u → w.cell? ⟨g1, j * 2 + r, none⟩ = some u) := hc1
      have HC2 : Hid (∀ j (hj : j < xs.length) r u, (encTy xs[j])[r]? = some u → w.cell? ⟨g2, j * 2 + r, none⟩ = some u) := hc2
      clear hc1 hc2
      go_enter Tryd.func35, Tryd.ntmps35
      go_wp2_with fail
      go_loopw [5] (fun i wr => ∃ j : Nat, j ≤ xs.length ∧ i = .int .i64 j ∧ Hid (∀ a, wr.cell? a = w.cell? a) ∧ Hid (w.grownBy wr none)) (fun i _ => xs.length - (intOf i).toNat)
      case atStart => exact ⟨0, Nat.zero_le _, rfl, fun _ => rfl, gb_refl _ _⟩
      case round =>
        obtain ⟨j, hj, rfl, HQ, HGW⟩ := hrel
        by_cases hlt : j < xs.length
        · have d0 : wr.cell? ⟨g1, j * 2, none⟩ = some (.int .i64 xs[j].kind) := (HQ.out _).trans (HC1.out j hlt 0 _ rfl)
          have d1 : wr.cell? ⟨g1, j * 2 + 1, none⟩ = some (.string xs[j].name) := (HQ.out _).trans (HC1.out j hlt 1 _ rfl)
          have e0 : wr.cell? ⟨g2, j * 2, none⟩ = some (.int .i64 xs[j].kind) := (HQ.out _).trans (HC2.out j hlt 0 _ rfl)
          have e1 : wr.cell? ⟨g2, j * 2 + 1, none⟩ = some (.string xs[j].name) := (HQ.out _).trans (HC2.out j hlt 1 _ rfl)
          go_wp2_with fail
          go_quiet (fail)
          go_wp2_with fail
          go_roundw
          case rel => exact ⟨j + 1, hlt, by go_num, fun a => HQ.out a, gb_tn HGW.out (gb_drewN _ _ _)⟩
          case measure => simp [intOf]; omega
        · go_wp2_with fail
          go_ret
          exact ⟨rfl, HGW.out⟩
end Go.Proofs.YtdhophglnhcjbaaDoor

namespace Go.Proofs.YtdhophglnhcjbaaDoor
open Go.RowKit Cf

/-- where a row's things lie, place by place -/
theorem row_at {α : Type} {base e sz : Nat} {enc : α → List Value} (hs : ∀ x, (enc x).length = sz) {w : World} {a : Option Addr} {n k : Nat} {xs : List α} (h : IsRow base e sz enc w (.slice a n k) xs) (j : Nat) (hj : j < xs.length) :
    ∃ g, a = some ⟨g, 0, none⟩ ∧ ∀ r u, (enc xs[j])[r]? = some u → w.cell? ⟨g, j * sz + r, none⟩ = some u := by
  rcases row_cells hs h with ⟨-, hn⟩ | ⟨g, cap, h1, hc⟩
  · rw [hn] at hj; cases hj
  · injection h1 with h2 h3 h4
    exact ⟨g, h2, fun r u => hc j hj r u⟩

set_option maxRecDepth 100000 in
set_option maxHeartbeats 1000000 in
theorem sameMethods_any (w : World) (b1 b2 : Nat) (v1 v2 : Value) (m : Me) (h1 : Hid (isMe b1 w v1 m)) (h2 : Hid (isMe b2 w v2 m)) (hp : m.params.length ≤ 65536) (hc : m.code.length ≤ 65536) (hh : m.handlers.length ≤ 65536) :
    Calls Tryd.prog 26 #[v1, v2] w fun e w' => e = .returned (.bool true) ∧ w.grownBy w' none := by
  obtain ⟨c1, e1, p1, q1, r1, rfl, hp1, hq1, hr1, -⟩ := h1.out
  obtain ⟨c2, e2, p2, q2, r2, rfl, hp2, hq2, hr2, -⟩ := h2.out
  subst e1 e2
  have HP1 : Hid (IsRow b1 41 2 encTy w p1 m.params) := hp1
  have HP2 : Hid (IsRow b2 41 2 encTy w p2 m.params) := hp2
  have HQ1 : Hid (IsRow b1 50 4 encIn w q1 m.code) := hq1
  have HQ2 : Hid (IsRow b2 50 4 encIn w q2 m.code) := hq2
  have HR1 : Hid (IsRow b1 52 4 encHd w r1 m.handlers) := hr1
  have HR2 : Hid (IsRow b2 52 4 encHd w r2 m.handlers) := hr2
  obtain ⟨p1a, p1k, rfl⟩ := own_slice hp1
  obtain ⟨p2a, p2k, rfl⟩ := own_slice hp2
  obtain ⟨q1a, q1k, rfl⟩ := own_slice hq1
  obtain ⟨q2a, q2k, rfl⟩ := own_slice hq2
  obtain ⟨r1a, r1k, rfl⟩ := own_slice hr1
  obtain ⟨r2a, r2k, rfl⟩ := own_slice hr2
  clear hp1 hp2 hq1 hq2 hr1 hr2 h1 h2
  go_enter Tryd.func26, Tryd.ntmps26
  have hgA : Hid (w.grownBy ((w.alloc (.cells #[.string m.name, .slice p1a m.params.length p1k, .int .i64 m.ret.kind, .string m.ret.name, .int .i64 m.stack, .int .i64 m.locals, .slice q1a m.code.length q1k, .slice r1a m.handlers.length r1k] 48)).alloc (.cells #[.string m.name, .slice p2a m.params.length p2k, .int .i64 m.ret.kind, .string m.ret.name, .int .i64 m.stack, .int .i64 m.locals, .slice q2a m.code.length q2k, .slice r2a m.handlers.length r2k] 48)) none) := gb_tr (gb_alloc _ _ _) (gb_alloc _ _ _)
  have hA1 : Hid (Blk ((w.alloc (.cells #[.string m.name, .slice p1a m.params.length p1k, .int .i64 m.ret.kind, .string m.ret.name, .int .i64 m.stack, .int .i64 m.locals, .slice q1a m.code.length q1k, .slice r1a m.handlers.length r1k] 48)).alloc (.cells #[.string m.name, .slice p2a m.params.length p2k, .int .i64 m.ret.kind, .string m.ret.name, .int .i64 m.stack, .int .i64 m.locals, .slice q2a m.code.length q2k, .slice r2a m.handlers.length r2k] 48)) w.heap.size #[.string m.name, .slice p1a m.params.length p1k, .int .i64 m.ret.kind, .string m.ret.name, .int .i64 m.stack, .int .i64 m.locals, .slice q1a m.code.length q1k, .slice r1a m.handlers.length r1k] 48) := (Blk.new w _ _).keep (gb_alloc _ _ none) (by simp)
  have hA2 : Hid (Blk ((w.alloc (.cells #[.string m.name, .slice p1a m.params.length p1k, .int .i64 m.ret.kind, .string m.ret.name, .int .i64 m.stack, .int .i64 m.locals, .slice q1a m.code.length q1k, .slice r1a m.handlers.length r1k] 48)).alloc (.cells #[.string m.name, .slice p2a m.params.length p2k, .int .i64 m.ret.kind, .string m.ret.name, .int .i64 m.stack, .int .i64 m.locals, .slice q2a m.code.length q2k, .slice r2a m.handlers.length r2k] 48)) (w.heap.size + 1) #[.string m.name, .slice p2a m.params.length p2k, .int .i64 m.ret.kind, .string m.ret.name, .int .i64 m.stack, .int .i64 m.locals, .slice q2a m.code.length q2k, .slice r2a m.handlers.length r2k] 48) := by
    have := Blk.new (w.alloc (.cells #[.string m.name, .slice p1a m.params.length p1k, .int .i64 m.ret.kind, .string m.ret.name, .int .i64 m.stack, .int .i64 m.locals, .slice q1a m.code.length q1k, .slice r1a m.handlers.length r1k] 48)) #[.string m.name, .slice p2a m.params.length p2k, .int .i64 m.ret.kind, .string m.ret.name, .int .i64 m.stack, .int .i64 m.locals, .slice q2a m.code.length q2k, .slice r2a m.handlers.length r2k] 48
    unfold Hid
    simpa using this
  have HT1 : Hid (IsRow b1 41 2 encTy ((w.alloc (.cells #[.string m.name, .slice p1a m.params.length p1k, .int .i64 m.ret.kind, .string m.ret.name, .int .i64 m.stack, .int .i64 m.locals, .slice q1a m.code.length q1k, .slice r1a m.handlers.length r1k] 48)).alloc (.cells #[.string m.name, .slice p2a m.params.length p2k, .int .i64 m.ret.kind, .string m.ret.name, .int .i64 m.stack, .int .i64 m.locals, .slice q2a m.code.length q2k, .slice r2a m.handlers.length r2k] 48)) (.slice p1a m.params.length p1k) m.params) := World.ownsRow.kept HP1.out hgA.out (by cases (Value.slice p1a m.params.length p1k).ownBlock <;> simp)
  have HT2 : Hid (IsRow b2 41 2 encTy ((w.alloc (.cells #[.string m.name, .slice p1a m.params.length p1k, .int .i64 m.ret.kind, .string m.ret.name, .int .i64 m.stack, .int .i64 m.locals, .slice q1a m.code.length q1k, .slice r1a m.handlers.length r1k] 48)).alloc (.cells #[.string m.name, .slice p2a m.params.length p2k, .int .i64 m.ret.kind, .string m.ret.name, .int .i64 m.stack, .int .i64 m.locals, .slice q2a m.code.length q2k, .slice r2a m.handlers.length r2k] 48)) (.slice p2a m.params.length p2k) m.params) := World.ownsRow.kept HP2.out hgA.out (by cases (Value.slice p2a m.params.length p2k).ownBlock <;> simp)
  go_wp2_with (
    go_at_call 35
    refine (sameTypes_any _ b1 b2 _ _ m.params HT1 HT2 hp).mono ?_
    rintro e w3 ⟨rfl, hg3⟩
    have HB1 : Hid (Blk w3 w.heap.size #[.string m.name, .slice p1a m.params.length p1k, .int .i64 m.ret.kind, .string m.ret.name, .int .i64 m.stack, .int .i64 m.locals, .slice q1a m.code.length q1k, .slice r1a m.handlers.length r1k] 48) := hA1.out.keep hg3 (by simp)
    have HB2 : Hid (Blk w3 (w.heap.size + 1) #[.string m.name, .slice p2a m.params.length p2k, .int .i64 m.ret.kind, .string m.ret.name, .int .i64 m.stack, .int .i64 m.locals, .slice q2a m.code.length q2k, .slice r2a m.handlers.length r2k] 48) := hA2.out.keep hg3 (by simp)
    have HG3 : Hid (w.grownBy w3 none) := gb_tr hgA.out hg3
    have c0 := HB1.out.cell 0 _ rfl
    have d0 := HB2.out.cell 0 _ rfl
    have c1 := HB1.out.cell 1 _ rfl
    have d1 := HB2.out.cell 1 _ rfl
    have c2 := HB1.out.cell 2 _ rfl
    have d2 := HB2.out.cell 2 _ rfl
    have c3 := HB1.out.cell 3 _ rfl
    have d3 := HB2.out.cell 3 _ rfl
    have c4 := HB1.out.cell 4 _ rfl
    have d4 := HB2.out.cell 4 _ rfl
    have c5 := HB1.out.cell 5 _ rfl
    have d5 := HB2.out.cell 5 _ rfl
    have c6 := HB1.out.cell 6 _ rfl
    have d6 := HB2.out.cell 6 _ rfl
    have c7 := HB1.out.cell 7 _ rfl
    have d7 := HB2.out.cell 7 _ rfl
    clear hg3 HT1 HT2 hgA hA1 hA2
    try dsimp only)
  go_loopw [6] (fun i wr => ∃ j : Nat, j ≤ m.code.length ∧ i = .int .i64 j ∧ Hid (∀ a, wr.cell? a = w3.cell? a) ∧ Hid (w3.grownBy wr none)) (fun i _ => m.code.length - (intOf i).toNat)
  case atStart => exact ⟨0, Nat.zero_le _, rfl, fun _ => rfl, gb_refl _ _⟩
  case round =>
    obtain ⟨j, hj, rfl, HQ, HGW⟩ := hrel
    have e1 : wr.cell? ⟨w.heap.size, 6, none⟩ = some (.slice q1a m.code.length q1k) := (HQ.out _).trans c6
    have e2 : wr.cell? ⟨w.heap.size + 1, 6, none⟩ = some (.slice q2a m.code.length q2k) := (HQ.out _).trans d6
    have e3 : wr.cell? ⟨w.heap.size, 7, none⟩ = some (.slice r1a m.handlers.length r1k) := (HQ.out _).trans c7
    by_cases hlt : j < m.code.length
    · obtain ⟨g1, rfl, hc1⟩ := row_at (enc := encIn) (fun _ => rfl) (World.ownsRow.kept HQ1.out HG3.out (by cases (Value.slice q1a m.code.length q1k).ownBlock <;> simp)) j hlt
      obtain ⟨g2, rfl, hc2⟩ := row_at (enc := encIn) (fun _ => rfl) (World.ownsRow.kept HQ2.out HG3.out (by cases (Value.slice q2a m.code.length q2k).ownBlock <;> simp)) j hlt
      have f0 : wr.cell? ⟨g1, j * 4, none⟩ = some (.int .i64 m.code[j].op) := (HQ.out _).trans (hc1 0 _ rfl)
      have k0 : wr.cell? ⟨g2, j * 4, none⟩ = some (.int .i64 m.code[j].op) := (HQ.out _).trans (hc2 0 _ rfl)
      have f1 : wr.cell? ⟨g1, j * 4 + 1, none⟩ = some (.int .i64 m.code[j].a) := (HQ.out _).trans (hc1 1 _ rfl)
      have k1 : wr.cell? ⟨g2, j * 4 + 1, none⟩ = some (.int .i64 m.code[j].a) := (HQ.out _).trans (hc2 1 _ rfl)
      have f2 : wr.cell? ⟨g1, j * 4 + 2, none⟩ = some (.string m.code[j].cls) := (HQ.out _).trans (hc1 2 _ rfl)
      have k2 : wr.cell? ⟨g2, j * 4 + 2, none⟩ = some (.string m.code[j].cls) := (HQ.out _).trans (hc2 2 _ rfl)
      have f3 : wr.cell? ⟨g1, j * 4 + 3, none⟩ = some (.string m.code[j].mem) := (HQ.out _).trans (hc1 3 _ rfl)
      have k3 : wr.cell? ⟨g2, j * 4 + 3, none⟩ = some (.string m.code[j].mem) := (HQ.out _).trans (hc2 3 _ rfl)
      clear hc1 hc2
      go_wp2_with fail
      go_quiet (fail)
      go_wp2_with fail
      go_roundw
      case rel => exact ⟨j + 1, hlt, by go_num, fun a => HQ.out a, gb_tn HGW.out (gb_drewN _ _ _)⟩
      case measure => simp [intOf]; omega
    · go_wp2_with fail
      go_loopw [7] (fun i wz => ∃ j : Nat, j ≤ m.handlers.length ∧ i = .int .i64 j ∧ Hid (∀ a, wz.cell? a = w3.cell? a) ∧ Hid (w3.grownBy wz none)) (fun i _ => m.handlers.length - (intOf i).toNat)
      case atStart => exact ⟨0, Nat.zero_le _, rfl, fun a => HQ.out a, HGW.out⟩
      case round =>
        clear HQ HGW
        obtain ⟨j, hj, rfl, HQ, HGW⟩ := hrel
        have e1 : wr.cell? ⟨w.heap.size, 7, none⟩ = some (.slice r1a m.handlers.length r1k) := (HQ.out _).trans c7
        have e2 : wr.cell? ⟨w.heap.size + 1, 7, none⟩ = some (.slice r2a m.handlers.length r2k) := (HQ.out _).trans d7
        by_cases hlt : j < m.handlers.length
        · obtain ⟨g1, rfl, hc1⟩ := row_at (enc := encHd) (fun _ => rfl) (World.ownsRow.kept HR1.out HG3.out (by cases (Value.slice r1a m.handlers.length r1k).ownBlock <;> simp)) j hlt
          obtain ⟨g2, rfl, hc2⟩ := row_at (enc := encHd) (fun _ => rfl) (World.ownsRow.kept HR2.out HG3.out (by cases (Value.slice r2a m.handlers.length r2k).ownBlock <;> simp)) j hlt
          have f0 : wr.cell? ⟨g1, j * 4, none⟩ = some (.int .i64 m.handlers[j].from_) := (HQ.out _).trans (hc1 0 _ rfl)
          have k0 : wr.cell? ⟨g2, j * 4, none⟩ = some (.int .i64 m.handlers[j].from_) := (HQ.out _).trans (hc2 0 _ rfl)
          have f1 : wr.cell? ⟨g1, j * 4 + 1, none⟩ = some (.int .i64 m.handlers[j].to) := (HQ.out _).trans (hc1 1 _ rfl)
          have k1 : wr.cell? ⟨g2, j * 4 + 1, none⟩ = some (.int .i64 m.handlers[j].to) := (HQ.out _).trans (hc2 1 _ rfl)
          have f2 : wr.cell? ⟨g1, j * 4 + 2, none⟩ = some (.int .i64 m.handlers[j].at_) := (HQ.out _).trans (hc1 2 _ rfl)
          have k2 : wr.cell? ⟨g2, j * 4 + 2, none⟩ = some (.int .i64 m.handlers[j].at_) := (HQ.out _).trans (hc2 2 _ rfl)
          have f3 : wr.cell? ⟨g1, j * 4 + 3, none⟩ = some (.string m.handlers[j].cls) := (HQ.out _).trans (hc1 3 _ rfl)
          have k3 : wr.cell? ⟨g2, j * 4 + 3, none⟩ = some (.string m.handlers[j].cls) := (HQ.out _).trans (hc2 3 _ rfl)
          clear hc1 hc2
          go_wp2_with fail
          go_quiet (fail)
          go_wp2_with fail
          go_roundw
          case rel => exact ⟨j + 1, hlt, by go_num, fun a => HQ.out a, gb_tn HGW.out (gb_drewN _ _ _)⟩
          case measure => simp [intOf]; omega
        · go_wp2_with fail
          go_ret
          exact ⟨rfl, gb_tr HG3.out HGW.out⟩
end Go.Proofs.YtdhophglnhcjbaaDoor

namespace Go.Proofs.YtdhophglnhcjbaaDoor
open Go.RowKit Cf

theorem flatten_get (css : List (List Value)) (sz : Nat) (hs : ∀ c ∈ css, c.length = sz) (j : Nat) (c : List Value) (hj : css[j]? = some c) (r : Nat) (hr : r < sz) : css.flatten[j * sz + r]? = c[r]? := by
  induction css generalizing j with
  | nil => simp at hj
  | cons x l ih =>
    rw [List.flatten_cons]
    cases j with
    | zero =>
      simp at hj
      subst hj
      rw [Nat.zero_mul, Nat.zero_add, List.getElem?_append_left (by rw [hs x (by simp)]; exact hr)]
    | succ j =>
      rw [List.getElem?_append_right (by rw [hs x (by simp), Nat.succ_mul]; omega), hs x (by simp), show (j + 1) * sz + r - sz = j * sz + r by rw [Nat.succ_mul]; omega]
      exact ih (fun c hc => hs c (by simp [hc])) j (by simpa using hj)
/-- where a class's methods lie, place by place -/
theorem mes_at {base : Nat} {w : World} {a : Option Addr} {n k : Nat} {ms : List Me} (h : IsMes base w (.slice a n k) ms) (j : Nat) (hj : j < ms.length) :
    ∃ g p1 q1 p2 q2 p3 q3, a = some ⟨g, 0, none⟩ ∧
      IsRow base 41 2 encTy w (.slice p1 ms[j].params.length q1) ms[j].params ∧ IsRow base 50 4 encIn w (.slice p2 ms[j].code.length q2) ms[j].code ∧ IsRow base 52 4 encHd w (.slice p3 ms[j].handlers.length q3) ms[j].handlers ∧
      ∀ r u, [Value.string ms[j].name, .slice p1 ms[j].params.length q1, .int .i64 ms[j].ret.kind, .string ms[j].ret.name, .int .i64 ms[j].stack, .int .i64 ms[j].locals, .slice p2 ms[j].code.length q2, .slice p3 ms[j].handlers.length q3][r]? = some u → w.cell? ⟨g, j * 8 + r, none⟩ = some u := by
  obtain ⟨css, hl, ho, hc⟩ := h
  have h8 : ∀ c ∈ css, c.length = 8 := by
    intro c hcm
    obtain ⟨i, hi, rfl⟩ := List.getElem_of_mem hcm
    obtain ⟨pv, cv, hv, e, -⟩ := hc i css[i] (ms[i]'(by omega)) (List.getElem?_eq_getElem hi) (List.getElem?_eq_getElem (by omega))
    rw [e]; rfl
  obtain ⟨pv, cv, hv, e, h1, h2, h3, -⟩ := hc j (css[j]'(by omega)) ms[j] (List.getElem?_eq_getElem (by omega)) (List.getElem?_eq_getElem hj)
  obtain ⟨p1, q1, rfl⟩ := own_slice h1
  obtain ⟨p2, q2, rfl⟩ := own_slice h2
  obtain ⟨p3, q3, rfl⟩ := own_slice h3
  rcases ho.2 with ⟨-, hn⟩ | ⟨g, cap, cur, hv', _⟩
  · omega
  · injection hv' with e1 e2 e3
    subst e1
    refine ⟨g, p1, q1, p2, q2, p3, q3, rfl, h1, h2, h3, fun r u hu => ?_⟩
    have hr : r < 8 := by
      have := (List.getElem?_eq_some_iff.1 hu).1
      simpa using this
    have := ho.cells (g := g) rfl (j * 8 + r) u (by rw [flatten_get css 8 h8 j (css[j]'(by omega)) (List.getElem?_eq_getElem (by omega)) r hr, e]; exact hu)
    unfold Addr.add at this
    split at this
    · rename_i h0; rw [h0]; exact this
    · simpa using this
/-- no list is longer than a file can make it -/
def Small (c : Cl) : Prop := c.fields.length ≤ 65536 ∧ c.methods.length ≤ 65536 ∧ ∀ j (hj : j < c.methods.length), c.methods[j].params.length ≤ 65536 ∧ c.methods[j].code.length ≤ 65536 ∧ c.methods[j].handlers.length ≤ 65536

set_option maxRecDepth 100000 in
set_option maxHeartbeats 1000000 in
theorem same_any (w : World) (b1 b2 : Nat) (v1 v2 : Value) (c : Cl) (h1 : Hid (isCl b1 w v1 c)) (h2 : Hid (isCl b2 w v2 c)) (hs : Hid (Small c)) :
    Calls Tryd.prog 12 #[v1, v2] w fun e w' => e = .returned (.bool true) ∧ w.grownBy w' none := by
  obtain ⟨f1a, f1k, m1a, m1k, rfl, hf1, hm1⟩ := h1.out
  obtain ⟨f2a, f2k, m2a, m2k, rfl, hf2, hm2⟩ := h2.out
  have HF1 : Hid (IsRow b1 43 3 encFld w (.slice f1a c.fields.length f1k) c.fields) := hf1
  have HF2 : Hid (IsRow b2 43 3 encFld w (.slice f2a c.fields.length f2k) c.fields) := hf2
  have HM1 : Hid (IsMes b1 w (.slice m1a c.methods.length m1k) c.methods) := hm1
  have HM2 : Hid (IsMes b2 w (.slice m2a c.methods.length m2k) c.methods) := hm2
  have hlf : c.fields.length ≤ 65536 := hs.out.1
  have hlm : c.methods.length ≤ 65536 := hs.out.2.1
  clear hf1 hf2 hm1 hm2 h1 h2
  go_enter Tryd.func12, Tryd.ntmps12
  have hgA : Hid (w.grownBy ((w.alloc (.cells #[.string c.name, .string c.super, .slice f1a c.fields.length f1k, .slice m1a c.methods.length m1k] 25)).alloc (.cells #[.string c.name, .string c.super, .slice f2a c.fields.length f2k, .slice m2a c.methods.length m2k] 25)) none) := gb_tr (gb_alloc _ _ _) (gb_alloc _ _ _)
  have hA1 : Hid (Blk ((w.alloc (.cells #[.string c.name, .string c.super, .slice f1a c.fields.length f1k, .slice m1a c.methods.length m1k] 25)).alloc (.cells #[.string c.name, .string c.super, .slice f2a c.fields.length f2k, .slice m2a c.methods.length m2k] 25)) w.heap.size #[.string c.name, .string c.super, .slice f1a c.fields.length f1k, .slice m1a c.methods.length m1k] 25) := (Blk.new w _ _).keep (gb_alloc _ _ none) (by simp)
  have hA2 : Hid (Blk ((w.alloc (.cells #[.string c.name, .string c.super, .slice f1a c.fields.length f1k, .slice m1a c.methods.length m1k] 25)).alloc (.cells #[.string c.name, .string c.super, .slice f2a c.fields.length f2k, .slice m2a c.methods.length m2k] 25)) (w.heap.size + 1) #[.string c.name, .string c.super, .slice f2a c.fields.length f2k, .slice m2a c.methods.length m2k] 25) := by
    have := Blk.new (w.alloc (.cells #[.string c.name, .string c.super, .slice f1a c.fields.length f1k, .slice m1a c.methods.length m1k] 25)) #[.string c.name, .string c.super, .slice f2a c.fields.length f2k, .slice m2a c.methods.length m2k] 25
    unfold Hid
    simpa using this
  go_wp2_with fail
  go_loopw [5] (fun i wr => ∃ j : Nat, j ≤ c.fields.length ∧ i = .int .i64 j ∧ Hid (w.grownBy wr none) ∧ Hid (Blk wr w.heap.size #[.string c.name, .string c.super, .slice f1a c.fields.length f1k, .slice m1a c.methods.length m1k] 25) ∧ Hid (Blk wr (w.heap.size + 1) #[.string c.name, .string c.super, .slice f2a c.fields.length f2k, .slice m2a c.methods.length m2k] 25)) (fun i _ => c.fields.length - (intOf i).toNat)
  case atStart => exact ⟨0, Nat.zero_le _, rfl, hgA, hA1, hA2⟩
  case round =>
    clear hgA hA1 hA2
    obtain ⟨j, hj, rfl, HG, HB1, HB2⟩ := hrel
    have e1 := HB1.out.cell 2 _ rfl
    have e2 := HB2.out.cell 2 _ rfl
    have e3 := HB1.out.cell 3 _ rfl
    by_cases hlt : j < c.fields.length
    · obtain ⟨g1, rfl, hc1⟩ := row_at (enc := encFld) (fun _ => rfl) (HF1.out.keep HG.out (by simp)) j hlt
      obtain ⟨g2, rfl, hc2⟩ := row_at (enc := encFld) (fun _ => rfl) (HF2.out.keep HG.out (by simp)) j hlt
      have f0 : wr.cell? ⟨g1, j * 3, none⟩ = some (.string c.fields[j].name) := hc1 0 _ rfl
      have k0 : wr.cell? ⟨g2, j * 3, none⟩ = some (.string c.fields[j].name) := hc2 0 _ rfl
      have f1 : wr.cell? ⟨g1, j * 3 + 1, none⟩ = some (.int .i64 c.fields[j].ty.kind) := hc1 1 _ rfl
      have k1 : wr.cell? ⟨g2, j * 3 + 1, none⟩ = some (.int .i64 c.fields[j].ty.kind) := hc2 1 _ rfl
      have f2 : wr.cell? ⟨g1, j * 3 + 2, none⟩ = some (.string c.fields[j].ty.name) := hc1 2 _ rfl
      have k2 : wr.cell? ⟨g2, j * 3 + 2, none⟩ = some (.string c.fields[j].ty.name) := hc2 2 _ rfl
      clear hc1 hc2
      go_wp2_with fail
      go_quiet (fail)
      go_wp2_with fail
      go_roundw
      case rel => exact ⟨j + 1, hlt, by go_num, gb_tn HG.out (gb_drewN _ _ _), HB1.out.keep (gb_drewN _ _ none) (by simp), HB2.out.keep (gb_drewN _ _ none) (by simp)⟩
      case measure => simp [intOf]; omega
    · go_wp2_with fail
      go_loopw [6] (fun i wr => ∃ j : Nat, j ≤ c.methods.length ∧ i = .int .i64 j ∧ Hid (w.grownBy wr none) ∧ Hid (Blk wr w.heap.size #[.string c.name, .string c.super, .slice f1a c.fields.length f1k, .slice m1a c.methods.length m1k] 25) ∧ Hid (Blk wr (w.heap.size + 1) #[.string c.name, .string c.super, .slice f2a c.fields.length f2k, .slice m2a c.methods.length m2k] 25)) (fun i _ => c.methods.length - (intOf i).toNat)
      case atStart => exact ⟨0, Nat.zero_le _, rfl, HG, HB1, HB2⟩
      case round =>
        clear HG HB1 HB2 e1 e2 e3
        obtain ⟨j, hj, rfl, HG, HB1, HB2⟩ := hrel
        have e1 := HB1.out.cell 3 _ rfl
        have e2 := HB2.out.cell 3 _ rfl
        by_cases hlt : j < c.methods.length
        · obtain ⟨g1, p1, q1, p2, q2, p3, q3, rfl, ha1, ha2, ha3, hc1⟩ := mes_at (HM1.out.keep HG.out (by simp)) j hlt
          obtain ⟨g2, r1, s1, r2, s2, r3, s3, rfl, hb1, hb2, hb3, hc2⟩ := mes_at (HM2.out.keep HG.out (by simp)) j hlt
          obtain ⟨m, hm⟩ : ∃ m, m = c.methods[j] := ⟨_, rfl⟩
          have hsm := hs.out.2.2 j hlt
          rw [← hm] at ha1 ha2 ha3 hb1 hb2 hb3 hc1 hc2 hsm
          have HL1 : Hid (m.params.length ≤ 65536) := hsm.1
          have HL2 : Hid (m.code.length ≤ 65536) := hsm.2.1
          have HL3 : Hid (m.handlers.length ≤ 65536) := hsm.2.2
          have f0 : wr.cell? ⟨g1, j * 8, none⟩ = some (.string m.name) := hc1 0 _ rfl
          have k0 : wr.cell? ⟨g2, j * 8, none⟩ = some (.string m.name) := hc2 0 _ rfl
          have f1 : wr.cell? ⟨g1, j * 8 + 1, none⟩ = some (.slice p1 m.params.length q1) := hc1 1 _ rfl
          have k1 : wr.cell? ⟨g2, j * 8 + 1, none⟩ = some (.slice r1 m.params.length s1) := hc2 1 _ rfl
          have f2 : wr.cell? ⟨g1, j * 8 + 2, none⟩ = some (.int .i64 m.ret.kind) := hc1 2 _ rfl
          have k2 : wr.cell? ⟨g2, j * 8 + 2, none⟩ = some (.int .i64 m.ret.kind) := hc2 2 _ rfl
          have f3 : wr.cell? ⟨g1, j * 8 + 3, none⟩ = some (.string m.ret.name) := hc1 3 _ rfl
          have k3 : wr.cell? ⟨g2, j * 8 + 3, none⟩ = some (.string m.ret.name) := hc2 3 _ rfl
          have f4 : wr.cell? ⟨g1, j * 8 + 4, none⟩ = some (.int .i64 m.stack) := hc1 4 _ rfl
          have k4 : wr.cell? ⟨g2, j * 8 + 4, none⟩ = some (.int .i64 m.stack) := hc2 4 _ rfl
          have f5 : wr.cell? ⟨g1, j * 8 + 5, none⟩ = some (.int .i64 m.locals) := hc1 5 _ rfl
          have k5 : wr.cell? ⟨g2, j * 8 + 5, none⟩ = some (.int .i64 m.locals) := hc2 5 _ rfl
          have f6 : wr.cell? ⟨g1, j * 8 + 6, none⟩ = some (.slice p2 m.code.length q2) := hc1 6 _ rfl
          have k6 : wr.cell? ⟨g2, j * 8 + 6, none⟩ = some (.slice r2 m.code.length s2) := hc2 6 _ rfl
          have f7 : wr.cell? ⟨g1, j * 8 + 7, none⟩ = some (.slice p3 m.handlers.length q3) := hc1 7 _ rfl
          have k7 : wr.cell? ⟨g2, j * 8 + 7, none⟩ = some (.slice r3 m.handlers.length s3) := hc2 7 _ rfl
          have HI1 : Hid (isMe b1 wr.drew (.agg #[.string m.name, .slice p1 m.params.length q1, .int .i64 m.ret.kind, .string m.ret.name, .int .i64 m.stack, .int .i64 m.locals, .slice p2 m.code.length q2, .slice p3 m.handlers.length q3]) m) := ⟨_, rfl, _, _, _, rfl, ha1.keep (gb_drew _ none) (by simp), ha2.keep (gb_drew _ none) (by simp), ha3.keep (gb_drew _ none) (by simp), fun _ _ => trivial⟩
          have HI2 : Hid (isMe b2 wr.drew (.agg #[.string m.name, .slice r1 m.params.length s1, .int .i64 m.ret.kind, .string m.ret.name, .int .i64 m.stack, .int .i64 m.locals, .slice r2 m.code.length s2, .slice r3 m.handlers.length s3]) m) := ⟨_, rfl, _, _, _, rfl, hb1.keep (gb_drew _ none) (by simp), hb2.keep (gb_drew _ none) (by simp), hb3.keep (gb_drew _ none) (by simp), fun _ _ => trivial⟩
          clear hc1 hc2 ha1 ha2 ha3 hb1 hb2 hb3 hm hsm
          go_wp2_with fail
          go_region_held2 (fun w' => w'.cell? ⟨w.heap.size, 3, none⟩ = some (.slice (some ⟨g1, 0, none⟩) c.methods.length m1k) ∧ w'.cell? ⟨w.heap.size + 1, 3, none⟩ = some (.slice (some ⟨g2, 0, none⟩) c.methods.length m2k) ∧ w'.cell? ⟨g1, j * 8, none⟩ = some (.string m.name) ∧ w'.cell? ⟨g2, j * 8, none⟩ = some (.string m.name) ∧ w'.cell? ⟨g1, j * 8 + 1, none⟩ = some (.slice p1 m.params.length q1) ∧ w'.cell? ⟨g2, j * 8 + 1, none⟩ = some (.slice r1 m.params.length s1) ∧ w'.cell? ⟨g1, j * 8 + 2, none⟩ = some (.int .i64 m.ret.kind) ∧ w'.cell? ⟨g2, j * 8 + 2, none⟩ = some (.int .i64 m.ret.kind) ∧ w'.cell? ⟨g1, j * 8 + 3, none⟩ = some (.string m.ret.name) ∧ w'.cell? ⟨g2, j * 8 + 3, none⟩ = some (.string m.ret.name) ∧ w'.cell? ⟨g1, j * 8 + 4, none⟩ = some (.int .i64 m.stack) ∧ w'.cell? ⟨g2, j * 8 + 4, none⟩ = some (.int .i64 m.stack) ∧ w'.cell? ⟨g1, j * 8 + 5, none⟩ = some (.int .i64 m.locals) ∧ w'.cell? ⟨g2, j * 8 + 5, none⟩ = some (.int .i64 m.locals) ∧ w'.cell? ⟨g1, j * 8 + 6, none⟩ = some (.slice p2 m.code.length q2) ∧ w'.cell? ⟨g2, j * 8 + 6, none⟩ = some (.slice r2 m.code.length s2) ∧ w'.cell? ⟨g1, j * 8 + 7, none⟩ = some (.slice p3 m.handlers.length q3) ∧ w'.cell? ⟨g2, j * 8 + 7, none⟩ = some (.slice r3 m.handlers.length s3)) (go_keep)
            (first | (go_at_call 26
                      refine (sameMethods_any _ b1 b2 _ _ m HI1 HI2 HL1.out HL2.out HL3.out).mono ?_
                      rintro e w2 ⟨rfl, hg2⟩
                      have HG2 : Hid (w.grownBy w2 none) := gb_tr (gb_tr HG.out (gb_drew _ none)) hg2
                      have HC1 : Hid (Blk w2 w.heap.size _ _) := (HB1.out.keep (gb_drew _ none) (by simp)).keep hg2 (by simp)
                      have HC2 : Hid (Blk w2 (w.heap.size + 1) _ _) := (HB2.out.keep (gb_drew _ none) (by simp)).keep hg2 (by simp)
                      have hgd := gb_tr (gb_drew wr none) hg2
                      have n0 := hgd.cell f0 (by simp)
                      have l0 := hgd.cell k0 (by simp)
                      have n1 := hgd.cell f1 (by simp)
                      have l1 := hgd.cell k1 (by simp)
                      have n2 := hgd.cell f2 (by simp)
                      have l2 := hgd.cell k2 (by simp)
                      have n3 := hgd.cell f3 (by simp)
                      have l3 := hgd.cell k3 (by simp)
                      have n4 := hgd.cell f4 (by simp)
                      have l4 := hgd.cell k4 (by simp)
                      have n5 := hgd.cell f5 (by simp)
                      have l5 := hgd.cell k5 (by simp)
                      have n6 := hgd.cell f6 (by simp)
                      have l6 := hgd.cell k6 (by simp)
                      have n7 := hgd.cell f7 (by simp)
                      have l7 := hgd.cell k7 (by simp)
                      have x1 := hgd.cell e1 (by simp)
                      have x2 := hgd.cell e2 (by simp)))
          go_wp2_with fail
          go_roundw
          case rel => exact ⟨j + 1, hlt, by go_num, HG2, HC1, HC2⟩
          case measure => simp [intOf]; omega
        · go_wp2_with fail
          go_ret
          exact ⟨rfl, HG.out⟩
end Go.Proofs.YtdhophglnhcjbaaDoor

namespace Go.Proofs.YtdhophglnhcjbaaDoor
open Go.RowKit Cf

theorem rep_len {α : Type} {p : St → R α} : ∀ {n : Nat} {st st1 : St} {l : List α}, rep p n st = .ok (l, st1) → l.length = n ∧ ∀ x ∈ l, ∃ s0 s1, p s0 = .ok (x, s1) := by
  intro n
  induction n with
  | zero => intro st st1 l h; simp only [rep, Except.ok.injEq, Prod.mk.injEq] at h; obtain ⟨rfl, -⟩ := h; simp
  | succ n ih =>
    intro st st1 l h
    simp only [rep] at h
    cases hp : p st with
    | error er => rw [hp] at h; cases h
    | ok q =>
      obtain ⟨x, s1⟩ := q
      rw [hp] at h
      dsimp only at h
      cases hr : rep p n s1 with
      | error er => rw [hr] at h; cases h
      | ok q =>
        obtain ⟨l2, s2⟩ := q
        rw [hr] at h
        simp only [Except.ok.injEq, Prod.mk.injEq] at h
        obtain ⟨rfl, -⟩ := h
        obtain ⟨h1, h2⟩ := ih hr
        refine ⟨by simp [h1], fun y hy => ?_⟩
        rcases List.mem_cons.1 hy with rfl | hy
        · exact ⟨_, _, hp⟩
        · exact h2 y hy
theorem list_len {α : Type} {f : ByteArray} {k : Nat} {p : St → R α} {st st1 : St} {l : List α} (h : list f k p st = .ok (l, st1)) : l.length < 256 ^ k ∧ ∀ x ∈ l, ∃ s0 s1, p s0 = .ok (x, s1) := by
  unfold list at h
  cases hn : num f k st with
  | error er => rw [hn] at h; cases h
  | ok q =>
    obtain ⟨n, s1⟩ := q
    rw [hn] at h
    dsimp only at h
    obtain ⟨h1, h2⟩ := rep_len h
    have := (num_lt hn).2
    exact ⟨by omega, h2⟩
theorem then_ok {α β : Type} {r : R α} {m : α → St → R β} {q : β × St} (h : then_ r m = .ok q) : ∃ a st, r = .ok (a, st) ∧ m a st = .ok q := by
  unfold then_ at h
  cases r with
  | error er => cases h
  | ok p => exact ⟨p.1, p.2, rfl, h⟩
theorem meth_small {f : ByteArray} {st st1 : St} {m : Me} (h : meth f st = .ok (m, st1)) : m.params.length ≤ 65536 ∧ m.code.length ≤ 65536 ∧ m.handlers.length ≤ 65536 := by
  rw [meth_then] at h
  obtain ⟨n, s1, h1, h⟩ := then_ok h
  obtain ⟨ps, s2, h2, h⟩ := then_ok h
  obtain ⟨rt, s3, h3, h⟩ := then_ok h
  obtain ⟨so, s4, h4, h⟩ := then_ok h
  obtain ⟨lo, s5, h5, h⟩ := then_ok h
  obtain ⟨is, s6, h6, h⟩ := then_ok h
  obtain ⟨hs, s7, h7, h⟩ := then_ok h
  cases h
  have a1 := (list_len h2).1
  have a2 := (list_len h6).1
  have a3 := (list_len h7).1
  dsimp only
  omega
theorem cls_small {f : ByteArray} {st st1 : St} {c : Cl} (h : cls f st = .ok (c, st1)) : Small c := by
  rw [cls_then] at h
  obtain ⟨n, s1, h1, h⟩ := then_ok h
  obtain ⟨sp, s2, h2, h⟩ := then_ok h
  obtain ⟨fs, s3, h3, h⟩ := then_ok h
  obtain ⟨ms, s4, h4, h⟩ := then_ok h
  cases h
  have a1 := (list_len h3).1
  obtain ⟨a2, a3⟩ := list_len h4
  refine ⟨by dsimp only; omega, by dsimp only; omega, fun j hj => ?_⟩
  obtain ⟨s0, s1, hm⟩ := a3 _ (List.getElem_mem hj)
  exact meth_small hm
theorem dec_small {f : ByteArray} {c : Cl} (h : dec f = .ok c) : Small c := by
  have h0 : ¬ 2048 < f.size := by
    intro hb
    simp only [dec, hb, if_true] at h
    cases h
  rw [dec_whole h0] at h
  cases hw : whole f ⟨0, 0, []⟩ with
  | error er => rw [hw] at h; cases h
  | ok q =>
    obtain ⟨c', st⟩ := q
    rw [hw] at h
    cases h
    unfold whole at hw
    obtain ⟨u1, s1, h1, hw⟩ := then_ok hw
    obtain ⟨u2, s2, h2, hw⟩ := then_ok hw
    obtain ⟨u3, s3, h3, hw⟩ := then_ok hw
    obtain ⟨c2, s4, h4, hw⟩ := then_ok hw
    obtain ⟨u5, s5, h5, hw⟩ := then_ok hw
    cases hw
    exact cls_small h4
theorem zero_small : Small ⟨⟨#[]⟩, ⟨#[]⟩, [], []⟩ := ⟨by simp, by simp, fun j hj => by simp at hj⟩
theorem zero_isCl (base : Nat) (w : World) : isCl base w (.agg #[.string ⟨#[]⟩, .string ⟨#[]⟩, .slice none 0 0, .slice none 0 0]) ⟨⟨#[]⟩, ⟨#[]⟩, [], []⟩ :=
  ⟨none, 0, none, 0, rfl, World.ownsRow_nil _ _ _ _, .nil _ _⟩
end Go.Proofs.YtdhophglnhcjbaaDoor
