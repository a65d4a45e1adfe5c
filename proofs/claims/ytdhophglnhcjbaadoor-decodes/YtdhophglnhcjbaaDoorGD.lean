/- Contracts of the functions that the law goes through: a part of the proof that the last text tells. -/
import Derived.Test.YtdhophglnhcjbaaDoorGC
set_option linter.unusedVariables false
set_option linter.unusedSimpArgs false
namespace Go.Proofs.YtdhophglnhcjbaaDoor
open Go.RowKit Cf

/-- the reference's eye in memory -/
structure Ey (w : World) (b : Nat) (f : ByteArray) (pv : Value) (a : Nat) (names : List ByteArray) (t : Int) (e p : Nat) : Prop where
  blk : Blk w b #[.string f, .int .i64 a, pv, .int .i64 t, .int .i64 e, .int .i64 p] 68
  own : w.ownsRow (b + 1) 9 1 pv names.length (names.map Value.string)
  fits : f.size ≤ 2048
  at_ : a ≤ f.size
  len : names.length ≤ 255
  lo : -1 ≤ t
  hi : t ≤ 255

/-- what the eye has seen: so far so good, or an error -/
def EyS (w : World) (b : Nat) (f : ByteArray) (pv : Value) : Except Er St → Prop
  | .ok st => Inv f st ∧ Ey w b f pv st.at_ st.pool (st.used - 1) 0 0
  | .error er => er.1 ≠ 0 ∧ ∃ a names t, Ey w b f pv a names t er.1 er.2

section
variable {w w' : World} {b k : Nat} {f : ByteArray} {pv : Value} {a e p : Nat} {names : List ByteArray} {t : Int} {s : Except Er St}
theorem Ey.poolNe (h : Ey w b f pv a names t e p) : pv.ownBlock ≠ some b := own_ne h.own (by omega)
theorem Ey.poolLt (h : Ey w b f pv a names t e p) (hk : w.heap.size ≤ k) : pv.ownBlock ≠ some k := by
  intro hv
  have := (own_some h.own hv).2
  omega
theorem Ey.keep {row : Option Nat} (h : Ey w b f pv a names t e p) (hg : w.grownBy w' row) (hb : some b ≠ row) (hp : pv.ownBlock = none ∨ pv.ownBlock ≠ row) : Ey w' b f pv a names t e p :=
  ⟨h.blk.keep hg hb, h.own.kept hg hp, h.fits, h.at_, h.len, h.lo, h.hi⟩
theorem EyS.keep {row : Option Nat} (h : EyS w b f pv s) (hg : w.grownBy w' row) (hb : some b ≠ row) (hp : pv.ownBlock = none ∨ pv.ownBlock ≠ row) : EyS w' b f pv s := by
  cases s with
  | ok st => exact ⟨h.1, h.2.keep hg hb hp⟩
  | error er => obtain ⟨h1, a, names, t, h2⟩ := h; exact ⟨h1, a, names, t, h2.keep hg hb hp⟩
theorem EyS.lt (h : EyS w b f pv s) : b < w.heap.size := by
  cases s with
  | ok st => exact h.2.blk.lt
  | error er => obtain ⟨h1, a, names, t, h2⟩ := h; exact h2.blk.lt
theorem EyS.poolLt (h : EyS w b f pv s) (hk : w.heap.size ≤ k) : pv.ownBlock ≠ some k := by
  cases s with
  | ok st => exact h.2.poolLt hk
  | error er => obtain ⟨h1, a, names, t, h2⟩ := h; exact h2.poolLt hk
theorem EyS.keep0 (h : EyS w b f pv s) (hg : w.grownBy w' none) : EyS w' b f pv s :=
  h.keep hg (by simp) (by cases hv : pv.ownBlock <;> simp)
theorem Ey.setAt (h : Ey w b f pv a names t e p) (n : Nat) (hn : n ≤ f.size) : Ey (w.setCell ⟨b, 1, none⟩ (.int .i64 n)) b f pv n names t e p :=
  ⟨h.blk.set 1 _, h.own.kept (gb_set w ⟨b, 1, none⟩ _) (.inr h.poolNe), h.fits, hn, h.len, h.lo, h.hi⟩
theorem Ey.setTop (h : Ey w b f pv a names t e p) (n : Int) (h1 : -1 ≤ n) (h2 : n ≤ 255) : Ey (w.setCell ⟨b, 3, none⟩ (.int .i64 n)) b f pv a names n e p :=
  ⟨h.blk.set 3 _, h.own.kept (gb_set w ⟨b, 3, none⟩ _) (.inr h.poolNe), h.fits, h.at_, h.len, h1, h2⟩
theorem Ey.setErr (h : Ey w b f pv a names t e p) (x y : Nat) : Ey ((w.setCell ⟨b, 4, none⟩ (.int .i64 x)).setCell ⟨b, 5, none⟩ (.int .i64 y)) b f pv a names t x y :=
  ⟨(h.blk.set 4 _).set 5 _, (h.own.kept (gb_set w ⟨b, 4, none⟩ _) (.inr h.poolNe)).kept (gb_set _ ⟨b, 5, none⟩ _) (.inr h.poolNe), h.fits, h.at_, h.len, h.lo, h.hi⟩
/-- what a walk reads of it -/
theorem Ey.cells (h : Ey w b f pv a names t e p) : w.cell? ⟨b, 0, none⟩ = some (.string f) ∧ w.cell? ⟨b, 1, none⟩ = some (.int .i64 a) ∧ w.cell? ⟨b, 2, none⟩ = some pv ∧
    w.cell? ⟨b, 3, none⟩ = some (.int .i64 t) ∧ w.cell? ⟨b, 4, none⟩ = some (.int .i64 e) ∧ w.cell? ⟨b, 5, none⟩ = some (.int .i64 p) ∧
    w.frozen? ⟨b, 1, none⟩ = false ∧ w.frozen? ⟨b, 2, none⟩ = false ∧ w.frozen? ⟨b, 3, none⟩ = false ∧ w.frozen? ⟨b, 4, none⟩ = false ∧ w.frozen? ⟨b, 5, none⟩ = false :=
  ⟨h.blk.cell 0 _ rfl, h.blk.cell 1 _ rfl, h.blk.cell 2 _ rfl, h.blk.cell 3 _ rfl, h.blk.cell 4 _ rfl, h.blk.cell 5 _ rfl, h.blk.frozen 1, h.blk.frozen 2, h.blk.frozen 3, h.blk.frozen 4, h.blk.frozen 5⟩
end

/-- a reader's step from whatever was seen -/
def bnd {α : Type} (s : Except Er St) (m : St → R α) : R α := match s with | .ok st => m st | .error er => .error er
def stateOf {α : Type} (r : R α) : Except Er St := match r with | .ok (_, st) => .ok st | .error er => .error er

/-- how a call of the eye's ends -/
def EyEnds {α : Type} (w : World) (b : Nat) (f : ByteArray) (pv : Value) (r : R α) (val : World → Value → α → Prop) (e : Ending) (w' : World) : Prop :=
  w.grownBy w' (some b) ∧ ∃ v a, e = .returned v ∧ val w' v a ∧ (∀ a' st, r = .ok (a', st) → a' = a) ∧ EyS w' b f pv (stateOf r)

theorem EyEnds.bind {P : Program} {fn : FuncId} {args : Array Value} {α : Type} {w : World} {b : Nat} {f : ByteArray} {pv : Value} {r : R α} {val : World → Value → α → Prop} {K : Ending → World → Prop}
    (hc : Calls P fn args w (EyEnds w b f pv r val))
    (hok : ∀ a v w', Hid (∀ a' st, r = .ok (a', st) → a' = a) → val w' v a → Hid (EyS w' b f pv (stateOf r)) → w.grownBy w' (some b) → K (.returned v) w') : Calls P fn args w K :=
  hc.mono fun e w' he => by
    obtain ⟨hg, v, a, rfl, hv, ha, hs⟩ := he
    exact hok a v w' ha hv hs hg
theorem EyEnds.ok {α : Type} {w : World} {b : Nat} {f : ByteArray} {pv : Value} {r : R α} {val : World → Value → α → Prop} {v : Value} {w' : World} (a : α) {st : St}
    (hr : r = .ok (a, st)) (hg : w.grownBy w' (some b)) (hv : val w' v a) (h : EyS w' b f pv (.ok st)) : EyEnds w b f pv r val (.returned v) w' := by
  subst hr
  exact ⟨hg, v, a, rfl, hv, fun a' st' e => by cases e; rfl, h⟩
theorem EyEnds.err {α : Type} {w : World} {b : Nat} {f : ByteArray} {pv : Value} {r : R α} {val : World → Value → α → Prop} {v : Value} {w' : World} (a : α) {er : Er}
    (hr : r = .error er) (hg : w.grownBy w' (some b)) (hv : val w' v a) (h : EyS w' b f pv (.error er)) : EyEnds w b f pv r val (.returned v) w' := by
  subst hr
  exact ⟨hg, v, a, rfl, hv, (fun a' st' e => by cases e), h⟩

def failS (s : Except Er St) (er : Er) : Except Er St := match s with | .ok _ => .error er | .error er' => .error er'
theorem Ey.cells0 {w : World} {b : Nat} {f : ByteArray} {pv : Value} {a : Nat} {names : List ByteArray} {t : Int} (h : Ey w b f pv a names t 0 0) : w.cell? ⟨b, 0, none⟩ = some (.string f) ∧ w.cell? ⟨b, 1, none⟩ = some (.int .i64 a) ∧ w.cell? ⟨b, 2, none⟩ = some pv ∧
    w.cell? ⟨b, 3, none⟩ = some (.int .i64 t) ∧ w.cell? ⟨b, 4, none⟩ = some (.int .i64 0) ∧ w.cell? ⟨b, 5, none⟩ = some (.int .i64 0) ∧
    w.frozen? ⟨b, 1, none⟩ = false ∧ w.frozen? ⟨b, 2, none⟩ = false ∧ w.frozen? ⟨b, 3, none⟩ = false ∧ w.frozen? ⟨b, 4, none⟩ = false ∧ w.frozen? ⟨b, 5, none⟩ = false := h.cells

set_option maxHeartbeats 400000 in
/-- an error is kept; else it is noted -/
theorem fail_any (w : World) (b : Nat) (f : ByteArray) (pv : Value) (s : Except Er St) (x y : Nat) (h : Hid (EyS w b f pv s)) (hx : x ≠ 0) :
    Calls Tryd.prog 21 #[.pointer (some ⟨b, 0, none⟩), .int .i64 x, .int .i64 y] w fun e w' => e = .returned (.tuple #[]) ∧ w.grownBy w' (some b) ∧
      EyS w' b f pv (failS s (x, y)) := by
  cases s with
  | ok st =>
    obtain ⟨h1, h2⟩ := h.out
    have HE : Hid (Ey w b f pv st.at_ st.pool (st.used - 1) 0 0) := h2
    obtain ⟨-, -, -, -, c4, c5, -, -, -, f4, f5⟩ := h2.cells0
    clear h h2
    go_enter Tryd.func21, Tryd.ntmps21
    go_wp2_with fail
    go_end0
    exact ⟨rfl, gb_tr (gb_set _ ⟨b, 4, none⟩ _) (gb_set _ ⟨b, 5, none⟩ _), hx, _, _, _, HE.out.setErr x y⟩
  | error er =>
    have HE := h
    obtain ⟨h1, a, names, t, h2⟩ := h.out
    obtain ⟨-, -, -, -, c4, -, -, -, -, -, -⟩ := h2.cells
    have h3 : ¬ (er.1 : Int) = 0 := by omega
    clear h2
    go_enter Tryd.func21, Tryd.ntmps21
    go_wp2_with fail
    go_end0
    exact ⟨rfl, gb_refl _ _, HE.out⟩

theorem mul_bytes (x c : Nat) (hx : x < 2 ^ 40) (hc : c < 256) : wrap64 (wrap64 (256 * (x : Int)) + wrap64 (c : Int)) = ((x * 256 + c : Nat) : Int) := by unfold wrap64; omega
theorem drop_take_snoc (f : ByteArray) (a k m : Nat) (hm : m = a + k) (h : m < f.size) : (f.data.toList.drop a).take (k + 1) = (f.data.toList.drop a).take k ++ [f[m]] := by
  subst hm
  have hl : k < (f.data.toList.drop a).length := by
    have : f.data.toList.length = f.size := by simp
    simp; omega
  rw [List.take_succ_eq_append_getElem hl]
  simp
  rfl

set_option maxHeartbeats 1000000 in
theorem enumber_any (w : World) (b : Nat) (f : ByteArray) (pv : Value) (s : Except Er St) (n : Nat) (h : Hid (EyS w b f pv s)) (hn : n ≤ 4) :
    Calls Tryd.prog 20 #[.pointer (some ⟨b, 0, none⟩), .int .i64 n] w (EyEnds w b f pv (bnd s (num f n)) isInt) := by
  cases s with
  | error er =>
    have HE := h
    obtain ⟨h1, a, names, t, h2⟩ := h.out
    obtain ⟨-, -, -, -, c4, -, -, -, -, -, -⟩ := h2.cells
    have h3 : ¬ (er.1 : Int) = 0 := by omega
    clear h2
    go_enter Tryd.func20, Tryd.ntmps20
    go_wp2_with fail
    go_loop [5, 6] (fun x i => x = .int .i64 0 ∧ i = .int .i64 0) (fun _ _ => 0)
    case atStart => exact ⟨rfl, rfl⟩
    case round =>
      obtain ⟨rfl, rfl⟩ := hrel
      go_wp2_with fail
      all_goals
        go_ret
        exact .err (er := er) 0 rfl (gb_refl _ _) rfl HE.out
  | ok st =>
    obtain ⟨h1, h2⟩ := h.out
    have HI : Hid (Cf.Inv f st) := h1
    have HE : Hid (Ey w b f pv st.at_ st.pool (st.used - 1) 0 0) := h2
    have hsz := h2.fits
    clear h h1 h2
    go_enter Tryd.func20, Tryd.ntmps20
    go_wp2_with fail
    go_loopw [5, 6] (fun x i wr => ∃ k : Nat, k ≤ n ∧ st.at_ + k ≤ f.size ∧ i = .int .i64 k ∧ x = .int .i64 (beL ((f.data.toList.drop st.at_).take k)) ∧ Ey wr b f pv (st.at_ + k) st.pool (st.used - 1) 0 0 ∧ w.grownBy wr (some b)) (fun _ i _ => n - (intOf i).toNat)
    case atStart => exact ⟨0, Nat.zero_le _, HI.out.at_, rfl, rfl, HE.out, gb_refl _ _⟩
    case round =>
      obtain ⟨k, hk, hat, rfl, rfl, he, hg⟩ := hrel
      obtain ⟨m, hm⟩ : ∃ m, m = st.at_ + k := ⟨_, rfl⟩
      rw [← hm] at hat he
      have HM : Hid (m = st.at_ + k) := hm
      clear hm
      have HX : Hid (beL ((f.data.toList.drop st.at_).take k) < 256 ^ k) := by
        have h1 := beL_lt ((f.data.toList.drop st.at_).take k)
        have h2 : ((f.data.toList.drop st.at_).take k).length ≤ k := by simp; omega
        exact Nat.lt_of_lt_of_le h1 (Nat.pow_le_pow_right (by omega) h2)
      obtain ⟨c0, c1, -, -, c4, -, f1, -, -, -, -⟩ := he.cells0
      have HK : Hid (Ey wr b f pv m st.pool (st.used - 1) 0 0) := he
      clear he
      by_cases hlt : k < n
      · by_cases hs : m < f.size
        · go_wp2_with fail
          go_quiet (fail)
          go_wp2_with fail
          go_quiet (fail)
          go_wp2_with fail
          refine ⟨⟨k + 1, hlt, by have := HM.out; omega, by go_num, ?_, ?_, ?_⟩, by simp [intOf]; omega⟩
          · rw [drop_take_snoc f st.at_ k m HM.out hs, beL_snoc]
            have h4 := HX.out
            have h5 : 256 ^ k ≤ 256 ^ 4 := Nat.pow_le_pow_right (by omega) (by omega)
            exact congrArg (Value.int .i64) (mul_bytes _ _ (by omega) (f[m]).toNat_lt)
          · have h7 := HM.out
            rw [show st.at_ + (k + 1) = m + 1 by omega]
            exact Ey.setAt (HK.out.keep (gb_drewN _ _ none) (by simp) (by cases hv : pv.ownBlock <;> simp)) (m + 1) (by omega)
          · exact gb_tr (gb_tr hg (gb_drewN _ _ _)) (gb_set _ ⟨b, 1, none⟩ _)
        · go_wp2_with fail
          go_quiet (fail)
          have HS : Hid (EyS (wr.drewN nq) b f pv (.ok { st with at_ := m })) := ⟨⟨HI.out.fits, hat, HI.out.used, HI.out.pool⟩, HK.out.keep (gb_drewN _ _ none) (by simp) (by cases hv : pv.ownBlock <;> simp)⟩
          go_wp2_with (go_at_call 21; refine (fail_any _ b f pv _ 2 f.size HS (by omega)).mono ?_; rintro e w4 ⟨rfl, hg4, hs4⟩)
          go_ret
          refine .err (er := (2, f.size)) 0 ?_ (gb_tr (gb_tr hg (gb_drewN _ _ _)) hg4) rfl hs4
          have h7 := HM.out
          have h8 : ¬ st.at_ + n ≤ f.size := by omega
          simp only [bnd, num, h8, if_false]
      · go_wp2_with fail
        go_ret
        have hk' : k = n := by omega
        subst hk'
        refine .ok (beL ((f.data.toList.drop st.at_).take k)) (st := { st with at_ := m }) ?_ hg rfl ⟨⟨HI.out.fits, hat, HI.out.used, HI.out.pool⟩, HK.out⟩
        rw [HM.out] at hat ⊢
        simp only [bnd, num, hat, if_true]
end Go.Proofs.YtdhophglnhcjbaaDoor

namespace Go.Proofs.YtdhophglnhcjbaaDoor
open Go.RowKit Cf

/-- a step behind a step, from whatever was seen -/
def then_ {α β : Type} (r : R α) (m : α → St → R β) : R β := match r with | .ok (a, st) => m a st | .error er => .error er
theorem bnd_then {α β : Type} (s : Except Er St) (p : St → R α) (m : α → St → R β) : bnd s (fun st => then_ (p st) m) = then_ (bnd s p) m := by cases s <;> rfl
theorem name_then (f : ByteArray) : name f = fun st => then_ (num f 1 st) (fun n st1 => if n ≤ st1.used ∧ n < st1.pool.length then .ok (st1.pool.getD n ByteArray.empty, { st1 with used := max st1.used (n + 1) }) else .error (5, st1.at_ - 1)) := by
  funext st
  unfold name then_
  cases h : num f 1 st with
  | error er => rfl
  | ok p =>
    obtain ⟨n, st1⟩ := p
    obtain ⟨rfl, -⟩ := num_lt h
    simp

theorem EyS.err {w : World} {b : Nat} {f : ByteArray} {pv : Value} {er : Er} (h : EyS w b f pv (.error er)) : w.cell? ⟨b, 4, none⟩ = some (.int .i64 er.1) ∧ ¬ (er.1 : Int) = 0 := by
  obtain ⟨h1, a, names, t, h2⟩ := h
  exact ⟨h2.cells.2.2.2.2.1, by omega⟩
theorem EyS.errAt {w : World} {b : Nat} {f : ByteArray} {pv : Value} {er : Er} (h : EyS w b f pv (.error er)) : ∃ a : Nat, w.cell? ⟨b, 1, none⟩ = some (.int .i64 a) ∧ a ≤ 2048 := by
  obtain ⟨h1, a, names, t, h2⟩ := h
  exact ⟨a, h2.cells.2.1, Nat.le_trans h2.at_ h2.fits⟩
set_option maxHeartbeats 400000 in
/-- behind an error nothing is noted any more -/
theorem failErr_any (w : World) (b : Nat) (f : ByteArray) (pv : Value) (er : Er) (x y : Int) (h : Hid (EyS w b f pv (.error er))) :
    Calls Tryd.prog 21 #[.pointer (some ⟨b, 0, none⟩), .int .i64 x, .int .i64 y] w fun e w' => e = .returned (.tuple #[]) ∧ w = w' := by
  obtain ⟨c4, h3⟩ := h.out.err
  go_enter Tryd.func21, Tryd.ntmps21
  go_wp2_with fail
  go_end0
  exact ⟨rfl, rfl⟩
theorem num_at {f : ByteArray} {k n : Nat} {st st1 : St} (h : num f k st = .ok (n, st1)) : k ≤ st1.at_ := by rw [(num_lt h).1]; simp
theorem bnd_num_ok {f : ByteArray} {k n : Nat} {s : Except Er St} {st1 : St} (h : bnd s (num f k) = .ok (n, st1)) : n < 256 ^ k ∧ k ≤ st1.at_ := by
  cases s with
  | error er => cases h
  | ok st => exact ⟨(num_lt h).2, num_at h⟩

theorem ename_end {w : World} {b : Nat} {f : ByteArray} {pv : Value} {st : St} {n : Nat} {x : Int} (hI : Cf.Inv f st) (hE : Ey w b f pv st.at_ st.pool (st.used - 1) 0 0) (hlt : n < st.pool.length) (hx : n = x ∧ st.used ≤ n) :
    EyS (w.setCell ⟨b, 3, none⟩ (.int .i64 x)) b f pv (.ok { st with used := max st.used (n + 1) }) := by
  obtain ⟨rfl, hx⟩ := hx
  have := hI.pool
  have h1 := hE.setTop n (by omega) (by omega)
  refine ⟨⟨hI.fits, hI.at_, by simp; omega, hI.pool⟩, ?_⟩
  have h2 : ((max st.used (n + 1) : Nat) : Int) - 1 = n := by omega
  show Ey _ b f pv st.at_ st.pool (((max st.used (n + 1) : Nat) : Int) - 1) 0 0
  rw [h2]
  exact h1

set_option maxHeartbeats 1000000 in
theorem ename_any (w : World) (b : Nat) (f : ByteArray) (pv : Value) (s : Except Er St) (h : Hid (EyS w b f pv s)) :
    Calls Tryd.prog 23 #[.pointer (some ⟨b, 0, none⟩)] w (EyEnds w b f pv (bnd s (name f)) isStr) := by
  rw [name_then, bnd_then]
  go_enter Tryd.func23, Tryd.ntmps23
  go_wp2_with (go_at_call 20; refine EyEnds.bind (enumber_any w b f pv s 1 h (by omega)) ?_)
  rintro n v w1 H1 rfl hs1 hg1
  try dsimp only
  rcases hr : bnd s (num f 1) with er | ⟨n', st1⟩
  all_goals
    rw [hr] at H1 hs1
    have HR : Hid (bnd s (num f 1) = _) := hr
    clear hr
  · 
    obtain ⟨c4, ne4⟩ := hs1.out.err
    go_wp2_with fail
    go_ret
    exact .err (er := er) ByteArray.empty (by rw [HR.out]; rfl) hg1 rfl hs1.out
  · have hn : n' = n := H1.out n' st1 rfl
    subst hn
    obtain ⟨hI, hE⟩ := hs1.out
    have HI : Hid (Cf.Inv f st1) := hI
    have HE : Hid (Ey w1 b f pv st1.at_ st1.pool (st1.used - 1) 0 0) := hE
    obtain ⟨-, c1, c2, c3, c4, -, -, -, f3, -, -⟩ := hE.cells0
    have hu := hI.used
    have hp := hI.pool
    have HC := bnd_num_ok HR.out
    have hn256 := HC.1
    clear hs1 H1 hI hE
    have HG : Hid (w1.ownsRow (b + 1) 9 1 pv st1.pool.length (st1.pool.map Value.string)) := HE.out.own
    have hfail : ∀ (c : ¬ (n' ≤ st1.used ∧ n' < st1.pool.length)), then_ (.ok (n', st1)) (fun n st1 => if n ≤ st1.used ∧ n < st1.pool.length then .ok (st1.pool.getD n ByteArray.empty, { st1 with used := max st1.used (n + 1) }) else .error (5, st1.at_ - 1)) = (.error (5, st1.at_ - 1) : R ByteArray) := fun c => by simp only [then_]; rw [if_neg c]
    have HF : Hid _ := hfail
    clear hfail
    have HW : Hid (wrap64 ((st1.at_ : Int) - 1) = ((st1.at_ - 1 : Nat) : Int)) := by
      have := HC.2
      have := HI.out.at_
      have := HI.out.fits
      unfold Hid wrap64
      omega
    have hsf : Hid (EyS w1 b f pv (.ok st1)) := ⟨HI.out, HE.out⟩
    rcases own_strs HG.out with ⟨rfl, hnil⟩ | ⟨g, cap, rfl, hbg, hcell⟩
    · have hlen0 : st1.pool.length = 0 := by rw [hnil]; rfl
      have hu0 : st1.used = 0 := by omega
      by_cases hle : n' ≤ st1.used
      all_goals
        go_wp2_with fail
        rw [HW.out]
        refine (fail_any w1 b f _ _ 5 (st1.at_ - 1) hsf (by omega)).mono ?_
        rintro e w4 ⟨rfl, hg4, hs4⟩
        go_wp2_with fail
        go_ret
        exact .err (er := (5, st1.at_ - 1)) ByteArray.empty (by rw [HR.out]; exact HF.out (by omega)) (gb_tr hg1 hg4) rfl hs4
    · by_cases hle : n' ≤ st1.used
      · by_cases hlt : n' < st1.pool.length
        · have hc := hcell n' hlt
          clear hcell
          go_wp2_with fail
          · go_ret
            exact .ok st1.pool[n'] (st := { st1 with used := max st1.used (n' + 1) }) (by rw [HR.out]; simp [then_, hle, hlt]) (gb_tr hg1 (gb_set _ ⟨b, 3, none⟩ _)) rfl (ename_end HI.out HE.out hlt (by omega))
          · go_ret
            have hmx : max st1.used (n' + 1) = st1.used := by omega
            exact .ok st1.pool[n'] (st := { st1 with used := max st1.used (n' + 1) }) (by rw [HR.out]; simp [then_, hle, hlt]) hg1 rfl (by rw [hmx]; exact ⟨HI.out, HE.out⟩)
        · clear hcell
          go_wp2_with fail
          rw [HW.out]
          refine (fail_any w1 b f _ _ 5 (st1.at_ - 1) hsf (by omega)).mono ?_
          rintro e w4 ⟨rfl, hg4, hs4⟩
          go_wp2_with fail
          go_ret
          exact .err (er := (5, st1.at_ - 1)) ByteArray.empty (by rw [HR.out]; exact HF.out (by omega)) (gb_tr hg1 hg4) rfl hs4
      · clear hcell
        go_wp2_with fail
        rw [HW.out]
        refine (fail_any w1 b f _ _ 5 (st1.at_ - 1) hsf (by omega)).mono ?_
        rintro e w4 ⟨rfl, hg4, hs4⟩
        go_wp2_with fail
        go_ret
        exact .err (er := (5, st1.at_ - 1)) ByteArray.empty (by rw [HR.out]; exact HF.out (by omega)) (gb_tr hg1 hg4) rfl hs4
end Go.Proofs.YtdhophglnhcjbaaDoor

namespace Go.Proofs.YtdhophglnhcjbaaDoor
open Go.RowKit Cf

theorem kind_then (f : ByteArray) : kind f = fun st => then_ (num f 1 st) (fun k st1 => if 4 < k then .error (3, st1.at_ - 1) else then_ (nameIf f (hasName k) st1) (fun n st2 => .ok (⟨k, n⟩, st2))) := by
  funext st
  unfold kind then_
  cases h : num f 1 st with
  | error er => rfl
  | ok p =>
    obtain ⟨n, st1⟩ := p
    obtain ⟨rfl, -⟩ := num_lt h
    simp only [Nat.add_sub_cancel]
    split
    · rfl
    · cases nameIf f (hasName n) { st with at_ := st.at_ + 1 } <;> rfl

theorem kind_ret (W : World) (t : Array Value) (G : Nat) (x y : Value) (T : TypeId) (ht : t.getD 2 undef = .pointer (some ⟨G, 0, none⟩)) (h : Blk W G #[x, y] T) : (results Tryd.f24 t).run Tryd.prog W = .ok (.agg #[x, y]) W := by
  have h0 := h.cell 0 x rfl
  have h1 := h.cell 1 y rfl
  rw [Array.getD_eq_getD_getElem?] at ht
  simp [results, Tryd.results24, go_sem, ht, h0, h1]

set_option maxHeartbeats 1000000 in
theorem ekind_any (w : World) (b : Nat) (f : ByteArray) (pv : Value) (s : Except Er St) (h : Hid (EyS w b f pv s)) :
    Calls Tryd.prog 24 #[.pointer (some ⟨b, 0, none⟩)] w (EyEnds w b f pv (bnd s (kind f)) isTy) := by
  rw [kind_then, bnd_then]
  have hbl : b < w.heap.size := h.out.lt
  have hpl : pv.ownBlock ≠ some w.heap.size := h.out.poolLt (Nat.le_refl _)
  go_enter Tryd.func24, Tryd.ntmps24
  go_wp2_with (go_at_call 20; refine EyEnds.bind (enumber_any _ b f pv s 1 (h.out.keep0 (gb_alloc _ _ _)) (by omega)) ?_)
  rintro n v w1 H1 rfl hs1 hg1
  try dsimp only
  have hG1 := (Blk.new w _ _).keep hg1 (by simp; omega)
  have hlt1 : w.heap.size < w1.heap.size := hG1.lt
  obtain ⟨w2, hw2⟩ : ∃ w2, w2 = w1.alloc (.cells #[.int .i64 n, .string ⟨#[]⟩] 41) := ⟨_, rfl⟩
  have hg2 : w1.grownBy w2 none := by rw [hw2]; exact gb_alloc _ _ _
  have hT2 : Hid (Blk w2 w1.heap.size #[.int .i64 n, .string ⟨#[]⟩] 41) := by rw [hw2]; exact Blk.new _ _ _
  have hG2 := hG1.keep hg2 (by simp)
  have hs2 : Hid (EyS w2 b f pv (stateOf (bnd s (num f 1)))) := hs1.out.keep0 hg2
  have hga : Hid (w.grownBy w2 (some b)) := gb_tn (gb_tr (gb_alloc _ _ _) hg1) hg2
  have hg01 : Hid (w.grownBy w1 (some b)) := gb_tr (gb_alloc _ _ _) hg1
  have hb1 : b < w1.heap.size := by omega
  have hq1 : ¬ w1.heap.size = w.heap.size := by omega
  have hq2 : ¬ w.heap.size = w1.heap.size := by omega
  have hpl1 : pv.ownBlock ≠ some w1.heap.size := hs1.out.poolLt (Nat.le_refl _)
  have g0 := hG1.cell 0 (.int .i64 0) rfl
  have g1 := hG1.cell 1 (.string ⟨#[]⟩) rfl
  have z0 := hG1.frozen 0
  have z1 := hG1.frozen 1
  have hGH : Hid (Blk w2 w.heap.size _ _) := hG2
  have HG1 : Hid (Blk w1 w.heap.size #[.int .i64 0, .string ⟨#[]⟩] 41) := hG1
  rcases hr : bnd s (num f 1) with er | ⟨n', st1⟩
  all_goals
    rw [hr] at H1 hs2 hs1
    have HR : Hid (bnd s (num f 1) = _) := hr
    clear hr hG1 hG2 hg2
  · obtain ⟨c4, ne4⟩ := hs1.out.err
    obtain ⟨a, c1, ha⟩ := hs1.out.errAt
    subst hw2
    go_wp2_with (go_at_call 21; refine (failErr_any _ b f pv er _ _ hs2).mono ?_; rintro e w4 ⟨rfl, rfl⟩)
    all_goals
      refine bodyPost_ret (v := .agg #[.int .i64 n, .string ⟨#[]⟩]) (kind_ret _ _ w.heap.size (.int .i64 n) (.string ⟨#[]⟩) _ rfl (((HG1.out.set 0 _).set 1 _).keep (gb_alloc _ _ none) (by simp))) rfl ?_
      exact .err (er := er) ⟨n, ⟨#[]⟩⟩ (by rw [HR.out]; rfl) (gb_tr (gb_new2 hg01.out (Nat.le_refl _)) (gb_alloc _ _ _)) rfl (((hs1.out.keep (gb_set _ ⟨w.heap.size, 0, none⟩ _) (by simp; omega) (.inr hpl)).keep (gb_set _ ⟨w.heap.size, 1, none⟩ _) (by simp; omega) (.inr hpl)).keep0 (gb_alloc _ _ _))
  · have hn : n' = n := H1.out n' st1 rfl
    subst hn
    have HC := bnd_num_ok HR.out
    have hn256 := HC.1
    obtain ⟨hI, hE⟩ := hs1.out
    have HI : Hid (Cf.Inv f st1) := hI
    obtain ⟨-, c1, -, -, c4, -, -, -, -, -, -⟩ := hE.cells0
    clear hE hI H1
    have HW : Hid (wrap64 ((st1.at_ : Int) - 1) = ((st1.at_ - 1 : Nat) : Int)) := by
      have := HC.2
      have := HI.out.at_
      have := HI.out.fits
      unfold Hid wrap64
      omega
    subst hw2
    by_cases h4 : 4 < n'
    · go_wp2_with fail
      rw [HW.out]
      refine (fail_any _ b f _ _ 3 (st1.at_ - 1) hs2 (by omega)).mono ?_
      rintro e w4 ⟨rfl, hg4, hs4⟩
      obtain ⟨c4', ne4'⟩ := (show EyS w4 b f pv (.error (3, st1.at_ - 1)) from hs4).err
      have hG4 := hGH.out.keep hg4 (by simp; omega)
      have hT4 := hT2.out.keep hg4 (by simp; omega)
      have g0 := hG4.cell 0 (.int .i64 0) rfl
      have g1 := hG4.cell 1 (.string ⟨#[]⟩) rfl
      have z0 := hG4.frozen 0
      have z1 := hG4.frozen 1
      have t0 := hT4.cell 0 (.int .i64 n') rfl
      have t1 := hT4.cell 1 (.string ⟨#[]⟩) rfl
      have hg5 := gb_tr hga.out hg4
      clear hG4 hT4 hg4
      go_wp2_with fail
      refine bodyPost_ret (v := .agg #[.int .i64 n', .string ⟨#[]⟩]) (by simp [results, Tryd.results24, go_sem, g0, g1]) rfl ?_
      exact .err (er := (3, st1.at_ - 1)) ⟨n', ⟨#[]⟩⟩ (by rw [HR.out]; simp [then_, h4]) (gb_new2 hg5 (Nat.le_refl _)) rfl ((hs4.keep (gb_set _ ⟨w.heap.size, 0, none⟩ _) (by simp; omega) (.inr hpl)).keep (gb_set _ ⟨w.heap.size, 1, none⟩ _) (by simp; omega) (.inr hpl))
    · by_cases hh : n' = 2 ∨ n' = 4
      · have HN : Hid (hasName n' = true) := by unfold Hid hasName; simp; omega
        rcases hh with rfl | rfl
        all_goals
          go_wp2_with (go_at_call 23; refine EyEnds.bind (ename_any _ b f pv _ hs2) ?_)
          rintro nm v w4 H4 rfl hs4 hg4
          try dsimp only
          have hG4 := hGH.out.keep hg4 (by simp; omega)
          have hT4 := hT2.out.keep hg4 (by simp; omega)
          have g0 := hG4.cell 0 (.int .i64 0) rfl
          have g1 := hG4.cell 1 (.string ⟨#[]⟩) rfl
          have z0 := hG4.frozen 0
          have z1 := hG4.frozen 1
          have t0 := hT4.cell 0 _ rfl
          have t1 := hT4.cell 1 (.string ⟨#[]⟩) rfl
          have y1 := hT4.frozen 1
          have hg5 : Hid (w.grownBy w4 (some b)) := gb_tr hga.out hg4
          have hne : ¬ w1.heap.size = w.heap.size := by omega
          have hne' : ¬ w.heap.size = w1.heap.size := by omega
          clear hG4 hT4 hg4
          go_wp2_with fail
          refine bodyPost_ret (v := .agg #[.int .i64 _, .string nm]) (by simp [results, Tryd.results24, go_sem, g0, g1]; rfl) rfl ?_
          have hb4 : b ≠ w1.heap.size := by omega
          have hfr : ∀ x y z, Hid (EyS ((((w4.setCell ⟨w1.heap.size, 1, none⟩ z).setCell ⟨w.heap.size, 0, none⟩ x).setCell ⟨w.heap.size, 1, none⟩ y)) b f pv (stateOf (name f st1))) := fun x y z =>
            ((hs4.out.keep (gb_set _ ⟨w1.heap.size, 1, none⟩ _) (by simp; omega) (.inr hpl1)).keep (gb_set _ ⟨w.heap.size, 0, none⟩ _) (by simp; omega) (.inr hpl)).keep (gb_set _ ⟨w.heap.size, 1, none⟩ _) (by simp; omega) (.inr hpl)
          have hgf : ∀ x y z, w.grownBy (((w4.setCell ⟨w1.heap.size, 1, none⟩ z).setCell ⟨w.heap.size, 0, none⟩ x).setCell ⟨w.heap.size, 1, none⟩ y) (some b) := fun x y z => gb_new2 (gb_newSet hg5.out (by omega) 1 z) (Nat.le_refl _)
          rcases hr2 : name f st1 with er | ⟨nm', st2⟩
          · have hfr2 := fun x y z => (hfr x y z).out
            rw [hr2] at hfr2
            exact .err (er := er) ⟨_, nm⟩ (by rw [HR.out]; simp [then_, nameIf, HN.out, hr2]) (hgf _ _ _) rfl (hfr2 _ _ _)
          · have hfr2 := fun x y z => (hfr x y z).out
            rw [hr2] at hfr2
            have hnm : nm' = nm := H4.out nm' st2 hr2
            subst hnm
            exact .ok ⟨_, nm'⟩ (st := st2) (by rw [HR.out]; simp [then_, nameIf, HN.out, hr2]) (hgf _ _ _) rfl (hfr2 _ _ _)
      · have HN : Hid (hasName n' = false) := by unfold Hid hasName; simp; omega
        have k2 : ((n' : Int) == 2) = false := by simp; omega
        have k4 : ((n' : Int) == 4) = false := by simp; omega
        go_wp2_with fail
        refine bodyPost_ret (v := .agg #[.int .i64 n', .string ⟨#[]⟩]) (kind_ret _ _ w.heap.size (.int .i64 n') (.string ⟨#[]⟩) _ rfl (((HG1.out.set 0 _).set 1 _).keep (gb_alloc _ _ none) (by simp))) rfl ?_
        exact .ok ⟨n', ⟨#[]⟩⟩ (st := st1) (by rw [HR.out]; simp [then_, h4, nameIf, HN.out]; rfl) (gb_tr (gb_new2 hg01.out (Nat.le_refl _)) (gb_alloc _ _ _)) rfl (((hs1.out.keep (gb_set _ ⟨w.heap.size, 0, none⟩ _) (by simp; omega) (.inr hpl)).keep (gb_set _ ⟨w.heap.size, 1, none⟩ _) (by simp; omega) (.inr hpl)).keep0 (gb_alloc _ _ _))
end Go.Proofs.YtdhophglnhcjbaaDoor

namespace Go.Proofs.YtdhophglnhcjbaaDoor
open Go.RowKit Cf

/-- the operands of an Op, as letters -/
def lets (op : Nat) : List UInt8 :=
  if op = 0 then [108] else if op = 2 ∨ op = 3 then [98] else if 12 ≤ op ∧ op ≤ 15 then [115] else if op = 16 ∨ op = 22 ∨ op = 28 ∨ op = 29 then [99] else if 17 ≤ op ∧ op ≤ 19 then [99, 109] else []
def letStr (op : Nat) : ByteArray := ⟨(lets op).toArray⟩

theorem lets_len (op : Nat) : (lets op).length ≤ 2 := by
  unfold lets
  repeat' split
  all_goals simp
theorem lets_in (op : Nat) : ∀ c ∈ lets op, c = 98 ∨ c = 115 ∨ c = 108 ∨ c = 99 ∨ c = 109 := by
  intro c hc
  unfold lets at hc
  repeat' split at hc
  all_goals simp at hc
  all_goals first | (subst hc; simp) | (rcases hc with rfl | rfl <;> simp)

set_option maxHeartbeats 1000000 in
theorem operands_any (op : Nat) (w : World) :
    Calls Tryd.prog 41 #[.int .i64 op] w fun e w' => e = .returned (.string (letStr op)) ∧ w = w' := by
  go_enter Tryd.func41, Tryd.ntmps41
  go_wp2_with fail
  all_goals
    go_ret
    refine ⟨congrArg (fun x => Ending.returned (.string x)) ?_, rfl⟩
    simp only [letStr, lets]
    repeat' split
    all_goals first | rfl | (exfalso; simp at *; omega)

/-- what one letter asks for -/
def oper1 (f : ByteArray) (c : UInt8) (x : In) (st : St) : R In :=
  if c = 98 then then_ (num f 1 st) (fun n st1 => .ok ({ x with a := n }, st1))
  else if c = 115 then then_ (num f 2 st) (fun n st1 => .ok ({ x with a := n }, st1))
  else if c = 108 then then_ (num f 4 st) (fun n st1 => .ok ({ x with a := signed 4 n }, st1))
  else if c = 99 then then_ (name f st) (fun n st1 => .ok ({ x with cls := n }, st1))
  else then_ (name f st) (fun n st1 => .ok ({ x with mem := n }, st1))
def opers (f : ByteArray) : List UInt8 → In → St → R In
  | [], x, st => .ok (x, st)
  | c :: l, x, st => then_ (oper1 f c x st) (opers f l)

theorem num0 (f : ByteArray) (st : St) (h : st.at_ ≤ f.size) : num f 0 st = .ok (0, st) := by
  simp [num, h, beL]

theorem ins_then (f : ByteArray) (st : St) (_hI : st.at_ ≤ f.size) : ins f st = then_ (num f 1 st) (fun op st1 => if 32 ≤ op then .error (3, st1.at_ - 1) else opers f (lets op) ⟨op, 0, ByteArray.empty, ByteArray.empty⟩ st1) := by
  unfold ins then_
  cases h : num f 1 st with
  | error er => rfl
  | ok p =>
    obtain ⟨op, st1⟩ := p
    have hat : st1.at_ ≤ f.size := by
      rw [num] at h
      split at h
      · cases h; assumption
      · cases h
    have h1 : st1.at_ - 1 = st.at_ := by rw [(num_lt h).1]; simp
    simp only [h1]
    split
    · rfl
    · rename_i h32
      have hc : op = 0 ∨ op = 1 ∨ op = 2 ∨ op = 3 ∨ op = 4 ∨ op = 5 ∨ op = 6 ∨ op = 7 ∨ op = 8 ∨ op = 9 ∨ op = 10 ∨ op = 11 ∨ op = 12 ∨ op = 13 ∨ op = 14 ∨ op = 15 ∨ op = 16 ∨ op = 17 ∨ op = 18 ∨ op = 19 ∨ op = 20 ∨ op = 21 ∨ op = 22 ∨ op = 23 ∨ op = 24 ∨ op = 25 ∨ op = 26 ∨ op = 27 ∨ op = 28 ∨ op = 29 ∨ op = 30 ∨ op = 31 := by omega
      have n0 := num0 f st1 hat
      rcases hc with rfl | rfl | rfl | rfl | rfl | rfl | rfl | rfl | rfl | rfl | rfl | rfl | rfl | rfl | rfl | rfl | rfl | rfl | rfl | rfl | rfl | rfl | rfl | rfl | rfl | rfl | rfl | rfl | rfl | rfl | rfl | rfl
      all_goals simp [width, wantsC, wantsM, lets, opers, oper1, n0, nameIf, signed, then_]
      all_goals first
        | (cases num f 4 st1 <;> rfl)
        | (cases num f 1 st1 <;> rfl)
        | (cases num f 2 st1 <;> rfl)
        | (cases name f st1 <;> rfl)
        | (rcases name f st1 with _ | ⟨c, st3⟩; rfl; dsimp only; cases name f st3 <;> rfl)

theorem bnd_ins {f : ByteArray} {s : Except Er St} (hI : ∀ st, s = .ok st → st.at_ ≤ f.size) : bnd s (ins f) = then_ (bnd s (num f 1)) (fun op st1 => if 32 ≤ op then .error (3, st1.at_ - 1) else opers f (lets op) ⟨op, 0, ByteArray.empty, ByteArray.empty⟩ st1) := by
  cases s with
  | error er => rfl
  | ok st => exact ins_then f st (hI st rfl)
theorem EyS.inv {w : World} {b : Nat} {f : ByteArray} {pv : Value} {s : Except Er St} (h : EyS w b f pv s) : ∀ st, s = .ok st → st.at_ ≤ f.size := by
  intro st e
  subst e
  exact h.1.at_
theorem ins_ret (W : World) (t : Array Value) (G : Nat) (x y z u : Value) (T : TypeId) (ht : t.getD 2 undef = .pointer (some ⟨G, 0, none⟩)) (h : Blk W G #[x, y, z, u] T) : (results Tryd.f34 t).run Tryd.prog W = .ok (.agg #[x, y, z, u]) W := by
  have h0 := h.cell 0 x rfl
  have h1 := h.cell 1 y rfl
  have h2 := h.cell 2 z rfl
  have h3 := h.cell 3 u rfl
  rw [Array.getD_eq_getD_getElem?] at ht
  simp [results, Tryd.results34, go_sem, ht, h0, h1, h2, h3]

/-- how far the reading of an instruction's operands has come -/
def Tot (f : ByteArray) (r : R Nat) (n k : Nat) (x : In) (s2 : Except Er St) : Prop :=
  match s2 with
  | .ok st2 => then_ r (fun op st1 => if 32 ≤ op then .error (3, st1.at_ - 1) else opers f (lets op) ⟨op, 0, ByteArray.empty, ByteArray.empty⟩ st1) = opers f ((lets n).drop k) x st2
  | .error er => then_ r (fun op st1 => if 32 ≤ op then .error (3, st1.at_ - 1) else opers f (lets op) ⟨op, 0, ByteArray.empty, ByteArray.empty⟩ st1) = .error er
theorem Tot.start {f : ByteArray} {r : R Nat} {n : Nat} (h : ∀ a' st, r = .ok (a', st) → a' = n) (h32 : ¬ 32 ≤ n) : Tot f r n 0 ⟨n, 0, ⟨#[]⟩, ⟨#[]⟩⟩ (stateOf r) := by
  cases r with
  | error er => rfl
  | ok p =>
    obtain ⟨a, st⟩ := p
    have := h a st rfl
    subst this
    simp only [Tot, stateOf, then_, h32, if_false, List.drop_zero]
    rfl
theorem Tot.done {f : ByteArray} {r : R Nat} {n k : Nat} {x : In} {st2 : St} (h : Tot f r n k x (.ok st2)) (hk : k = (lets n).length) (hx : x.op = n) :
    then_ r (fun op st1 => if 32 ≤ op then .error (3, st1.at_ - 1) else opers f (lets op) ⟨op, 0, ByteArray.empty, ByteArray.empty⟩ st1) = .ok (⟨n, x.a, x.cls, x.mem⟩, st2) := by
  have h' : _ = opers f ((lets n).drop k) x st2 := h
  rw [h', hk, List.drop_length, opers, ← hx]
def OperIs (f : ByteArray) (c : UInt8) (x : In) (st : St) (y : In) (s3 : Except Er St) : Prop := match s3 with | .ok st3 => oper1 f c x st = .ok (y, st3) | .error er => oper1 f c x st = .error er
theorem opers_step {f : ByteArray} {r : R Nat} {n k : Nat} {x y : In} {st2 : St} {s3 : Except Er St} {L : ByteArray} {c : UInt8} (hL : Hid (L.data.toList = lets n)) (hlt : k < L.size) (hc : L.data[k] = c) (h : Tot f r n k x (.ok st2))
    (ho : OperIs f c x st2 y s3) : Tot f r n (k + 1) y s3 := by
  have h' : _ = opers f ((lets n).drop k) x st2 := h
  have hk : k < (lets n).length := by rw [← hL.out]; simpa using hlt
  have hd : (lets n).drop k = c :: (lets n).drop (k + 1) := by
    rw [List.drop_eq_getElem_cons hk, ← hc]
    congr 1
    have : ∀ (l : List UInt8) (e : L.data.toList = l) (hk : k < l.length), l[k] = L.data[k] := by intro l e hk; subst e; simp
    exact this _ hL.out hk
  rw [hd] at h'
  cases s3 with
  | ok st3 => simp only [Tot]; rw [h', opers]; simp only [OperIs] at ho; rw [ho]; rfl
  | error er => simp only [Tot]; rw [h', opers]; simp only [OperIs] at ho; rw [ho]; rfl
section
variable {f : ByteArray} {x : In} {st : St}
theorem oper_98 {m : Nat} (h : ∀ a' st', bnd (.ok st) (num f 1) = .ok (a', st') → a' = m) : OperIs f 98 x st { x with a := m } (stateOf (num f 1 st)) := by
  rcases h1 : num f 1 st with er | ⟨a, s3⟩
  · simp [OperIs, stateOf, oper1, then_, h1]
  · have := h a s3 h1
    subst this
    simp [OperIs, stateOf, oper1, then_, h1]
theorem oper_115 {m : Nat} (h : ∀ a' st', bnd (.ok st) (num f 2) = .ok (a', st') → a' = m) : OperIs f 115 x st { x with a := m } (stateOf (num f 2 st)) := by
  rcases h1 : num f 2 st with er | ⟨a, s3⟩
  · simp [OperIs, stateOf, oper1, then_, h1]
  · have := h a s3 h1
    subst this
    simp [OperIs, stateOf, oper1, then_, h1]
theorem oper_108 {m : Nat} {z : Int} (h : ∀ a' st', bnd (.ok st) (num f 4) = .ok (a', st') → a' = m) (hz : m < 256 ^ 4 → z = signed 4 m) : OperIs f 108 x st { x with a := z } (stateOf (num f 4 st)) := by
  rcases h1 : num f 4 st with er | ⟨a, s3⟩
  · simp [OperIs, stateOf, oper1, then_, h1]
  · have := h a s3 h1
    subst this
    simp [OperIs, stateOf, oper1, then_, h1, hz (num_lt h1).2]
theorem oper_99 {m : ByteArray} (h : ∀ a' st', bnd (.ok st) (name f) = .ok (a', st') → a' = m) : OperIs f 99 x st { x with cls := m } (stateOf (name f st)) := by
  rcases h1 : name f st with er | ⟨a, s3⟩
  · simp [OperIs, stateOf, oper1, then_, h1]
  · have := h a s3 h1
    subst this
    simp [OperIs, stateOf, oper1, then_, h1]
theorem oper_109 {m : ByteArray} (h : ∀ a' st', bnd (.ok st) (name f) = .ok (a', st') → a' = m) : OperIs f 109 x st { x with mem := m } (stateOf (name f st)) := by
  rcases h1 : name f st with er | ⟨a, s3⟩
  · simp [OperIs, stateOf, oper1, then_, h1]
  · have := h a s3 h1
    subst this
    simp [OperIs, stateOf, oper1, then_, h1]
end

end Go.Proofs.YtdhophglnhcjbaaDoor

namespace Go.Proofs.YtdhophglnhcjbaaDoor
open Go.RowKit Cf

theorem sign_big {m : Nat} (h : (2147483648 : Int) ≤ m) (hm : m < 256 ^ 4) : wrap64 ((m : Int) - 4294967296) = signed 4 m := by
  have h1 : 2147483648 ≤ m := by omega
  unfold wrap64 signed
  rw [if_pos ⟨rfl, h1⟩]
  omega
theorem sign_small {m : Nat} (h : ¬ (2147483648 : Int) ≤ m) (_ : m < 256 ^ 4) : (m : Int) = signed 4 m := by
  have h1 : ¬ 2147483648 ≤ m := by omega
  unfold signed
  rw [if_neg (fun hh => h1 hh.2)]

set_option maxRecDepth 100000 in
set_option maxHeartbeats 12000000 in
theorem eins_any (w : World) (b : Nat) (f : ByteArray) (pv : Value) (s : Except Er St) (h : Hid (EyS w b f pv s)) :
    Calls Tryd.prog 34 #[.pointer (some ⟨b, 0, none⟩)] w (EyEnds w b f pv (bnd s (ins f)) isIn) := by
  rw [bnd_ins h.out.inv]
  have hbl : b < w.heap.size := h.out.lt
  have hpl : pv.ownBlock ≠ some w.heap.size := h.out.poolLt (Nat.le_refl _)
  go_enter Tryd.func34, Tryd.ntmps34
  go_wp2_with (go_at_call 20; refine EyEnds.bind (enumber_any _ b f pv s 1 (h.out.keep0 (gb_alloc _ _ _)) (by omega)) ?_)
  rintro n v w1 H1 rfl hs1 hg1
  try dsimp only
  have hG1 := (Blk.new w _ _).keep hg1 (by simp; omega)
  have HG1 : Hid (Blk w1 w.heap.size #[.int .i64 0, .int .i64 0, .string ⟨#[]⟩, .string ⟨#[]⟩] 50) := hG1
  have hlt1 : w.heap.size < w1.heap.size := hG1.lt
  have hg01 : Hid (w.grownBy w1 (some b)) := gb_tr (gb_alloc _ _ _) hg1
  have hb1 : b < w1.heap.size := by omega
  have hpl1 : pv.ownBlock ≠ some w1.heap.size := hs1.out.poolLt (Nat.le_refl _)
  clear hG1
  have g0 := HG1.out.cell 0 (.int .i64 0) rfl
  have g1 := HG1.out.cell 1 (.int .i64 0) rfl
  have g2 := HG1.out.cell 2 (.string ⟨#[]⟩) rfl
  have g3 := HG1.out.cell 3 (.string ⟨#[]⟩) rfl
  have z0 := HG1.out.frozen 0
  have z1 := HG1.out.frozen 1
  have z2 := HG1.out.frozen 2
  have z3 := HG1.out.frozen 3
  by_cases h32 : 32 ≤ n
  · rcases hr : bnd s (num f 1) with er | ⟨n', st1⟩
    all_goals
      rw [hr] at H1 hs1
      have HR : Hid (bnd s (num f 1) = _) := hr
      clear hr
    · obtain ⟨c4, ne4⟩ := hs1.out.err
      obtain ⟨a, c1, ha⟩ := hs1.out.errAt
      go_wp2_with (go_at_call 21; refine (failErr_any _ b f pv er _ _ (hs1.out.keep0 (gb_alloc _ _ _))).mono ?_; rintro e w4 ⟨rfl, rfl⟩)
      refine bodyPost_ret (v := .agg #[.int .i64 n, .int .i64 0, .string ⟨#[]⟩, .string ⟨#[]⟩]) (ins_ret _ _ w.heap.size _ _ _ _ _ rfl (((((HG1.out.set 0 _).set 1 _).set 2 _).set 3 _).keep (gb_alloc _ _ none) (by simp))) rfl ?_
      exact .err (er := er) ⟨n, 0, ⟨#[]⟩, ⟨#[]⟩⟩ (by rw [HR.out]; rfl) (gb_tr (gb_new4 hg01.out (Nat.le_refl _)) (gb_alloc _ _ _)) rfl ((hs1.out.keep (gb_sets4 (g := w.heap.size)) (by simp; omega) (.inr hpl)).keep0 (gb_alloc _ _ _))
    · have hn : n' = n := H1.out n' st1 rfl
      subst hn
      have HC := bnd_num_ok HR.out
      have hn256 := HC.1
      obtain ⟨hI, hE⟩ := hs1.out
      have HI : Hid (Cf.Inv f st1) := hI
      obtain ⟨-, c1, -, -, c4, -, -, -, -, -, -⟩ := hE.cells0
      clear hE hI H1
      have HW : Hid (wrap64 ((st1.at_ : Int) - 1) = ((st1.at_ - 1 : Nat) : Int)) := by
        have := HC.2
        have := HI.out.at_
        have := HI.out.fits
        unfold Hid wrap64
        omega
      go_wp2_with fail
      rw [HW.out]
      refine (fail_any _ b f _ _ 3 (st1.at_ - 1) (hs1.out.keep0 (gb_alloc _ _ _)) (by omega)).mono ?_
      rintro e w4 ⟨rfl, hg4, hs4⟩
      have hG4 := (HG1.out.keep (gb_alloc _ _ none) (by simp)).keep hg4 (by simp; omega)
      have HG4 : Hid (Blk w4 w.heap.size #[.int .i64 0, .int .i64 0, .string ⟨#[]⟩, .string ⟨#[]⟩] 50) := hG4
      have hT4 := (Blk.new w1 #[.int .i64 n', .int .i64 0, .string ⟨#[]⟩, .string ⟨#[]⟩] 50).keep hg4 (by simp; omega)
      have g0 := hG4.cell 0 (.int .i64 0) rfl
      have g1 := hG4.cell 1 (.int .i64 0) rfl
      have g2 := hG4.cell 2 (.string ⟨#[]⟩) rfl
      have g3 := hG4.cell 3 (.string ⟨#[]⟩) rfl
      have z0 := hG4.frozen 0
      have z1 := hG4.frozen 1
      have z2 := hG4.frozen 2
      have z3 := hG4.frozen 3
      have t0 := hT4.cell 0 (.int .i64 n') rfl
      have t1 := hT4.cell 1 (.int .i64 0) rfl
      have t2 := hT4.cell 2 (.string ⟨#[]⟩) rfl
      have t3 := hT4.cell 3 (.string ⟨#[]⟩) rfl
      have hg5 := gb_tr (gb_tr hg01.out (gb_alloc _ _ _)) hg4
      clear hG4 hT4 hg4
      go_wp2_with fail
      refine bodyPost_ret (v := .agg #[.int .i64 n', .int .i64 0, .string ⟨#[]⟩, .string ⟨#[]⟩]) (ins_ret _ _ w.heap.size _ _ _ _ _ rfl ((((HG4.out.set 0 _).set 1 _).set 2 _).set 3 _)) rfl ?_
      exact .err (er := (3, st1.at_ - 1)) ⟨n', 0, ⟨#[]⟩, ⟨#[]⟩⟩ (by rw [HR.out]; simp [then_, h32]) (gb_new4 hg5 (Nat.le_refl _)) rfl (EyS.keep hs4 (gb_sets4 (g := w.heap.size)) (by simp; omega) (.inr hpl))
  · obtain ⟨L, hL⟩ : ∃ L, L = letStr n := ⟨_, rfl⟩
    have HL : Hid (L = letStr n) := hL
    have HLL : Hid (L.data.toList = lets n) := by unfold Hid; rw [hL]; rfl
    have hLsz : Hid (L.size = (lets n).length) := by unfold Hid; rw [hL]; rfl
    clear hL
    go_wp2_with (go_at_call 41; refine (operands_any n _).mono ?_; rintro e w4 ⟨rfl, rfl⟩; rw [← HL.out])
    have hls := lets_in n
    have HLS : Hid _ := hls
    clear hls
    go_loopw [5] (fun i wr => ∃ (k : Nat) (x : In) (s2 : Except Er St), k ≤ L.size ∧ i = .int .i64 k ∧ x.op = n ∧ Blk wr w1.heap.size #[.int .i64 n, .int .i64 x.a, .string x.cls, .string x.mem] 50 ∧
      Blk wr w.heap.size #[.int .i64 0, .int .i64 0, .string ⟨#[]⟩, .string ⟨#[]⟩] 50 ∧ EyS wr b f pv s2 ∧ w.grownBy wr (some b) ∧
      Tot f (bnd s (num f 1)) n k x s2) (fun i _ => L.size - (intOf i).toNat)
    case atStart =>
      refine ⟨0, ⟨n, 0, ⟨#[]⟩, ⟨#[]⟩⟩, stateOf (bnd s (num f 1)), Nat.zero_le _, rfl, rfl, Blk.new _ _ _, HG1.out.keep (gb_alloc _ _ none) (by simp), hs1.out.keep0 (gb_alloc _ _ _), gb_tr hg01.out (gb_alloc _ _ _), ?_⟩
      exact Tot.start H1.out h32
    case round =>
      obtain ⟨k, x, s2, hk, rfl, hxn, hT, hG, hs2, hgr, htot⟩ := hrel
      have HT : Hid (Blk wr w1.heap.size #[.int .i64 n, .int .i64 x.a, .string x.cls, .string x.mem] 50) := hT
      have HG : Hid (Blk wr w.heap.size #[.int .i64 0, .int .i64 0, .string ⟨#[]⟩, .string ⟨#[]⟩] 50) := hG
      have HXN : Hid (x.op = n) := hxn
      have hL2 : L.size ≤ 2 := by have := hLsz.out; have := lets_len n; omega
      have HS : Hid (EyS wr b f pv s2) := hs2
      have hg : Hid (w.grownBy wr (some b)) := hgr
      have HR : Hid (Tot f (bnd s (num f 1)) n k x s2) := htot
      have hT0 := HT.out.cell 0 (.int .i64 n) rfl
      clear hT hG hxn hs2 hgr htot g0 g1 g2 g3 z0 z1 z2 z3
      have hend : s2 = s2 := rfl
      cases s2 with
      | error er =>
        obtain ⟨c4, ne4⟩ := HS.out.err
        have g0 := HG.out.cell 0 (.int .i64 0) rfl
        have g1 := HG.out.cell 1 (.int .i64 0) rfl
        have g2 := HG.out.cell 2 (.string ⟨#[]⟩) rfl
        have g3 := HG.out.cell 3 (.string ⟨#[]⟩) rfl
        have z0 := HG.out.frozen 0
        have z1 := HG.out.frozen 1
        have z2 := HG.out.frozen 2
        have z3 := HG.out.frozen 3
        have t1 := HT.out.cell 1 (.int .i64 x.a) rfl
        have t2 := HT.out.cell 2 (.string x.cls) rfl
        have t3 := HT.out.cell 3 (.string x.mem) rfl
        go_wp2_with fail
        all_goals
          refine bodyPost_ret (v := .agg #[.int .i64 n, .int .i64 x.a, .string x.cls, .string x.mem]) (ins_ret _ _ w.heap.size _ _ _ _ _ rfl ((((HG.out.set 0 _).set 1 _).set 2 _).set 3 _)) rfl ?_
          exact .err (er := er) ⟨n, x.a, x.cls, x.mem⟩ HR.out (gb_new4 hg.out (Nat.le_refl _)) rfl (EyS.keep HS.out (gb_sets4 (g := w.heap.size)) (by simp; omega) (.inr hpl))
      | ok st2 =>
        have c4 : wr.cell? ⟨b, 4, none⟩ = some (.int .i64 0) := HS.out.2.cells0.2.2.2.2.1
        by_cases hlt : k < L.size
        · have HCL := HLS.out (L.data[k]) (by rw [← HLL.out]; simp)
          have hLk : (L[k]'hlt) = L.data[k] := rfl
          have hcs : (L[k]'hlt).toNat = (L.data[k]).toNat := rfl
          rcases HCL with hc | hc | hc | hc | hc
          all_goals
            rw [hc] at hcs
            have HC : Hid (L.data[k] = _) := hc
            simp only [UInt8.reduceToNat] at hcs
            clear hc hLk
          · go_wp2_with (go_at_call 20; refine EyEnds.bind (enumber_any wr b f pv (.ok st2) 1 HS (by omega)) ?_)
            rintro m v w4 H4 rfl hs4 hg4
            try dsimp only
            have hT4 := HT.out.keep hg4 (by simp; omega)
            have HT4 : Hid (Blk w4 w1.heap.size #[.int .i64 n, .int .i64 x.a, .string x.cls, .string x.mem] 50) := hT4
            have HG4 : Hid (Blk w4 w.heap.size #[.int .i64 0, .int .i64 0, .string ⟨#[]⟩, .string ⟨#[]⟩] 50) := HG.out.keep hg4 (by simp; omega)
            have t1 := hT4.cell 1 (.int .i64 x.a) rfl
            have y1 := hT4.frozen 1
            have hg5 : Hid (w.grownBy w4 (some b)) := gb_tr hg.out hg4
            clear hT4 hg4
            go_wp2_with fail
            go_roundw
            case rel => exact ⟨k + 1, { x with a := m }, stateOf (num f 1 st2), hlt, by go_num, HXN.out, HT4.out.set 1 _, HG4.out.keep (gb_set _ ⟨w1.heap.size, 1, none⟩ _) (by simp; omega), hs4.out.keep (gb_set _ ⟨w1.heap.size, 1, none⟩ _) (by simp; omega) (.inr hpl1), gb_newSet hg5.out (by omega) 1 _, opers_step HLL hlt HC.out HR.out (oper_98 H4.out)⟩
            case measure => simp [intOf]; omega
          · go_wp2_with (go_at_call 20; refine EyEnds.bind (enumber_any wr b f pv (.ok st2) 2 HS (by omega)) ?_)
            rintro m v w4 H4 rfl hs4 hg4
            try dsimp only
            have hT4 := HT.out.keep hg4 (by simp; omega)
            have HT4 : Hid (Blk w4 w1.heap.size #[.int .i64 n, .int .i64 x.a, .string x.cls, .string x.mem] 50) := hT4
            have HG4 : Hid (Blk w4 w.heap.size #[.int .i64 0, .int .i64 0, .string ⟨#[]⟩, .string ⟨#[]⟩] 50) := HG.out.keep hg4 (by simp; omega)
            have t1 := hT4.cell 1 (.int .i64 x.a) rfl
            have y1 := hT4.frozen 1
            have hg5 : Hid (w.grownBy w4 (some b)) := gb_tr hg.out hg4
            clear hT4 hg4
            go_wp2_with fail
            go_roundw
            case rel => exact ⟨k + 1, { x with a := m }, stateOf (num f 2 st2), hlt, by go_num, HXN.out, HT4.out.set 1 _, HG4.out.keep (gb_set _ ⟨w1.heap.size, 1, none⟩ _) (by simp; omega), hs4.out.keep (gb_set _ ⟨w1.heap.size, 1, none⟩ _) (by simp; omega) (.inr hpl1), gb_newSet hg5.out (by omega) 1 _, opers_step HLL hlt HC.out HR.out (oper_115 H4.out)⟩
            case measure => simp [intOf]; omega
          · go_wp2_with (go_at_call 20; refine EyEnds.bind (enumber_any wr b f pv (.ok st2) 4 HS (by omega)) ?_)
            rintro m v w4 H4 rfl hs4 hg4
            try dsimp only
            have hT4 := HT.out.keep hg4 (by simp; omega)
            have HT4 : Hid (Blk w4 w1.heap.size #[.int .i64 n, .int .i64 x.a, .string x.cls, .string x.mem] 50) := hT4
            have HG4 : Hid (Blk w4 w.heap.size #[.int .i64 0, .int .i64 0, .string ⟨#[]⟩, .string ⟨#[]⟩] 50) := HG.out.keep hg4 (by simp; omega)
            have t1 := hT4.cell 1 (.int .i64 x.a) rfl
            have y1 := hT4.frozen 1
            have hg5 : Hid (w.grownBy w4 (some b)) := gb_tr hg.out hg4
            clear hT4 hg4
            by_cases hbig : (2147483648 : Int) ≤ m
            · go_wp2_with fail
              go_roundw
              case rel => exact ⟨k + 1, { x with a := wrap64 ((m : Int) - 4294967296) }, stateOf (num f 4 st2), hlt, by go_num, HXN.out, (HT4.out.set 1 _).set 1 _, (HG4.out.keep (gb_set _ ⟨w1.heap.size, 1, none⟩ _) (by simp; omega)).keep (gb_set _ ⟨w1.heap.size, 1, none⟩ _) (by simp; omega), (hs4.out.keep (gb_set _ ⟨w1.heap.size, 1, none⟩ _) (by simp; omega) (.inr hpl1)).keep (gb_set _ ⟨w1.heap.size, 1, none⟩ _) (by simp; omega) (.inr hpl1), gb_newSet (gb_newSet hg5.out (by omega) 1 _) (by omega) 1 _, opers_step HLL hlt HC.out HR.out (oper_108 H4.out (sign_big hbig))⟩
              case measure => simp [intOf]; omega
            · go_wp2_with fail
              go_roundw
              case rel => exact ⟨k + 1, { x with a := m }, stateOf (num f 4 st2), hlt, by go_num, HXN.out, HT4.out.set 1 _, HG4.out.keep (gb_set _ ⟨w1.heap.size, 1, none⟩ _) (by simp; omega), hs4.out.keep (gb_set _ ⟨w1.heap.size, 1, none⟩ _) (by simp; omega) (.inr hpl1), gb_newSet hg5.out (by omega) 1 _, opers_step HLL hlt HC.out HR.out (oper_108 H4.out (sign_small hbig))⟩
              case measure => simp [intOf]; omega
          · go_wp2_with (go_at_call 23; refine EyEnds.bind (ename_any wr b f pv (.ok st2) HS) ?_)
            rintro m v w4 H4 rfl hs4 hg4
            try dsimp only
            have hT4 := HT.out.keep hg4 (by simp; omega)
            have HT4 : Hid (Blk w4 w1.heap.size #[.int .i64 n, .int .i64 x.a, .string x.cls, .string x.mem] 50) := hT4
            have HG4 : Hid (Blk w4 w.heap.size #[.int .i64 0, .int .i64 0, .string ⟨#[]⟩, .string ⟨#[]⟩] 50) := HG.out.keep hg4 (by simp; omega)
            have t1 := hT4.cell 2 (.string x.cls) rfl
            have y1 := hT4.frozen 2
            have hg5 : Hid (w.grownBy w4 (some b)) := gb_tr hg.out hg4
            clear hT4 hg4
            go_wp2_with fail
            go_roundw
            case rel => exact ⟨k + 1, { x with cls := m }, stateOf (name f st2), hlt, by go_num, HXN.out, HT4.out.set 2 _, HG4.out.keep (gb_set _ ⟨w1.heap.size, 2, none⟩ _) (by simp; omega), hs4.out.keep (gb_set _ ⟨w1.heap.size, 2, none⟩ _) (by simp; omega) (.inr hpl1), gb_newSet hg5.out (by omega) 2 _, opers_step HLL hlt HC.out HR.out (oper_99 H4.out)⟩
            case measure => simp [intOf]; omega
          · go_wp2_with (go_at_call 23; refine EyEnds.bind (ename_any wr b f pv (.ok st2) HS) ?_)
            rintro m v w4 H4 rfl hs4 hg4
            try dsimp only
            have hT4 := HT.out.keep hg4 (by simp; omega)
            have HT4 : Hid (Blk w4 w1.heap.size #[.int .i64 n, .int .i64 x.a, .string x.cls, .string x.mem] 50) := hT4
            have HG4 : Hid (Blk w4 w.heap.size #[.int .i64 0, .int .i64 0, .string ⟨#[]⟩, .string ⟨#[]⟩] 50) := HG.out.keep hg4 (by simp; omega)
            have t1 := hT4.cell 3 (.string x.mem) rfl
            have y1 := hT4.frozen 3
            have hg5 : Hid (w.grownBy w4 (some b)) := gb_tr hg.out hg4
            clear hT4 hg4
            go_wp2_with fail
            go_roundw
            case rel => exact ⟨k + 1, { x with mem := m }, stateOf (name f st2), hlt, by go_num, HXN.out, HT4.out.set 3 _, HG4.out.keep (gb_set _ ⟨w1.heap.size, 3, none⟩ _) (by simp; omega), hs4.out.keep (gb_set _ ⟨w1.heap.size, 3, none⟩ _) (by simp; omega) (.inr hpl1), gb_newSet hg5.out (by omega) 3 _, opers_step HLL hlt HC.out HR.out (oper_109 H4.out)⟩
            case measure => simp [intOf]; omega
        · have g0 := HG.out.cell 0 (.int .i64 0) rfl
          have g1 := HG.out.cell 1 (.int .i64 0) rfl
          have g2 := HG.out.cell 2 (.string ⟨#[]⟩) rfl
          have g3 := HG.out.cell 3 (.string ⟨#[]⟩) rfl
          have z0 := HG.out.frozen 0
          have z1 := HG.out.frozen 1
          have z2 := HG.out.frozen 2
          have z3 := HG.out.frozen 3
          have t1 := HT.out.cell 1 (.int .i64 x.a) rfl
          have t2 := HT.out.cell 2 (.string x.cls) rfl
          have t3 := HT.out.cell 3 (.string x.mem) rfl
          go_wp2_with fail
          refine bodyPost_ret (v := .agg #[.int .i64 n, .int .i64 x.a, .string x.cls, .string x.mem]) (ins_ret _ _ w.heap.size _ _ _ _ _ rfl ((((HG.out.set 0 _).set 1 _).set 2 _).set 3 _)) rfl ?_
          have hk' : k = (lets n).length := by have := hLsz.out; omega
          exact .ok ⟨n, x.a, x.cls, x.mem⟩ (st := st2) (Tot.done HR.out hk' HXN.out) (gb_new4 hg.out (Nat.le_refl _)) rfl (EyS.keep HS.out (gb_sets4 (g := w.heap.size)) (by simp; omega) (.inr hpl))
end Go.Proofs.YtdhophglnhcjbaaDoor

namespace Go.Proofs.YtdhophglnhcjbaaDoor
open Go.RowKit Cf

/-- what was seen from a state on -/
def Seen {α : Type} (s : Except Er St) (p : St → R α) (a : α) (s' : Except Er St) : Prop :=
  (∀ a' st, bnd s p = .ok (a', st) → a' = a) ∧ stateOf (bnd s p) = s'
theorem Seen.then {α β : Type} {s s1 s2 : Except Er St} {p : St → R α} {m : α → St → R β} {a : α} {c : β} (h : Seen s p a s1) (h1 : Seen s1 (m a) c s2) : Seen s (fun st => then_ (p st) m) c s2 := by
  obtain ⟨ha, rfl⟩ := h
  obtain ⟨hc, rfl⟩ := h1
  cases s with
  | error er => exact ⟨(fun _ _ e => by cases e), rfl⟩
  | ok st =>
    unfold Seen
    cases hp : p st with
    | error er =>
      have e1 : bnd (Except.ok st) p = .error er := hp
      rw [e1]
      simp only [bnd, hp, then_]
      exact ⟨(fun _ _ e => by cases e), rfl⟩
    | ok q =>
      obtain ⟨a', st1⟩ := q
      have e1 : bnd (Except.ok st) p = .ok (a', st1) := hp
      rw [e1] at hc ha ⊢
      cases ha a' st1 rfl
      simp only [bnd, hp, then_]
      exact ⟨hc, rfl⟩
theorem Seen.pure {α : Type} (s : Except Er St) (a : α) : Seen s (fun st => .ok (a, st)) a s := by
  cases s with
  | error er => exact ⟨(fun _ _ e => by cases e), rfl⟩
  | ok st => exact ⟨fun _ _ e => by cases e; rfl, rfl⟩
theorem Seen.ends {α : Type} {w : World} {b : Nat} {f : ByteArray} {pv : Value} {s s' : Except Er St} {p : St → R α} {val : World → Value → α → Prop} {v : Value} {w' : World} {a : α}
    (h : Seen s p a s') (hg : w.grownBy w' (some b)) (hv : val w' v a) (hs : EyS w' b f pv s') : EyEnds w b f pv (bnd s p) val (.returned v) w' :=
  ⟨hg, v, a, rfl, hv, h.1, by rw [h.2]; exact hs⟩

/-- in the midst of a list -/
def MidE {α : Type} (f : ByteArray) (c : Nat) (p : St → R α) (s : Except Er St) (n k : Nat) (xs : List α) (s2 : Except Er St) : Prop :=
  match s2 with
  | .ok st2 => ∃ st1, bnd s (num f c) = .ok (n, st1) ∧ Mid p n st1 k xs st2
  | .error er => bnd s (list f c p) = .error er
theorem list_then {α : Type} (f : ByteArray) (c : Nat) (p : St → R α) : list f c p = fun st => then_ (num f c st) (rep p) := by
  funext st
  unfold list then_
  cases num f c st <;> rfl
theorem bnd_list {α : Type} (f : ByteArray) (c : Nat) (p : St → R α) (s : Except Er St) : bnd s (list f c p) = then_ (bnd s (num f c)) (rep p) := by
  rw [list_then, bnd_then]
theorem MidE.start {α : Type} {f : ByteArray} {c : Nat} {p : St → R α} {s : Except Er St} {n : Nat} (h : ∀ a' st, bnd s (num f c) = .ok (a', st) → a' = n) : MidE f c p s n 0 [] (stateOf (bnd s (num f c))) := by
  cases hr : bnd s (num f c) with
  | error er => show bnd s (list f c p) = .error er; rw [bnd_list, hr]; rfl
  | ok q => obtain ⟨a', st1⟩ := q; cases h a' st1 hr; exact ⟨st1, hr, .start _ _ _⟩
theorem MidE.step {α : Type} {f : ByteArray} {c : Nat} {p : St → R α} {s : Except Er St} {n k : Nat} {xs : List α} {st2 : St} {a : α} {s3 : Except Er St} (h : MidE f c p s n k xs (.ok st2)) (hk : k < n) (ha : Seen (.ok st2) p a s3) : MidE f c p s n (k + 1) (xs ++ [a]) s3 := by
  obtain ⟨st1, h1, h2⟩ := h
  obtain ⟨h3, rfl⟩ := ha
  cases hp : p st2 with
  | error er =>
    have e1 : bnd (Except.ok st2) p = .error er := hp
    rw [e1]
    show bnd s (list f c p) = .error er
    rw [bnd_list, h1]
    exact h2.fail hk hp
  | ok q =>
    obtain ⟨a', st3⟩ := q
    have e1 : bnd (Except.ok st2) p = .ok (a', st3) := hp
    cases h3 a' st3 e1
    rw [e1]
    exact ⟨st1, h1, h2.step hk hp⟩
theorem MidE.done {α : Type} {f : ByteArray} {c : Nat} {p : St → R α} {s : Except Er St} {n : Nat} {xs : List α} {st2 : St} (h : MidE f c p s n n xs (.ok st2)) : Seen s (list f c p) xs (.ok st2) := by
  obtain ⟨st1, h1, h2⟩ := h
  have e : bnd s (list f c p) = .ok (xs, st2) := by rw [bnd_list, h1]; exact h2.done
  unfold Seen
  rw [e]
  exact ⟨fun _ _ e => by cases e; rfl, rfl⟩
theorem MidE.err {α : Type} {f : ByteArray} {c : Nat} {p : St → R α} {s : Except Er St} {n k : Nat} {xs : List α} {er : Er} (h : MidE f c p s n k xs (.error er)) : Seen s (list f c p) xs (.error er) := by
  have e : bnd s (list f c p) = .error er := h
  unfold Seen
  rw [e]
  exact ⟨(fun _ _ e => by cases e), rfl⟩
theorem meth_then (f : ByteArray) : meth f = fun st => then_ (name f st) fun n st1 => then_ (list f 1 (kind f) st1) fun ps st2 => then_ (kind f st2) fun rt st3 => then_ (num f 1 st3) fun so st4 => then_ (num f 1 st4) fun lo st5 =>
    then_ (list f 2 (ins f) st5) fun is st6 => then_ (list f 1 (handler f) st6) fun hs st7 => .ok (⟨n, ps, rt, so, lo, is, hs⟩, st7) := by
  funext st
  unfold meth then_
  cases name f st with
  | error er => rfl
  | ok q =>
    obtain ⟨n, st1⟩ := q
    dsimp only
    cases list f 1 (kind f) st1 with
    | error er => rfl
    | ok q =>
      obtain ⟨ps, st2⟩ := q
      dsimp only
      cases kind f st2 with
      | error er => rfl
      | ok q =>
        obtain ⟨rt, st3⟩ := q
        dsimp only
        cases num f 1 st3 with
        | error er => rfl
        | ok q =>
          obtain ⟨so, st4⟩ := q
          dsimp only
          cases num f 1 st4 with
          | error er => rfl
          | ok q =>
            obtain ⟨lo, st5⟩ := q
            dsimp only
            cases list f 2 (ins f) st5 with
            | error er => rfl
            | ok q =>
              obtain ⟨is, st6⟩ := q
              dsimp only
              cases list f 1 (handler f) st6 <;> rfl
theorem handler_then (f : ByteArray) : handler f = fun st => then_ (num f 2 st) fun a st1 => then_ (num f 2 st1) fun b st2 => then_ (num f 2 st2) fun c st3 => then_ (name f st3) fun d st4 => .ok (⟨a, b, c, d⟩, st4) := by
  funext st
  unfold handler then_
  cases num f 2 st with
  | error er => rfl
  | ok q =>
    obtain ⟨n, st1⟩ := q
    dsimp only
    cases num f 2 st1 with
    | error er => rfl
    | ok q =>
      obtain ⟨ps, st2⟩ := q
      dsimp only
      cases num f 2 st2 with
      | error er => rfl
      | ok q =>
        obtain ⟨rt, st3⟩ := q
        dsimp only
        cases name f st3 <;> rfl
/-- the method's frame: what it names, and whatever else -/
def meFr (b G B : Nat) (t : Nat → Value) : Act := ⟨#[.pointer (some ⟨b, 0, none⟩), t 1, .pointer (some ⟨G, 0, none⟩), .pointer (some ⟨B, 0, none⟩), t 4, t 5, t 6, t 7, t 8, t 9, t 10, t 11, t 12, t 13, t 14, t 15, t 16, t 17, t 18, t 19, t 20, t 21, t 22, t 23, t 24, t 25, t 26, t 27, t 28, t 29, t 30, t 31, t 32, t 33, t 34, t 35, t 36, t 37, t 38, t 39, t 40, t 41, t 42, t 43, t 44, t 45, t 46, t 47, t 48, t 49, t 50, t 51, t 52, t 53, t 54, t 55, t 56, t 57, t 58, t 59, t 60, t 61, t 62, t 63, t 64, t 65, t 66, t 67, t 68, t 69, t 70, t 71, t 72, t 73, t 74, t 75, t 76, t 77, t 78, t 79, t 80, t 81, t 82, t 83, t 84, t 85, t 86, t 87, t 88, t 89, t 90, t 91, t 92, t 93, t 94, t 95, t 96, t 97, t 98, t 99, t 100], []⟩
/-- a joining of ways -/
def MeJ (b G B : Nat) (R : World → Prop) (a : Act) (w : World) : Prop := R w ∧ ∃ t : Nat → Value, a = meFr b G B t
theorem MeJ.of {b G B : Nat} {R : World → Prop} {w : World} (a : Act) (h : a = meFr b G B (fun k => a.tmps.getD k undef)) (hR : R w) : MeJ b G B R a w := ⟨hR, _, h⟩
theorem wp_join {P : Program} {c : Code} {a : Act} {w : World} {i : Nat} {J K : Act → World → Prop} {Q : Exit → Act → World → Prop} (hJ : ∀ a w, J a w → K a w)
    (h : c.wp P (Exit.inBlock i (Exit.then J (fun _ _ _ => False))) a w) : c.wp P (Exit.inBlock i (Exit.then K Q)) a w := by
  refine Code.wp_mono ?_ h
  intro e a w he
  have key : ∀ e a w, Exit.then J (fun _ _ _ => False) e a w → Exit.then K Q e a w := by
    intro e a w he
    cases e <;> first | exact hJ _ _ he | exact he.elim
  revert he
  cases e <;> simp only [Exit.inBlock] <;> intro he
  all_goals first
    | exact key _ _ _ he
    | (split at he <;> split <;> first | exact key _ _ _ he | contradiction)

theorem pool_apart {w : World} {base e size n m : Nat} {pv l : Value} {cs : List Value} (hp : ∀ k, m ≤ k → pv.ownBlock ≠ some k) (ho : w.ownsRow base e size l n cs) (hm : m ≤ base) : pv.ownBlock = none ∨ pv.ownBlock ≠ l.ownBlock := by
  cases h : pv.ownBlock with
  | none => exact .inl rfl
  | some g => exact .inr (fun e => hp g (Nat.le_trans hm (own_some ho e.symm).1) h)

/-- the method in the making, as it lies -/
structure MS (w : World) (b G B : Nat) (f : ByteArray) (pv : Value) (c : Array Value) (s : Except Er St) (wr : World) : Prop where
  eye : EyS wr b f pv s
  me : Blk wr B c 48
  out : Blk wr G #[.string ⟨#[]⟩, .slice none 0 0, .int .i64 0, .string ⟨#[]⟩, .int .i64 0, .int .i64 0, .slice none 0 0, .slice none 0 0] 48
  grown : w.grownBy wr (some b)
section
variable {w wr w1 : World} {b G B : Nat} {f : ByteArray} {pv : Value} {c : Array Value} {s s1 : Except Er St}
theorem MS.setB (h : MS w b G B f pv c s wr) (hb : b ≠ B) (hG : G ≠ B) (hp : pv.ownBlock ≠ some B) (hB : w.heap.size ≤ B) (j : Nat) (v : Value) : MS w b G B f pv (c.setIfInBounds j v) s (wr.setCell ⟨B, j, none⟩ v) :=
  ⟨h.eye.keep (gb_set _ ⟨B, j, none⟩ _) (by simpa using hb) (.inr hp), h.me.set j v, h.out.keep (gb_set _ ⟨B, j, none⟩ _) (by simpa using hG), gb_newSet h.grown hB j v⟩
theorem MS.step (h : MS w b G B f pv c s wr) (hg : wr.grownBy w1 (some b)) (hs : EyS w1 b f pv s1) (hb : b ≠ B) (hG : b ≠ G) : MS w b G B f pv c s1 w1 :=
  ⟨hs, h.me.keep hg (by simpa using fun e => hb e.symm), h.out.keep hg (by simpa using fun e => hG e.symm), gb_tr h.grown hg⟩
end
theorem row_keep {α : Type} {enc : α → List Value} {w w1 : World} {base e size b : Nat} {v : Value} {xs : List α} (h : IsRow base e size enc w v xs) (hg : w.grownBy w1 (some b)) (hb : b < base) : IsRow base e size enc w1 v xs :=
  World.ownsRow.kept h hg (.inr (own_ne h hb))

theorem seen_handler {f : ByteArray} {s s1 s2 s3 s4 : Except Er St} {x y z : Nat} {d : ByteArray} (h1 : Seen s (num f 2) x s1) (h2 : Seen s1 (num f 2) y s2) (h3 : Seen s2 (num f 2) z s3) (h4 : Seen s3 (name f) d s4) : Seen s (handler f) ⟨x, y, z, d⟩ s4 := by
  rw [handler_then]
  exact h1.then (h2.then (h3.then (h4.then (Seen.pure _ _))))
theorem seen_meth {f : ByteArray} {s s1 s2 s3 s4 s5 s6 s7 : Except Er St} {n : ByteArray} {ps : List Ty} {rt : Ty} {so lo : Nat} {is : List In} {hs : List Hd} (h1 : Seen s (name f) n s1) (h2 : Seen s1 (list f 1 (kind f)) ps s2) (h3 : Seen s2 (kind f) rt s3)
    (h4 : Seen s3 (num f 1) so s4) (h5 : Seen s4 (num f 1) lo s5) (h6 : Seen s5 (list f 2 (ins f)) is s6) (h7 : Seen s6 (list f 1 (handler f)) hs s7) : Seen s (meth f) ⟨n, ps, rt, so, lo, is, hs⟩ s7 := by
  rw [meth_then]
  exact h1.then (h2.then (h3.then (h4.then (h5.then (h6.then (h7.then (Seen.pure _ _)))))))

/-- the method in the making with its three lists -/
structure ML (w : World) (b G B : Nat) (f : ByteArray) (pv : Value) (c : Array Value) (ps : List Ty) (is : List In) (hs : List Hd) (lp lc lh : Value) (s : Except Er St) (wr : World) : Prop where
  ms : MS w b G B f pv c s wr
  rp : IsRow (B + 1) 41 2 encTy wr lp ps
  rc : IsRow (B + 1) 50 4 encIn wr lc is
  rh : IsRow (B + 1) 52 4 encHd wr lh hs
section
variable {w wr w1 : World} {b G B g : Nat} {f : ByteArray} {pv : Value} {c : Array Value} {ps : List Ty} {is : List In} {hs : List Hd} {lp lc lh : Value} {s s1 : Except Er St}
theorem ML.step (h : ML w b G B f pv c ps is hs lp lc lh s wr) (hg : wr.grownBy w1 (some b)) (he : EyS w1 b f pv s1) (hb : b < B) (hG : b ≠ G) : ML w b G B f pv c ps is hs lp lc lh s1 w1 :=
  ⟨h.ms.step hg he (by omega) hG, row_keep h.rp hg (by omega), row_keep h.rc hg (by omega), row_keep h.rh hg (by omega)⟩
/-- a block beside it was written, or new ones came -/
theorem ML.beside (h : ML w b G B f pv c ps is hs lp lc lh s wr) (hg : wr.grownBy w1 (some g)) (hb : b ≠ g) (hB : B ≠ g) (hG : G ≠ g) (hp : pv.ownBlock ≠ some g) (h1 : lp.ownBlock ≠ some g) (h2 : lc.ownBlock ≠ some g) (h3 : lh.ownBlock ≠ some g) (hw : w.heap.size ≤ g) : ML w b G B f pv c ps is hs lp lc lh s w1 :=
  ⟨⟨h.ms.eye.keep hg (by simpa using hb) (.inr hp), h.ms.me.keep hg (by simpa using hB), h.ms.out.keep hg (by simpa using hG), gb_trans h.ms.grown hg (fun k e => .inl (by cases e; exact hw))⟩,
    World.ownsRow.kept h.rp hg (.inr h1), World.ownsRow.kept h.rc hg (.inr h2), World.ownsRow.kept h.rh hg (.inr h3)⟩
theorem ML.fresh (h : ML w b G B f pv c ps is hs lp lc lh s wr) (hg : wr.grownBy w1 none) : ML w b G B f pv c ps is hs lp lc lh s w1 :=
  ⟨⟨h.ms.eye.keep0 hg, h.ms.me.keep hg (by simp), h.ms.out.keep hg (by simp), gb_tn h.ms.grown hg⟩,
    World.ownsRow.kept h.rp hg (by cases lp.ownBlock <;> simp), World.ownsRow.kept h.rc hg (by cases lc.ownBlock <;> simp), World.ownsRow.kept h.rh hg (by cases lh.ownBlock <;> simp)⟩
theorem ML.lies (h : ML w b G B f pv c ps is hs lp lc lh s wr) (hk : wr.heap.size ≤ g) (hp : ∀ k, B ≤ k → pv.ownBlock ≠ some k) : B < g ∧ pv.ownBlock ≠ some g ∧ lp.ownBlock ≠ some g ∧ lc.ownBlock ≠ some g ∧ lh.ownBlock ≠ some g := by
  have hB := h.ms.me.lt
  refine ⟨by omega, hp g (by omega), fun e => ?_, fun e => ?_, fun e => ?_⟩
  · have := (own_some h.rp e).2; omega
  · have := (own_some h.rc e).2; omega
  · have := (own_some h.rh e).2; omega
/-- the handlers' slice turns -/
theorem ML.turn {hs' : List Hd} {lh' : Value} (h : ML w b G B f pv c ps is hs lp lc lh s wr) (hg : wr.grownBy w1 lh.ownBlock) (ho : IsRow (B + 1) 52 4 encHd w1 lh' hs') (hb : b < B) (hGB : G < B) (hw : w.heap.size ≤ B) (hp : ∀ k, B ≤ k → pv.ownBlock ≠ some k) : ML w b G B f pv c ps is hs' lp lc lh' s w1 :=
  ⟨⟨h.ms.eye.keep hg (fun e => own_ne h.rh (show b < B + 1 by omega) e.symm) (pool_apart hp h.rh (by omega)), h.ms.me.keep hg (fun e => own_ne h.rh (show B < B + 1 by omega) e.symm), h.ms.out.keep hg (fun e => own_ne h.rh (show G < B + 1 by omega) e.symm),
      gb_trans h.ms.grown hg (fun k e => .inl (by have := (own_some h.rh e).1; omega))⟩,
    World.ownsRow.kept h.rp hg (own_kinds h.rp h.rh (by decide)), World.ownsRow.kept h.rc hg (own_kinds h.rc h.rh (by decide)), ho⟩
theorem ML.setB (h : ML w b G B f pv c ps is hs lp lc lh s wr) (hb : b ≠ B) (hG : G ≠ B) (hp : pv.ownBlock ≠ some B) (hB : w.heap.size ≤ B) (j : Nat) (v : Value) : ML w b G B f pv (c.setIfInBounds j v) ps is hs lp lc lh s (wr.setCell ⟨B, j, none⟩ v) :=
  ⟨h.ms.setB hb hG hp hB j v, row_keep h.rp (gb_set _ ⟨B, j, none⟩ _) (Nat.lt_succ_self _), row_keep h.rc (gb_set _ ⟨B, j, none⟩ _) (Nat.lt_succ_self _), row_keep h.rh (gb_set _ ⟨B, j, none⟩ _) (Nat.lt_succ_self _)⟩
end
theorem meth_ret (W : World) (t : Array Value) (G : Nat) (x0 x1 x2 x3 x4 x5 x6 x7 : Value) (T : TypeId) (ht : t.getD 2 undef = .pointer (some ⟨G, 0, none⟩)) (h : Blk W G #[x0, x1, x2, x3, x4, x5, x6, x7] T) : (results Tryd.f25 t).run Tryd.prog W = .ok (.agg #[x0, x1, x2, x3, x4, x5, x6, x7]) W := by
  have h0 := h.cell 0 x0 rfl
  have h1 := h.cell 1 x1 rfl
  have h2 := h.cell 2 x2 rfl
  have h3 := h.cell 3 x3 rfl
  have h4 := h.cell 4 x4 rfl
  have h5 := h.cell 5 x5 rfl
  have h6 := h.cell 6 x6 rfl
  have h7 := h.cell 7 x7 rfl
  rw [Array.getD_eq_getD_getElem?] at ht
  simp [results, Tryd.results25, go_sem, ht, h0, h1, h2, h3, h4, h5, h6, h7]
theorem gb_eight {w w1 : World} {row : Option Nat} (h : w.grownBy w1 row) {g : Nat} (hg : w.heap.size ≤ g) {i0 i1 i2 i3 i4 i5 i6 i7 : Nat} {x0 x1 x2 x3 x4 x5 x6 x7 : Value} :
    w.grownBy ((((((((w1.setCell ⟨g, i0, none⟩ x0).setCell ⟨g, i1, none⟩ x1).setCell ⟨g, i2, none⟩ x2).setCell ⟨g, i3, none⟩ x3).setCell ⟨g, i4, none⟩ x4).setCell ⟨g, i5, none⟩ x5).setCell ⟨g, i6, none⟩ x6).setCell ⟨g, i7, none⟩ x7) row := gb_new4 (gb_new4 h hg) hg
end Go.Proofs.YtdhophglnhcjbaaDoor
