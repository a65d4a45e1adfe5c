import Derived.Test.YtcpicefhhnbgkaaDoorT16
namespace Go.Proofs.YtcpicefhhnbgkaaDoor
open Go.RowKit Cf

/-- the reference's eye in memory -/
structure Ey (w : World) (b : Nat) (f : ByteArray) (pv : Value) (a : Nat) (names : List ByteArray) (t : Int) (e p : Nat) : Prop where
  blk : Blk w b #[.string f, .int .i64 a, pv, .int .i64 t, .int .i64 e, .int .i64 p] 68
  own : w.ownsRow (b + 1) 9 1 pv names.length (names.map Value.string)
  fits : f.size ≤ 2048
  at_ : a ≤ f.size
  len : names.length ≤ 255
  lo : -1 ≤ t
  hi : t ≤ 255

/-- what the eye has seen: so far so good, or an error -/
def EyS (w : World) (b : Nat) (f : ByteArray) (pv : Value) : Except Er St → Prop
  | .ok st => Inv f st ∧ Ey w b f pv st.at_ st.pool (st.used - 1) 0 0
  | .error er => er.1 ≠ 0 ∧ ∃ a names t, Ey w b f pv a names t er.1 er.2

section
variable {w w' : World} {b k : Nat} {f : ByteArray} {pv : Value} {a e p : Nat} {names : List ByteArray} {t : Int} {s : Except Er St}
theorem Ey.poolNe (h : Ey w b f pv a names t e p) : pv.ownBlock ≠ some b := own_ne h.own (by omega)
theorem Ey.poolLt (h : Ey w b f pv a names t e p) (hk : w.heap.size ≤ k) : pv.ownBlock ≠ some k := by
  intro hv
  have := (own_some h.own hv).2
  omega
theorem Ey.keep {row : Option Nat} (h : Ey w b f pv a names t e p) (hg : w.grownBy w' row) (hb : some b ≠ row) (hp : pv.ownBlock = none ∨ pv.ownBlock ≠ row) : Ey w' b f pv a names t e p :=
  ⟨h.blk.keep hg hb, h.own.kept hg hp, h.fits, h.at_, h.len, h.lo, h.hi⟩
theorem EyS.keep {row : Option Nat} (h : EyS w b f pv s) (hg : w.grownBy w' row) (hb : some b ≠ row) (hp : pv.ownBlock = none ∨ pv.ownBlock ≠ row) : EyS w' b f pv s := by
  cases s with
  | ok st => exact ⟨h.1, h.2.keep hg hb hp⟩
  | error er => obtain ⟨h1, a, names, t, h2⟩ := h; exact ⟨h1, a, names, t, h2.keep hg hb hp⟩
theorem EyS.lt (h : EyS w b f pv s) : b < w.heap.size := by
  cases s with
  | ok st => exact h.2.blk.lt
  | error er => obtain ⟨h1, a, names, t, h2⟩ := h; exact h2.blk.lt
theorem EyS.poolLt (h : EyS w b f pv s) (hk : w.heap.size ≤ k) : pv.ownBlock ≠ some k := by
  cases s with
  | ok st => exact h.2.poolLt hk
  | error er => obtain ⟨h1, a, names, t, h2⟩ := h; exact h2.poolLt hk
theorem EyS.keep0 (h : EyS w b f pv s) (hg : w.grownBy w' none) : EyS w' b f pv s :=
  h.keep hg (by simp) (by cases hv : pv.ownBlock <;> simp)
theorem Ey.setAt (h : Ey w b f pv a names t e p) (n : Nat) (hn : n ≤ f.size) : Ey (w.setCell ⟨b, 1, none⟩ (.int .i64 n)) b f pv n names t e p :=
  ⟨h.blk.set 1 _, h.own.kept (gb_set w ⟨b, 1, none⟩ _) (.inr h.poolNe), h.fits, hn, h.len, h.lo, h.hi⟩
theorem Ey.setTop (h : Ey w b f pv a names t e p) (n : Int) (h1 : -1 ≤ n) (h2 : n ≤ 255) : Ey (w.setCell ⟨b, 3, none⟩ (.int .i64 n)) b f pv a names n e p :=
  ⟨h.blk.set 3 _, h.own.kept (gb_set w ⟨b, 3, none⟩ _) (.inr h.poolNe), h.fits, h.at_, h.len, h1, h2⟩
theorem Ey.setErr (h : Ey w b f pv a names t e p) (x y : Nat) : Ey ((w.setCell ⟨b, 4, none⟩ (.int .i64 x)).setCell ⟨b, 5, none⟩ (.int .i64 y)) b f pv a names t x y :=
  ⟨(h.blk.set 4 _).set 5 _, (h.own.kept (gb_set w ⟨b, 4, none⟩ _) (.inr h.poolNe)).kept (gb_set _ ⟨b, 5, none⟩ _) (.inr h.poolNe), h.fits, h.at_, h.len, h.lo, h.hi⟩
/-- what a walk reads of it -/
theorem Ey.cells (h : Ey w b f pv a names t e p) : w.cell? ⟨b, 0, none⟩ = some (.string f) ∧ w.cell? ⟨b, 1, none⟩ = some (.int .i64 a) ∧ w.cell? ⟨b, 2, none⟩ = some pv ∧
    w.cell? ⟨b, 3, none⟩ = some (.int .i64 t) ∧ w.cell? ⟨b, 4, none⟩ = some (.int .i64 e) ∧ w.cell? ⟨b, 5, none⟩ = some (.int .i64 p) ∧
    w.frozen? ⟨b, 1, none⟩ = false ∧ w.frozen? ⟨b, 2, none⟩ = false ∧ w.frozen? ⟨b, 3, none⟩ = false ∧ w.frozen? ⟨b, 4, none⟩ = false ∧ w.frozen? ⟨b, 5, none⟩ = false :=
  ⟨h.blk.cell 0 _ rfl, h.blk.cell 1 _ rfl, h.blk.cell 2 _ rfl, h.blk.cell 3 _ rfl, h.blk.cell 4 _ rfl, h.blk.cell 5 _ rfl, h.blk.frozen 1, h.blk.frozen 2, h.blk.frozen 3, h.blk.frozen 4, h.blk.frozen 5⟩
end

/-- a reader's step from whatever was seen -/
def bnd {α : Type} (s : Except Er St) (m : St → R α) : R α := match s with | .ok st => m st | .error er => .error er
def stateOf {α : Type} (r : R α) : Except Er St := match r with | .ok (_, st) => .ok st | .error er => .error er

/-- how a call of the eye's ends -/
def EyEnds {α : Type} (w : World) (b : Nat) (f : ByteArray) (pv : Value) (r : R α) (val : World → Value → α → Prop) (e : Ending) (w' : World) : Prop :=
  w.grownBy w' (some b) ∧ ∃ v a, e = .returned v ∧ val w' v a ∧ (∀ a' st, r = .ok (a', st) → a' = a) ∧ EyS w' b f pv (stateOf r)

theorem EyEnds.bind {P : Program} {fn : FuncId} {args : Array Value} {α : Type} {w : World} {b : Nat} {f : ByteArray} {pv : Value} {r : R α} {val : World → Value → α → Prop} {K : Ending → World → Prop}
    (hc : Calls P fn args w (EyEnds w b f pv r val))
    (hok : ∀ a v w', Hid (∀ a' st, r = .ok (a', st) → a' = a) → val w' v a → Hid (EyS w' b f pv (stateOf r)) → w.grownBy w' (some b) → K (.returned v) w') : Calls P fn args w K :=
  hc.mono fun e w' he => by
    obtain ⟨hg, v, a, rfl, hv, ha, hs⟩ := he
    exact hok a v w' ha hv hs hg
theorem EyEnds.ok {α : Type} {w : World} {b : Nat} {f : ByteArray} {pv : Value} {r : R α} {val : World → Value → α → Prop} {v : Value} {w' : World} (a : α) {st : St}
    (hr : r = .ok (a, st)) (hg : w.grownBy w' (some b)) (hv : val w' v a) (h : EyS w' b f pv (.ok st)) : EyEnds w b f pv r val (.returned v) w' := by
  subst hr
  exact ⟨hg, v, a, rfl, hv, fun a' st' e => by cases e; rfl, h⟩
theorem EyEnds.err {α : Type} {w : World} {b : Nat} {f : ByteArray} {pv : Value} {r : R α} {val : World → Value → α → Prop} {v : Value} {w' : World} (a : α) {er : Er}
    (hr : r = .error er) (hg : w.grownBy w' (some b)) (hv : val w' v a) (h : EyS w' b f pv (.error er)) : EyEnds w b f pv r val (.returned v) w' := by
  subst hr
  exact ⟨hg, v, a, rfl, hv, (fun a' st' e => by cases e), h⟩

def failS (s : Except Er St) (er : Er) : Except Er St := match s with | .ok _ => .error er | .error er' => .error er'
theorem Ey.cells0 {w : World} {b : Nat} {f : ByteArray} {pv : Value} {a : Nat} {names : List ByteArray} {t : Int} (h : Ey w b f pv a names t 0 0) : w.cell? ⟨b, 0, none⟩ = some (.string f) ∧ w.cell? ⟨b, 1, none⟩ = some (.int .i64 a) ∧ w.cell? ⟨b, 2, none⟩ = some pv ∧
    w.cell? ⟨b, 3, none⟩ = some (.int .i64 t) ∧ w.cell? ⟨b, 4, none⟩ = some (.int .i64 0) ∧ w.cell? ⟨b, 5, none⟩ = some (.int .i64 0) ∧
    w.frozen? ⟨b, 1, none⟩ = false ∧ w.frozen? ⟨b, 2, none⟩ = false ∧ w.frozen? ⟨b, 3, none⟩ = false ∧ w.frozen? ⟨b, 4, none⟩ = false ∧ w.frozen? ⟨b, 5, none⟩ = false := h.cells

set_option maxHeartbeats 400000 in
/-- an error is kept; else it is noted -/
theorem fail_any (w : World) (b : Nat) (f : ByteArray) (pv : Value) (s : Except Er St) (x y : Nat) (h : Hid (EyS w b f pv s)) (hx : x ≠ 0) :
    Calls Tryd.prog 21 #[.pointer (some ⟨b, 0, none⟩), .int .i64 x, .int .i64 y] w fun e w' => e = .returned (.tuple #[]) ∧ w.grownBy w' (some b) ∧
      EyS w' b f pv (failS s (x, y)) := by
  cases s with
  | ok st =>
    obtain ⟨h1, h2⟩ := h.out
    have HE : Hid (Ey w b f pv st.at_ st.pool (st.used - 1) 0 0) := h2
    obtain ⟨-, -, -, -, c4, c5, -, -, -, f4, f5⟩ := h2.cells0
    clear h h2
    go_enter Tryd.func21, Tryd.ntmps21
    go_wp2_with fail
    go_end0
    exact ⟨rfl, gb_tr (gb_set _ ⟨b, 4, none⟩ _) (gb_set _ ⟨b, 5, none⟩ _), hx, _, _, _, HE.out.setErr x y⟩
  | error er =>
    have HE := h
    obtain ⟨h1, a, names, t, h2⟩ := h.out
    obtain ⟨-, -, -, -, c4, -, -, -, -, -, -⟩ := h2.cells
    have h3 : ¬ (er.1 : Int) = 0 := by omega
    clear h2
    go_enter Tryd.func21, Tryd.ntmps21
    go_wp2_with fail
    go_end0
    exact ⟨rfl, gb_refl _ _, HE.out⟩

theorem mul_bytes (x c : Nat) (hx : x < 2 ^ 40) (hc : c < 256) : wrap64 (wrap64 (256 * (x : Int)) + wrap64 (c : Int)) = ((x * 256 + c : Nat) : Int) := by unfold wrap64; omega
theorem drop_take_snoc (f : ByteArray) (a k m : Nat) (hm : m = a + k) (h : m < f.size) : (f.data.toList.drop a).take (k + 1) = (f.data.toList.drop a).take k ++ [f[m]] := by
  subst hm
  have hl : k < (f.data.toList.drop a).length := by
    have : f.data.toList.length = f.size := by simp
    simp; omega
  rw [List.take_succ_eq_append_getElem hl]
  simp
  rfl

set_option maxHeartbeats 1000000 in
theorem enumber_any (w : World) (b : Nat) (f : ByteArray) (pv : Value) (s : Except Er St) (n : Nat) (h : Hid (EyS w b f pv s)) (hn : n ≤ 4) :
    Calls Tryd.prog 20 #[.pointer (some ⟨b, 0, none⟩), .int .i64 n] w (EyEnds w b f pv (bnd s (num f n)) isInt) := by
  cases s with
  | error er =>
    have HE := h
    obtain ⟨h1, a, names, t, h2⟩ := h.out
    obtain ⟨-, -, -, -, c4, -, -, -, -, -, -⟩ := h2.cells
    have h3 : ¬ (er.1 : Int) = 0 := by omega
    clear h2
    go_enter Tryd.func20, Tryd.ntmps20
    go_wp2_with fail
    go_loop [5, 6] (fun x i => x = .int .i64 0 ∧ i = .int .i64 0) (fun _ _ => 0)
    case atStart => exact ⟨rfl, rfl⟩
    case round =>
      obtain ⟨rfl, rfl⟩ := hrel
      go_wp2_with fail
      all_goals
        go_ret
        exact .err (er := er) 0 rfl (gb_refl _ _) rfl HE.out
  | ok st =>
    obtain ⟨h1, h2⟩ := h.out
    have HI : Hid (Cf.Inv f st) := h1
    have HE : Hid (Ey w b f pv st.at_ st.pool (st.used - 1) 0 0) := h2
    have hsz := h2.fits
    clear h h1 h2
    go_enter Tryd.func20, Tryd.ntmps20
    go_wp2_with fail
    go_loopw [5, 6] (fun x i wr => ∃ k : Nat, k ≤ n ∧ st.at_ + k ≤ f.size ∧ i = .int .i64 k ∧ x = .int .i64 (beL ((f.data.toList.drop st.at_).take k)) ∧ Ey wr b f pv (st.at_ + k) st.pool (st.used - 1) 0 0 ∧ w.grownBy wr (some b)) (fun _ i _ => n - (intOf i).toNat)
    case atStart => exact ⟨0, Nat.zero_le _, HI.out.at_, rfl, rfl, HE.out, gb_refl _ _⟩
    case round =>
      obtain ⟨k, hk, hat, rfl, rfl, he, hg⟩ := hrel
      obtain ⟨m, hm⟩ : ∃ m, m = st.at_ + k := ⟨_, rfl⟩
      rw [← hm] at hat he
      have HM : Hid (m = st.at_ + k) := hm
      clear hm
      have HX : Hid (beL ((f.data.toList.drop st.at_).take k) < 256 ^ k) := by
        have h1 := beL_lt ((f.data.toList.drop st.at_).take k)
        have h2 : ((f.data.toList.drop st.at_).take k).length ≤ k := by simp; omega
        exact Nat.lt_of_lt_of_le h1 (Nat.pow_le_pow_right (by omega) h2)
      obtain ⟨c0, c1, -, -, c4, -, f1, -, -, -, -⟩ := he.cells0
      have HK : Hid (Ey wr b f pv m st.pool (st.used - 1) 0 0) := he
      clear he
      by_cases hlt : k < n
      · by_cases hs : m < f.size
        · go_wp2_with fail
          go_quiet (fail)
          go_wp2_with fail
          go_quiet (fail)
          go_wp2_with fail
          refine ⟨⟨k + 1, hlt, by have := HM.out; omega, by go_num, ?_, ?_, ?_⟩, by simp [intOf]; omega⟩
          · rw [drop_take_snoc f st.at_ k m HM.out hs, beL_snoc]
            have h4 := HX.out
            have h5 : 256 ^ k ≤ 256 ^ 4 := Nat.pow_le_pow_right (by omega) (by omega)
            exact congrArg (Value.int .i64) (mul_bytes _ _ (by omega) (f[m]).toNat_lt)
          · have h7 := HM.out
            rw [show st.at_ + (k + 1) = m + 1 by omega]
            exact Ey.setAt (HK.out.keep (gb_drewN _ _ none) (by simp) (by cases hv : pv.ownBlock <;> simp)) (m + 1) (by omega)
          · exact gb_tr (gb_tr hg (gb_drewN _ _ _)) (gb_set _ ⟨b, 1, none⟩ _)
        · go_wp2_with fail
          go_quiet (fail)
          have HS : Hid (EyS (wr.drewN nq) b f pv (.ok { st with at_ := m })) := ⟨⟨HI.out.fits, hat, HI.out.used, HI.out.pool⟩, HK.out.keep (gb_drewN _ _ none) (by simp) (by cases hv : pv.ownBlock <;> simp)⟩
          go_wp2_with (go_at_call 21; refine (fail_any _ b f pv _ 2 f.size HS (by omega)).mono ?_; rintro e w4 ⟨rfl, hg4, hs4⟩)
          go_ret
          refine .err (er := (2, f.size)) 0 ?_ (gb_tr (gb_tr hg (gb_drewN _ _ _)) hg4) rfl hs4
          have h7 := HM.out
          have h8 : ¬ st.at_ + n ≤ f.size := by omega
          simp only [bnd, num, h8, if_false]
      · go_wp2_with fail
        go_ret
        have hk' : k = n := by omega
        subst hk'
        refine .ok (beL ((f.data.toList.drop st.at_).take k)) (st := { st with at_ := m }) ?_ hg rfl ⟨⟨HI.out.fits, hat, HI.out.used, HI.out.pool⟩, HK.out⟩
        rw [HM.out] at hat ⊢
        simp only [bnd, num, hat, if_true]
end Go.Proofs.YtcpicefhhnbgkaaDoor
