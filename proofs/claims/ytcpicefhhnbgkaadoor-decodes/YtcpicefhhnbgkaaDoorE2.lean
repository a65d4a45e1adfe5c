import Derived.Test.YtcpicefhhnbgkaaDoorE1
namespace Go.Proofs.YtcpicefhhnbgkaaDoor
open Go.RowKit Cf

/-- a step behind a step, from whatever was seen -/
def then_ {α β : Type} (r : R α) (m : α → St → R β) : R β := match r with | .ok (a, st) => m a st | .error er => .error er
theorem bnd_then {α β : Type} (s : Except Er St) (p : St → R α) (m : α → St → R β) : bnd s (fun st => then_ (p st) m) = then_ (bnd s p) m := by cases s <;> rfl
theorem name_then (f : ByteArray) : name f = fun st => then_ (num f 1 st) (fun n st1 => if n ≤ st1.used ∧ n < st1.pool.length then .ok (st1.pool.getD n ByteArray.empty, { st1 with used := max st1.used (n + 1) }) else .error (5, st1.at_ - 1)) := by
  funext st
  unfold name then_
  cases h : num f 1 st with
  | error er => rfl
  | ok p =>
    obtain ⟨n, st1⟩ := p
    obtain ⟨rfl, -⟩ := num_lt h
    simp

theorem EyS.err {w : World} {b : Nat} {f : ByteArray} {pv : Value} {er : Er} (h : EyS w b f pv (.error er)) : w.cell? ⟨b, 4, none⟩ = some (.int .i64 er.1) ∧ ¬ (er.1 : Int) = 0 := by
  obtain ⟨h1, a, names, t, h2⟩ := h
  exact ⟨h2.cells.2.2.2.2.1, by omega⟩
theorem EyS.errAt {w : World} {b : Nat} {f : ByteArray} {pv : Value} {er : Er} (h : EyS w b f pv (.error er)) : ∃ a : Nat, w.cell? ⟨b, 1, none⟩ = some (.int .i64 a) ∧ a ≤ 2048 := by
  obtain ⟨h1, a, names, t, h2⟩ := h
  exact ⟨a, h2.cells.2.1, Nat.le_trans h2.at_ h2.fits⟩
set_option maxHeartbeats 400000 in
/-- behind an error nothing is noted any more -/
theorem failErr_any (w : World) (b : Nat) (f : ByteArray) (pv : Value) (er : Er) (x y : Int) (h : Hid (EyS w b f pv (.error er))) :
    Calls Tryd.prog 21 #[.pointer (some ⟨b, 0, none⟩), .int .i64 x, .int .i64 y] w fun e w' => e = .returned (.tuple #[]) ∧ w = w' := by
  obtain ⟨c4, h3⟩ := h.out.err
  go_enter Tryd.func21, Tryd.ntmps21
  go_wp2_with fail
  go_end0
  exact ⟨rfl, rfl⟩
theorem num_at {f : ByteArray} {k n : Nat} {st st1 : St} (h : num f k st = .ok (n, st1)) : k ≤ st1.at_ := by rw [(num_lt h).1]; simp
theorem bnd_num_ok {f : ByteArray} {k n : Nat} {s : Except Er St} {st1 : St} (h : bnd s (num f k) = .ok (n, st1)) : n < 256 ^ k ∧ k ≤ st1.at_ := by
  cases s with
  | error er => cases h
  | ok st => exact ⟨(num_lt h).2, num_at h⟩

theorem ename_end {w : World} {b : Nat} {f : ByteArray} {pv : Value} {st : St} {n : Nat} {x : Int} (hI : Cf.Inv f st) (hE : Ey w b f pv st.at_ st.pool (st.used - 1) 0 0) (hlt : n < st.pool.length) (hx : n = x ∧ st.used ≤ n) :
    EyS (w.setCell ⟨b, 3, none⟩ (.int .i64 x)) b f pv (.ok { st with used := max st.used (n + 1) }) := by
  obtain ⟨rfl, hx⟩ := hx
  have := hI.pool
  have h1 := hE.setTop n (by omega) (by omega)
  refine ⟨⟨hI.fits, hI.at_, by simp; omega, hI.pool⟩, ?_⟩
  have h2 : ((max st.used (n + 1) : Nat) : Int) - 1 = n := by omega
  show Ey _ b f pv st.at_ st.pool (((max st.used (n + 1) : Nat) : Int) - 1) 0 0
  rw [h2]
  exact h1

set_option maxHeartbeats 1000000 in
theorem ename_any (w : World) (b : Nat) (f : ByteArray) (pv : Value) (s : Except Er St) (h : Hid (EyS w b f pv s)) :
    Calls Tryd.prog 23 #[.pointer (some ⟨b, 0, none⟩)] w (EyEnds w b f pv (bnd s (name f)) isStr) := by
  rw [name_then, bnd_then]
  go_enter Tryd.func23, Tryd.ntmps23
  go_wp2_with (go_at_call 20; refine EyEnds.bind (enumber_any w b f pv s 1 h (by omega)) ?_)
  rintro n v w1 H1 rfl hs1 hg1
  try dsimp only
  rcases hr : bnd s (num f 1) with er | ⟨n', st1⟩
  all_goals
    rw [hr] at H1 hs1
    have HR : Hid (bnd s (num f 1) = _) := hr
    clear hr
  · 
    obtain ⟨c4, ne4⟩ := hs1.out.err
    go_wp2_with fail
    go_ret
    exact .err (er := er) ByteArray.empty (by rw [HR.out]; rfl) hg1 rfl hs1.out
  · have hn : n' = n := H1.out n' st1 rfl
    subst hn
    obtain ⟨hI, hE⟩ := hs1.out
    have HI : Hid (Cf.Inv f st1) := hI
    have HE : Hid (Ey w1 b f pv st1.at_ st1.pool (st1.used - 1) 0 0) := hE
    obtain ⟨-, c1, c2, c3, c4, -, -, -, f3, -, -⟩ := hE.cells0
    have hu := hI.used
    have hp := hI.pool
    have HC := bnd_num_ok HR.out
    have hn256 := HC.1
    clear hs1 H1 hI hE
    have HG : Hid (w1.ownsRow (b + 1) 9 1 pv st1.pool.length (st1.pool.map Value.string)) := HE.out.own
    have hfail : ∀ (c : ¬ (n' ≤ st1.used ∧ n' < st1.pool.length)), then_ (.ok (n', st1)) (fun n st1 => if n ≤ st1.used ∧ n < st1.pool.length then .ok (st1.pool.getD n ByteArray.empty, { st1 with used := max st1.used (n + 1) }) else .error (5, st1.at_ - 1)) = (.error (5, st1.at_ - 1) : R ByteArray) := fun c => by simp only [then_]; rw [if_neg c]
    have HF : Hid _ := hfail
    clear hfail
    have HW : Hid (wrap64 ((st1.at_ : Int) - 1) = ((st1.at_ - 1 : Nat) : Int)) := by
      have := HC.2
      have := HI.out.at_
      have := HI.out.fits
      unfold Hid wrap64
      omega
    have hsf : Hid (EyS w1 b f pv (.ok st1)) := ⟨HI.out, HE.out⟩
    rcases own_strs HG.out with ⟨rfl, hnil⟩ | ⟨g, cap, rfl, hbg, hcell⟩
    · have hlen0 : st1.pool.length = 0 := by rw [hnil]; rfl
      have hu0 : st1.used = 0 := by omega
      by_cases hle : n' ≤ st1.used
      all_goals
        go_wp2_with fail
        rw [HW.out]
        refine (fail_any w1 b f _ _ 5 (st1.at_ - 1) hsf (by omega)).mono ?_
        rintro e w4 ⟨rfl, hg4, hs4⟩
        go_wp2_with fail
        go_ret
        exact .err (er := (5, st1.at_ - 1)) ByteArray.empty (by rw [HR.out]; exact HF.out (by omega)) (gb_tr hg1 hg4) rfl hs4
    · by_cases hle : n' ≤ st1.used
      · by_cases hlt : n' < st1.pool.length
        · have hc := hcell n' hlt
          clear hcell
          go_wp2_with fail
          · go_ret
            exact .ok st1.pool[n'] (st := { st1 with used := max st1.used (n' + 1) }) (by rw [HR.out]; simp [then_, hle, hlt]) (gb_tr hg1 (gb_set _ ⟨b, 3, none⟩ _)) rfl (ename_end HI.out HE.out hlt (by omega))
          · go_ret
            have hmx : max st1.used (n' + 1) = st1.used := by omega
            exact .ok st1.pool[n'] (st := { st1 with used := max st1.used (n' + 1) }) (by rw [HR.out]; simp [then_, hle, hlt]) hg1 rfl (by rw [hmx]; exact ⟨HI.out, HE.out⟩)
        · clear hcell
          go_wp2_with fail
          rw [HW.out]
          refine (fail_any w1 b f _ _ 5 (st1.at_ - 1) hsf (by omega)).mono ?_
          rintro e w4 ⟨rfl, hg4, hs4⟩
          go_wp2_with fail
          go_ret
          exact .err (er := (5, st1.at_ - 1)) ByteArray.empty (by rw [HR.out]; exact HF.out (by omega)) (gb_tr hg1 hg4) rfl hs4
      · clear hcell
        go_wp2_with fail
        rw [HW.out]
        refine (fail_any w1 b f _ _ 5 (st1.at_ - 1) hsf (by omega)).mono ?_
        rintro e w4 ⟨rfl, hg4, hs4⟩
        go_wp2_with fail
        go_ret
        exact .err (er := (5, st1.at_ - 1)) ByteArray.empty (by rw [HR.out]; exact HF.out (by omega)) (gb_tr hg1 hg4) rfl hs4
end Go.Proofs.YtcpicefhhnbgkaaDoor
