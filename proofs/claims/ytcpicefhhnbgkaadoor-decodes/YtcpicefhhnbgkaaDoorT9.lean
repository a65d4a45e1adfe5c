import Derived.Test.YtcpicefhhnbgkaaDoorT8
namespace Go.Proofs.YtcpicefhhnbgkaaDoor
open Go.RowKit Cf

/-- rows of two kinds of things lie in two blocks -/
theorem own_kinds {w : World} {b1 b2 e1 e2 s1 s2 n1 n2 : Nat} {v1 v2 : Value} {c1 c2 : List Value} (h1 : w.ownsRow b1 e1 s1 v1 n1 c1) (h2 : w.ownsRow b2 e2 s2 v2 n2 c2) (hne : e1 ≠ e2) : v1.ownBlock = none ∨ v1.ownBlock ≠ v2.ownBlock := by
  rcases h1.2 with ⟨rfl, _⟩ | ⟨g, cap, cur, rfl, _, hg, _⟩
  · exact .inl rfl
  · right
    rcases h2.2 with ⟨rfl, _⟩ | ⟨g', cap', cur', rfl, _, hg', _⟩
    · simp [Value.ownBlock]
    · intro e
      simp only [Value.ownBlock, Option.some.injEq] at e
      subst e
      rw [hg] at hg'
      simp only [Option.some.injEq, Obj.cells.injEq] at hg'
      exact hne hg'.2.1

theorem MeCells.keep {base : Nat} {w w' : World} {c : List Value} {m : Me} {row : Option Nat} (h : MeCells (fun _ => True) base w c m) (hg : w.grownBy w' row) (hr : ∀ k, row = some k → k < base) : MeCells (fun _ => True) base w' c m := by
  obtain ⟨pv, cv, hv, hc, h1, h2, h3, h4⟩ := h
  have key : ∀ {e s n : Nat} {v : Value} {cs : List Value}, w.ownsRow base e s v n cs → v.ownBlock = none ∨ v.ownBlock ≠ row := fun {e s n v cs} ho => by
    cases row with
    | none => cases hv : v.ownBlock <;> simp
    | some k => exact .inr (own_ne ho (hr k rfl))
  exact ⟨pv, cv, hv, hc, World.ownsRow.kept h1 hg (key h1), World.ownsRow.kept h2 hg (key h2), World.ownsRow.kept h3 hg (key h3), h4⟩

theorem MeCells.onto {base b2 : Nat} {w w' : World} {c : List Value} {m : Me} {v : Value} {s n : Nat} {cs : List Value} (h : MeCells (fun _ => True) base w c m) (ho : w.ownsRow b2 48 s v n cs) (hg : w.grownBy w' v.ownBlock) : MeCells (fun _ => True) base w' c m := by
  obtain ⟨pv, cv, hv, hc, h1, h2, h3, h4⟩ := h
  exact ⟨pv, cv, hv, hc, World.ownsRow.kept h1 hg (own_kinds h1 ho (by decide)), World.ownsRow.kept h2 hg (own_kinds h2 ho (by decide)), World.ownsRow.kept h3 hg (own_kinds h3 ho (by decide)), h4⟩

/-- a slice of one's own that holds methods -/
def IsMes (base : Nat) (w : World) (v : Value) (ms : List Me) : Prop :=
  ∃ css : List (List Value), css.length = ms.length ∧ w.ownsRow base 48 8 v ms.length css.flatten ∧ ∀ (i : Nat) (c : List Value) (m : Me), css[i]? = some c → ms[i]? = some m → MeCells (fun _ => True) base w c m

theorem IsMes.nil (base : Nat) (w : World) : IsMes base w (.slice none 0 0) [] := ⟨[], rfl, World.ownsRow_nil _ _ _ _, fun i c m h => by simp at h⟩

theorem IsMes.keep {base : Nat} {w w' : World} {v : Value} {ms : List Me} {row : Option Nat} (h : IsMes base w v ms) (hg : w.grownBy w' row) (hr : ∀ k, row = some k → k < base) : IsMes base w' v ms := by
  obtain ⟨css, h1, h2, h3⟩ := h
  refine ⟨css, h1, h2.kept hg ?_, fun i c m hc hm => (h3 i c m hc hm).keep hg hr⟩
  cases row with
  | none => cases hv : v.ownBlock <;> simp
  | some k => exact .inr (own_ne h2 (hr k rfl))

theorem MeCells.base {b1 b2 : Nat} {w : World} {c : List Value} {m : Me} (h : MeCells (fun _ => True) b1 w c m) (hb : b2 ≤ b1) : MeCells (fun _ => True) b2 w c m := by
  obtain ⟨pv, cv, hv, hc, h1, h2, h3, h4⟩ := h
  exact ⟨pv, cv, hv, hc, own_base h1 hb, own_base h2 hb, own_base h3 hb, h4⟩

theorem IsMes.push {base : Nat} {w w' : World} {v v' : Value} {ms : List Me} {m : Me} {c : List Value} {css : List (List Value)} (hl : css.length = ms.length) (ho : w.ownsRow base 48 8 v ms.length css.flatten)
    (h : ∀ (i : Nat) (c : List Value) (m : Me), css[i]? = some c → ms[i]? = some m → MeCells (fun _ => True) base w c m) (hm : MeCells (fun _ => True) base w c m)
    (hown : w'.ownsRow base 48 8 v' (ms.length + 1) (css.flatten ++ c)) (hg : w.grownBy w' v.ownBlock) : IsMes base w' v' (ms ++ [m]) := by
  refine ⟨css ++ [c], by simp [hl], by simpa using hown, fun i c' m' hc' hm' => ?_⟩
  by_cases hi : i < css.length
  · rw [List.getElem?_append_left hi] at hc'
    rw [List.getElem?_append_left (by omega)] at hm'
    exact (h i c' m' hc' hm').onto ho hg
  · rw [List.getElem?_append_right (by omega)] at hc' hm'
    have : i = css.length := by
      have := (List.getElem?_eq_some_iff.1 hc').1
      simp at this; omega
    subst this
    simp [hl] at hc' hm'
    subst hc' hm'
    exact hm.onto ho hg

set_option maxHeartbeats 400000 in
theorem list_me_any (w : World) (b : Nat) (f : ByteArray) (pv : Value) (st : St) (d : Nat) (h : Hid (Rd w b f pv st)) (hd : d ≤ 2) (hS : Hid (Shp w)) (hb0 : 0 < b) :
    Calls Tryd.prog 47 #[.pointer (some ⟨b, 0, none⟩), .int .i64 d, .func (.func 48) #[.pointer (some ⟨b, 0, none⟩)] #[]] w (Ends w b f pv (list f d (meth f) st) (IsMes w.heap.size)) := by
  have hbl : b < w.heap.size := h.out.lt
  go_enter Tryd.func47, Tryd.ntmps47
  go_wp2_with (go_at_call 42; refine Ends.bind (number_any w b f pv st d h (by omega)) (fun er w' hr hg => ⟨rfl, .err (er := er) (by rw [list, hr]) rfl rfl hg⟩) ?_; rintro n st1 v w1 HH rfl hR hg)
  have hn : n < 65536 := by
    have := (num_lt HH.out).2
    have : 256 ^ d ≤ 256 ^ 2 := Nat.pow_le_pow_right (by omega) hd
    omega
  go_loopw [7, 11] (fun l i wr => ∃ (k : Nat) (xs : List Me) (st2 : St), i = .int .i64 k ∧ Mid (meth f) n st1 k xs st2 ∧ IsMes w.heap.size wr l xs ∧ Rd wr b f pv st2 ∧ w.grownBy wr (some b)) (fun _ i _ => n - (intOf i).toNat)
  case atStart => exact ⟨0, [], st1, rfl, .start _ _ _, .nil _ _, hR.out, hg⟩
  case round =>
    obtain ⟨k, xs, st2, rfl, hmid, hrow, hR2, hg2⟩ := hrel
    have HM : Hid (Mid (meth f) n st1 k xs st2) := hmid
    have HR2 : Hid (Rd wr b f pv st2) := hR2
    have HROW : Hid (IsMes w.heap.size wr _ xs) := hrow
    clear hmid hR2 hrow
    by_cases hk : k < n
    · obtain ⟨i, hi, hz0, hz1, hz2⟩ := info_parts info_Me
      obtain ⟨css, hcl, hco, hcc⟩ := HROW.out
      have hne := own_ne hco hbl
      have HCO : Hid (wr.ownsRow w.heap.size 48 8 _ xs.length css.flatten) := hco
      have HCC : Hid (∀ (i : Nat) (c : List Value) (m : Me), css[i]? = some c → xs[i]? = some m → MeCells (fun _ => True) w.heap.size wr c m) := hcc
      have HCL : Hid (css.length = xs.length) := hcl
      clear hcl hco hcc
      have hlen : xs.length < 65536 := by have := HM.out.2.1; omega
      go_wp2_with (first
        | (go_at_call 48
           refine Ends.bind (method_any wr b f pv st2 HR2 (hS.out.keep hg2 (by simp; omega)) hb0) (fun er w' hr hg3 => ⟨rfl, .err (er := er) (by rw [list, HH.out]; exact HM.out.fail hk hr) rfl rfl (gb_tr hg2 hg3)⟩) ?_
           rintro x st3 v w3 H3 ⟨c, rfl, hme⟩ hR3 hg3
           have HME : Hid (MeCells (fun _ => True) wr.heap.size w3 c x) := hme
           obtain ⟨pv', cv', hv', rfl, r1, r2, r3, -⟩ := hme
           obtain ⟨a1, k1, rfl⟩ := own_slice r1
           obtain ⟨a2, k2, rfl⟩ := own_slice r2
           obtain ⟨a3, k3, rfl⟩ := own_slice r3
           clear r1 r2 r3
           dsimp only)
        | (at_builtin; go_loud (refine wpList_append_own _ rfl _ _ 23 rfl w.heap.size 48 i _ 8 128 Tryd.underlying23 hi hz0 hz1 hz2 rfl (by decide) _ xs.length css.flatten rfl ((World.ownsRow.kept HCO.out hg3 (.inr hne)).alloc _) ⟨w3.heap.size, 0, none⟩ 1 1 [.string x.name, .slice a1 x.params.length k1, .int .i64 x.ret.kind, .string x.ret.name, .int .i64 x.stack, .int .i64 x.locals, .slice a2 x.code.length k2, .slice a3 x.handlers.length k3] rfl rfl (new_cells w3 _ _) (by simp [Value.oneCell']) (len_small rfl hlen) (by omega) (by have := hg2.size; have := hg3.size; simp; omega) ?_)))
      intro v' w4 hown hgrow _
      have hR4 : Rd w4 b f pv st3 := hR3.out.grow (gb_alloc _ _ _) hgrow (by simpa using hne) (fun g hg => by have := (own_some HCO.out hg).1; have := h.out.poolLt this; exact this)
      have hg4 : w.grownBy w4 (some b) := gb_trans (gb_tr (gb_tr hg2 hg3) (gb_alloc _ _ _)) hgrow (fun g hg => .inl (own_some HCO.out hg).1)
      have HM4 : Hid (Mid (meth f) n st1 (k + 1) (xs ++ [x]) st3) := HM.out.step hk H3.out
      have HO4 : Hid (IsMes w.heap.size w4 v' (xs ++ [x])) := by
        refine IsMes.push HCL.out ((World.ownsRow.kept HCO.out hg3 (.inr hne)).alloc _) (fun i c m hc hm => ((HCC.out i c m hc hm).keep hg3 (fun k e => by cases e; exact hbl)).keep (gb_alloc _ _ none) (fun _ e => by cases e)) ?_ hown hgrow
        exact (HME.out.base hg2.size).keep (gb_alloc _ _ none) (fun _ e => by cases e)
      clear hown hgrow
      go_wp2
      go_roundw
      case rel => exact ⟨k + 1, xs ++ [x], st3, by go_num, HM4.out, HO4.out, hR4, hg4⟩
      case measure => simp [intOf]; omega
    · go_wp2
      go_ret
      have hk' : k = n := by have := HM.out.1; omega
      subst hk'
      exact .ok (a := xs) (by rw [list, HH.out]; exact HM.out.done) hg2 HROW.out HR2.out
end Go.Proofs.YtcpicefhhnbgkaaDoor
