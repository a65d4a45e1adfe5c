/- Contracts of the functions that the law goes through: a part of the proof that the last text tells. -/
import Derived.Test.YtdhophglnhcjbaaDoorGA
import Derived.Lib.Strings
import Derived.Lib.Walk
import Derived.Lib.BufferWrite
import Derived.Lib.UnsafeStr
set_option linter.unusedVariables false
set_option linter.unusedSimpArgs false
namespace Go.Proofs.YtdhophglnhcjbaaDoor
open Go.RowKit Cf

def encTy (t : Ty) : List Value := [.int .i64 t.kind, .string t.name]
def encFld (t : Fld) : List Value := [.string t.name, .int .i64 t.ty.kind, .string t.ty.name]
def encIn (t : In) : List Value := [.int .i64 t.op, .int .i64 t.a, .string t.cls, .string t.mem]
def encHd (t : Hd) : List Value := [.int .i64 t.from_, .int .i64 t.to, .int .i64 t.at_, .string t.cls]

/-- a slice of one's own that holds such things side by side -/
def IsRow {α : Type} (base e size : Nat) (enc : α → List Value) (w : World) (v : Value) (xs : List α) : Prop := w.ownsRow base e size v xs.length (xs.flatMap enc)

/-- how far a reader of a list has come: k things are read -/
def Mid {α : Type} (p : St → R α) (n : Nat) (st0 : St) (k : Nat) (xs : List α) (st : St) : Prop :=
  k ≤ n ∧ xs.length = k ∧ rep p n st0 = match rep p (n - k) st with | .ok (ys, st2) => .ok (xs ++ ys, st2) | .error er => .error er
theorem Mid.start {α : Type} (p : St → R α) (n : Nat) (st0 : St) : Mid p n st0 0 [] st0 := by
  refine ⟨Nat.zero_le _, rfl, ?_⟩
  rw [Nat.sub_zero]
  cases h : rep p n st0 <;> simp
theorem Mid.step {α : Type} {p : St → R α} {n : Nat} {st0 : St} {k : Nat} {xs : List α} {st st1 : St} {a : α} (h : Mid p n st0 k xs st) (hk : k < n) (ha : p st = .ok (a, st1)) : Mid p n st0 (k + 1) (xs ++ [a]) st1 := by
  obtain ⟨h1, h2, h3⟩ := h
  refine ⟨hk, by simp [h2], ?_⟩
  rw [h3, show n - k = (n - (k + 1)) + 1 by omega, rep, ha]
  dsimp only
  generalize rep p (n - (k + 1)) st1 = r
  cases r <;> simp
theorem Mid.fail {α : Type} {p : St → R α} {n : Nat} {st0 : St} {k : Nat} {xs : List α} {st : St} {er : Er} (h : Mid p n st0 k xs st) (hk : k < n) (ha : p st = .error er) : rep p n st0 = .error er := by
  obtain ⟨h1, h2, h3⟩ := h
  rw [h3, show n - k = (n - (k + 1)) + 1 by omega, rep, ha]
theorem Mid.done {α : Type} {p : St → R α} {n : Nat} {st0 : St} {xs : List α} {st : St} (h : Mid p n st0 n xs st) : rep p n st0 = .ok (xs, st) := by
  obtain ⟨h1, h2, h3⟩ := h
  rw [h3, Nat.sub_self, rep]
  simp

theorem own_ne {w : World} {base e size n b : Nat} {v : Value} {cs : List Value} (h : w.ownsRow base e size v n cs) (hb : b < base) : v.ownBlock ≠ some b := by
  cases hv : v.ownBlock with
  | none => simp
  | some g => have := (h.lt g hv).1; simp; omega
theorem own_some {w : World} {base e size n : Nat} {v : Value} {cs : List Value} (h : w.ownsRow base e size v n cs) {g : Nat} (hg : v.ownBlock = some g) : base ≤ g ∧ g < w.heap.size := h.lt g hg
theorem new_cells (w : World) (cs : List Value) (t : TypeId) : ∀ j u, cs[j]? = some u → (w.alloc (.cells cs.toArray t)).cell? ((⟨w.heap.size, 0, none⟩ : Addr).add j) = some u := by
  intro j u hu
  have hadd : (⟨w.heap.size, 0, none⟩ : Addr).add j = ⟨w.heap.size, j, none⟩ := by unfold Addr.add; split <;> simp_all
  rw [hadd, (Blk.new w cs.toArray t).cell j u (by simpa using hu)]
theorem len_small {n : Nat} {k : Nat} (h : n = k) (hk : k < 65536) : n + 1 ≤ maxLen := by unfold maxLen; omega
theorem flat_snoc {α : Type} (enc : α → List Value) (xs : List α) (x : α) : xs.flatMap enc ++ enc x = (xs ++ [x]).flatMap enc := by simp [List.flatMap_append]

theorem info_Ty : (Tryd.prog.info? 41).map (fun i => (i.zero, i.size, i.bytes)) = some (some (.agg #[.int .i64 0, .string ByteArray.empty]), 2, 24) := by kernel_rfl
theorem info_Fld : (Tryd.prog.info? 43).map (fun i => (i.zero, i.size, i.bytes)) = some (some (.agg #[.string ByteArray.empty, .int .i64 0, .string ByteArray.empty]), 3, 40) := by kernel_rfl
theorem info_In : (Tryd.prog.info? 50).map (fun i => (i.zero, i.size, i.bytes)) = some (some (.agg #[.int .i64 0, .int .i64 0, .string ByteArray.empty, .string ByteArray.empty]), 4, 48) := by kernel_rfl
theorem info_Hd : (Tryd.prog.info? 52).map (fun i => (i.zero, i.size, i.bytes)) = some (some (.agg #[.int .i64 0, .int .i64 0, .int .i64 0, .string ByteArray.empty]), 4, 40) := by kernel_rfl
theorem info_Me : (Tryd.prog.info? 48).map (fun i => (i.zero, i.size, i.bytes)) = some (some (.agg #[.string ByteArray.empty, .slice none 0 0, .int .i64 0, .string ByteArray.empty, .int .i64 0, .int .i64 0, .slice none 0 0, .slice none 0 0]), 8, 128) := by kernel_rfl
theorem info_Str : (Tryd.prog.info? 9).map (fun i => (i.zero, i.size, i.bytes)) = some (some (.string ByteArray.empty), 1, 16) := by kernel_rfl

set_option maxHeartbeats 400000 in
theorem list_fld_any (w : World) (b : Nat) (f : ByteArray) (pv : Value) (st : St) (d : Nat) (h : Hid (Rd w b f pv st)) (hd : d ≤ 2)
    (HEL : Hid (∀ w1 st1, w.grownBy w1 (some b) → Hid (Rd w1 b f pv st1) → Calls Tryd.prog 46 #[.pointer (some ⟨b, 0, none⟩)] w1 (Ends w1 b f pv (field f st1) isFld))) :
    Calls Tryd.prog 45 #[.pointer (some ⟨b, 0, none⟩), .int .i64 d, .func (.func 46) #[.pointer (some ⟨b, 0, none⟩)] #[]] w (Ends w b f pv (list f d (field f) st) (IsRow w.heap.size 43 3 encFld)) := by
  go_enter Tryd.func45, Tryd.ntmps45
  go_wp2_with (go_at_call 42; refine Ends.bind (number_any _ b f pv st d h (by omega)) (fun er w' hr hg => ⟨rfl, .err (er := er) (by rw [list, hr]) rfl rfl hg⟩) ?_; rintro n st1 v w1 HH rfl hR hg)
  have hn : n < 65536 := by
    have := (num_lt HH.out).2
    have : 256 ^ d ≤ 256 ^ 2 := Nat.pow_le_pow_right (by omega) hd
    omega
  go_loopw [7, 11] (fun l i wr => ∃ (k : Nat) (xs : List Fld) (st2 : St), i = .int .i64 k ∧ Mid (field f) n st1 k xs st2 ∧ IsRow w.heap.size 43 3 encFld wr l xs ∧ Rd wr b f pv st2 ∧ w.grownBy wr (some b)) (fun _ i _ => n - (intOf i).toNat)
  case atStart => exact ⟨0, [], st1, rfl, .start _ _ _, World.ownsRow_nil _ _ _ _, hR.out, hg⟩
  case round =>
    obtain ⟨k, xs, st2, rfl, hmid, hrow, hR2, hg2⟩ := hrel
    have HM : Hid (Mid (field f) n st1 k xs st2) := hmid
    have HR2 : Hid (Rd wr b f pv st2) := hR2
    have HROW : Hid (IsRow w.heap.size 43 3 encFld wr _ xs) := hrow
    clear hmid hR2 hrow
    by_cases hk : k < n
    · obtain ⟨i, hi, hz0, hz1, hz2⟩ := info_parts info_Fld
      have hne := own_ne HROW.out h.out.lt
      have hlen : xs.length < 65536 := by have := HM.out.2.1; omega
      go_wp2_with (first
        | (go_at_call 46; refine Ends.bind (HEL.out wr st2 hg2 HR2) (fun er w' hr hg3 => ⟨rfl, .err (er := er) (by rw [list, HH.out]; exact HM.out.fail hk hr) rfl rfl (gb_tr hg2 hg3)⟩) ?_; rintro x st3 v w3 H3 rfl hR3 hg3; dsimp only)
        | (at_builtin; go_loud (refine wpList_append_own _ rfl _ _ 22 rfl w.heap.size 43 i _ 3 40 Tryd.underlying22 hi hz0 hz1 hz2 rfl (by decide) _ xs.length (xs.flatMap encFld) rfl ((World.ownsRow.kept HROW.out hg3 (.inr hne)).alloc _) ⟨w3.heap.size, 0, none⟩ 1 1 (encFld x) rfl rfl (new_cells w3 (encFld x) _) (by simp [encFld, Value.oneCell']) (len_small rfl hlen) (by omega) (by have := hg2.size; have := hg3.size; simp; omega) ?_)))
      intro v' w4 hown hgrow _
      have hR4 : Rd w4 b f pv st3 := hR3.out.grow (gb_alloc _ _ _) hgrow (by simpa using hne) (fun g hg => by have := (own_some HROW.out hg).1; have := h.out.poolLt this; exact this)
      have hg4 : w.grownBy w4 (some b) := gb_trans (gb_tr (gb_tr hg2 hg3) (gb_alloc _ _ _)) hgrow (fun g hg => .inl (own_some HROW.out hg).1)
      have HM4 : Hid (Mid (field f) n st1 (k + 1) (xs ++ [x]) st3) := HM.out.step hk H3.out
      have HO4 : Hid (IsRow w.heap.size 43 3 encFld w4 v' (xs ++ [x])) := by
        unfold IsRow
        rw [List.length_append, ← flat_snoc]
        exact hown
      clear hown hgrow
      go_wp2
      go_roundw
      case rel => exact ⟨k + 1, xs ++ [x], st3, by go_num, HM4.out, HO4.out, hR4, hg4⟩
      case measure => simp [intOf]; omega
    · go_wp2
      go_ret
      have hk' : k = n := by have := HM.out.1; omega
      subst hk'
      exact .ok (a := xs) (by rw [list, HH.out]; exact HM.out.done) hg2 HROW.out HR2.out
set_option maxHeartbeats 400000 in
theorem list_ty_any (w : World) (b : Nat) (f : ByteArray) (pv : Value) (st : St) (d : Nat) (h : Hid (Rd w b f pv st)) (hd : d ≤ 2)
    (HEL : Hid (∀ w1 st1, w.grownBy w1 (some b) → Hid (Rd w1 b f pv st1) → Calls Tryd.prog 61 #[.pointer (some ⟨b, 0, none⟩)] w1 (Ends w1 b f pv (kind f st1) isTy))) :
    Calls Tryd.prog 62 #[.pointer (some ⟨b, 0, none⟩), .int .i64 d, .func (.func 61) #[.pointer (some ⟨b, 0, none⟩)] #[]] w (Ends w b f pv (list f d (kind f) st) (IsRow w.heap.size 41 2 encTy)) := by
  go_enter Tryd.func62, Tryd.ntmps62
  go_wp2_with (go_at_call 42; refine Ends.bind (number_any _ b f pv st d h (by omega)) (fun er w' hr hg => ⟨rfl, .err (er := er) (by rw [list, hr]) rfl rfl hg⟩) ?_; rintro n st1 v w1 HH rfl hR hg)
  have hn : n < 65536 := by
    have := (num_lt HH.out).2
    have : 256 ^ d ≤ 256 ^ 2 := Nat.pow_le_pow_right (by omega) hd
    omega
  go_loopw [7, 11] (fun l i wr => ∃ (k : Nat) (xs : List Ty) (st2 : St), i = .int .i64 k ∧ Mid (kind f) n st1 k xs st2 ∧ IsRow w.heap.size 41 2 encTy wr l xs ∧ Rd wr b f pv st2 ∧ w.grownBy wr (some b)) (fun _ i _ => n - (intOf i).toNat)
  case atStart => exact ⟨0, [], st1, rfl, .start _ _ _, World.ownsRow_nil _ _ _ _, hR.out, hg⟩
  case round =>
    obtain ⟨k, xs, st2, rfl, hmid, hrow, hR2, hg2⟩ := hrel
    have HM : Hid (Mid (kind f) n st1 k xs st2) := hmid
    have HR2 : Hid (Rd wr b f pv st2) := hR2
    have HROW : Hid (IsRow w.heap.size 41 2 encTy wr _ xs) := hrow
    clear hmid hR2 hrow
    by_cases hk : k < n
    · obtain ⟨i, hi, hz0, hz1, hz2⟩ := info_parts info_Ty
      have hne := own_ne HROW.out h.out.lt
      have hlen : xs.length < 65536 := by have := HM.out.2.1; omega
      go_wp2_with (first
        | (go_at_call 61; refine Ends.bind (HEL.out wr st2 hg2 HR2) (fun er w' hr hg3 => ⟨rfl, .err (er := er) (by rw [list, HH.out]; exact HM.out.fail hk hr) rfl rfl (gb_tr hg2 hg3)⟩) ?_; rintro x st3 v w3 H3 rfl hR3 hg3; dsimp only)
        | (at_builtin; go_loud (refine wpList_append_own _ rfl _ _ 44 rfl w.heap.size 41 i _ 2 24 Tryd.underlying44 hi hz0 hz1 hz2 rfl (by decide) _ xs.length (xs.flatMap encTy) rfl ((World.ownsRow.kept HROW.out hg3 (.inr hne)).alloc _) ⟨w3.heap.size, 0, none⟩ 1 1 (encTy x) rfl rfl (new_cells w3 (encTy x) _) (by simp [encTy, Value.oneCell']) (len_small rfl hlen) (by omega) (by have := hg2.size; have := hg3.size; simp; omega) ?_)))
      intro v' w4 hown hgrow _
      have hR4 : Rd w4 b f pv st3 := hR3.out.grow (gb_alloc _ _ _) hgrow (by simpa using hne) (fun g hg => by have := (own_some HROW.out hg).1; have := h.out.poolLt this; exact this)
      have hg4 : w.grownBy w4 (some b) := gb_trans (gb_tr (gb_tr hg2 hg3) (gb_alloc _ _ _)) hgrow (fun g hg => .inl (own_some HROW.out hg).1)
      have HM4 : Hid (Mid (kind f) n st1 (k + 1) (xs ++ [x]) st3) := HM.out.step hk H3.out
      have HO4 : Hid (IsRow w.heap.size 41 2 encTy w4 v' (xs ++ [x])) := by
        unfold IsRow
        rw [List.length_append, ← flat_snoc]
        exact hown
      clear hown hgrow
      go_wp2
      go_roundw
      case rel => exact ⟨k + 1, xs ++ [x], st3, by go_num, HM4.out, HO4.out, hR4, hg4⟩
      case measure => simp [intOf]; omega
    · go_wp2
      go_ret
      have hk' : k = n := by have := HM.out.1; omega
      subst hk'
      exact .ok (a := xs) (by rw [list, HH.out]; exact HM.out.done) hg2 HROW.out HR2.out
set_option maxHeartbeats 400000 in
theorem list_in_any (w : World) (b : Nat) (f : ByteArray) (pv : Value) (st : St) (d : Nat) (h : Hid (Rd w b f pv st)) (hd : d ≤ 2)
    (HEL : Hid (∀ w1 st1, w.grownBy w1 (some b) → Hid (Rd w1 b f pv st1) → Calls Tryd.prog 64 #[.pointer (some ⟨b, 0, none⟩)] w1 (Ends w1 b f pv (ins f st1) isIn))) :
    Calls Tryd.prog 63 #[.pointer (some ⟨b, 0, none⟩), .int .i64 d, .func (.func 64) #[.pointer (some ⟨b, 0, none⟩)] #[]] w (Ends w b f pv (list f d (ins f) st) (IsRow w.heap.size 50 4 encIn)) := by
  go_enter Tryd.func63, Tryd.ntmps63
  go_wp2_with (go_at_call 42; refine Ends.bind (number_any _ b f pv st d h (by omega)) (fun er w' hr hg => ⟨rfl, .err (er := er) (by rw [list, hr]) rfl rfl hg⟩) ?_; rintro n st1 v w1 HH rfl hR hg)
  have hn : n < 65536 := by
    have := (num_lt HH.out).2
    have : 256 ^ d ≤ 256 ^ 2 := Nat.pow_le_pow_right (by omega) hd
    omega
  go_loopw [7, 11] (fun l i wr => ∃ (k : Nat) (xs : List In) (st2 : St), i = .int .i64 k ∧ Mid (ins f) n st1 k xs st2 ∧ IsRow w.heap.size 50 4 encIn wr l xs ∧ Rd wr b f pv st2 ∧ w.grownBy wr (some b)) (fun _ i _ => n - (intOf i).toNat)
  case atStart => exact ⟨0, [], st1, rfl, .start _ _ _, World.ownsRow_nil _ _ _ _, hR.out, hg⟩
  case round =>
    obtain ⟨k, xs, st2, rfl, hmid, hrow, hR2, hg2⟩ := hrel
    have HM : Hid (Mid (ins f) n st1 k xs st2) := hmid
    have HR2 : Hid (Rd wr b f pv st2) := hR2
    have HROW : Hid (IsRow w.heap.size 50 4 encIn wr _ xs) := hrow
    clear hmid hR2 hrow
    by_cases hk : k < n
    · obtain ⟨i, hi, hz0, hz1, hz2⟩ := info_parts info_In
      have hne := own_ne HROW.out h.out.lt
      have hlen : xs.length < 65536 := by have := HM.out.2.1; omega
      go_wp2_with (first
        | (go_at_call 64; refine Ends.bind (HEL.out wr st2 hg2 HR2) (fun er w' hr hg3 => ⟨rfl, .err (er := er) (by rw [list, HH.out]; exact HM.out.fail hk hr) rfl rfl (gb_tr hg2 hg3)⟩) ?_; rintro x st3 v w3 H3 rfl hR3 hg3; dsimp only)
        | (at_builtin; go_loud (refine wpList_append_own _ rfl _ _ 45 rfl w.heap.size 50 i _ 4 48 Tryd.underlying45 hi hz0 hz1 hz2 rfl (by decide) _ xs.length (xs.flatMap encIn) rfl ((World.ownsRow.kept HROW.out hg3 (.inr hne)).alloc _) ⟨w3.heap.size, 0, none⟩ 1 1 (encIn x) rfl rfl (new_cells w3 (encIn x) _) (by simp [encIn, Value.oneCell']) (len_small rfl hlen) (by omega) (by have := hg2.size; have := hg3.size; simp; omega) ?_)))
      intro v' w4 hown hgrow _
      have hR4 : Rd w4 b f pv st3 := hR3.out.grow (gb_alloc _ _ _) hgrow (by simpa using hne) (fun g hg => by have := (own_some HROW.out hg).1; have := h.out.poolLt this; exact this)
      have hg4 : w.grownBy w4 (some b) := gb_trans (gb_tr (gb_tr hg2 hg3) (gb_alloc _ _ _)) hgrow (fun g hg => .inl (own_some HROW.out hg).1)
      have HM4 : Hid (Mid (ins f) n st1 (k + 1) (xs ++ [x]) st3) := HM.out.step hk H3.out
      have HO4 : Hid (IsRow w.heap.size 50 4 encIn w4 v' (xs ++ [x])) := by
        unfold IsRow
        rw [List.length_append, ← flat_snoc]
        exact hown
      clear hown hgrow
      go_wp2
      go_roundw
      case rel => exact ⟨k + 1, xs ++ [x], st3, by go_num, HM4.out, HO4.out, hR4, hg4⟩
      case measure => simp [intOf]; omega
    · go_wp2
      go_ret
      have hk' : k = n := by have := HM.out.1; omega
      subst hk'
      exact .ok (a := xs) (by rw [list, HH.out]; exact HM.out.done) hg2 HROW.out HR2.out
set_option maxHeartbeats 400000 in
theorem list_hd_any (w : World) (b : Nat) (f : ByteArray) (pv : Value) (st : St) (d : Nat) (h : Hid (Rd w b f pv st)) (hd : d ≤ 2)
    (HEL : Hid (∀ w1 st1, w.grownBy w1 (some b) → Hid (Rd w1 b f pv st1) → Calls Tryd.prog 66 #[.pointer (some ⟨b, 0, none⟩)] w1 (Ends w1 b f pv (handler f st1) isHd))) :
    Calls Tryd.prog 65 #[.pointer (some ⟨b, 0, none⟩), .int .i64 d, .func (.func 66) #[.pointer (some ⟨b, 0, none⟩)] #[]] w (Ends w b f pv (list f d (handler f) st) (IsRow w.heap.size 52 4 encHd)) := by
  go_enter Tryd.func65, Tryd.ntmps65
  go_wp2_with (go_at_call 42; refine Ends.bind (number_any _ b f pv st d h (by omega)) (fun er w' hr hg => ⟨rfl, .err (er := er) (by rw [list, hr]) rfl rfl hg⟩) ?_; rintro n st1 v w1 HH rfl hR hg)
  have hn : n < 65536 := by
    have := (num_lt HH.out).2
    have : 256 ^ d ≤ 256 ^ 2 := Nat.pow_le_pow_right (by omega) hd
    omega
  go_loopw [7, 11] (fun l i wr => ∃ (k : Nat) (xs : List Hd) (st2 : St), i = .int .i64 k ∧ Mid (handler f) n st1 k xs st2 ∧ IsRow w.heap.size 52 4 encHd wr l xs ∧ Rd wr b f pv st2 ∧ w.grownBy wr (some b)) (fun _ i _ => n - (intOf i).toNat)
  case atStart => exact ⟨0, [], st1, rfl, .start _ _ _, World.ownsRow_nil _ _ _ _, hR.out, hg⟩
  case round =>
    obtain ⟨k, xs, st2, rfl, hmid, hrow, hR2, hg2⟩ := hrel
    have HM : Hid (Mid (handler f) n st1 k xs st2) := hmid
    have HR2 : Hid (Rd wr b f pv st2) := hR2
    have HROW : Hid (IsRow w.heap.size 52 4 encHd wr _ xs) := hrow
    clear hmid hR2 hrow
    by_cases hk : k < n
    · obtain ⟨i, hi, hz0, hz1, hz2⟩ := info_parts info_Hd
      have hne := own_ne HROW.out h.out.lt
      have hlen : xs.length < 65536 := by have := HM.out.2.1; omega
      go_wp2_with (first
        | (go_at_call 66; refine Ends.bind (HEL.out wr st2 hg2 HR2) (fun er w' hr hg3 => ⟨rfl, .err (er := er) (by rw [list, HH.out]; exact HM.out.fail hk hr) rfl rfl (gb_tr hg2 hg3)⟩) ?_; rintro x st3 v w3 H3 rfl hR3 hg3; dsimp only)
        | (at_builtin; go_loud (refine wpList_append_own _ rfl _ _ 46 rfl w.heap.size 52 i _ 4 40 Tryd.underlying46 hi hz0 hz1 hz2 rfl (by decide) _ xs.length (xs.flatMap encHd) rfl ((World.ownsRow.kept HROW.out hg3 (.inr hne)).alloc _) ⟨w3.heap.size, 0, none⟩ 1 1 (encHd x) rfl rfl (new_cells w3 (encHd x) _) (by simp [encHd, Value.oneCell']) (len_small rfl hlen) (by omega) (by have := hg2.size; have := hg3.size; simp; omega) ?_)))
      intro v' w4 hown hgrow _
      have hR4 : Rd w4 b f pv st3 := hR3.out.grow (gb_alloc _ _ _) hgrow (by simpa using hne) (fun g hg => by have := (own_some HROW.out hg).1; have := h.out.poolLt this; exact this)
      have hg4 : w.grownBy w4 (some b) := gb_trans (gb_tr (gb_tr hg2 hg3) (gb_alloc _ _ _)) hgrow (fun g hg => .inl (own_some HROW.out hg).1)
      have HM4 : Hid (Mid (handler f) n st1 (k + 1) (xs ++ [x]) st3) := HM.out.step hk H3.out
      have HO4 : Hid (IsRow w.heap.size 52 4 encHd w4 v' (xs ++ [x])) := by
        unfold IsRow
        rw [List.length_append, ← flat_snoc]
        exact hown
      clear hown hgrow
      go_wp2
      go_roundw
      case rel => exact ⟨k + 1, xs ++ [x], st3, by go_num, HM4.out, HO4.out, hR4, hg4⟩
      case measure => simp [intOf]; omega
    · go_wp2
      go_ret
      have hk' : k = n := by have := HM.out.1; omega
      subst hk'
      exact .ok (a := xs) (by rw [list, HH.out]; exact HM.out.done) hg2 HROW.out HR2.out
end Go.Proofs.YtdhophglnhcjbaaDoor

namespace Go.Proofs.YtdhophglnhcjbaaDoor
open Go.RowKit Cf

theorem own_base {w : World} {base base' e size n : Nat} {v : Value} {cs : List Value} (h : w.ownsRow base e size v n cs) (hb : base' ≤ base) : w.ownsRow base' e size v n cs :=
  ⟨h.1, h.2.imp id (fun ⟨g, cap, cur, h1, h2, h3⟩ => ⟨g, cap, cur, h1, Nat.le_trans hb h2, h3⟩)⟩

theorem own_slice {w : World} {base e size n : Nat} {v : Value} {cs : List Value} (h : w.ownsRow base e size v n cs) : ∃ a c, v = .slice a n c := by
  rcases h.2 with ⟨rfl, rfl⟩ | ⟨g, cap, cur, rfl, _⟩
  · exact ⟨_, _, rfl⟩
  · exact ⟨_, _, rfl⟩

theorem gb_sets8 {w : World} {g : Nat} {i0 i1 i2 i3 i4 i5 i6 i7 : Nat} {x0 x1 x2 x3 x4 x5 x6 x7 : Value} :
    w.grownBy ((((((((w.setCell ⟨g, i0, none⟩ x0).setCell ⟨g, i1, none⟩ x1).setCell ⟨g, i2, none⟩ x2).setCell ⟨g, i3, none⟩ x3).setCell ⟨g, i4, none⟩ x4).setCell ⟨g, i5, none⟩ x5).setCell ⟨g, i6, none⟩ x6).setCell ⟨g, i7, none⟩ x7) (some g) :=
  gb_tr (gb_tr (gb_tr (gb_tr (gb_tr (gb_tr (gb_tr (gb_set _ ⟨g, i0, none⟩ _) (gb_set _ ⟨g, i1, none⟩ _)) (gb_set _ ⟨g, i2, none⟩ _)) (gb_set _ ⟨g, i3, none⟩ _)) (gb_set _ ⟨g, i4, none⟩ _)) (gb_set _ ⟨g, i5, none⟩ _)) (gb_set _ ⟨g, i6, none⟩ _)) (gb_set _ ⟨g, i7, none⟩ _)

/-- a method as it lies in eight cells; its lists in blocks of which P holds -/
def MeCells (P : Nat → Prop) (base : Nat) (w : World) (c : List Value) (m : Me) : Prop :=
  ∃ pv cv hv, c = [.string m.name, pv, .int .i64 m.ret.kind, .string m.ret.name, .int .i64 m.stack, .int .i64 m.locals, cv, hv] ∧
    IsRow base 41 2 encTy w pv m.params ∧ IsRow base 50 4 encIn w cv m.code ∧ IsRow base 52 4 encHd w hv m.handlers ∧
    (∀ g, pv.ownBlock = some g ∨ cv.ownBlock = some g ∨ hv.ownBlock = some g → P g)
def isMe (base : Nat) (w : World) (v : Value) (m : Me) : Prop := ∃ c, v = .agg (List.toArray c) ∧ MeCells (fun _ => True) base w c m

set_option maxHeartbeats 1000000 in
theorem method_any (w : World) (b : Nat) (f : ByteArray) (pv : Value) (st : St) (h : Hid (Rd w b f pv st)) (hS : Hid (Shp w)) (hb0 : 0 < b) :
    Calls Tryd.prog 48 #[.pointer (some ⟨b, 0, none⟩)] w (Ends w b f pv (meth f st) (isMe w.heap.size)) := by
  have hbl : b < w.heap.size := h.out.lt
  have hmf : ∀ (fn : Fn) (first cap : Array Value) (w : World), (Instr.makeFunc fn first cap).run Tryd.prog w = .ok (.func fn first cap) w := fun _ _ _ _ => rfl
  go_enter Tryd.func48, Tryd.ntmps48
  go_wp2_with (first
    | (go_at_call 44
       refine Ends.bind (name_any _ b f pv st (h.out.keep (gb_alloc _ _ _))) (fun er w' hr hg => ⟨rfl, .err (er := er) (by simp only [meth, hr]) rfl rfl (gb_tr (gb_alloc _ _ _) hg)⟩) ?_
       rintro n st1 v w1 H1 rfl hR1 hg1'
       have hg1 := gb_tr (gb_alloc w _ (some b)) hg1'
       have hB1 := (Blk.new w _ _).keep hg1' (by simp; omega)
       have s1 : w.heap.size < w1.heap.size := by have := hB1.lt; omega
       clear hg1'
       dsimp only)
    | (go_at_call 62
       refine Ends.bind (list_ty_any w1 b f pv st1 1 hR1 (by omega) (fun wx sx hgx hx => kind_any wx b f pv sx hx)) (fun er w' hr hg => ⟨rfl, .err (er := er) (by simp only [meth, H1.out, hr]) rfl rfl (gb_tr hg1 hg)⟩) ?_
       rintro ps st2 v2 w2 H2 hv2 hR2 hg2'
       have hg2 := gb_tr hg1 hg2'
       have hB2 := hB1.keep hg2' (by simp; omega)
       have s2 : w1.heap.size ≤ w2.heap.size := hg2'.size
       obtain ⟨a2, k2, rfl⟩ := own_slice hv2
       have hL2 : Hid (IsRow w1.heap.size 41 2 encTy w2 (.slice a2 ps.length k2) ps) := hv2
       clear hv2 hg2' hB1
       dsimp only)
    | (go_at_call 61
       refine Ends.bind (kind_any w2 b f pv st2 hR2) (fun er w' hr hg => ⟨rfl, .err (er := er) (by simp only [meth, H1.out, H2.out, hr]) rfl rfl (gb_tr hg2 hg)⟩) ?_
       rintro rt st3 v w3 H3 rfl hR3 hg3'
       have hg3 := gb_tr hg2 hg3'
       have hB3 := hB2.keep hg3' (by simp; omega)
       have s3 : w2.heap.size ≤ w3.heap.size := hg3'.size
       have hL3 : Hid (IsRow w1.heap.size 41 2 encTy w3 (.slice a2 ps.length k2) ps) := World.ownsRow.kept hL2.out hg3' (.inr (own_ne hL2.out hR1.out.lt))
       clear hg3' hB2 hL2
       dsimp only)
    | (go_at_call 42
       refine Ends.bind (number_any w4 b f pv st4 1 hR4 (by omega)) (fun er w' hr hg => ⟨rfl, .err (er := er) (by simp only [meth, H1.out, H2.out, H3.out, H4.out, hr]) rfl rfl (gb_tr hg4 hg)⟩) ?_
       rintro lo st5 v w5 H5 rfl hR5 hg5'
       have hg5 := gb_tr hg4 hg5'
       have hB5 := hB4.keep hg5' (by simp; omega)
       have s5 : w4.heap.size ≤ w5.heap.size := hg5'.size
       have hL5 : Hid (IsRow w1.heap.size 41 2 encTy w5 (.slice a2 ps.length k2) ps) := World.ownsRow.kept hL4.out hg5' (.inr (own_ne hL4.out hR1.out.lt))
       clear hg5' hB4 hL4
       dsimp only)
    | (go_at_call 42
       refine Ends.bind (number_any w3 b f pv st3 1 hR3 (by omega)) (fun er w' hr hg => ⟨rfl, .err (er := er) (by simp only [meth, H1.out, H2.out, H3.out, hr]) rfl rfl (gb_tr hg3 hg)⟩) ?_
       rintro so st4 v w4 H4 rfl hR4 hg4'
       have hg4 := gb_tr hg3 hg4'
       have hB4 := hB3.keep hg4' (by simp; omega)
       have s4 : w3.heap.size ≤ w4.heap.size := hg4'.size
       have hL4 : Hid (IsRow w1.heap.size 41 2 encTy w4 (.slice a2 ps.length k2) ps) := World.ownsRow.kept hL3.out hg4' (.inr (own_ne hL3.out hR1.out.lt))
       clear hg4' hB3 hL3
       dsimp only)
    | (go_at_call 63
       refine Ends.bind (list_in_any w5 b f pv st5 2 hR5 (by omega) (fun wx sx hgx hx => instruction_any wx b f pv sx hx (hS.out.keep (gb_tr hg5 hgx) (by simp; omega)) hb0)) (fun er w' hr hg => ⟨rfl, .err (er := er) (by simp only [meth, H1.out, H2.out, H3.out, H4.out, H5.out, hr]) rfl rfl (gb_tr hg5 hg)⟩) ?_
       rintro is st6 v6 w6 H6 hv6 hR6 hg6'
       have hg6 := gb_tr hg5 hg6'
       have hB6 := hB5.keep hg6' (by simp; omega)
       have s6 : w5.heap.size ≤ w6.heap.size := hg6'.size
       obtain ⟨a6, k6, rfl⟩ := own_slice hv6
       have hL6 : Hid (IsRow w1.heap.size 41 2 encTy w6 (.slice a2 ps.length k2) ps) := World.ownsRow.kept hL5.out hg6' (.inr (own_ne hL5.out hR1.out.lt))
       have hI6 : Hid (IsRow w5.heap.size 50 4 encIn w6 (.slice a6 is.length k6) is) := hv6
       clear hv6 hg6' hB5 hL5
       dsimp only)
    | (go_at_call 65
       refine Ends.bind (list_hd_any w6 b f pv st6 1 hR6 (by omega) (fun wx sx hgx hx => handler_any wx b f pv sx hx)) (fun er w' hr hg => ⟨rfl, .err (er := er) (by simp only [meth, H1.out, H2.out, H3.out, H4.out, H5.out, H6.out, hr]) rfl rfl (gb_tr hg6 hg)⟩) ?_
       rintro hs st7 v7 w7 H7 hv7 hR7 hg7'
       have hg7 := gb_tr hg6 hg7'
       have hB7 := hB6.keep hg7' (by simp; omega)
       have s7 : w6.heap.size ≤ w7.heap.size := hg7'.size
       obtain ⟨a7, k7, rfl⟩ := own_slice hv7
       have hL7 : Hid (IsRow w1.heap.size 41 2 encTy w7 (.slice a2 ps.length k2) ps) := World.ownsRow.kept hL6.out hg7' (.inr (own_ne hL6.out hR1.out.lt))
       have hI7 : Hid (IsRow w5.heap.size 50 4 encIn w7 (.slice a6 is.length k6) is) := World.ownsRow.kept hI6.out hg7' (.inr (own_ne hI6.out hR5.out.lt))
       have hH7 : Hid (IsRow w6.heap.size 52 4 encHd w7 (.slice a7 hs.length k7) hs) := hv7
       have c0 := hB7.cell 0 _ rfl
       have c1 := hB7.cell 1 _ rfl
       have c2 := hB7.cell 2 _ rfl
       have c3 := hB7.cell 3 _ rfl
       have c4 := hB7.cell 4 _ rfl
       have c5 := hB7.cell 5 _ rfl
       have c6 := hB7.cell 6 _ rfl
       have c7 := hB7.cell 7 _ rfl
       have z0 := hB7.frozen 0
       have z1 := hB7.frozen 1
       have z2 := hB7.frozen 2
       have z3 := hB7.frozen 3
       have z4 := hB7.frozen 4
       have z5 := hB7.frozen 5
       have z6 := hB7.frozen 6
       have z7 := hB7.frozen 7
       clear hv7 hg7' hB6 hL6 hI6 hB7
       dsimp only))
  refine bodyPost_ret (v := .agg #[.string n, .slice a2 ps.length k2, .int .i64 rt.kind, .string rt.name, .int .i64 so, .int .i64 lo, .slice a6 is.length k6, .slice a7 hs.length k7]) (by simp [results, Tryd.results48, go_sem, c0, c1, c2, c3, c4, c5, c6, c7]) rfl ?_
  refine .ok (a := ⟨n, ps, rt, so, lo, is, hs⟩) (st := st7) ?_ ?_ ?_ ?_
  · simp only [meth, H1.out, H2.out, H3.out, H4.out, H5.out, H6.out, H7.out]
  · exact gb_trans hg7 (gb_sets8 (g := w.heap.size)) (fun k e => .inl (by cases e; exact Nat.le_refl _))
  · refine ⟨_, rfl, _, _, _, rfl, ?_, ?_, ?_, fun _ _ => trivial⟩
    · exact own_base (World.ownsRow.kept hL7.out (gb_sets8 (g := w.heap.size)) (.inr (own_ne hL7.out (by omega)))) (by omega)
    · exact own_base (World.ownsRow.kept hI7.out (gb_sets8 (g := w.heap.size)) (.inr (own_ne hI7.out (by omega)))) (by omega)
    · exact own_base (World.ownsRow.kept hH7.out (gb_sets8 (g := w.heap.size)) (.inr (own_ne hH7.out (by omega)))) (by omega)
  · exact hR7.out.keepAt (gb_sets8 (g := w.heap.size)) (by omega) (h.out.poolLt (Nat.le_refl _))
end Go.Proofs.YtdhophglnhcjbaaDoor

namespace Go.Proofs.YtdhophglnhcjbaaDoor
open Go.RowKit Cf

/-- rows of two kinds of things lie in two blocks -/
theorem own_kinds {w : World} {b1 b2 e1 e2 s1 s2 n1 n2 : Nat} {v1 v2 : Value} {c1 c2 : List Value} (h1 : w.ownsRow b1 e1 s1 v1 n1 c1) (h2 : w.ownsRow b2 e2 s2 v2 n2 c2) (hne : e1 ≠ e2) : v1.ownBlock = none ∨ v1.ownBlock ≠ v2.ownBlock := by
  rcases h1.2 with ⟨rfl, _⟩ | ⟨g, cap, cur, rfl, _, hg, _⟩
  · exact .inl rfl
  · right
    rcases h2.2 with ⟨rfl, _⟩ | ⟨g', cap', cur', rfl, _, hg', _⟩
    · simp [Value.ownBlock]
    · intro e
      simp only [Value.ownBlock, Option.some.injEq] at e
      subst e
      rw [hg] at hg'
      simp only [Option.some.injEq, Obj.cells.injEq] at hg'
      exact hne hg'.2.1

theorem MeCells.keep {base : Nat} {w w' : World} {c : List Value} {m : Me} {row : Option Nat} (h : MeCells (fun _ => True) base w c m) (hg : w.grownBy w' row) (hr : ∀ k, row = some k → k < base) : MeCells (fun _ => True) base w' c m := by
  obtain ⟨pv, cv, hv, hc, h1, h2, h3, h4⟩ := h
  have key : ∀ {e s n : Nat} {v : Value} {cs : List Value}, w.ownsRow base e s v n cs → v.ownBlock = none ∨ v.ownBlock ≠ row := fun {e s n v cs} ho => by
    cases row with
    | none => cases hv : v.ownBlock <;> simp
    | some k => exact .inr (own_ne ho (hr k rfl))
  exact ⟨pv, cv, hv, hc, World.ownsRow.kept h1 hg (key h1), World.ownsRow.kept h2 hg (key h2), World.ownsRow.kept h3 hg (key h3), h4⟩

theorem MeCells.onto {base b2 : Nat} {w w' : World} {c : List Value} {m : Me} {v : Value} {s n : Nat} {cs : List Value} (h : MeCells (fun _ => True) base w c m) (ho : w.ownsRow b2 48 s v n cs) (hg : w.grownBy w' v.ownBlock) : MeCells (fun _ => True) base w' c m := by
  obtain ⟨pv, cv, hv, hc, h1, h2, h3, h4⟩ := h
  exact ⟨pv, cv, hv, hc, World.ownsRow.kept h1 hg (own_kinds h1 ho (by decide)), World.ownsRow.kept h2 hg (own_kinds h2 ho (by decide)), World.ownsRow.kept h3 hg (own_kinds h3 ho (by decide)), h4⟩

/-- a slice of one's own that holds methods -/
def IsMes (base : Nat) (w : World) (v : Value) (ms : List Me) : Prop :=
  ∃ css : List (List Value), css.length = ms.length ∧ w.ownsRow base 48 8 v ms.length css.flatten ∧ ∀ (i : Nat) (c : List Value) (m : Me), css[i]? = some c → ms[i]? = some m → MeCells (fun _ => True) base w c m

theorem IsMes.nil (base : Nat) (w : World) : IsMes base w (.slice none 0 0) [] := ⟨[], rfl, World.ownsRow_nil _ _ _ _, fun i c m h => by simp at h⟩

theorem IsMes.keep {base : Nat} {w w' : World} {v : Value} {ms : List Me} {row : Option Nat} (h : IsMes base w v ms) (hg : w.grownBy w' row) (hr : ∀ k, row = some k → k < base) : IsMes base w' v ms := by
  obtain ⟨css, h1, h2, h3⟩ := h
  refine ⟨css, h1, h2.kept hg ?_, fun i c m hc hm => (h3 i c m hc hm).keep hg hr⟩
  cases row with
  | none => cases hv : v.ownBlock <;> simp
  | some k => exact .inr (own_ne h2 (hr k rfl))

theorem MeCells.base {b1 b2 : Nat} {w : World} {c : List Value} {m : Me} (h : MeCells (fun _ => True) b1 w c m) (hb : b2 ≤ b1) : MeCells (fun _ => True) b2 w c m := by
  obtain ⟨pv, cv, hv, hc, h1, h2, h3, h4⟩ := h
  exact ⟨pv, cv, hv, hc, own_base h1 hb, own_base h2 hb, own_base h3 hb, h4⟩

theorem IsMes.push {base : Nat} {w w' : World} {v v' : Value} {ms : List Me} {m : Me} {c : List Value} {css : List (List Value)} (hl : css.length = ms.length) (ho : w.ownsRow base 48 8 v ms.length css.flatten)
    (h : ∀ (i : Nat) (c : List Value) (m : Me), css[i]? = some c → ms[i]? = some m → MeCells (fun _ => True) base w c m) (hm : MeCells (fun _ => True) base w c m)
    (hown : w'.ownsRow base 48 8 v' (ms.length + 1) (css.flatten ++ c)) (hg : w.grownBy w' v.ownBlock) : IsMes base w' v' (ms ++ [m]) := by
  refine ⟨css ++ [c], by simp [hl], by simpa using hown, fun i c' m' hc' hm' => ?_⟩
  by_cases hi : i < css.length
  · rw [List.getElem?_append_left hi] at hc'
    rw [List.getElem?_append_left (by omega)] at hm'
    exact (h i c' m' hc' hm').onto ho hg
  · rw [List.getElem?_append_right (by omega)] at hc' hm'
    have : i = css.length := by
      have := (List.getElem?_eq_some_iff.1 hc').1
      simp at this; omega
    subst this
    simp [hl] at hc' hm'
    subst hc' hm'
    exact hm.onto ho hg

set_option maxHeartbeats 400000 in
theorem list_me_any (w : World) (b : Nat) (f : ByteArray) (pv : Value) (st : St) (d : Nat) (h : Hid (Rd w b f pv st)) (hd : d ≤ 2) (hS : Hid (Shp w)) (hb0 : 0 < b) :
    Calls Tryd.prog 47 #[.pointer (some ⟨b, 0, none⟩), .int .i64 d, .func (.func 48) #[.pointer (some ⟨b, 0, none⟩)] #[]] w (Ends w b f pv (list f d (meth f) st) (IsMes w.heap.size)) := by
  have hbl : b < w.heap.size := h.out.lt
  go_enter Tryd.func47, Tryd.ntmps47
  go_wp2_with (go_at_call 42; refine Ends.bind (number_any w b f pv st d h (by omega)) (fun er w' hr hg => ⟨rfl, .err (er := er) (by rw [list, hr]) rfl rfl hg⟩) ?_; rintro n st1 v w1 HH rfl hR hg)
  have hn : n < 65536 := by
    have := (num_lt HH.out).2
    have : 256 ^ d ≤ 256 ^ 2 := Nat.pow_le_pow_right (by omega) hd
    omega
  go_loopw [7, 11] (fun l i wr => ∃ (k : Nat) (xs : List Me) (st2 : St), i = .int .i64 k ∧ Mid (meth f) n st1 k xs st2 ∧ IsMes w.heap.size wr l xs ∧ Rd wr b f pv st2 ∧ w.grownBy wr (some b)) (fun _ i _ => n - (intOf i).toNat)
  case atStart => exact ⟨0, [], st1, rfl, .start _ _ _, .nil _ _, hR.out, hg⟩
  case round =>
    obtain ⟨k, xs, st2, rfl, hmid, hrow, hR2, hg2⟩ := hrel
    have HM : Hid (Mid (meth f) n st1 k xs st2) := hmid
    have HR2 : Hid (Rd wr b f pv st2) := hR2
    have HROW : Hid (IsMes w.heap.size wr _ xs) := hrow
    clear hmid hR2 hrow
    by_cases hk : k < n
    · obtain ⟨i, hi, hz0, hz1, hz2⟩ := info_parts info_Me
      obtain ⟨css, hcl, hco, hcc⟩ := HROW.out
      have hne := own_ne hco hbl
      have HCO : Hid (wr.ownsRow w.heap.size 48 8 _ xs.length css.flatten) := hco
      have HCC : Hid (∀ (i : Nat) (c : List Value) (m : Me), css[i]? = some c → xs[i]? = some m → MeCells (fun _ => True) w.heap.size wr c m) := hcc
      have HCL : Hid (css.length = xs.length) := hcl
      clear hcl hco hcc
      have hlen : xs.length < 65536 := by have := HM.out.2.1; omega
      go_wp2_with (first
        | (go_at_call 48
           refine Ends.bind (method_any wr b f pv st2 HR2 (hS.out.keep hg2 (by simp; omega)) hb0) (fun er w' hr hg3 => ⟨rfl, .err (er := er) (by rw [list, HH.out]; exact HM.out.fail hk hr) rfl rfl (gb_tr hg2 hg3)⟩) ?_
           rintro x st3 v w3 H3 ⟨c, rfl, hme⟩ hR3 hg3
           have HME : Hid (MeCells (fun _ => True) wr.heap.size w3 c x) := hme
           obtain ⟨pv', cv', hv', rfl, r1, r2, r3, -⟩ := hme
           obtain ⟨a1, k1, rfl⟩ := own_slice r1
           obtain ⟨a2, k2, rfl⟩ := own_slice r2
           obtain ⟨a3, k3, rfl⟩ := own_slice r3
           clear r1 r2 r3
           dsimp only)
        | (at_builtin; go_loud (refine wpList_append_own _ rfl _ _ 23 rfl w.heap.size 48 i _ 8 128 Tryd.underlying23 hi hz0 hz1 hz2 rfl (by decide) _ xs.length css.flatten rfl ((World.ownsRow.kept HCO.out hg3 (.inr hne)).alloc _) ⟨w3.heap.size, 0, none⟩ 1 1 [.string x.name, .slice a1 x.params.length k1, .int .i64 x.ret.kind, .string x.ret.name, .int .i64 x.stack, .int .i64 x.locals, .slice a2 x.code.length k2, .slice a3 x.handlers.length k3] rfl rfl (new_cells w3 _ _) (by simp [Value.oneCell']) (len_small rfl hlen) (by omega) (by have := hg2.size; have := hg3.size; simp; omega) ?_)))
      intro v' w4 hown hgrow _
      have hR4 : Rd w4 b f pv st3 := hR3.out.grow (gb_alloc _ _ _) hgrow (by simpa using hne) (fun g hg => by have := (own_some HCO.out hg).1; have := h.out.poolLt this; exact this)
      have hg4 : w.grownBy w4 (some b) := gb_trans (gb_tr (gb_tr hg2 hg3) (gb_alloc _ _ _)) hgrow (fun g hg => .inl (own_some HCO.out hg).1)
      have HM4 : Hid (Mid (meth f) n st1 (k + 1) (xs ++ [x]) st3) := HM.out.step hk H3.out
      have HO4 : Hid (IsMes w.heap.size w4 v' (xs ++ [x])) := by
        refine IsMes.push HCL.out ((World.ownsRow.kept HCO.out hg3 (.inr hne)).alloc _) (fun i c m hc hm => ((HCC.out i c m hc hm).keep hg3 (fun k e => by cases e; exact hbl)).keep (gb_alloc _ _ none) (fun _ e => by cases e)) ?_ hown hgrow
        exact (HME.out.base hg2.size).keep (gb_alloc _ _ none) (fun _ e => by cases e)
      clear hown hgrow
      go_wp2
      go_roundw
      case rel => exact ⟨k + 1, xs ++ [x], st3, by go_num, HM4.out, HO4.out, hR4, hg4⟩
      case measure => simp [intOf]; omega
    · go_wp2
      go_ret
      have hk' : k = n := by have := HM.out.1; omega
      subst hk'
      exact .ok (a := xs) (by rw [list, HH.out]; exact HM.out.done) hg2 HROW.out HR2.out
end Go.Proofs.YtdhophglnhcjbaaDoor

namespace Go.Proofs.YtdhophglnhcjbaaDoor
open Go.RowKit Cf

def isCl (base : Nat) (w : World) (v : Value) (c : Cl) : Prop :=
  ∃ a1 k1 a2 k2, v = .agg #[.string c.name, .string c.super, .slice a1 c.fields.length k1, .slice a2 c.methods.length k2] ∧
    IsRow base 43 3 encFld w (.slice a1 c.fields.length k1) c.fields ∧ IsMes base w (.slice a2 c.methods.length k2) c.methods

theorem IsRow.keep {α : Type} {base e size : Nat} {enc : α → List Value} {w w' : World} {v : Value} {xs : List α} {row : Option Nat} (h : IsRow base e size enc w v xs) (hg : w.grownBy w' row) (hr : ∀ k, row = some k → k < base) : IsRow base e size enc w' v xs := by
  refine World.ownsRow.kept h hg ?_
  cases row with
  | none => cases hv : v.ownBlock <;> simp
  | some k => exact .inr (own_ne h (hr k rfl))
theorem IsRow.base {α : Type} {base base' e size : Nat} {enc : α → List Value} {w : World} {v : Value} {xs : List α} (h : IsRow base e size enc w v xs) (hb : base' ≤ base) : IsRow base' e size enc w v xs := own_base h hb
theorem IsMes.base {base base' : Nat} {w : World} {v : Value} {ms : List Me} (h : IsMes base w v ms) (hb : base' ≤ base) : IsMes base' w v ms := by
  obtain ⟨css, h1, h2, h3⟩ := h
  exact ⟨css, h1, own_base h2 hb, fun i c m hc hm => (h3 i c m hc hm).base hb⟩
theorem IsMes.slice {base : Nat} {w : World} {v : Value} {ms : List Me} (h : IsMes base w v ms) : ∃ a c, v = .slice a ms.length c := by
  obtain ⟨css, h1, h2, h3⟩ := h
  exact own_slice h2
theorem isCl.keep {base : Nat} {w w' : World} {v : Value} {c : Cl} {row : Option Nat} (h : isCl base w v c) (hg : w.grownBy w' row) (hr : ∀ k, row = some k → k < base) : isCl base w' v c := by
  obtain ⟨a1, k1, a2, k2, hv, h1, h2⟩ := h
  exact ⟨a1, k1, a2, k2, hv, h1.keep hg hr, h2.keep hg hr⟩
theorem isCl.base {b1 b2 : Nat} {w : World} {v : Value} {c : Cl} (h : isCl b1 w v c) (hb : b2 ≤ b1) : isCl b2 w v c := by
  obtain ⟨a1, k1, a2, k2, hv, h1, h2⟩ := h
  exact ⟨a1, k1, a2, k2, hv, h1.base hb, h2.base hb⟩

theorem gb_sets4 {w : World} {g : Nat} {i0 i1 i2 i3 : Nat} {x0 x1 x2 x3 : Value} :
    w.grownBy ((((w.setCell ⟨g, i0, none⟩ x0).setCell ⟨g, i1, none⟩ x1).setCell ⟨g, i2, none⟩ x2).setCell ⟨g, i3, none⟩ x3) (some g) :=
  gb_tr (gb_tr (gb_tr (gb_set _ ⟨g, i0, none⟩ _) (gb_set _ ⟨g, i1, none⟩ _)) (gb_set _ ⟨g, i2, none⟩ _)) (gb_set _ ⟨g, i3, none⟩ _)

set_option maxHeartbeats 1000000 in
theorem class_any (w : World) (b : Nat) (f : ByteArray) (pv : Value) (st : St) (h : Hid (Rd w b f pv st)) (hS : Hid (Shp w)) (hb0 : 0 < b) :
    Calls Tryd.prog 32 #[.pointer (some ⟨b, 0, none⟩)] w (Ends w b f pv (cls f st) (isCl w.heap.size)) := by
  have hbl : b < w.heap.size := h.out.lt
  have hmf : ∀ (fn : Fn) (first cap : Array Value) (w : World), (Instr.makeFunc fn first cap).run Tryd.prog w = .ok (.func fn first cap) w := fun _ _ _ _ => rfl
  go_enter Tryd.func32, Tryd.ntmps32
  go_wp2_with (first
    | (go_at_call 44
       refine Ends.bind (name_any w1 b f pv st1 hR1) (fun er w' hr hg => ⟨rfl, .err (er := er) (by simp only [cls, H1.out, hr]) rfl rfl (gb_tr hg1 hg)⟩) ?_
       rintro su st2 v w2 H2 rfl hR2 hg2'
       have hg2 := gb_tr hg1 hg2'
       have hB2 := hB1.keep hg2' (by simp; omega)
       have s2 : w1.heap.size ≤ w2.heap.size := hg2'.size
       clear hg2' hB1
       dsimp only)
    | (go_at_call 44
       refine Ends.bind (name_any _ b f pv st (h.out.keep (gb_alloc _ _ _))) (fun er w' hr hg => ⟨rfl, .err (er := er) (by simp only [cls, hr]) rfl rfl (gb_tr (gb_alloc _ _ _) hg)⟩) ?_
       rintro n st1 v w1 H1 rfl hR1 hg1'
       have hg1 := gb_tr (gb_alloc w _ (some b)) hg1'
       have hB1 := (Blk.new w _ _).keep hg1' (by simp; omega)
       have s1 : w.heap.size < w1.heap.size := by have := hB1.lt; omega
       clear hg1'
       dsimp only)
    | (go_at_call 45
       refine Ends.bind (list_fld_any w2 b f pv st2 1 hR2 (by omega) (fun wx sx hgx hx => field_any wx b f pv sx hx)) (fun er w' hr hg => ⟨rfl, .err (er := er) (by simp only [cls, H1.out, H2.out, hr]) rfl rfl (gb_tr hg2 hg)⟩) ?_
       rintro fs st3 v3 w3 H3 hv3 hR3 hg3'
       have hg3 := gb_tr hg2 hg3'
       have hB3 := hB2.keep hg3' (by simp; omega)
       have s3 : w2.heap.size ≤ w3.heap.size := hg3'.size
       obtain ⟨a3, k3, rfl⟩ := own_slice hv3
       have hL3 : Hid (IsRow w2.heap.size 43 3 encFld w3 (.slice a3 fs.length k3) fs) := hv3
       clear hv3 hg3' hB2
       dsimp only)
    | (go_at_call 47
       refine Ends.bind (list_me_any w3 b f pv st3 1 hR3 (by omega) (hS.out.keep hg3 (by simp; omega)) hb0) (fun er w' hr hg => ⟨rfl, .err (er := er) (by simp only [cls, H1.out, H2.out, H3.out, hr]) rfl rfl (gb_tr hg3 hg)⟩) ?_
       rintro ms st4 v4 w4 H4 hv4 hR4 hg4'
       have hg4 := gb_tr hg3 hg4'
       have hB4 := hB3.keep hg4' (by simp; omega)
       have s4 : w3.heap.size ≤ w4.heap.size := hg4'.size
       obtain ⟨a4, k4, rfl⟩ := hv4.slice
       have hM4 : Hid (IsMes w3.heap.size w4 (.slice a4 ms.length k4) ms) := hv4
       have hL4 : Hid (IsRow w2.heap.size 43 3 encFld w4 (.slice a3 fs.length k3) fs) := hL3.out.keep hg4' (fun k e => by cases e; omega)
       have c0 := hB4.cell 0 _ rfl
       have c1 := hB4.cell 1 _ rfl
       have c2 := hB4.cell 2 _ rfl
       have c3 := hB4.cell 3 _ rfl
       have z0 := hB4.frozen 0
       have z1 := hB4.frozen 1
       have z2 := hB4.frozen 2
       have z3 := hB4.frozen 3
       clear hv4 hg4' hB3 hL3 hB4
       dsimp only))
  refine bodyPost_ret (v := .agg #[.string n, .string su, .slice a3 fs.length k3, .slice a4 ms.length k4]) (by simp [results, Tryd.results32, go_sem, c0, c1, c2, c3]) rfl ?_
  refine .ok (a := ⟨n, su, fs, ms⟩) (st := st4) ?_ ?_ ?_ ?_
  · simp only [cls, H1.out, H2.out, H3.out, H4.out]
  · exact gb_trans hg4 (gb_sets4 (g := w.heap.size)) (fun k e => .inl (by cases e; exact Nat.le_refl _))
  · exact ⟨_, _, _, _, rfl, (hL4.out.keep (gb_sets4 (g := w.heap.size)) (fun k e => by cases e; omega)).base (by omega), (hM4.out.keep (gb_sets4 (g := w.heap.size)) (fun k e => by cases e; omega)).base (by omega)⟩
  · exact hR4.out.keepAt (gb_sets4 (g := w.heap.size)) (by omega) (h.out.poolLt (Nat.le_refl _))

set_option maxHeartbeats 400000 in
theorem end_any (w : World) (b : Nat) (f : ByteArray) (pv : Value) (st : St) (h : Hid (Rd w b f pv st)) :
    Calls Tryd.prog 33 #[.pointer (some ⟨b, 0, none⟩)] w
      (Ends w b f pv (if st.used < st.pool.length then .error (5, f.size) else if st.at_ < f.size then .error (6, st.at_) else .ok ((), st)) (fun _ v _ => v = .tuple #[])) := by
  obtain ⟨-, ho, c0, c1, c2, c3, -, -, -⟩ := h.out.cells
  obtain ⟨a, k, rfl⟩ := own_slice ho
  clear ho
  by_cases h1 : st.used < st.pool.length
  · rw [if_pos h1]
    go_enter Tryd.func33, Tryd.ntmps33
    go_wp2
    go_quiet (fail)
    go_wp2
    exact ⟨rfl, .err (er := (5, f.size)) rfl rfl rfl (gb_drewN _ _ _)⟩
  · rw [if_neg h1]
    by_cases h2 : st.at_ < f.size
    · rw [if_pos h2]
      go_enter Tryd.func33, Tryd.ntmps33
      go_wp2
      go_quiet (fail)
      go_wp2
      go_quiet (fail)
      go_wp2
      exact ⟨rfl, .err (er := (6, st.at_)) rfl rfl rfl (gb_drewN _ _ _)⟩
    · rw [if_neg h2]
      go_enter Tryd.func33, Tryd.ntmps33
      go_wp2
      go_quiet (fail)
      go_wp2
      go_quiet (fail)
      go_wp2
      go_end0
      exact .ok rfl (gb_tr (gb_drewN _ _ _) (gb_drewN _ _ _)) rfl (h.out.keep (gb_tr (gb_drewN _ _ _) (gb_drewN _ _ _)))
end Go.Proofs.YtdhophglnhcjbaaDoor

namespace Go.Proofs.YtdhophglnhcjbaaDoor
open Go.RowKit Cf

theorem nameByte_eq (c : UInt8) : nameByte c = decide (97 ≤ c.toNat ∧ c.toNat ≤ 122 ∨ 65 ≤ c.toNat ∧ c.toNat ≤ 90 ∨ 48 ≤ c.toNat ∧ c.toNat ≤ 57) := by
  rw [Bool.eq_iff_iff]
  simp [nameByte, UInt8.le_iff_toNat_le]
  omega

set_option maxHeartbeats 400000 in
theorem nameByte_any (c : UInt8) (w : World) :
    Calls Tryd.prog 67 #[.int .u8 (c.toNat : Int)] w fun e w' => e = .returned (.bool (nameByte c)) ∧ w = w' := by
  rw [nameByte_eq]
  have hc := c.toNat_lt
  generalize c.toNat = a at hc
  go_enter Tryd.func67, Tryd.ntmps67
  go_wp2
  all_goals
    go_ret
    refine ⟨congrArg (fun x => Ending.returned (.bool x)) ?_, rfl⟩
    rw [Bool.eq_iff_iff]
    simp
    omega

theorem isName_all {s : ByteArray} (h1 : 1 ≤ s.size) (h2 : s.size ≤ 12) (h : ∀ j (hj : j < s.size), nameByte s.data[j] = true) : isName s = true := by
  simp only [isName, Bool.and_eq_true, decide_eq_true_eq, List.all_eq_true]
  refine ⟨⟨h1, h2⟩, fun c hc => ?_⟩
  obtain ⟨j, hj, rfl⟩ := List.getElem_of_mem hc
  exact h j (by simpa using hj)
theorem isName_not {s : ByteArray} (j : Nat) (hj : j < s.size) (h : nameByte s.data[j] = false) : isName s = false := by
  rw [Bool.eq_false_iff]
  intro he
  simp only [isName, Bool.and_eq_true, decide_eq_true_eq, List.all_eq_true] at he
  have := he.2 s.data[j] (by simp)
  rw [h] at this
  cases this

set_option maxHeartbeats 400000 in
theorem isName_any (s : ByteArray) (w : World) (hs : s.size ≤ 2048) :
    Calls Tryd.prog 49 #[.string s] w fun e w' => e = .returned (.bool (isName s)) ∧ w = w' := by
  by_cases h1 : 1 ≤ s.size
  · by_cases h2 : s.size ≤ 12
    · go_enter Tryd.func49, Tryd.ntmps49
      go_wp2
      go_loop [14] (fun i => ∃ k : Nat, k ≤ s.size ∧ i = .int .i64 k ∧ Hid (∀ j (hj : j < s.size), j < k → nameByte s.data[j] = true)) (fun i => s.size - (intOf i).toNat)
      case atStart => exact ⟨0, by omega, rfl, fun j hj h => by omega⟩
      case round =>
        obtain ⟨k, hk, rfl, hall⟩ := hrel
        by_cases hlt : k < s.size
        · cases hb : nameByte s.data[k]
          · have HB : Hid (nameByte s.data[k] = false) := hb
            go_wp2_with (go_at_call 67; refine (nameByte_any s.data[k] _).mono ?_; rintro e w' ⟨rfl, rfl⟩; rw [hb])
            go_ret
            exact ⟨by rw [isName_not k hlt HB.out]; rfl, rfl⟩
          · have HB : Hid (nameByte s.data[k] = true) := hb
            go_wp2_with (go_at_call 67; refine (nameByte_any s.data[k] _).mono ?_; rintro e w' ⟨rfl, rfl⟩; rw [hb])
            go_round
            case rel => exact ⟨k + 1, hlt, by go_num, fun j hj h => by by_cases e : j = k; (subst e; exact HB.out); exact hall.out j hj (by omega)⟩
            case measure => simp [intOf]; omega
        · go_wp2
          go_ret
          exact ⟨by rw [isName_all h1 h2 (fun j hj => hall.out j hj (by omega))]; rfl, rfl⟩
    · go_enter Tryd.func49, Tryd.ntmps49
      go_wp2
      go_ret
      exact ⟨by simp [isName, h2], rfl⟩
  · go_enter Tryd.func49, Tryd.ntmps49
    go_wp2
    go_ret
    exact ⟨by simp [isName, h1], rfl⟩

theorem bytes_eq {s t : ByteArray} (h : (s.toList == t.toList) = true) : s = t := by
  have h := eq_of_beq h
  rw [ByteArray.toList_eq, ByteArray.toList_eq] at h
  cases s; cases t
  simpa using h
theorem lawfulBytes : LawfulBEq ByteArray where
  eq_of_beq h := by rw [beq_toListBytes] at h; exact bytes_eq h
  rfl {a} := by rw [beq_toListBytes]; simp

set_option maxHeartbeats 400000 in
theorem index_any (w : World) (base : Nat) (pv : Value) (l : List ByteArray) (s : ByteArray) (h : Hid (w.ownsRow base 9 1 pv l.length (l.map Value.string))) (hl : l.length ≤ 255) :
    Calls Tryd.prog 71 #[pv, .string s] w fun e w' => (∃ n : Int, e = .returned (.int .i64 n) ∧ (decide (0 ≤ n) = l.contains s)) ∧ w = w' := by
  rcases own_strs h.out with ⟨rfl, rfl⟩ | ⟨g, cap, rfl, hbg, hcell⟩
  · go_enter Tryd.func71, Tryd.ntmps71
    go_wp2
    go_loop [8] (fun i => i = .int .i64 0) (fun i => 0)
    case atStart => rfl
    case round =>
      subst hrel
      go_wp2
      go_ret
      exact ⟨⟨-1, rfl, by simp⟩, rfl⟩
  · have HC : Hid (∀ j, j < l.length → w.cell? ⟨g, j, none⟩ = some (.string (l.getD j ByteArray.empty))) := hcell
    clear hcell
    go_enter Tryd.func71, Tryd.ntmps71
    go_wp2
    go_loop [8] (fun i => ∃ k : Nat, k ≤ l.length ∧ i = .int .i64 k ∧ Hid (∀ j, j < k → l.getD j ByteArray.empty ≠ s)) (fun i => l.length - (intOf i).toNat)
    case atStart => exact ⟨0, by omega, rfl, fun j h => by omega⟩
    case round =>
      obtain ⟨k, hk, rfl, hall⟩ := hrel
      by_cases hlt : k < l.length
      · have hc := HC.out k hlt
        go_wp2
        · rename_i he _
          have he' := bytes_eq he
          go_ret
          refine ⟨⟨k, rfl, ?_⟩, rfl⟩
          haveI := lawfulBytes
          have : s ∈ l := by rw [he']; exact List.getElem_mem _
          simp [this]
        · rename_i he
          refine ⟨⟨k + 1, hlt, by go_num, fun j hj => ?_⟩, by simp [intOf]; omega⟩
          by_cases e : j = k
          · subst e
            intro e
            simp [List.getD, hlt] at e
            rw [e] at he
            simp at he
          · exact hall.out j (by omega)
      · go_wp2
        go_ret
        refine ⟨⟨-1, rfl, ?_⟩, rfl⟩
        have hk' : k = l.length := by omega
        subst hk'
        haveI := lawfulBytes
        have : s ∉ l := by
          intro hc
          obtain ⟨j, hj, e⟩ := List.getElem_of_mem hc
          exact hall.out j hj (by simp [List.getD, hj, e])
        simp [this]

set_option maxHeartbeats 400000 in
theorem contains_any (w : World) (base : Nat) (pv : Value) (l : List ByteArray) (s : ByteArray) (h : Hid (w.ownsRow base 9 1 pv l.length (l.map Value.string))) (hl : l.length ≤ 255) :
    Calls Tryd.prog 59 #[pv, .string s] w fun e w' => e = .returned (.bool (l.contains s)) ∧ w = w' := by
  obtain ⟨a, k, rfl⟩ := own_slice h.out
  go_enter Tryd.func59, Tryd.ntmps59
  go_wp2_with (go_at_call 71; refine (index_any w base _ l s h hl).mono ?_; rintro e w' ⟨⟨n, rfl, hn⟩, rfl⟩)
  go_ret
  refine ⟨congrArg (fun x => Ending.returned (.bool x)) ?_, rfl⟩
  rw [Bool.eq_iff_iff] at hn ⊢
end Go.Proofs.YtdhophglnhcjbaaDoor

namespace Go.Proofs.YtdhophglnhcjbaaDoor
open Go.RowKit Cf

theorem info_U8 : (Tryd.prog.info? 5).map (fun i => (i.zero, i.size, i.bytes)) = some (some (.int .u8 0), 1, 1) := by kernel_rfl
theorem gb_below {w w' : World} (h : Below w.heap.size w w') : w.grownBy w' none := ⟨h.os, h.tape, h.output, h.size, fun k hk _ => h.block k hk⟩

set_option maxHeartbeats 1000000 in
set_option maxRecDepth 100000 in
/-- a copy of a string: the same bytes -/
theorem cloneIn_any (s : ByteArray) (w : World) (hlim : s.size ≤ 2048) :
    Calls Tryd.prog 72 #[.string s] w fun e w' => e = .returned (.string s) ∧ w.grownBy w' none := by
  by_cases h0 : s.size = 0
  · have hs : s = ⟨#[]⟩ := ByteArray.ext (Array.eq_empty_of_size_eq_zero h0)
    subst hs
    go_enter Tryd.func72, Tryd.ntmps72
    go_wp2
    go_ret
    exact ⟨rfl, gb_refl _ _⟩
  · obtain ⟨i0, hi, hz0, hz1, hz2⟩ := info_parts info_U8
    have hinfo : (Tryd.prog.info? 5).map (·.size) = some 1 := by rw [hi]; simp [hz1]
    have hco : Tryd.prog.cellsOf 5 = 1 := by simp [Program.cellsOf, hi, hz1]
    generalize hM : madeCells (Value.int .u8 0).cells (((s.size : Nat) : Int).toNat * i0.size) = M
    have hMs : M.size = s.size := by rw [← hM, size_madeCells, hz1]; simp
    have hmk : ∀ W : World, (Instr.makeSlice 61 (.int .i64 (s.size : Int)) (.int .i64 (s.size : Int))).run Tryd.prog W = .ok (.slice (some ⟨W.heap.size, 0, none⟩) s.size s.size) (W.alloc (.cells M 5)) := fun W => by
      have h := run_make (P := Tryd.prog) W 61 5 i0 (.int .u8 0) Tryd.underlying61 hi hz0 .i64 .i64 (s.size : Int) (s.size : Int) (by omega) (by omega) (by rw [hz2]; omega) (by omega)
      rw [hM] at h
      simpa using h
    have hcp := Lib.run_copy_row_string (P := Tryd.prog) (w.alloc (.cells M 5)) 61 9 3 5 w.heap.size 0 s.size s.size s M 5 Tryd.underlying61 hinfo (heap_alloc_new w _) (Nat.le_refl _) (by omega)
    generalize hY : (M.toList.take 0 ++ Lib.byteCells s.data.toList ++ M.toList.drop (0 + s.size)).toArray = Y at hcp
    have hYl : Y.toList = Lib.byteCells s.data.toList := by
      rw [← hY, List.toList_toArray, List.take_zero, List.nil_append, List.drop_of_length_le (by rw [Array.length_toList]; omega), List.append_nil]
    have hYs : Y.size = s.size := by rw [← Array.length_toList, hYl, Lib.byteCells_length, ← Lib.size_eq]
    have hgY : ((w.alloc (.cells M 5)).setRow w.heap.size Y).heap[w.heap.size]? = some (.cells Y 5 (0, 0)) := setRow_heap _ _ M _ 5 (0, 0) (heap_alloc_new w _)
    have hne : s.data.toList ≠ [] := fun e => h0 (by rw [Lib.size_eq, e]; rfl)
    have hUS := Lib.run_unsafeString_row (P := Tryd.prog) ((w.alloc (.cells M 5)).setRow w.heap.size Y) 117 3 9 5 Tryd.underlying117 hco w.heap.size Y.size (by unfold World.shape?; rw [hgY]) s.data.toList hne (by rw [← Lib.size_eq]; omega) (by rw [← Lib.size_eq]; omega)
      (fun j x hx => Lib.cells_of_row hgY Y.size j _ (by rw [List.take_of_length_le (by rw [Array.length_toList]; exact Nat.le_refl _), hYl]; simp [Lib.byteCells, hx]))
    rw [← Lib.size_eq] at hUS
    clear hM hY
    go_enter Tryd.func72, Tryd.ntmps72
    go_wp2
    go_ret
    have hb1 : Below w.heap.size w (w.alloc (.cells M 5)) := (Below.refl _ w).alloc (Nat.le_refl _) _
    have hb2 : Below w.heap.size (w.alloc (.cells M 5)) ((w.alloc (.cells M 5)).setRow w.heap.size Y) := ⟨rfl, rfl, rfl, by simp, fun k hk => setRow_other _ _ _ _ (by omega)⟩
    exact ⟨rfl, gb_below (Lib.below_freeze (hb1.trans hb2) (p := ⟨w.heap.size, 0, none⟩) (Nat.le_refl _) _)⟩

set_option maxHeartbeats 400000 in
theorem clone_any (s : ByteArray) (w : World) (hlim : s.size ≤ 2048) :
    Calls Tryd.prog 60 #[.string s] w fun e w' => e = .returned (.string s) ∧ w.grownBy w' none := by
  go_enter Tryd.func60, Tryd.ntmps60
  go_wp2_with (go_at_call 72; refine (cloneIn_any s w hlim).mono ?_; rintro e w' ⟨rfl, hg⟩)
  go_ret
  exact ⟨rfl, hg⟩

theorem takeM_ok {f : ByteArray} {k : Nat} {st st1 : St} {s : ByteArray} (h : takeM f k st = .ok (s, st1)) : st.at_ + k ≤ f.size ∧ s = f.extract st.at_ (st.at_ + k) ∧ st1 = { st with at_ := st.at_ + k } := by
  rw [takeM] at h
  split at h
  · cases h; exact ⟨by assumption, rfl, rfl⟩
  · cases h

section
variable {f : ByteArray} {st st1 st2 : St} {k : Nat} {s : ByteArray} {er : Er}
theorem newName_e1 (h1 : num f 1 st = .ok (k, st1)) (h : takeM f k st1 = .error er) : newName f st = .error er := by
  rw [takeM] at h
  split at h
  · cases h
  · rename_i hc
    cases h
    simp only [newName, h1, hc, if_false]
theorem newName_e2 (h1 : num f 1 st = .ok (k, st1)) (h2 : takeM f k st1 = .ok (s, st2)) (hb : (isName s && !st.pool.contains s) = false) : newName f st = .error (4, st.at_) := by
  obtain ⟨h3, rfl, rfl⟩ := takeM_ok h2
  simp only [newName, h1, h3, hb, if_true, Bool.false_eq_true, if_false]
theorem newName_pool (h1 : num f 1 st = .ok (k, st1)) (h2 : takeM f k st1 = .ok (s, st2)) : st2.pool = st.pool := by
  rw [(takeM_ok h2).2.2, (num_lt h1).1]
theorem newName_ok (h1 : num f 1 st = .ok (k, st1)) (h2 : takeM f k st1 = .ok (s, st2)) (hb : (isName s && !st.pool.contains s) = true) : newName f st = .ok (s, st2) := by
  obtain ⟨h3, rfl, rfl⟩ := takeM_ok h2
  simp only [newName, h1, h3, hb, if_true]
end

set_option maxHeartbeats 400000 in
theorem newName_any (w : World) (b : Nat) (f : ByteArray) (pv : Value) (st : St) (h : Hid (Rd w b f pv st)) :
    Calls Tryd.prog 43 #[.pointer (some ⟨b, 0, none⟩)] w (Ends w b f pv (newName f st) isStr) := by
  obtain ⟨-, -, -, c1, -, -, -, -, -⟩ := h.out.cells
  go_enter Tryd.func43, Tryd.ntmps43
  go_wp2_with (first
    | (go_at_call 42
       refine Ends.bind (number_any w b f pv st 1 h (by omega)) (fun er w' hr hg => ⟨rfl, .err (er := er) (by simp only [newName, hr]) rfl rfl hg⟩) ?_
       rintro k st1 v w1 H1 rfl hR1 hg1
       dsimp only)
    | (go_at_call 58
       refine Ends.bind (take_any w1 b f pv st1 k hR1.out (by have := (num_lt H1.out).2; omega)) (fun er w' hr hg => ⟨rfl, .err (er := er) (newName_e1 H1.out hr) rfl rfl (gb_tr hg1 hg)⟩) ?_
       rintro s st2 v w2 H2 rfl hR2 hg2
       obtain ⟨-, ho2, -, -, c2, -, -, -, -⟩ := hR2.out.cells
       have HO2 : Hid (w2.ownsRow (b + 1) 9 1 pv st2.pool.length (st2.pool.map Value.string)) := ho2
       have hss : s.size ≤ 2048 := by have h5 := (takeM_ok H2.out); have h6 := hR2.out.inv.fits; rw [h5.2.1]; simp; omega
       clear ho2 c1
       dsimp only)
    | (go_at_call 49; refine (isName_any s w2 hss).mono ?_; rintro e w' ⟨rfl, rfl⟩; dsimp only; cases hb : isName s)
    | (go_at_call 59; refine (contains_any w2 (b + 1) pv st2.pool s HO2 (by have := hR2.out.inv.pool; exact this)).mono ?_; rintro e w' ⟨rfl, rfl⟩; dsimp only; cases hq : st2.pool.contains s)
    | (go_at_call 60; refine (clone_any s w2 hss).mono ?_; rintro e w4 ⟨rfl, hg4⟩; dsimp only))
  · exact ⟨rfl, .err (er := (4, st.at_)) (newName_e2 H1.out H2.out (by rw [hb]; rfl)) rfl rfl (gb_tr hg1 hg2)⟩
  · go_ret
    exact .ok (newName_ok H1.out H2.out (by rw [← newName_pool H1.out H2.out, hb, hq]; rfl)) (gb_tn (gb_tr hg1 hg2) hg4) rfl (hR2.out.keep hg4)
  · exact ⟨rfl, .err (er := (4, st.at_)) (newName_e2 H1.out H2.out (by rw [← newName_pool H1.out H2.out, hb, hq]; rfl)) rfl rfl (gb_tr hg1 hg2)⟩
end Go.Proofs.YtdhophglnhcjbaaDoor
