import Derived.Test.YtcpicefhhnbgkaaDoorT6
namespace Go.Proofs.YtcpicefhhnbgkaaDoor
open Go.RowKit Cf

def encTy (t : Ty) : List Value := [.int .i64 t.kind, .string t.name]
def encFld (t : Fld) : List Value := [.string t.name, .int .i64 t.ty.kind, .string t.ty.name]
def encIn (t : In) : List Value := [.int .i64 t.op, .int .i64 t.a, .string t.cls, .string t.mem]
def encHd (t : Hd) : List Value := [.int .i64 t.from_, .int .i64 t.to, .int .i64 t.at_, .string t.cls]

/-- a slice of one's own that holds such things side by side -/
def IsRow {α : Type} (base e size : Nat) (enc : α → List Value) (w : World) (v : Value) (xs : List α) : Prop := w.ownsRow base e size v xs.length (xs.flatMap enc)

/-- how far a reader of a list has come: k things are read -/
def Mid {α : Type} (p : St → R α) (n : Nat) (st0 : St) (k : Nat) (xs : List α) (st : St) : Prop :=
  k ≤ n ∧ xs.length = k ∧ rep p n st0 = match rep p (n - k) st with | .ok (ys, st2) => .ok (xs ++ ys, st2) | .error er => .error er
theorem Mid.start {α : Type} (p : St → R α) (n : Nat) (st0 : St) : Mid p n st0 0 [] st0 := by
  refine ⟨Nat.zero_le _, rfl, ?_⟩
  rw [Nat.sub_zero]
  cases h : rep p n st0 <;> simp
theorem Mid.step {α : Type} {p : St → R α} {n : Nat} {st0 : St} {k : Nat} {xs : List α} {st st1 : St} {a : α} (h : Mid p n st0 k xs st) (hk : k < n) (ha : p st = .ok (a, st1)) : Mid p n st0 (k + 1) (xs ++ [a]) st1 := by
  obtain ⟨h1, h2, h3⟩ := h
  refine ⟨hk, by simp [h2], ?_⟩
  rw [h3, show n - k = (n - (k + 1)) + 1 by omega, rep, ha]
  dsimp only
  generalize rep p (n - (k + 1)) st1 = r
  cases r <;> simp
theorem Mid.fail {α : Type} {p : St → R α} {n : Nat} {st0 : St} {k : Nat} {xs : List α} {st : St} {er : Er} (h : Mid p n st0 k xs st) (hk : k < n) (ha : p st = .error er) : rep p n st0 = .error er := by
  obtain ⟨h1, h2, h3⟩ := h
  rw [h3, show n - k = (n - (k + 1)) + 1 by omega, rep, ha]
theorem Mid.done {α : Type} {p : St → R α} {n : Nat} {st0 : St} {xs : List α} {st : St} (h : Mid p n st0 n xs st) : rep p n st0 = .ok (xs, st) := by
  obtain ⟨h1, h2, h3⟩ := h
  rw [h3, Nat.sub_self, rep]
  simp

theorem own_ne {w : World} {base e size n b : Nat} {v : Value} {cs : List Value} (h : w.ownsRow base e size v n cs) (hb : b < base) : v.ownBlock ≠ some b := by
  cases hv : v.ownBlock with
  | none => simp
  | some g => have := (h.lt g hv).1; simp; omega
theorem own_some {w : World} {base e size n : Nat} {v : Value} {cs : List Value} (h : w.ownsRow base e size v n cs) {g : Nat} (hg : v.ownBlock = some g) : base ≤ g ∧ g < w.heap.size := h.lt g hg
theorem new_cells (w : World) (cs : List Value) (t : TypeId) : ∀ j u, cs[j]? = some u → (w.alloc (.cells cs.toArray t)).cell? ((⟨w.heap.size, 0, none⟩ : Addr).add j) = some u := by
  intro j u hu
  have hadd : (⟨w.heap.size, 0, none⟩ : Addr).add j = ⟨w.heap.size, j, none⟩ := by unfold Addr.add; split <;> simp_all
  rw [hadd, (Blk.new w cs.toArray t).cell j u (by simpa using hu)]
theorem len_small {n : Nat} {k : Nat} (h : n = k) (hk : k < 65536) : n + 1 ≤ maxLen := by unfold maxLen; omega
theorem flat_snoc {α : Type} (enc : α → List Value) (xs : List α) (x : α) : xs.flatMap enc ++ enc x = (xs ++ [x]).flatMap enc := by simp [List.flatMap_append]

theorem info_Ty : (Tryd.prog.info? 41).map (fun i => (i.zero, i.size, i.bytes)) = some (some (.agg #[.int .i64 0, .string ByteArray.empty]), 2, 24) := by kernel_rfl
theorem info_Fld : (Tryd.prog.info? 43).map (fun i => (i.zero, i.size, i.bytes)) = some (some (.agg #[.string ByteArray.empty, .int .i64 0, .string ByteArray.empty]), 3, 40) := by kernel_rfl
theorem info_In : (Tryd.prog.info? 50).map (fun i => (i.zero, i.size, i.bytes)) = some (some (.agg #[.int .i64 0, .int .i64 0, .string ByteArray.empty, .string ByteArray.empty]), 4, 48) := by kernel_rfl
theorem info_Hd : (Tryd.prog.info? 52).map (fun i => (i.zero, i.size, i.bytes)) = some (some (.agg #[.int .i64 0, .int .i64 0, .int .i64 0, .string ByteArray.empty]), 4, 40) := by kernel_rfl
theorem info_Me : (Tryd.prog.info? 48).map (fun i => (i.zero, i.size, i.bytes)) = some (some (.agg #[.string ByteArray.empty, .slice none 0 0, .int .i64 0, .string ByteArray.empty, .int .i64 0, .int .i64 0, .slice none 0 0, .slice none 0 0]), 8, 128) := by kernel_rfl
theorem info_Str : (Tryd.prog.info? 9).map (fun i => (i.zero, i.size, i.bytes)) = some (some (.string ByteArray.empty), 1, 16) := by kernel_rfl

set_option maxHeartbeats 400000 in
theorem list_fld_any (w : World) (b : Nat) (f : ByteArray) (pv : Value) (st : St) (d : Nat) (h : Hid (Rd w b f pv st)) (hd : d ≤ 2)
    (HEL : Hid (∀ w1 st1, w.grownBy w1 (some b) → Hid (Rd w1 b f pv st1) → Calls Tryd.prog 46 #[.pointer (some ⟨b, 0, none⟩)] w1 (Ends w1 b f pv (field f st1) isFld))) :
    Calls Tryd.prog 45 #[.pointer (some ⟨b, 0, none⟩), .int .i64 d, .func (.func 46) #[.pointer (some ⟨b, 0, none⟩)] #[]] w (Ends w b f pv (list f d (field f) st) (IsRow w.heap.size 43 3 encFld)) := by
  go_enter Tryd.func45, Tryd.ntmps45
  go_wp2_with (go_at_call 42; refine Ends.bind (number_any _ b f pv st d h (by omega)) (fun er w' hr hg => ⟨rfl, .err (er := er) (by rw [list, hr]) rfl rfl hg⟩) ?_; rintro n st1 v w1 HH rfl hR hg)
  have hn : n < 65536 := by
    have := (num_lt HH.out).2
    have : 256 ^ d ≤ 256 ^ 2 := Nat.pow_le_pow_right (by omega) hd
    omega
  go_loopw [7, 11] (fun l i wr => ∃ (k : Nat) (xs : List Fld) (st2 : St), i = .int .i64 k ∧ Mid (field f) n st1 k xs st2 ∧ IsRow w.heap.size 43 3 encFld wr l xs ∧ Rd wr b f pv st2 ∧ w.grownBy wr (some b)) (fun _ i _ => n - (intOf i).toNat)
  case atStart => exact ⟨0, [], st1, rfl, .start _ _ _, World.ownsRow_nil _ _ _ _, hR.out, hg⟩
  case round =>
    obtain ⟨k, xs, st2, rfl, hmid, hrow, hR2, hg2⟩ := hrel
    have HM : Hid (Mid (field f) n st1 k xs st2) := hmid
    have HR2 : Hid (Rd wr b f pv st2) := hR2
    have HROW : Hid (IsRow w.heap.size 43 3 encFld wr _ xs) := hrow
    clear hmid hR2 hrow
    by_cases hk : k < n
    · obtain ⟨i, hi, hz0, hz1, hz2⟩ := info_parts info_Fld
      have hne := own_ne HROW.out h.out.lt
      have hlen : xs.length < 65536 := by have := HM.out.2.1; omega
      go_wp2_with (first
        | (go_at_call 46; refine Ends.bind (HEL.out wr st2 hg2 HR2) (fun er w' hr hg3 => ⟨rfl, .err (er := er) (by rw [list, HH.out]; exact HM.out.fail hk hr) rfl rfl (gb_tr hg2 hg3)⟩) ?_; rintro x st3 v w3 H3 rfl hR3 hg3; dsimp only)
        | (at_builtin; go_loud (refine wpList_append_own _ rfl _ _ 22 rfl w.heap.size 43 i _ 3 40 Tryd.underlying22 hi hz0 hz1 hz2 rfl (by decide) _ xs.length (xs.flatMap encFld) rfl ((World.ownsRow.kept HROW.out hg3 (.inr hne)).alloc _) ⟨w3.heap.size, 0, none⟩ 1 1 (encFld x) rfl rfl (new_cells w3 (encFld x) _) (by simp [encFld, Value.oneCell']) (len_small rfl hlen) (by omega) (by have := hg2.size; have := hg3.size; simp; omega) ?_)))
      intro v' w4 hown hgrow _
      have hR4 : Rd w4 b f pv st3 := hR3.out.grow (gb_alloc _ _ _) hgrow (by simpa using hne) (fun g hg => by have := (own_some HROW.out hg).1; have := h.out.poolLt this; exact this)
      have hg4 : w.grownBy w4 (some b) := gb_trans (gb_tr (gb_tr hg2 hg3) (gb_alloc _ _ _)) hgrow (fun g hg => .inl (own_some HROW.out hg).1)
      have HM4 : Hid (Mid (field f) n st1 (k + 1) (xs ++ [x]) st3) := HM.out.step hk H3.out
      have HO4 : Hid (IsRow w.heap.size 43 3 encFld w4 v' (xs ++ [x])) := by
        unfold IsRow
        rw [List.length_append, ← flat_snoc]
        exact hown
      clear hown hgrow
      go_wp2
      go_roundw
      case rel => exact ⟨k + 1, xs ++ [x], st3, by go_num, HM4.out, HO4.out, hR4, hg4⟩
      case measure => simp [intOf]; omega
    · go_wp2
      go_ret
      have hk' : k = n := by have := HM.out.1; omega
      subst hk'
      exact .ok (a := xs) (by rw [list, HH.out]; exact HM.out.done) hg2 HROW.out HR2.out
set_option maxHeartbeats 400000 in
theorem list_ty_any (w : World) (b : Nat) (f : ByteArray) (pv : Value) (st : St) (d : Nat) (h : Hid (Rd w b f pv st)) (hd : d ≤ 2)
    (HEL : Hid (∀ w1 st1, w.grownBy w1 (some b) → Hid (Rd w1 b f pv st1) → Calls Tryd.prog 61 #[.pointer (some ⟨b, 0, none⟩)] w1 (Ends w1 b f pv (kind f st1) isTy))) :
    Calls Tryd.prog 62 #[.pointer (some ⟨b, 0, none⟩), .int .i64 d, .func (.func 61) #[.pointer (some ⟨b, 0, none⟩)] #[]] w (Ends w b f pv (list f d (kind f) st) (IsRow w.heap.size 41 2 encTy)) := by
  go_enter Tryd.func62, Tryd.ntmps62
  go_wp2_with (go_at_call 42; refine Ends.bind (number_any _ b f pv st d h (by omega)) (fun er w' hr hg => ⟨rfl, .err (er := er) (by rw [list, hr]) rfl rfl hg⟩) ?_; rintro n st1 v w1 HH rfl hR hg)
  have hn : n < 65536 := by
    have := (num_lt HH.out).2
    have : 256 ^ d ≤ 256 ^ 2 := Nat.pow_le_pow_right (by omega) hd
    omega
  go_loopw [7, 11] (fun l i wr => ∃ (k : Nat) (xs : List Ty) (st2 : St), i = .int .i64 k ∧ Mid (kind f) n st1 k xs st2 ∧ IsRow w.heap.size 41 2 encTy wr l xs ∧ Rd wr b f pv st2 ∧ w.grownBy wr (some b)) (fun _ i _ => n - (intOf i).toNat)
  case atStart => exact ⟨0, [], st1, rfl, .start _ _ _, World.ownsRow_nil _ _ _ _, hR.out, hg⟩
  case round =>
    obtain ⟨k, xs, st2, rfl, hmid, hrow, hR2, hg2⟩ := hrel
    have HM : Hid (Mid (kind f) n st1 k xs st2) := hmid
    have HR2 : Hid (Rd wr b f pv st2) := hR2
    have HROW : Hid (IsRow w.heap.size 41 2 encTy wr _ xs) := hrow
    clear hmid hR2 hrow
    by_cases hk : k < n
    · obtain ⟨i, hi, hz0, hz1, hz2⟩ := info_parts info_Ty
      have hne := own_ne HROW.out h.out.lt
      have hlen : xs.length < 65536 := by have := HM.out.2.1; omega
      go_wp2_with (first
        | (go_at_call 61; refine Ends.bind (HEL.out wr st2 hg2 HR2) (fun er w' hr hg3 => ⟨rfl, .err (er := er) (by rw [list, HH.out]; exact HM.out.fail hk hr) rfl rfl (gb_tr hg2 hg3)⟩) ?_; rintro x st3 v w3 H3 rfl hR3 hg3; dsimp only)
        | (at_builtin; go_loud (refine wpList_append_own _ rfl _ _ 44 rfl w.heap.size 41 i _ 2 24 Tryd.underlying44 hi hz0 hz1 hz2 rfl (by decide) _ xs.length (xs.flatMap encTy) rfl ((World.ownsRow.kept HROW.out hg3 (.inr hne)).alloc _) ⟨w3.heap.size, 0, none⟩ 1 1 (encTy x) rfl rfl (new_cells w3 (encTy x) _) (by simp [encTy, Value.oneCell']) (len_small rfl hlen) (by omega) (by have := hg2.size; have := hg3.size; simp; omega) ?_)))
      intro v' w4 hown hgrow _
      have hR4 : Rd w4 b f pv st3 := hR3.out.grow (gb_alloc _ _ _) hgrow (by simpa using hne) (fun g hg => by have := (own_some HROW.out hg).1; have := h.out.poolLt this; exact this)
      have hg4 : w.grownBy w4 (some b) := gb_trans (gb_tr (gb_tr hg2 hg3) (gb_alloc _ _ _)) hgrow (fun g hg => .inl (own_some HROW.out hg).1)
      have HM4 : Hid (Mid (kind f) n st1 (k + 1) (xs ++ [x]) st3) := HM.out.step hk H3.out
      have HO4 : Hid (IsRow w.heap.size 41 2 encTy w4 v' (xs ++ [x])) := by
        unfold IsRow
        rw [List.length_append, ← flat_snoc]
        exact hown
      clear hown hgrow
      go_wp2
      go_roundw
      case rel => exact ⟨k + 1, xs ++ [x], st3, by go_num, HM4.out, HO4.out, hR4, hg4⟩
      case measure => simp [intOf]; omega
    · go_wp2
      go_ret
      have hk' : k = n := by have := HM.out.1; omega
      subst hk'
      exact .ok (a := xs) (by rw [list, HH.out]; exact HM.out.done) hg2 HROW.out HR2.out
set_option maxHeartbeats 400000 in
theorem list_in_any (w : World) (b : Nat) (f : ByteArray) (pv : Value) (st : St) (d : Nat) (h : Hid (Rd w b f pv st)) (hd : d ≤ 2)
    (HEL : Hid (∀ w1 st1, w.grownBy w1 (some b) → Hid (Rd w1 b f pv st1) → Calls Tryd.prog 64 #[.pointer (some ⟨b, 0, none⟩)] w1 (Ends w1 b f pv (ins f st1) isIn))) :
    Calls Tryd.prog 63 #[.pointer (some ⟨b, 0, none⟩), .int .i64 d, .func (.func 64) #[.pointer (some ⟨b, 0, none⟩)] #[]] w (Ends w b f pv (list f d (ins f) st) (IsRow w.heap.size 50 4 encIn)) := by
  go_enter Tryd.func63, Tryd.ntmps63
  go_wp2_with (go_at_call 42; refine Ends.bind (number_any _ b f pv st d h (by omega)) (fun er w' hr hg => ⟨rfl, .err (er := er) (by rw [list, hr]) rfl rfl hg⟩) ?_; rintro n st1 v w1 HH rfl hR hg)
  have hn : n < 65536 := by
    have := (num_lt HH.out).2
    have : 256 ^ d ≤ 256 ^ 2 := Nat.pow_le_pow_right (by omega) hd
    omega
  go_loopw [7, 11] (fun l i wr => ∃ (k : Nat) (xs : List In) (st2 : St), i = .int .i64 k ∧ Mid (ins f) n st1 k xs st2 ∧ IsRow w.heap.size 50 4 encIn wr l xs ∧ Rd wr b f pv st2 ∧ w.grownBy wr (some b)) (fun _ i _ => n - (intOf i).toNat)
  case atStart => exact ⟨0, [], st1, rfl, .start _ _ _, World.ownsRow_nil _ _ _ _, hR.out, hg⟩
  case round =>
    obtain ⟨k, xs, st2, rfl, hmid, hrow, hR2, hg2⟩ := hrel
    have HM : Hid (Mid (ins f) n st1 k xs st2) := hmid
    have HR2 : Hid (Rd wr b f pv st2) := hR2
    have HROW : Hid (IsRow w.heap.size 50 4 encIn wr _ xs) := hrow
    clear hmid hR2 hrow
    by_cases hk : k < n
    · obtain ⟨i, hi, hz0, hz1, hz2⟩ := info_parts info_In
      have hne := own_ne HROW.out h.out.lt
      have hlen : xs.length < 65536 := by have := HM.out.2.1; omega
      go_wp2_with (first
        | (go_at_call 64; refine Ends.bind (HEL.out wr st2 hg2 HR2) (fun er w' hr hg3 => ⟨rfl, .err (er := er) (by rw [list, HH.out]; exact HM.out.fail hk hr) rfl rfl (gb_tr hg2 hg3)⟩) ?_; rintro x st3 v w3 H3 rfl hR3 hg3; dsimp only)
        | (at_builtin; go_loud (refine wpList_append_own _ rfl _ _ 45 rfl w.heap.size 50 i _ 4 48 Tryd.underlying45 hi hz0 hz1 hz2 rfl (by decide) _ xs.length (xs.flatMap encIn) rfl ((World.ownsRow.kept HROW.out hg3 (.inr hne)).alloc _) ⟨w3.heap.size, 0, none⟩ 1 1 (encIn x) rfl rfl (new_cells w3 (encIn x) _) (by simp [encIn, Value.oneCell']) (len_small rfl hlen) (by omega) (by have := hg2.size; have := hg3.size; simp; omega) ?_)))
      intro v' w4 hown hgrow _
      have hR4 : Rd w4 b f pv st3 := hR3.out.grow (gb_alloc _ _ _) hgrow (by simpa using hne) (fun g hg => by have := (own_some HROW.out hg).1; have := h.out.poolLt this; exact this)
      have hg4 : w.grownBy w4 (some b) := gb_trans (gb_tr (gb_tr hg2 hg3) (gb_alloc _ _ _)) hgrow (fun g hg => .inl (own_some HROW.out hg).1)
      have HM4 : Hid (Mid (ins f) n st1 (k + 1) (xs ++ [x]) st3) := HM.out.step hk H3.out
      have HO4 : Hid (IsRow w.heap.size 50 4 encIn w4 v' (xs ++ [x])) := by
        unfold IsRow
        rw [List.length_append, ← flat_snoc]
        exact hown
      clear hown hgrow
      go_wp2
      go_roundw
      case rel => exact ⟨k + 1, xs ++ [x], st3, by go_num, HM4.out, HO4.out, hR4, hg4⟩
      case measure => simp [intOf]; omega
    · go_wp2
      go_ret
      have hk' : k = n := by have := HM.out.1; omega
      subst hk'
      exact .ok (a := xs) (by rw [list, HH.out]; exact HM.out.done) hg2 HROW.out HR2.out
set_option maxHeartbeats 400000 in
theorem list_hd_any (w : World) (b : Nat) (f : ByteArray) (pv : Value) (st : St) (d : Nat) (h : Hid (Rd w b f pv st)) (hd : d ≤ 2)
    (HEL : Hid (∀ w1 st1, w.grownBy w1 (some b) → Hid (Rd w1 b f pv st1) → Calls Tryd.prog 66 #[.pointer (some ⟨b, 0, none⟩)] w1 (Ends w1 b f pv (handler f st1) isHd))) :
    Calls Tryd.prog 65 #[.pointer (some ⟨b, 0, none⟩), .int .i64 d, .func (.func 66) #[.pointer (some ⟨b, 0, none⟩)] #[]] w (Ends w b f pv (list f d (handler f) st) (IsRow w.heap.size 52 4 encHd)) := by
  go_enter Tryd.func65, Tryd.ntmps65
  go_wp2_with (go_at_call 42; refine Ends.bind (number_any _ b f pv st d h (by omega)) (fun er w' hr hg => ⟨rfl, .err (er := er) (by rw [list, hr]) rfl rfl hg⟩) ?_; rintro n st1 v w1 HH rfl hR hg)
  have hn : n < 65536 := by
    have := (num_lt HH.out).2
    have : 256 ^ d ≤ 256 ^ 2 := Nat.pow_le_pow_right (by omega) hd
    omega
  go_loopw [7, 11] (fun l i wr => ∃ (k : Nat) (xs : List Hd) (st2 : St), i = .int .i64 k ∧ Mid (handler f) n st1 k xs st2 ∧ IsRow w.heap.size 52 4 encHd wr l xs ∧ Rd wr b f pv st2 ∧ w.grownBy wr (some b)) (fun _ i _ => n - (intOf i).toNat)
  case atStart => exact ⟨0, [], st1, rfl, .start _ _ _, World.ownsRow_nil _ _ _ _, hR.out, hg⟩
  case round =>
    obtain ⟨k, xs, st2, rfl, hmid, hrow, hR2, hg2⟩ := hrel
    have HM : Hid (Mid (handler f) n st1 k xs st2) := hmid
    have HR2 : Hid (Rd wr b f pv st2) := hR2
    have HROW : Hid (IsRow w.heap.size 52 4 encHd wr _ xs) := hrow
    clear hmid hR2 hrow
    by_cases hk : k < n
    · obtain ⟨i, hi, hz0, hz1, hz2⟩ := info_parts info_Hd
      have hne := own_ne HROW.out h.out.lt
      have hlen : xs.length < 65536 := by have := HM.out.2.1; omega
      go_wp2_with (first
        | (go_at_call 66; refine Ends.bind (HEL.out wr st2 hg2 HR2) (fun er w' hr hg3 => ⟨rfl, .err (er := er) (by rw [list, HH.out]; exact HM.out.fail hk hr) rfl rfl (gb_tr hg2 hg3)⟩) ?_; rintro x st3 v w3 H3 rfl hR3 hg3; dsimp only)
        | (at_builtin; go_loud (refine wpList_append_own _ rfl _ _ 46 rfl w.heap.size 52 i _ 4 40 Tryd.underlying46 hi hz0 hz1 hz2 rfl (by decide) _ xs.length (xs.flatMap encHd) rfl ((World.ownsRow.kept HROW.out hg3 (.inr hne)).alloc _) ⟨w3.heap.size, 0, none⟩ 1 1 (encHd x) rfl rfl (new_cells w3 (encHd x) _) (by simp [encHd, Value.oneCell']) (len_small rfl hlen) (by omega) (by have := hg2.size; have := hg3.size; simp; omega) ?_)))
      intro v' w4 hown hgrow _
      have hR4 : Rd w4 b f pv st3 := hR3.out.grow (gb_alloc _ _ _) hgrow (by simpa using hne) (fun g hg => by have := (own_some HROW.out hg).1; have := h.out.poolLt this; exact this)
      have hg4 : w.grownBy w4 (some b) := gb_trans (gb_tr (gb_tr hg2 hg3) (gb_alloc _ _ _)) hgrow (fun g hg => .inl (own_some HROW.out hg).1)
      have HM4 : Hid (Mid (handler f) n st1 (k + 1) (xs ++ [x]) st3) := HM.out.step hk H3.out
      have HO4 : Hid (IsRow w.heap.size 52 4 encHd w4 v' (xs ++ [x])) := by
        unfold IsRow
        rw [List.length_append, ← flat_snoc]
        exact hown
      clear hown hgrow
      go_wp2
      go_roundw
      case rel => exact ⟨k + 1, xs ++ [x], st3, by go_num, HM4.out, HO4.out, hR4, hg4⟩
      case measure => simp [intOf]; omega
    · go_wp2
      go_ret
      have hk' : k = n := by have := HM.out.1; omega
      subst hk'
      exact .ok (a := xs) (by rw [list, HH.out]; exact HM.out.done) hg2 HROW.out HR2.out
end Go.Proofs.YtcpicefhhnbgkaaDoor
