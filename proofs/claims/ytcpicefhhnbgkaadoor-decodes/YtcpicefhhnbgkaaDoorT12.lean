import Derived.Test.YtcpicefhhnbgkaaDoorT11
import Derived.Lib.Strings
import Derived.Lib.Walk
import Derived.Lib.BufferWrite
import Derived.Lib.UnsafeStr
namespace Go.Proofs.YtcpicefhhnbgkaaDoor
open Go.RowKit Cf

theorem info_U8 : (Tryd.prog.info? 5).map (fun i => (i.zero, i.size, i.bytes)) = some (some (.int .u8 0), 1, 1) := by kernel_rfl
theorem gb_below {w w' : World} (h : Below w.heap.size w w') : w.grownBy w' none := ⟨h.os, h.tape, h.output, h.size, fun k hk _ => h.block k hk⟩

set_option maxHeartbeats 1000000 in
set_option maxRecDepth 100000 in
/-- a copy of a string: the same bytes -/
theorem cloneIn_any (s : ByteArray) (w : World) (hlim : s.size ≤ 2048) :
    Calls Tryd.prog 72 #[.string s] w fun e w' => e = .returned (.string s) ∧ w.grownBy w' none := by
  by_cases h0 : s.size = 0
  · have hs : s = ⟨#[]⟩ := ByteArray.ext (Array.eq_empty_of_size_eq_zero h0)
    subst hs
    go_enter Tryd.func72, Tryd.ntmps72
    go_wp2
    go_ret
    exact ⟨rfl, gb_refl _ _⟩
  · obtain ⟨i0, hi, hz0, hz1, hz2⟩ := info_parts info_U8
    have hinfo : (Tryd.prog.info? 5).map (·.size) = some 1 := by rw [hi]; simp [hz1]
    have hco : Tryd.prog.cellsOf 5 = 1 := by simp [Program.cellsOf, hi, hz1]
    generalize hM : madeCells (Value.int .u8 0).cells (((s.size : Nat) : Int).toNat * i0.size) = M
    have hMs : M.size = s.size := by rw [← hM, size_madeCells, hz1]; simp
    have hmk : ∀ W : World, (Instr.makeSlice 61 (.int .i64 (s.size : Int)) (.int .i64 (s.size : Int))).run Tryd.prog W = .ok (.slice (some ⟨W.heap.size, 0, none⟩) s.size s.size) (W.alloc (.cells M 5)) := fun W => by
      have h := run_make (P := Tryd.prog) W 61 5 i0 (.int .u8 0) Tryd.underlying61 hi hz0 .i64 .i64 (s.size : Int) (s.size : Int) (by omega) (by omega) (by rw [hz2]; omega) (by omega)
      rw [hM] at h
      simpa using h
    have hcp := Lib.run_copy_row_string (P := Tryd.prog) (w.alloc (.cells M 5)) 61 9 3 5 w.heap.size 0 s.size s.size s M 5 Tryd.underlying61 hinfo (heap_alloc_new w _) (Nat.le_refl _) (by omega)
    generalize hY : (M.toList.take 0 ++ Lib.byteCells s.data.toList ++ M.toList.drop (0 + s.size)).toArray = Y at hcp
    have hYl : Y.toList = Lib.byteCells s.data.toList := by
      rw [← hY, List.toList_toArray, List.take_zero, List.nil_append, List.drop_of_length_le (by rw [Array.length_toList]; omega), List.append_nil]
    have hYs : Y.size = s.size := by rw [← Array.length_toList, hYl, Lib.byteCells_length, ← Lib.size_eq]
    have hgY : ((w.alloc (.cells M 5)).setRow w.heap.size Y).heap[w.heap.size]? = some (.cells Y 5 (0, 0)) := setRow_heap _ _ M _ 5 (0, 0) (heap_alloc_new w _)
    have hne : s.data.toList ≠ [] := fun e => h0 (by rw [Lib.size_eq, e]; rfl)
    have hUS := Lib.run_unsafeString_row (P := Tryd.prog) ((w.alloc (.cells M 5)).setRow w.heap.size Y) 117 3 9 5 Tryd.underlying117 hco w.heap.size Y.size (by unfold World.shape?; rw [hgY]) s.data.toList hne (by rw [← Lib.size_eq]; omega) (by rw [← Lib.size_eq]; omega)
      (fun j x hx => Lib.cells_of_row hgY Y.size j _ (by rw [List.take_of_length_le (by rw [Array.length_toList]; exact Nat.le_refl _), hYl]; simp [Lib.byteCells, hx]))
    rw [← Lib.size_eq] at hUS
    clear hM hY
    go_enter Tryd.func72, Tryd.ntmps72
    go_wp2
    go_ret
    have hb1 : Below w.heap.size w (w.alloc (.cells M 5)) := (Below.refl _ w).alloc (Nat.le_refl _) _
    have hb2 : Below w.heap.size (w.alloc (.cells M 5)) ((w.alloc (.cells M 5)).setRow w.heap.size Y) := ⟨rfl, rfl, rfl, by simp, fun k hk => setRow_other _ _ _ _ (by omega)⟩
    exact ⟨rfl, gb_below (Lib.below_freeze (hb1.trans hb2) (p := ⟨w.heap.size, 0, none⟩) (Nat.le_refl _) _)⟩

set_option maxHeartbeats 400000 in
theorem clone_any (s : ByteArray) (w : World) (hlim : s.size ≤ 2048) :
    Calls Tryd.prog 60 #[.string s] w fun e w' => e = .returned (.string s) ∧ w.grownBy w' none := by
  go_enter Tryd.func60, Tryd.ntmps60
  go_wp2_with (go_at_call 72; refine (cloneIn_any s w hlim).mono ?_; rintro e w' ⟨rfl, hg⟩)
  go_ret
  exact ⟨rfl, hg⟩

theorem takeM_ok {f : ByteArray} {k : Nat} {st st1 : St} {s : ByteArray} (h : takeM f k st = .ok (s, st1)) : st.at_ + k ≤ f.size ∧ s = f.extract st.at_ (st.at_ + k) ∧ st1 = { st with at_ := st.at_ + k } := by
  rw [takeM] at h
  split at h
  · cases h; exact ⟨by assumption, rfl, rfl⟩
  · cases h

section
variable {f : ByteArray} {st st1 st2 : St} {k : Nat} {s : ByteArray} {er : Er}
theorem newName_e1 (h1 : num f 1 st = .ok (k, st1)) (h : takeM f k st1 = .error er) : newName f st = .error er := by
  rw [takeM] at h
  split at h
  · cases h
  · rename_i hc
    cases h
    simp only [newName, h1, hc, if_false]
theorem newName_e2 (h1 : num f 1 st = .ok (k, st1)) (h2 : takeM f k st1 = .ok (s, st2)) (hb : (isName s && !st.pool.contains s) = false) : newName f st = .error (4, st.at_) := by
  obtain ⟨h3, rfl, rfl⟩ := takeM_ok h2
  simp only [newName, h1, h3, hb, if_true, Bool.false_eq_true, if_false]
theorem newName_pool (h1 : num f 1 st = .ok (k, st1)) (h2 : takeM f k st1 = .ok (s, st2)) : st2.pool = st.pool := by
  rw [(takeM_ok h2).2.2, (num_lt h1).1]
theorem newName_ok (h1 : num f 1 st = .ok (k, st1)) (h2 : takeM f k st1 = .ok (s, st2)) (hb : (isName s && !st.pool.contains s) = true) : newName f st = .ok (s, st2) := by
  obtain ⟨h3, rfl, rfl⟩ := takeM_ok h2
  simp only [newName, h1, h3, hb, if_true]
end

set_option maxHeartbeats 400000 in
theorem newName_any (w : World) (b : Nat) (f : ByteArray) (pv : Value) (st : St) (h : Hid (Rd w b f pv st)) :
    Calls Tryd.prog 43 #[.pointer (some ⟨b, 0, none⟩)] w (Ends w b f pv (newName f st) isStr) := by
  obtain ⟨-, -, -, c1, -, -, -, -, -⟩ := h.out.cells
  go_enter Tryd.func43, Tryd.ntmps43
  go_wp2_with (first
    | (go_at_call 42
       refine Ends.bind (number_any w b f pv st 1 h (by omega)) (fun er w' hr hg => ⟨rfl, .err (er := er) (by simp only [newName, hr]) rfl rfl hg⟩) ?_
       rintro k st1 v w1 H1 rfl hR1 hg1
       dsimp only)
    | (go_at_call 58
       refine Ends.bind (take_any w1 b f pv st1 k hR1.out (by have := (num_lt H1.out).2; omega)) (fun er w' hr hg => ⟨rfl, .err (er := er) (newName_e1 H1.out hr) rfl rfl (gb_tr hg1 hg)⟩) ?_
       rintro s st2 v w2 H2 rfl hR2 hg2
       obtain ⟨-, ho2, -, -, c2, -, -, -, -⟩ := hR2.out.cells
       have HO2 : Hid (w2.ownsRow (b + 1) 9 1 pv st2.pool.length (st2.pool.map Value.string)) := ho2
       have hss : s.size ≤ 2048 := by have h5 := (takeM_ok H2.out); have h6 := hR2.out.inv.fits; rw [h5.2.1]; simp; omega
       clear ho2 c1
       dsimp only)
    | (go_at_call 49; refine (isName_any s w2 hss).mono ?_; rintro e w' ⟨rfl, rfl⟩; dsimp only; cases hb : isName s)
    | (go_at_call 59; refine (contains_any w2 (b + 1) pv st2.pool s HO2 (by have := hR2.out.inv.pool; exact this)).mono ?_; rintro e w' ⟨rfl, rfl⟩; dsimp only; cases hq : st2.pool.contains s)
    | (go_at_call 60; refine (clone_any s w2 hss).mono ?_; rintro e w4 ⟨rfl, hg4⟩; dsimp only))
  · exact ⟨rfl, .err (er := (4, st.at_)) (newName_e2 H1.out H2.out (by rw [hb]; rfl)) rfl rfl (gb_tr hg1 hg2)⟩
  · go_ret
    exact .ok (newName_ok H1.out H2.out (by rw [← newName_pool H1.out H2.out, hb, hq]; rfl)) (gb_tn (gb_tr hg1 hg2) hg4) rfl (hR2.out.keep hg4)
  · exact ⟨rfl, .err (er := (4, st.at_)) (newName_e2 H1.out H2.out (by rw [← newName_pool H1.out H2.out, hb, hq]; rfl)) rfl rfl (gb_tr hg1 hg2)⟩
end Go.Proofs.YtcpicefhhnbgkaaDoor
