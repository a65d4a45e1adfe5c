import Derived.Test.YtcpicefhhnbgkaaDoorT14
namespace Go.Proofs.YtcpicefhhnbgkaaDoor
open Go.RowKit Cf

theorem PoolEnds.bind {P : Program} {fn : FuncId} {args : Array Value} {w : World} {b : Nat} {f : ByteArray} {r : R (List Unit)} {K : Ending → World → Prop}
    (hc : Calls P fn args w (PoolEnds w b f r))
    (herr : ∀ er w', r = .error er → w.grownBy w' (some b) → K (.panicked [{ v := .iface 63 (.agg #[.int .i64 er.1, .int .i64 er.2]), recovered := false }]) w')
    (hok : ∀ xs st w' pv, Hid (r = .ok (xs, st)) → Hid (Rd w' b f pv st) → w.grownBy w' (some b) → K (.returned (.tuple #[])) w') : Calls P fn args w K :=
  hc.mono fun e w' he => by
    obtain ⟨hg, he⟩ := he
    cases r with
    | ok p => obtain ⟨rfl, pv, hR⟩ := he; exact hok p.1 p.2 w' pv rfl hR hg
    | error er => subst he; exact herr er w' rfl hg
theorem marks_pool {f : ByteArray} {st st1 : St} {u : Unit} (h : marks f st = .ok (u, st1)) (h0 : st.pool = [] := by rfl) : st1.pool = [] := by
  unfold marks magic at h
  split at h
  · rename_i st2 h2
    split at h2
    · cases h2
    · rename_i h3
      split at h2
      · cases h2
        split at h
        · cases h
        · rename_i h5
          split at h
          · cases h
            rw [(num_lt h5).1, (num_lt h3).1]
            exact h0
          · cases h
      · cases h2
  · cases h

/-- how the whole reader ends -/
def ReadEnds (w : World) (r : Except Er Cl) (e : Ending) (w' : World) : Prop :=
  w.grownBy w' none ∧ match r with
    | .ok c => ∃ v, e = .returned v ∧ isCl w.heap.size w' v c
    | .error er => e = thrown er
theorem ReadEnds.err {w : World} {r : Except Er Cl} {w' : World} {x y : Int} {er : Er}
    (hr : r = .error er) (hx : x = er.1) (hy : y = er.2) (hg : w.grownBy w' none) : ReadEnds w r (.panicked [{ v := .iface 63 (.agg #[.int .i64 x, .int .i64 y]), recovered := false }]) w' := by
  subst hr hx hy; exact ⟨hg, rfl⟩
theorem gb_new {w w1 w2 : World} {b : Nat} (h : w.grownBy w1 none) (h1 : w1.grownBy w2 (some b)) (hb : w.heap.size ≤ b) : w.grownBy w2 none :=
  gb_trans h h1 (fun k e => .inl (by cases e; exact hb))

def endR (f : ByteArray) (st : St) : R Unit := if st.used < st.pool.length then .error (5, f.size) else if st.at_ < f.size then .error (6, st.at_) else .ok ((), st)
section
variable {f : ByteArray} {er : Er} {st2 st3 st4 : St} {xs : List Unit} {c : Cl} {u : Unit}
theorem dec_long (h : 2048 < f.size) : dec f = .error (1, 0) := by simp only [dec, h, if_true]
theorem dec_marks (h0 : ¬ 2048 < f.size) (h : marks f ⟨0, 0, []⟩ = .error er) : dec f = .error er := by
  unfold marks at h
  simp only [dec, h0, if_false]
  split at h
  · rename_i h1; simp only [h1, h]
  · rename_i h1; simp only [h1]; cases h; rfl
theorem dec_split (h0 : ¬ 2048 < f.size) (h : marks f ⟨0, 0, []⟩ = .ok (u, st2)) : dec f =
      match list f 1 (pushName f) st2 with
      | .error e => .error e
      | .ok (_, st3) =>
        match cls f st3 with
        | .error e => .error e
        | .ok (c, st4) =>
          if st4.used < st4.pool.length then .error (5, f.size) else
          if st4.at_ < f.size then .error (6, st4.at_) else .ok c := by
  unfold marks at h
  simp only [dec, h0, if_false]
  split at h
  · rename_i h1; simp only [h1, h]; rfl
  · cases h
theorem dec_pool (h0 : ¬ 2048 < f.size) (h1 : marks f ⟨0, 0, []⟩ = .ok (u, st2)) (h : list f 1 (pushName f) st2 = .error er) : dec f = .error er := by rw [dec_split h0 h1, h]
theorem dec_cls (h0 : ¬ 2048 < f.size) (h1 : marks f ⟨0, 0, []⟩ = .ok (u, st2)) (h2 : list f 1 (pushName f) st2 = .ok (xs, st3)) (h : cls f st3 = .error er) : dec f = .error er := by rw [dec_split h0 h1, h2]; simp only [h]
theorem dec_end (h0 : ¬ 2048 < f.size) (h1 : marks f ⟨0, 0, []⟩ = .ok (u, st2)) (h2 : list f 1 (pushName f) st2 = .ok (xs, st3)) (h3 : cls f st3 = .ok (c, st4)) (h : endR f st4 = .error er) : dec f = .error er := by
  rw [dec_split h0 h1, h2]
  simp only [h3]
  unfold endR at h
  split at h
  · rename_i h5; rw [if_pos h5]; cases h; rfl
  · rename_i h5
    rw [if_neg h5]
    split at h
    · rename_i h6; rw [if_pos h6]; cases h; rfl
    · cases h
theorem dec_ok (h0 : ¬ 2048 < f.size) (h1 : marks f ⟨0, 0, []⟩ = .ok (u, st2)) (h2 : list f 1 (pushName f) st2 = .ok (xs, st3)) (h3 : cls f st3 = .ok (c, st4)) {st5 : St} (h : endR f st4 = .ok (u, st5)) : dec f = .ok c := by
  rw [dec_split h0 h1, h2]
  simp only [h3]
  unfold endR at h
  split at h
  · cases h
  · rename_i h5
    rw [if_neg h5]
    split at h
    · cases h
    · rename_i h6; rw [if_neg h6]
end

set_option maxHeartbeats 1000000 in
theorem read_any (w : World) (f : ByteArray) (hf : f.size ≤ maxLen) (hS : Hid (Shp w)) :
    Calls Tryd.prog 19 #[.string f] w (ReadEnds w (dec f)) := by
  have HF : f.size ≤ 9223372036854775807 := hf
  clear hf
  by_cases h0 : 2048 < f.size
  · go_enter Tryd.func19, Tryd.ntmps19
    go_wp2
    exact ⟨rfl, .err (er := (1, 0)) (dec_long h0) rfl rfl (gb_alloc _ _ _)⟩
  · have hpos := hS.out.1
    go_enter Tryd.func19, Tryd.ntmps19
    have hR0 : Rd ((w.alloc (.cells #[.string ⟨#[]⟩, .string ⟨#[]⟩, .slice none 0 0, .slice none 0 0] 25)).alloc (.cells #[.string f, .int .i64 0, .slice none 0 0, .int .i64 0] 83)) (w.heap.size + 1) f (.slice none 0 0) ⟨0, 0, []⟩ := by
      refine ⟨⟨by omega, Nat.zero_le _, Nat.zero_le _, Nat.zero_le _⟩, ?_, World.ownsRow_nil _ _ _ _⟩
      have := Blk.new (w.alloc (.cells #[.string ⟨#[]⟩, .string ⟨#[]⟩, .slice none 0 0, .slice none 0 0] 25)) #[.string f, .int .i64 0, .slice none 0 0, .int .i64 0] 83
      simpa using this
    have hA0 := (Blk.new w #[.string ⟨#[]⟩, .string ⟨#[]⟩, .slice none 0 0, .slice none 0 0] 25).keep (gb_alloc _ (.cells #[.string f, .int .i64 0, .slice none 0 0, .int .i64 0] 83) none) (by simp)
    have hg0 : w.grownBy ((w.alloc (.cells #[.string ⟨#[]⟩, .string ⟨#[]⟩, .slice none 0 0, .slice none 0 0] 25)).alloc (.cells #[.string f, .int .i64 0, .slice none 0 0, .int .i64 0] 83)) none := gb_tr (gb_alloc _ _ _) (gb_alloc _ _ _)
    have HR0 := (show Hid _ from hR0)
    clear hR0
    go_wp2_with (first
      | (go_at_call 30
         refine Ends.bind (readMark_any _ (w.heap.size + 1) f _ _ HR0) (fun er w' hr hg => ⟨rfl, .err (er := er) (dec_marks h0 hr) rfl rfl (gb_new hg0 hg (by omega))⟩) ?_
         rintro u1 st1 v w1 H1 rfl hR1 hg1'
         have hg1 := gb_new hg0 hg1' (by omega)
         have hA1 := hA0.keep hg1' (by simp)
         clear hg1' hA0 HR0
         dsimp only)
      | (go_at_call 31
         refine PoolEnds.bind (readPool_any w1 (w.heap.size + 1) f st1 hR1 (marks_pool H1.out)) (fun er w' hr hg => ⟨rfl, .err (er := er) (dec_pool h0 H1.out hr) rfl rfl (gb_new hg1 hg (by omega))⟩) ?_
         rintro xs st2 w2 pv H2 hR2 hg2'
         have hg2 := gb_new hg1 hg2' (by omega)
         have hA2 := hA1.keep hg2' (by simp)
         have s2 : w.heap.size + 1 < w2.heap.size := hR2.out.lt
         clear hg2' hA1 hR1
         dsimp only)
      | (go_at_call 32
         refine Ends.bind (class_any w2 (w.heap.size + 1) f pv st2 hR2 (hS.out.keep hg2 (by simp)) (by omega)) (fun er w' hr hg => ⟨rfl, .err (er := er) (dec_cls h0 H1.out H2.out hr) rfl rfl (gb_new hg2 hg (by omega))⟩) ?_
         rintro c st3 v w3 H3 hc hR3 hg3'
         have hg3 := gb_new hg2 hg3' (by omega)
         have hA3 := hA2.keep hg3' (by simp)
         have hC3 : Hid (isCl w2.heap.size w3 v c) := hc
         obtain ⟨a1, k1, a2, k2, rfl, -, -⟩ := hc
         have s3 := hg3'.size
         have hb3 := hR3.out.lt
         have hT3 := Blk.new w3 #[.string c.name, .string c.super, .slice a1 c.fields.length k1, .slice a2 c.methods.length k2] 25
         clear hg3' hA2 hR2
         dsimp only)
      | (go_at_call 33
         refine Ends.bind (end_any _ (w.heap.size + 1) f pv st3 (hR3.out.keep (gb_alloc _ _ _))) (fun er w' hr hg => ⟨rfl, .err (er := er) (dec_end h0 H1.out H2.out H3.out hr) rfl rfl (gb_new (gb_tr hg3 (gb_alloc _ _ _)) hg (by omega))⟩) ?_
         rintro u4 st4 v w4 H4 rfl hR4 hg4'
         have hg4 := gb_new (gb_tr hg3 (gb_alloc _ _ _)) hg4' (by omega)
         have hA4 := (hA3.keep (gb_alloc _ _ none) (by simp)).keep hg4' (by simp)
         have hT4 := hT3.keep hg4' (by simp; omega)
         have hC4 := (hC3.out.keep (gb_alloc _ _ none) (fun k e => by cases e)).keep hg4' (fun k e => by cases e; omega)
         have c0 := hA4.cell 0 _ rfl
         have c1 := hA4.cell 1 _ rfl
         have c2 := hA4.cell 2 _ rfl
         have c3 := hA4.cell 3 _ rfl
         have z0 := hA4.frozen 0
         have z1 := hA4.frozen 1
         have z2 := hA4.frozen 2
         have z3 := hA4.frozen 3
         have d0 := hT4.cell 0 _ rfl
         have d1 := hT4.cell 1 _ rfl
         have d2 := hT4.cell 2 _ rfl
         have d3 := hT4.cell 3 _ rfl
         have HC4 : Hid (isCl w2.heap.size w4 (.agg #[.string c.name, .string c.super, .slice a1 c.fields.length k1, .slice a2 c.methods.length k2]) c) := hC4
         clear hg4' hA3 hT3 hA4 hT4 hC4
         dsimp only))
    refine bodyPost_ret (v := .agg #[.string c.name, .string c.super, .slice a1 c.fields.length k1, .slice a2 c.methods.length k2]) (by simp [results, Tryd.results19, go_sem, c0, c1, c2, c3]) rfl ?_
    refine ⟨gb_trans hg4 (gb_sets4 (g := w.heap.size)) (fun k e => .inl (by cases e; exact Nat.le_refl _)), ?_⟩
    rw [dec_ok h0 H1.out H2.out H3.out H4.out]
    exact ⟨_, rfl, (HC4.out.keep (gb_sets4 (g := w.heap.size)) (fun k e => by cases e; omega)).base (by omega)⟩
end Go.Proofs.YtcpicefhhnbgkaaDoor
