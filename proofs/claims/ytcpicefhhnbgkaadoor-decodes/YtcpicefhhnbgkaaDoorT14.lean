import Derived.Test.YtcpicefhhnbgkaaDoorT13
namespace Go.Proofs.YtcpicefhhnbgkaaDoor
open Go.RowKit Cf

def marks (f : ByteArray) (st : St) : R Unit := match magic f 87 0 st with | .ok (_, st1) => magic f 49 1 st1 | .error er => .error er
def isUnit (_ : World) (v : Value) (_ : Unit) : Prop := v = .tuple #[]
theorem magic_e {f : ByteArray} {c i : Nat} {st : St} {er : Er} (h : num f 1 st = .error er) : magic f c i st = .error er := by simp only [magic, h]
theorem magic_no {f : ByteArray} {c i n : Nat} {st st1 : St} (h : num f 1 st = .ok (n, st1)) (hn : n ≠ c) : magic f c i st = .error (3, i) := by simp only [magic, h, hn, if_false]
theorem magic_ok {f : ByteArray} {c i n : Nat} {st st1 : St} (h : num f 1 st = .ok (n, st1)) (hn : n = c) : magic f c i st = .ok ((), st1) := by simp only [magic, h, hn, if_true]
theorem ne87 {n : Nat} (h : ¬ (n : Int) = IntKind.i64.wrap ((ByteArray.mk #[87, 49])[0].toNat : Int)) : n ≠ 87 := fun e => h (by subst e; decide)
theorem eq87 {n : Nat} (h : (n : Int) = IntKind.i64.wrap ((ByteArray.mk #[87, 49])[0].toNat : Int)) : n = 87 := by
  have e : IntKind.i64.wrap ((ByteArray.mk #[87, 49])[0].toNat : Int) = 87 := by decide
  omega
theorem ne49 {n : Nat} (h : ¬ (n : Int) = IntKind.i64.wrap ((ByteArray.mk #[87, 49])[1].toNat : Int)) : n ≠ 49 := fun e => h (by subst e; decide)
theorem eq49 {n : Nat} (h : (n : Int) = IntKind.i64.wrap ((ByteArray.mk #[87, 49])[1].toNat : Int)) : n = 49 := by
  have e : IntKind.i64.wrap ((ByteArray.mk #[87, 49])[1].toNat : Int) = 49 := by decide
  omega
theorem marks_e {f : ByteArray} {st : St} {er : Er} (h : magic f 87 0 st = .error er) : marks f st = .error er := by simp only [marks, h]
theorem marks_2 {f : ByteArray} {st st1 : St} {r : R Unit} (h : magic f 87 0 st = .ok ((), st1)) (h2 : magic f 49 1 st1 = r) : marks f st = r := by simp only [marks, h, h2]

set_option maxHeartbeats 1000000 in
theorem readMark_any (w : World) (b : Nat) (f : ByteArray) (pv : Value) (st : St) (h : Hid (Rd w b f pv st)) :
    Calls Tryd.prog 30 #[.pointer (some ⟨b, 0, none⟩)] w (Ends w b f pv (marks f st) isUnit) := by
  go_enter Tryd.func30, Tryd.ntmps30
  go_wp2_with fail
  go_loopw [3] (fun i wr => w.grownBy wr (some b) ∧ ((i = .int .i64 0 ∧ Rd wr b f pv st) ∨ (∃ st1, i = .int .i64 1 ∧ magic f 87 0 st = .ok ((), st1) ∧ Rd wr b f pv st1) ∨ (∃ st2, i = .int .i64 2 ∧ marks f st = .ok ((), st2) ∧ Rd wr b f pv st2))) (fun i _ => 2 - (intOf i).toNat)
  case atStart => exact ⟨gb_refl _ _, .inl ⟨rfl, h.out⟩⟩
  case round =>
    obtain ⟨hg, ⟨rfl, hR⟩ | ⟨st1, rfl, hm, hR⟩ | ⟨st2, rfl, hm, hR⟩⟩ := hrel
    · have HR : Hid (Rd wr.drew b f pv st) := hR.keep (gb_drew _ _)
      clear hR
      go_wp2_with fail
      go_region_law (first
        | (go_simp
           go_at_call 42
           refine Ends.bind (number_any wr.drew b f pv st 1 HR (by omega)) (fun er w' hr hg3 => ⟨rfl, .err (er := er) (marks_e (magic_e hr)) rfl rfl (gb_tr (gb_tr hg (gb_drew _ _)) hg3)⟩) ?_
           rintro n st3 v w3 H3 rfl hR3 hg3
           dsimp only))
      all_goals
        go_wp2_with fail
        · rename_i hq _ _
          have h5 := ne87 (by simpa using hq)
          exact ⟨rfl, .err (er := (3, 0)) (marks_e (magic_no H3.out h5)) rfl rfl (gb_tr (gb_tr hg (gb_drew _ _)) hg3)⟩
        · rename_i hq
          have h5 := eq87 (by simpa using hq)
          exact ⟨⟨gb_tr (gb_tr hg (gb_drew _ _)) hg3, .inr (.inl ⟨st3, rfl, magic_ok H3.out h5, hR3.out⟩)⟩, by simp [intOf]⟩
    · have HR : Hid (Rd wr.drew b f pv st1) := hR.keep (gb_drew _ _)
      have HM : Hid (magic f 87 0 st = .ok ((), st1)) := hm
      clear hR hm
      go_wp2_with fail
      go_region_law (first
        | (go_simp
           go_at_call 42
           refine Ends.bind (number_any wr.drew b f pv st1 1 HR (by omega)) (fun er w' hr hg3 => ⟨rfl, .err (er := er) (marks_2 HM.out (magic_e hr)) rfl rfl (gb_tr (gb_tr hg (gb_drew _ _)) hg3)⟩) ?_
           rintro n st3 v w3 H3 rfl hR3 hg3
           dsimp only))
      all_goals
        go_wp2_with fail
        · rename_i hq _ _
          have h5 := ne49 (by simpa using hq)
          exact ⟨rfl, .err (er := (3, 1)) (marks_2 HM.out (magic_no H3.out h5)) rfl rfl (gb_tr (gb_tr hg (gb_drew _ _)) hg3)⟩
        · rename_i hq
          have h5 := eq49 (by simpa using hq)
          exact ⟨⟨gb_tr (gb_tr hg (gb_drew _ _)) hg3, .inr (.inr ⟨st3, rfl, marks_2 HM.out (magic_ok H3.out h5), hR3.out⟩)⟩, by simp [intOf]⟩
    · have HM : Hid (marks f st = .ok ((), st2)) := hm
      have HR : Hid (Rd wr b f pv st2) := hR
      clear hR hm
      go_wp2_with fail
      go_end0
      exact .ok HM.out hg rfl HR.out
end Go.Proofs.YtcpicefhhnbgkaaDoor
