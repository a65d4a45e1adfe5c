import Derived.Test.YtcpicefhhnbgkaaDoorE3
namespace Go.Proofs.YtcpicefhhnbgkaaDoor
open Go.RowKit Cf

/-- the operands of an Op, as letters -/
def lets (op : Nat) : List UInt8 :=
  if op = 0 then [108] else if op = 2 ∨ op = 3 then [98] else if 12 ≤ op ∧ op ≤ 15 then [115] else if op = 16 ∨ op = 22 ∨ op = 28 ∨ op = 29 then [99] else if 17 ≤ op ∧ op ≤ 19 then [99, 109] else []
def letStr (op : Nat) : ByteArray := ⟨(lets op).toArray⟩

theorem lets_len (op : Nat) : (lets op).length ≤ 2 := by
  unfold lets
  repeat' split
  all_goals simp
theorem lets_in (op : Nat) : ∀ c ∈ lets op, c = 98 ∨ c = 115 ∨ c = 108 ∨ c = 99 ∨ c = 109 := by
  intro c hc
  unfold lets at hc
  repeat' split at hc
  all_goals simp at hc
  all_goals first | (subst hc; simp) | (rcases hc with rfl | rfl <;> simp)

set_option maxHeartbeats 1000000 in
theorem operands_any (op : Nat) (w : World) :
    Calls Tryd.prog 41 #[.int .i64 op] w fun e w' => e = .returned (.string (letStr op)) ∧ w = w' := by
  go_enter Tryd.func41, Tryd.ntmps41
  go_wp2_with fail
  all_goals
    go_ret
    refine ⟨congrArg (fun x => Ending.returned (.string x)) ?_, rfl⟩
    simp only [letStr, lets]
    repeat' split
    all_goals first | rfl | (exfalso; simp at *; omega)

/-- what one letter asks for -/
def oper1 (f : ByteArray) (c : UInt8) (x : In) (st : St) : R In :=
  if c = 98 then then_ (num f 1 st) (fun n st1 => .ok ({ x with a := n }, st1))
  else if c = 115 then then_ (num f 2 st) (fun n st1 => .ok ({ x with a := n }, st1))
  else if c = 108 then then_ (num f 4 st) (fun n st1 => .ok ({ x with a := signed 4 n }, st1))
  else if c = 99 then then_ (name f st) (fun n st1 => .ok ({ x with cls := n }, st1))
  else then_ (name f st) (fun n st1 => .ok ({ x with mem := n }, st1))
def opers (f : ByteArray) : List UInt8 → In → St → R In
  | [], x, st => .ok (x, st)
  | c :: l, x, st => then_ (oper1 f c x st) (opers f l)

theorem num0 (f : ByteArray) (st : St) (h : st.at_ ≤ f.size) : num f 0 st = .ok (0, st) := by
  simp [num, h, beL]

theorem ins_then (f : ByteArray) (st : St) (_hI : st.at_ ≤ f.size) : ins f st = then_ (num f 1 st) (fun op st1 => if 32 ≤ op then .error (3, st1.at_ - 1) else opers f (lets op) ⟨op, 0, ByteArray.empty, ByteArray.empty⟩ st1) := by
  unfold ins then_
  cases h : num f 1 st with
  | error er => rfl
  | ok p =>
    obtain ⟨op, st1⟩ := p
    have hat : st1.at_ ≤ f.size := by
      rw [num] at h
      split at h
      · cases h; assumption
      · cases h
    have h1 : st1.at_ - 1 = st.at_ := by rw [(num_lt h).1]; simp
    simp only [h1]
    split
    · rfl
    · rename_i h32
      have hc : op = 0 ∨ op = 1 ∨ op = 2 ∨ op = 3 ∨ op = 4 ∨ op = 5 ∨ op = 6 ∨ op = 7 ∨ op = 8 ∨ op = 9 ∨ op = 10 ∨ op = 11 ∨ op = 12 ∨ op = 13 ∨ op = 14 ∨ op = 15 ∨ op = 16 ∨ op = 17 ∨ op = 18 ∨ op = 19 ∨ op = 20 ∨ op = 21 ∨ op = 22 ∨ op = 23 ∨ op = 24 ∨ op = 25 ∨ op = 26 ∨ op = 27 ∨ op = 28 ∨ op = 29 ∨ op = 30 ∨ op = 31 := by omega
      have n0 := num0 f st1 hat
      rcases hc with rfl | rfl | rfl | rfl | rfl | rfl | rfl | rfl | rfl | rfl | rfl | rfl | rfl | rfl | rfl | rfl | rfl | rfl | rfl | rfl | rfl | rfl | rfl | rfl | rfl | rfl | rfl | rfl | rfl | rfl | rfl | rfl
      all_goals simp [width, wantsC, wantsM, lets, opers, oper1, n0, nameIf, signed, then_]
      all_goals first
        | (cases num f 4 st1 <;> rfl)
        | (cases num f 1 st1 <;> rfl)
        | (cases num f 2 st1 <;> rfl)
        | (cases name f st1 <;> rfl)
        | (rcases name f st1 with _ | ⟨c, st3⟩; rfl; dsimp only; cases name f st3 <;> rfl)

theorem bnd_ins {f : ByteArray} {s : Except Er St} (hI : ∀ st, s = .ok st → st.at_ ≤ f.size) : bnd s (ins f) = then_ (bnd s (num f 1)) (fun op st1 => if 32 ≤ op then .error (3, st1.at_ - 1) else opers f (lets op) ⟨op, 0, ByteArray.empty, ByteArray.empty⟩ st1) := by
  cases s with
  | error er => rfl
  | ok st => exact ins_then f st (hI st rfl)
theorem EyS.inv {w : World} {b : Nat} {f : ByteArray} {pv : Value} {s : Except Er St} (h : EyS w b f pv s) : ∀ st, s = .ok st → st.at_ ≤ f.size := by
  intro st e
  subst e
  exact h.1.at_
theorem ins_ret (W : World) (t : Array Value) (G : Nat) (x y z u : Value) (T : TypeId) (ht : t.getD 2 undef = .pointer (some ⟨G, 0, none⟩)) (h : Blk W G #[x, y, z, u] T) : (results Tryd.f34 t).run Tryd.prog W = .ok (.agg #[x, y, z, u]) W := by
  have h0 := h.cell 0 x rfl
  have h1 := h.cell 1 y rfl
  have h2 := h.cell 2 z rfl
  have h3 := h.cell 3 u rfl
  rw [Array.getD_eq_getD_getElem?] at ht
  simp [results, Tryd.results34, go_sem, ht, h0, h1, h2, h3]

/-- how far the reading of an instruction's operands has come -/
def Tot (f : ByteArray) (r : R Nat) (n k : Nat) (x : In) (s2 : Except Er St) : Prop :=
  match s2 with
  | .ok st2 => then_ r (fun op st1 => if 32 ≤ op then .error (3, st1.at_ - 1) else opers f (lets op) ⟨op, 0, ByteArray.empty, ByteArray.empty⟩ st1) = opers f ((lets n).drop k) x st2
  | .error er => then_ r (fun op st1 => if 32 ≤ op then .error (3, st1.at_ - 1) else opers f (lets op) ⟨op, 0, ByteArray.empty, ByteArray.empty⟩ st1) = .error er
theorem Tot.start {f : ByteArray} {r : R Nat} {n : Nat} (h : ∀ a' st, r = .ok (a', st) → a' = n) (h32 : ¬ 32 ≤ n) : Tot f r n 0 ⟨n, 0, ⟨#[]⟩, ⟨#[]⟩⟩ (stateOf r) := by
  cases r with
  | error er => rfl
  | ok p =>
    obtain ⟨a, st⟩ := p
    have := h a st rfl
    subst this
    simp only [Tot, stateOf, then_, h32, if_false, List.drop_zero]
    rfl
theorem Tot.done {f : ByteArray} {r : R Nat} {n k : Nat} {x : In} {st2 : St} (h : Tot f r n k x (.ok st2)) (hk : k = (lets n).length) (hx : x.op = n) :
    then_ r (fun op st1 => if 32 ≤ op then .error (3, st1.at_ - 1) else opers f (lets op) ⟨op, 0, ByteArray.empty, ByteArray.empty⟩ st1) = .ok (⟨n, x.a, x.cls, x.mem⟩, st2) := by
  have h' : _ = opers f ((lets n).drop k) x st2 := h
  rw [h', hk, List.drop_length, opers, ← hx]
def OperIs (f : ByteArray) (c : UInt8) (x : In) (st : St) (y : In) (s3 : Except Er St) : Prop := match s3 with | .ok st3 => oper1 f c x st = .ok (y, st3) | .error er => oper1 f c x st = .error er
theorem opers_step {f : ByteArray} {r : R Nat} {n k : Nat} {x y : In} {st2 : St} {s3 : Except Er St} {L : ByteArray} {c : UInt8} (hL : Hid (L.data.toList = lets n)) (hlt : k < L.size) (hc : L.data[k] = c) (h : Tot f r n k x (.ok st2))
    (ho : OperIs f c x st2 y s3) : Tot f r n (k + 1) y s3 := by
  have h' : _ = opers f ((lets n).drop k) x st2 := h
  have hk : k < (lets n).length := by rw [← hL.out]; simpa using hlt
  have hd : (lets n).drop k = c :: (lets n).drop (k + 1) := by
    rw [List.drop_eq_getElem_cons hk, ← hc]
    congr 1
    have : ∀ (l : List UInt8) (e : L.data.toList = l) (hk : k < l.length), l[k] = L.data[k] := by intro l e hk; subst e; simp
    exact this _ hL.out hk
  rw [hd] at h'
  cases s3 with
  | ok st3 => simp only [Tot]; rw [h', opers]; simp only [OperIs] at ho; rw [ho]; rfl
  | error er => simp only [Tot]; rw [h', opers]; simp only [OperIs] at ho; rw [ho]; rfl
section
variable {f : ByteArray} {x : In} {st : St}
theorem oper_98 {m : Nat} (h : ∀ a' st', bnd (.ok st) (num f 1) = .ok (a', st') → a' = m) : OperIs f 98 x st { x with a := m } (stateOf (num f 1 st)) := by
  rcases h1 : num f 1 st with er | ⟨a, s3⟩
  · simp [OperIs, stateOf, oper1, then_, h1]
  · have := h a s3 h1
    subst this
    simp [OperIs, stateOf, oper1, then_, h1]
theorem oper_115 {m : Nat} (h : ∀ a' st', bnd (.ok st) (num f 2) = .ok (a', st') → a' = m) : OperIs f 115 x st { x with a := m } (stateOf (num f 2 st)) := by
  rcases h1 : num f 2 st with er | ⟨a, s3⟩
  · simp [OperIs, stateOf, oper1, then_, h1]
  · have := h a s3 h1
    subst this
    simp [OperIs, stateOf, oper1, then_, h1]
theorem oper_108 {m : Nat} {z : Int} (h : ∀ a' st', bnd (.ok st) (num f 4) = .ok (a', st') → a' = m) (hz : m < 256 ^ 4 → z = signed 4 m) : OperIs f 108 x st { x with a := z } (stateOf (num f 4 st)) := by
  rcases h1 : num f 4 st with er | ⟨a, s3⟩
  · simp [OperIs, stateOf, oper1, then_, h1]
  · have := h a s3 h1
    subst this
    simp [OperIs, stateOf, oper1, then_, h1, hz (num_lt h1).2]
theorem oper_99 {m : ByteArray} (h : ∀ a' st', bnd (.ok st) (name f) = .ok (a', st') → a' = m) : OperIs f 99 x st { x with cls := m } (stateOf (name f st)) := by
  rcases h1 : name f st with er | ⟨a, s3⟩
  · simp [OperIs, stateOf, oper1, then_, h1]
  · have := h a s3 h1
    subst this
    simp [OperIs, stateOf, oper1, then_, h1]
theorem oper_109 {m : ByteArray} (h : ∀ a' st', bnd (.ok st) (name f) = .ok (a', st') → a' = m) : OperIs f 109 x st { x with mem := m } (stateOf (name f st)) := by
  rcases h1 : name f st with er | ⟨a, s3⟩
  · simp [OperIs, stateOf, oper1, then_, h1]
  · have := h a s3 h1
    subst this
    simp [OperIs, stateOf, oper1, then_, h1]
end

end Go.Proofs.YtcpicefhhnbgkaaDoor
