/- How a reader's state, and what it makes, lie in memory; the laws by which these stay. -/
import Derived.Test.YtcpicefhhnbgkaaDoorProg
import Derived.Test.YtcpicefhhnbgkaaDoorSpec
import Derived.WalkKit
import Derived.WalkSpells
import Derived.WalkLawsBesides
import Derived.Deep.QuietTactic
import Derived.BigQuiet
namespace Go.Proofs.YtcpicefhhnbgkaaDoor
open Go.RowKit Cf

/-- one frame behind another: what is written lies in the one block, or is new -/
theorem gb_trans {w w1 w2 : World} {row r1 : Option Nat} (h : w.grownBy w1 row) (h1 : w1.grownBy w2 r1) (hr : ∀ k, r1 = some k → w.heap.size ≤ k ∨ some k = row) : w.grownBy w2 row :=
  ⟨h1.os.trans h.os, h1.tape.trans h.tape, h1.output.trans h.output, Nat.le_trans h.size h1.size, fun k hk hne =>
    (h1.block k (Nat.lt_of_lt_of_le hk h.size) (fun e => by rcases hr k e.symm with h2 | h2; omega; exact hne h2)).trans (h.block k hk hne)⟩
theorem gb_tr {w w1 w2 : World} {row : Option Nat} (h : w.grownBy w1 row) (h1 : w1.grownBy w2 row) : w.grownBy w2 row :=
  gb_trans h h1 (fun _ e => .inr e.symm)
theorem gb_tn {w w1 w2 : World} {row : Option Nat} (h : w.grownBy w1 row) (h1 : w1.grownBy w2 none) : w.grownBy w2 row :=
  gb_trans h h1 (fun _ e => by cases e)
theorem gb_none {w w1 : World} {row : Option Nat} (h : w.grownBy w1 none) : w.grownBy w1 row :=
  ⟨h.os, h.tape, h.output, h.size, fun k hk _ => h.block k hk (by simp)⟩
theorem gb_refl (w : World) (row : Option Nat) : w.grownBy w row := ⟨rfl, rfl, rfl, Nat.le_refl _, fun _ _ _ => rfl⟩
theorem gb_drewN (w : World) (n : Nat) (row : Option Nat) : w.grownBy (w.drewN n) row := ⟨rfl, rfl, rfl, Nat.le_refl _, fun _ _ _ => rfl⟩
theorem gb_drew (w : World) (row : Option Nat) : w.grownBy w.drew row := ⟨rfl, rfl, rfl, Nat.le_refl _, fun _ _ _ => rfl⟩
theorem gb_set (w : World) (a : Addr) (v : Value) : w.grownBy (w.setCell a v) (some a.block) :=
  ⟨rfl, rfl, rfl, by simp [World.setCell], fun k _ hk => heap_setCell_other w a k v (fun e => hk (by simp [e]))⟩
theorem gb_alloc (w : World) (o : Obj) (row : Option Nat) : w.grownBy (w.alloc o) row := World.grownBy_alloc w o row

/-- a block is a row of such cells, none of them frozen -/
def Blk (w : World) (g : Nat) (cs : Array Value) (t : TypeId) : Prop := w.heap[g]? = some (.cells cs t (0, 0))
theorem Blk.lt {w : World} {g : Nat} {cs : Array Value} {t : TypeId} (h : Blk w g cs t) : g < w.heap.size := (Array.getElem?_eq_some_iff.1 h).1
theorem Blk.keep {w w1 : World} {g : Nat} {cs : Array Value} {t : TypeId} {row : Option Nat} (h : Blk w g cs t) (hg : w.grownBy w1 row) (hr : some g ≠ row) : Blk w1 g cs t :=
  (hg.block g h.lt hr).trans h
theorem Blk.new (w : World) (cs : Array Value) (t : TypeId) : Blk (w.alloc (.cells cs t)) w.heap.size cs t := heap_alloc_new w _
theorem Blk.cell {w : World} {g : Nat} {cs : Array Value} {t : TypeId} (h : Blk w g cs t) (j : Nat) (v : Value) (hv : cs[j]? = some v) : w.cell? ⟨g, j, none⟩ = some v := by
  rw [cell_of_row w g j _ _ _ h]; exact hv
theorem Blk.frozen {w : World} {g : Nat} {cs : Array Value} {t : TypeId} (h : Blk w g cs t) (j : Nat) : w.frozen? ⟨g, j, none⟩ = false := frozen_of_row w g j _ _ h
theorem Blk.set {w : World} {g : Nat} {cs : Array Value} {t : TypeId} (h : Blk w g cs t) (j : Nat) (v : Value) : Blk (w.setCell ⟨g, j, none⟩ v) g (cs.setIfInBounds j v) t :=
  heap_setCell_same w g j _ _ _ h

/-- the reader's struct and its pool -/
structure Rd (w : World) (b : Nat) (f : ByteArray) (pv : Value) (st : St) : Prop where
  inv : Inv f st
  blk : Blk w b #[.string f, .int .i64 st.at_, pv, .int .i64 st.used] 83
  own : w.ownsRow (b + 1) 9 1 pv st.pool.length (st.pool.map Value.string)

section
variable {w w' : World} {b k : Nat} {f : ByteArray} {pv : Value} {st : St}
theorem Rd.poolNe (h : Rd w b f pv st) : pv.ownBlock ≠ some b := by
  cases hv : pv.ownBlock with
  | none => simp
  | some g => have := (h.own.lt g hv).1; simp; omega
theorem Rd.poolLt (h : Rd w b f pv st) (hk : w.heap.size ≤ k) : pv.ownBlock ≠ some k := by
  cases hv : pv.ownBlock with
  | none => simp
  | some g => have := (h.own.lt g hv).2; simp; omega
theorem Rd.lt (h : Rd w b f pv st) : b < w.heap.size := h.blk.lt
theorem Rd.keep (h : Rd w b f pv st) (hg : w.grownBy w' none) : Rd w' b f pv st :=
  ⟨h.inv, h.blk.keep hg (by simp), h.own.kept hg (by cases hv : pv.ownBlock <;> simp)⟩
theorem Rd.keepAt (h : Rd w b f pv st) (hg : w.grownBy w' (some k)) (hk : b ≠ k) (hp : pv.ownBlock ≠ some k) : Rd w' b f pv st :=
  ⟨h.inv, h.blk.keep hg (by simpa using hk), h.own.kept hg (.inr hp)⟩
/-- an append onto a row of the caller's own -/
theorem Rd.grow {w w1 w2 : World} {row : Option Nat} (h : Rd w b f pv st) (h1 : w.grownBy w1 none) (h2 : w1.grownBy w2 row) (hb : row ≠ some b) (hp : ∀ g, row = some g → pv.ownBlock ≠ some g) : Rd w2 b f pv st := by
  cases row with
  | none => exact (h.keep h1).keep h2
  | some g => exact (h.keep h1).keepAt h2 (fun e => hb (by rw [e])) (hp g rfl)
theorem Rd.setAt (h : Rd w b f pv st) (n : Nat) (hn : n ≤ f.size) : Rd (w.setCell ⟨b, 1, none⟩ (.int .i64 n)) b f pv { st with at_ := n } :=
  ⟨⟨h.inv.fits, hn, h.inv.used, h.inv.pool⟩, h.blk.set 1 _, h.own.kept (gb_set w ⟨b, 1, none⟩ _) (.inr h.poolNe)⟩
theorem Rd.setUsed (h : Rd w b f pv st) (n : Nat) (hn : n ≤ st.pool.length) : Rd (w.setCell ⟨b, 3, none⟩ (.int .i64 n)) b f pv { st with used := n } :=
  ⟨⟨h.inv.fits, h.inv.at_, hn, h.inv.pool⟩, h.blk.set 3 _, h.own.kept (gb_set w ⟨b, 3, none⟩ _) (.inr h.poolNe)⟩
end

theorem gb_newSet {w w1 : World} {row : Option Nat} (h : w.grownBy w1 row) {g : Nat} (hg : w.heap.size ≤ g) (j : Nat) (x : Value) : w.grownBy (w1.setCell ⟨g, j, none⟩ x) row :=
  gb_trans h (gb_set w1 ⟨g, j, none⟩ x) (fun k e => .inl (by cases e; exact hg))
theorem gb_new2 {w w1 : World} {row : Option Nat} (h : w.grownBy w1 row) {g : Nat} (hg : w.heap.size ≤ g) {i j : Nat} {x y : Value} :
    w.grownBy ((w1.setCell ⟨g, i, none⟩ x).setCell ⟨g, j, none⟩ y) row := gb_newSet (gb_newSet h hg i x) hg j y
theorem gb_new3 {w w1 : World} {row : Option Nat} (h : w.grownBy w1 row) {g : Nat} (hg : w.heap.size ≤ g) {i j k : Nat} {x y z : Value} :
    w.grownBy (((w1.setCell ⟨g, i, none⟩ x).setCell ⟨g, j, none⟩ y).setCell ⟨g, k, none⟩ z) row := gb_newSet (gb_new2 h hg) hg k z
theorem gb_new4 {w w1 : World} {row : Option Nat} (h : w.grownBy w1 row) {g : Nat} (hg : w.heap.size ≤ g) {i j k l : Nat} {x y z u : Value} :
    w.grownBy ((((w1.setCell ⟨g, i, none⟩ x).setCell ⟨g, j, none⟩ y).setCell ⟨g, k, none⟩ z).setCell ⟨g, l, none⟩ u) row := gb_newSet (gb_new3 h hg) hg l u
section
variable {w : World} {b g : Nat} {f : ByteArray} {pv : Value} {st : St}
theorem Rd.newSet (h : Rd w b f pv st) (hk : b ≠ g) (hp : pv.ownBlock ≠ some g) (j : Nat) (x : Value) : Rd (w.setCell ⟨g, j, none⟩ x) b f pv st :=
  h.keepAt (gb_set w ⟨g, j, none⟩ x) hk hp
theorem Rd.new2 (h : Rd w b f pv st) (hk : b ≠ g) (hp : pv.ownBlock ≠ some g) {i j : Nat} {x y : Value} : Rd ((w.setCell ⟨g, i, none⟩ x).setCell ⟨g, j, none⟩ y) b f pv st :=
  (h.newSet hk hp i x).newSet hk hp j y
theorem Rd.new3 (h : Rd w b f pv st) (hk : b ≠ g) (hp : pv.ownBlock ≠ some g) {i j k : Nat} {x y z : Value} : Rd (((w.setCell ⟨g, i, none⟩ x).setCell ⟨g, j, none⟩ y).setCell ⟨g, k, none⟩ z) b f pv st :=
  (h.new2 hk hp).newSet hk hp k z
theorem Rd.new4 (h : Rd w b f pv st) (hk : b ≠ g) (hp : pv.ownBlock ≠ some g) {i j k l : Nat} {x y z u : Value} : Rd ((((w.setCell ⟨g, i, none⟩ x).setCell ⟨g, j, none⟩ y).setCell ⟨g, k, none⟩ z).setCell ⟨g, l, none⟩ u) b f pv st :=
  (h.new3 hk hp).newSet hk hp l u
end

/-- a fault, as the reader throws it -/
def thrown (e : Er) : Ending := .panicked [{ v := .iface 63 (.agg #[.int .i64 e.1, .int .i64 e.2]), recovered := false }]

/-- how a reader's call ends: with what the plain function tells, the reader's block alone written -/
def Ends {α : Type} (w : World) (b : Nat) (f : ByteArray) (pv : Value) (r : R α) (val : World → Value → α → Prop) (e : Ending) (w' : World) : Prop :=
  w.grownBy w' (some b) ∧ match r with
    | .ok (a, st) => ∃ v, e = .returned v ∧ val w' v a ∧ Rd w' b f pv st
    | .error er => e = thrown er

theorem Ends.cases {α : Type} {w : World} {b : Nat} {f : ByteArray} {pv : Value} {r : R α} {val : World → Value → α → Prop} {e : Ending} {w' : World} (h : Ends w b f pv r val e w') :
    (∃ a st v, r = .ok (a, st) ∧ e = .returned v ∧ val w' v a ∧ Hid (Rd w' b f pv st) ∧ w.grownBy w' (some b)) ∨
    (∃ er, r = .error er ∧ e = .panicked [{ v := .iface 63 (.agg #[.int .i64 er.1, .int .i64 er.2]), recovered := false }] ∧ w.grownBy w' (some b)) := by
  obtain ⟨hg, h⟩ := h
  cases r with
  | ok p => obtain ⟨v, h1, h2, h3⟩ := h; exact .inl ⟨p.1, p.2, v, rfl, h1, h2, h3, hg⟩
  | error er => exact .inr ⟨er, rfl, h, hg⟩
/-- a call of the reader's, met by its contract: what goes on behind a fault, and behind an answer -/
theorem Ends.bind {P : Program} {fn : FuncId} {args : Array Value} {α : Type} {w : World} {b : Nat} {f : ByteArray} {pv : Value} {r : R α} {val : World → Value → α → Prop} {K : Ending → World → Prop}
    (hc : Calls P fn args w (Ends w b f pv r val))
    (herr : ∀ er w', r = .error er → w.grownBy w' (some b) → K (.panicked [{ v := .iface 63 (.agg #[.int .i64 er.1, .int .i64 er.2]), recovered := false }]) w')
    (hok : ∀ a st v w', Hid (r = .ok (a, st)) → val w' v a → Hid (Rd w' b f pv st) → w.grownBy w' (some b) → K (.returned v) w') : Calls P fn args w K :=
  hc.mono fun e w' he => by
    rcases he.cases with ⟨a, st, v, hr, rfl, hv, hR, hg⟩ | ⟨er, hr, rfl, hg⟩
    · exact hok a st v w' hr hv hR hg
    · exact herr er w' hr hg
theorem Ends.ok {α : Type} {w : World} {b : Nat} {f : ByteArray} {pv : Value} {r : R α} {val : World → Value → α → Prop} {v : Value} {w' : World} {a : α} {st : St}
    (hr : r = .ok (a, st)) (hg : w.grownBy w' (some b)) (hv : val w' v a) (h : Rd w' b f pv st) : Ends w b f pv r val (.returned v) w' := by
  subst hr; exact ⟨hg, v, rfl, hv, h⟩
theorem Ends.err {α : Type} {w : World} {b : Nat} {f : ByteArray} {pv : Value} {r : R α} {val : World → Value → α → Prop} {w' : World} {x y : Int} {er : Er}
    (hr : r = .error er) (hx : x = er.1) (hy : y = er.2) (hg : w.grownBy w' (some b)) : Ends w b f pv r val (.panicked [{ v := .iface 63 (.agg #[.int .i64 x, .int .i64 y]), recovered := false }]) w' := by
  subst hr hx hy; exact ⟨hg, rfl⟩

def isInt (_ : World) (v : Value) (n : Nat) : Prop := v = .int .i64 n
def isStr (_ : World) (v : Value) (s : ByteArray) : Prop := v = .string s
end Go.Proofs.YtcpicefhhnbgkaaDoor
