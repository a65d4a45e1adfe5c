/- The document's reader of class files as a plain function: what Decode answers, told apart from any code. -/
import Derived.Test.YtdhophglnhcjbaaDoorProg
import Derived.WalkKit
import Derived.WalkSpells
import Derived.WalkLawsBesides
import Derived.Deep.QuietTactic
import Derived.BigQuiet
import Derived.Deep.RegionHeld2
set_option linter.unusedVariables false
set_option linter.unusedSimpArgs false
namespace Go.Proofs.YtdhophglnhcjbaaDoor
namespace Cf

structure St where
  at_ : Nat
  used : Nat
  pool : List ByteArray

/-- an error's number and its place -/
abbrev Er := Nat × Nat
abbrev R (α : Type) := Except Er (α × St)

def beL (l : List UInt8) : Nat := l.foldl (fun n c => n * 256 + c.toNat) 0
def num (f : ByteArray) (k : Nat) (st : St) : R Nat :=
  if st.at_ + k ≤ f.size then .ok (beL ((f.data.toList.drop st.at_).take k), { st with at_ := st.at_ + k }) else .error (2, f.size)

def name (f : ByteArray) (st : St) : R ByteArray :=
  match num f 1 st with
  | .error e => .error e
  | .ok (n, st1) => if n ≤ st.used ∧ n < st.pool.length then .ok (st.pool.getD n ByteArray.empty, { st1 with used := max st.used (n + 1) }) else .error (5, st.at_)

structure Ty where
  kind : Nat
  name : ByteArray
structure Fld where
  name : ByteArray
  ty : Ty
structure In where
  op : Nat
  a : Int
  cls : ByteArray
  mem : ByteArray
structure Hd where
  from_ : Nat
  to : Nat
  at_ : Nat
  cls : ByteArray
structure Me where
  name : ByteArray
  params : List Ty
  ret : Ty
  stack : Nat
  locals : Nat
  code : List In
  handlers : List Hd
structure Cl where
  name : ByteArray
  super : ByteArray
  fields : List Fld
  methods : List Me

def hasName (k : Nat) : Bool := k == 2 || k == 4
def nameIf (f : ByteArray) (b : Bool) (st : St) : R ByteArray := if b then name f st else .ok (ByteArray.empty, st)

def kind (f : ByteArray) (st : St) : R Ty :=
  match num f 1 st with
  | .error e => .error e
  | .ok (k, st1) =>
    if 4 < k then .error (3, st.at_) else
    match nameIf f (hasName k) st1 with
    | .error e => .error e
    | .ok (n, st2) => .ok (⟨k, n⟩, st2)

def width (op : Nat) : Nat := if op = 0 then 4 else if op = 2 ∨ op = 3 then 1 else if 12 ≤ op ∧ op ≤ 15 then 2 else 0
def wantsC (op : Nat) : Bool := (16 ≤ op && op ≤ 19) || op == 22 || op == 28 || op == 29
def wantsM (op : Nat) : Bool := 17 ≤ op && op ≤ 19

/-- four bytes are the only ones with a sign -/
def signed (w n : Nat) : Int := if w = 4 ∧ 2147483648 ≤ n then (n : Int) - 4294967296 else n

def ins (f : ByteArray) (st : St) : R In :=
  match num f 1 st with
  | .error e => .error e
  | .ok (op, st1) =>
    if 32 ≤ op then .error (3, st.at_) else
    match num f (width op) st1 with
    | .error e => .error e
    | .ok (n, st2) =>
      match nameIf f (wantsC op) st2 with
      | .error e => .error e
      | .ok (c, st3) =>
        match nameIf f (wantsM op) st3 with
        | .error e => .error e
        | .ok (m, st4) => .ok (⟨op, signed (width op) n, c, m⟩, st4)

def handler (f : ByteArray) (st : St) : R Hd :=
  match num f 2 st with
  | .error e => .error e
  | .ok (a, st1) =>
    match num f 2 st1 with
    | .error e => .error e
    | .ok (b, st2) =>
      match num f 2 st2 with
      | .error e => .error e
      | .ok (c, st3) =>
        match name f st3 with
        | .error e => .error e
        | .ok (n, st4) => .ok (⟨a, b, c, n⟩, st4)

def field (f : ByteArray) (st : St) : R Fld :=
  match name f st with
  | .error e => .error e
  | .ok (n, st1) =>
    match kind f st1 with
    | .error e => .error e
    | .ok (t, st2) => .ok (⟨n, t⟩, st2)

/-- so many times the same -/
def rep {α : Type} (p : St → R α) : Nat → St → R (List α)
  | 0, st => .ok ([], st)
  | k + 1, st =>
    match p st with
    | .error e => .error e
    | .ok (x, st1) =>
      match rep p k st1 with
      | .error e => .error e
      | .ok (l, st2) => .ok (x :: l, st2)

def list {α : Type} (f : ByteArray) (w : Nat) (p : St → R α) (st : St) : R (List α) :=
  match num f w st with
  | .error e => .error e
  | .ok (n, st1) => rep p n st1

def meth (f : ByteArray) (st : St) : R Me :=
  match name f st with
  | .error e => .error e
  | .ok (n, st1) =>
    match list f 1 (kind f) st1 with
    | .error e => .error e
    | .ok (ps, st2) =>
      match kind f st2 with
      | .error e => .error e
      | .ok (r, st3) =>
        match num f 1 st3 with
        | .error e => .error e
        | .ok (s, st4) =>
          match num f 1 st4 with
          | .error e => .error e
          | .ok (l, st5) =>
            match list f 2 (ins f) st5 with
            | .error e => .error e
            | .ok (c, st6) =>
              match list f 1 (handler f) st6 with
              | .error e => .error e
              | .ok (h, st7) => .ok (⟨n, ps, r, s, l, c, h⟩, st7)

def cls (f : ByteArray) (st : St) : R Cl :=
  match name f st with
  | .error e => .error e
  | .ok (n, st1) =>
    match name f st1 with
    | .error e => .error e
    | .ok (s, st2) =>
      match list f 1 (field f) st2 with
      | .error e => .error e
      | .ok (fs, st3) =>
        match list f 1 (meth f) st3 with
        | .error e => .error e
        | .ok (ms, st4) => .ok (⟨n, s, fs, ms⟩, st4)

def nameByte (c : UInt8) : Bool := (97 ≤ c && c ≤ 122) || (65 ≤ c && c ≤ 90) || (48 ≤ c && c ≤ 57)
def isName (s : ByteArray) : Bool := decide (1 ≤ s.size) && decide (s.size ≤ 12) && s.data.toList.all nameByte

def newName (f : ByteArray) (st : St) : R ByteArray :=
  match num f 1 st with
  | .error e => .error e
  | .ok (k, st1) =>
    if st1.at_ + k ≤ f.size then
      let s := f.extract st1.at_ (st1.at_ + k)
      if isName s && !st.pool.contains s then .ok (s, { st1 with at_ := st1.at_ + k }) else .error (4, st.at_)
    else .error (2, f.size)

def pushName (f : ByteArray) (st : St) : R Unit :=
  match newName f st with
  | .error e => .error e
  | .ok (s, st1) => .ok ((), { st1 with pool := st1.pool ++ [s] })

def magic (f : ByteArray) (c : Nat) (i : Nat) (st : St) : R Unit :=
  match num f 1 st with
  | .error e => .error e
  | .ok (n, st1) => if n = c then .ok ((), st1) else .error (3, i)

def dec (f : ByteArray) : Except Er Cl :=
  if 2048 < f.size then .error (1, 0) else
  match magic f 87 0 ⟨0, 0, []⟩ with
  | .error e => .error e
  | .ok (_, st1) =>
    match magic f 49 1 st1 with
    | .error e => .error e
    | .ok (_, st2) =>
      match list f 1 (pushName f) st2 with
      | .error e => .error e
      | .ok (_, st3) =>
        match cls f st3 with
        | .error e => .error e
        | .ok (c, st4) =>
          if st4.used < st4.pool.length then .error (5, f.size) else
          if st4.at_ < f.size then .error (6, st4.at_) else .ok c

/-- what stays so while a file is read -/
structure Inv (f : ByteArray) (st : St) : Prop where
  fits : f.size ≤ 2048
  at_ : st.at_ ≤ f.size
  used : st.used ≤ st.pool.length
  pool : st.pool.length ≤ 255

end Cf
end Go.Proofs.YtdhophglnhcjbaaDoor

namespace Go.Proofs.YtdhophglnhcjbaaDoor
open Go.RowKit Cf

/-- one frame behind another: what is written lies in the one block, or is new -/
theorem gb_trans {w w1 w2 : World} {row r1 : Option Nat} (h : w.grownBy w1 row) (h1 : w1.grownBy w2 r1) (hr : ∀ k, r1 = some k → w.heap.size ≤ k ∨ some k = row) : w.grownBy w2 row :=
  ⟨h1.os.trans h.os, h1.tape.trans h.tape, h1.output.trans h.output, Nat.le_trans h.size h1.size, fun k hk hne =>
    (h1.block k (Nat.lt_of_lt_of_le hk h.size) (fun e => by rcases hr k e.symm with h2 | h2; omega; exact hne h2)).trans (h.block k hk hne)⟩
theorem gb_tr {w w1 w2 : World} {row : Option Nat} (h : w.grownBy w1 row) (h1 : w1.grownBy w2 row) : w.grownBy w2 row :=
  gb_trans h h1 (fun _ e => .inr e.symm)
theorem gb_tn {w w1 w2 : World} {row : Option Nat} (h : w.grownBy w1 row) (h1 : w1.grownBy w2 none) : w.grownBy w2 row :=
  gb_trans h h1 (fun _ e => by cases e)
theorem gb_none {w w1 : World} {row : Option Nat} (h : w.grownBy w1 none) : w.grownBy w1 row :=
  ⟨h.os, h.tape, h.output, h.size, fun k hk _ => h.block k hk (by simp)⟩
theorem gb_refl (w : World) (row : Option Nat) : w.grownBy w row := ⟨rfl, rfl, rfl, Nat.le_refl _, fun _ _ _ => rfl⟩
theorem gb_drewN (w : World) (n : Nat) (row : Option Nat) : w.grownBy (w.drewN n) row := ⟨rfl, rfl, rfl, Nat.le_refl _, fun _ _ _ => rfl⟩
theorem gb_drew (w : World) (row : Option Nat) : w.grownBy w.drew row := ⟨rfl, rfl, rfl, Nat.le_refl _, fun _ _ _ => rfl⟩
theorem gb_set (w : World) (a : Addr) (v : Value) : w.grownBy (w.setCell a v) (some a.block) :=
  ⟨rfl, rfl, rfl, by simp [World.setCell], fun k _ hk => heap_setCell_other w a k v (fun e => hk (by simp [e]))⟩
theorem gb_alloc (w : World) (o : Obj) (row : Option Nat) : w.grownBy (w.alloc o) row := World.grownBy_alloc w o row

/-- a block is a row of such cells, none of them frozen -/
def Blk (w : World) (g : Nat) (cs : Array Value) (t : TypeId) : Prop := w.heap[g]? = some (.cells cs t (0, 0))
theorem Blk.lt {w : World} {g : Nat} {cs : Array Value} {t : TypeId} (h : Blk w g cs t) : g < w.heap.size := (Array.getElem?_eq_some_iff.1 h).1
theorem Blk.keep {w w1 : World} {g : Nat} {cs : Array Value} {t : TypeId} {row : Option Nat} (h : Blk w g cs t) (hg : w.grownBy w1 row) (hr : some g ≠ row) : Blk w1 g cs t :=
  (hg.block g h.lt hr).trans h
theorem Blk.new (w : World) (cs : Array Value) (t : TypeId) : Blk (w.alloc (.cells cs t)) w.heap.size cs t := heap_alloc_new w _
theorem Blk.cell {w : World} {g : Nat} {cs : Array Value} {t : TypeId} (h : Blk w g cs t) (j : Nat) (v : Value) (hv : cs[j]? = some v) : w.cell? ⟨g, j, none⟩ = some v := by
  rw [cell_of_row w g j _ _ _ h]; exact hv
theorem Blk.frozen {w : World} {g : Nat} {cs : Array Value} {t : TypeId} (h : Blk w g cs t) (j : Nat) : w.frozen? ⟨g, j, none⟩ = false := frozen_of_row w g j _ _ h
theorem Blk.set {w : World} {g : Nat} {cs : Array Value} {t : TypeId} (h : Blk w g cs t) (j : Nat) (v : Value) : Blk (w.setCell ⟨g, j, none⟩ v) g (cs.setIfInBounds j v) t :=
  heap_setCell_same w g j _ _ _ h

/-- the reader's struct and its pool -/
structure Rd (w : World) (b : Nat) (f : ByteArray) (pv : Value) (st : St) : Prop where
  inv : Inv f st
  blk : Blk w b #[.string f, .int .i64 st.at_, pv, .int .i64 st.used] 83
  own : w.ownsRow (b + 1) 9 1 pv st.pool.length (st.pool.map Value.string)

section
variable {w w' : World} {b k : Nat} {f : ByteArray} {pv : Value} {st : St}
theorem Rd.poolNe (h : Rd w b f pv st) : pv.ownBlock ≠ some b := by
  cases hv : pv.ownBlock with
  | none => simp
  | some g => have := (h.own.lt g hv).1; simp; omega
theorem Rd.poolLt (h : Rd w b f pv st) (hk : w.heap.size ≤ k) : pv.ownBlock ≠ some k := by
  cases hv : pv.ownBlock with
  | none => simp
  | some g => have := (h.own.lt g hv).2; simp; omega
theorem Rd.lt (h : Rd w b f pv st) : b < w.heap.size := h.blk.lt
theorem Rd.keep (h : Rd w b f pv st) (hg : w.grownBy w' none) : Rd w' b f pv st :=
  ⟨h.inv, h.blk.keep hg (by simp), h.own.kept hg (by cases hv : pv.ownBlock <;> simp)⟩
theorem Rd.keepAt (h : Rd w b f pv st) (hg : w.grownBy w' (some k)) (hk : b ≠ k) (hp : pv.ownBlock ≠ some k) : Rd w' b f pv st :=
  ⟨h.inv, h.blk.keep hg (by simpa using hk), h.own.kept hg (.inr hp)⟩
/-- an append onto a row of the caller's own -/
theorem Rd.grow {w w1 w2 : World} {row : Option Nat} (h : Rd w b f pv st) (h1 : w.grownBy w1 none) (h2 : w1.grownBy w2 row) (hb : row ≠ some b) (hp : ∀ g, row = some g → pv.ownBlock ≠ some g) : Rd w2 b f pv st := by
  cases row with
  | none => exact (h.keep h1).keep h2
  | some g => exact (h.keep h1).keepAt h2 (fun e => hb (by rw [e])) (hp g rfl)
theorem Rd.setAt (h : Rd w b f pv st) (n : Nat) (hn : n ≤ f.size) : Rd (w.setCell ⟨b, 1, none⟩ (.int .i64 n)) b f pv { st with at_ := n } :=
  ⟨⟨h.inv.fits, hn, h.inv.used, h.inv.pool⟩, h.blk.set 1 _, h.own.kept (gb_set w ⟨b, 1, none⟩ _) (.inr h.poolNe)⟩
theorem Rd.setUsed (h : Rd w b f pv st) (n : Nat) (hn : n ≤ st.pool.length) : Rd (w.setCell ⟨b, 3, none⟩ (.int .i64 n)) b f pv { st with used := n } :=
  ⟨⟨h.inv.fits, h.inv.at_, hn, h.inv.pool⟩, h.blk.set 3 _, h.own.kept (gb_set w ⟨b, 3, none⟩ _) (.inr h.poolNe)⟩
end

theorem gb_newSet {w w1 : World} {row : Option Nat} (h : w.grownBy w1 row) {g : Nat} (hg : w.heap.size ≤ g) (j : Nat) (x : Value) : w.grownBy (w1.setCell ⟨g, j, none⟩ x) row :=
  gb_trans h (gb_set w1 ⟨g, j, none⟩ x) (fun k e => .inl (by cases e; exact hg))
theorem gb_new2 {w w1 : World} {row : Option Nat} (h : w.grownBy w1 row) {g : Nat} (hg : w.heap.size ≤ g) {i j : Nat} {x y : Value} :
    w.grownBy ((w1.setCell ⟨g, i, none⟩ x).setCell ⟨g, j, none⟩ y) row := gb_newSet (gb_newSet h hg i x) hg j y
theorem gb_new3 {w w1 : World} {row : Option Nat} (h : w.grownBy w1 row) {g : Nat} (hg : w.heap.size ≤ g) {i j k : Nat} {x y z : Value} :
    w.grownBy (((w1.setCell ⟨g, i, none⟩ x).setCell ⟨g, j, none⟩ y).setCell ⟨g, k, none⟩ z) row := gb_newSet (gb_new2 h hg) hg k z
theorem gb_new4 {w w1 : World} {row : Option Nat} (h : w.grownBy w1 row) {g : Nat} (hg : w.heap.size ≤ g) {i j k l : Nat} {x y z u : Value} :
    w.grownBy ((((w1.setCell ⟨g, i, none⟩ x).setCell ⟨g, j, none⟩ y).setCell ⟨g, k, none⟩ z).setCell ⟨g, l, none⟩ u) row := gb_newSet (gb_new3 h hg) hg l u
section
variable {w : World} {b g : Nat} {f : ByteArray} {pv : Value} {st : St}
theorem Rd.newSet (h : Rd w b f pv st) (hk : b ≠ g) (hp : pv.ownBlock ≠ some g) (j : Nat) (x : Value) : Rd (w.setCell ⟨g, j, none⟩ x) b f pv st :=
  h.keepAt (gb_set w ⟨g, j, none⟩ x) hk hp
theorem Rd.new2 (h : Rd w b f pv st) (hk : b ≠ g) (hp : pv.ownBlock ≠ some g) {i j : Nat} {x y : Value} : Rd ((w.setCell ⟨g, i, none⟩ x).setCell ⟨g, j, none⟩ y) b f pv st :=
  (h.newSet hk hp i x).newSet hk hp j y
theorem Rd.new3 (h : Rd w b f pv st) (hk : b ≠ g) (hp : pv.ownBlock ≠ some g) {i j k : Nat} {x y z : Value} : Rd (((w.setCell ⟨g, i, none⟩ x).setCell ⟨g, j, none⟩ y).setCell ⟨g, k, none⟩ z) b f pv st :=
  (h.new2 hk hp).newSet hk hp k z
theorem Rd.new4 (h : Rd w b f pv st) (hk : b ≠ g) (hp : pv.ownBlock ≠ some g) {i j k l : Nat} {x y z u : Value} : Rd ((((w.setCell ⟨g, i, none⟩ x).setCell ⟨g, j, none⟩ y).setCell ⟨g, k, none⟩ z).setCell ⟨g, l, none⟩ u) b f pv st :=
  (h.new3 hk hp).newSet hk hp l u
end

/-- a fault, as the reader throws it -/
def thrown (e : Er) : Ending := .panicked [{ v := .iface 63 (.agg #[.int .i64 e.1, .int .i64 e.2]), recovered := false }]

/-- how a reader's call ends: with what the plain function tells, the reader's block alone written -/
def Ends {α : Type} (w : World) (b : Nat) (f : ByteArray) (pv : Value) (r : R α) (val : World → Value → α → Prop) (e : Ending) (w' : World) : Prop :=
  w.grownBy w' (some b) ∧ match r with
    | .ok (a, st) => ∃ v, e = .returned v ∧ val w' v a ∧ Rd w' b f pv st
    | .error er => e = thrown er

theorem Ends.cases {α : Type} {w : World} {b : Nat} {f : ByteArray} {pv : Value} {r : R α} {val : World → Value → α → Prop} {e : Ending} {w' : World} (h : Ends w b f pv r val e w') :
    (∃ a st v, r = .ok (a, st) ∧ e = .returned v ∧ val w' v a ∧ Hid (Rd w' b f pv st) ∧ w.grownBy w' (some b)) ∨
    (∃ er, r = .error er ∧ e = .panicked [{ v := .iface 63 (.agg #[.int .i64 er.1, .int .i64 er.2]), recovered := false }] ∧ w.grownBy w' (some b)) := by
  obtain ⟨hg, h⟩ := h
  cases r with
  | ok p => obtain ⟨v, h1, h2, h3⟩ := h; exact .inl ⟨p.1, p.2, v, rfl, h1, h2, h3, hg⟩
  | error er => exact .inr ⟨er, rfl, h, hg⟩
/-- a call of the reader's, met by its contract: what goes on behind a fault, and behind an answer -/
theorem Ends.bind {P : Program} {fn : FuncId} {args : Array Value} {α : Type} {w : World} {b : Nat} {f : ByteArray} {pv : Value} {r : R α} {val : World → Value → α → Prop} {K : Ending → World → Prop}
    (hc : Calls P fn args w (Ends w b f pv r val))
    (herr : ∀ er w', r = .error er → w.grownBy w' (some b) → K (.panicked [{ v := .iface 63 (.agg #[.int .i64 er.1, .int .i64 er.2]), recovered := false }]) w')
    (hok : ∀ a st v w', Hid (r = .ok (a, st)) → val w' v a → Hid (Rd w' b f pv st) → w.grownBy w' (some b) → K (.returned v) w') : Calls P fn args w K :=
  hc.mono fun e w' he => by
    rcases he.cases with ⟨a, st, v, hr, rfl, hv, hR, hg⟩ | ⟨er, hr, rfl, hg⟩
    · exact hok a st v w' hr hv hR hg
    · exact herr er w' hr hg
theorem Ends.ok {α : Type} {w : World} {b : Nat} {f : ByteArray} {pv : Value} {r : R α} {val : World → Value → α → Prop} {v : Value} {w' : World} {a : α} {st : St}
    (hr : r = .ok (a, st)) (hg : w.grownBy w' (some b)) (hv : val w' v a) (h : Rd w' b f pv st) : Ends w b f pv r val (.returned v) w' := by
  subst hr; exact ⟨hg, v, rfl, hv, h⟩
theorem Ends.err {α : Type} {w : World} {b : Nat} {f : ByteArray} {pv : Value} {r : R α} {val : World → Value → α → Prop} {w' : World} {x y : Int} {er : Er}
    (hr : r = .error er) (hx : x = er.1) (hy : y = er.2) (hg : w.grownBy w' (some b)) : Ends w b f pv r val (.panicked [{ v := .iface 63 (.agg #[.int .i64 x, .int .i64 y]), recovered := false }]) w' := by
  subst hr hx hy; exact ⟨hg, rfl⟩

def isInt (_ : World) (v : Value) (n : Nat) : Prop := v = .int .i64 n
def isStr (_ : World) (v : Value) (s : ByteArray) : Prop := v = .string s
end Go.Proofs.YtdhophglnhcjbaaDoor

namespace Go.Proofs.YtdhophglnhcjbaaDoor
open Go.RowKit Cf

def takeM (f : ByteArray) (k : Nat) (st : St) : R ByteArray :=
  if st.at_ + k ≤ f.size then .ok (f.extract st.at_ (st.at_ + k), { st with at_ := st.at_ + k }) else .error (2, f.size)

set_option maxHeartbeats 400000 in
theorem take_any (w : World) (b : Nat) (f : ByteArray) (pv : Value) (st : St) (n : Nat) (h : Rd w b f pv st) (hn : n ≤ 255) :
    Calls Tryd.prog 58 #[.pointer (some ⟨b, 0, none⟩), .int .i64 n] w (Ends w b f pv (takeM f n st) isStr) := by
  have HR : Hid (Rd w b f pv st) := h
  have c0 : w.cell? ⟨b, 0, none⟩ = some (.string f) := h.blk.cell 0 _ rfl
  have c1 : w.cell? ⟨b, 1, none⟩ = some (.int .i64 st.at_) := h.blk.cell 1 _ rfl
  have f1 : w.frozen? ⟨b, 1, none⟩ = false := h.blk.frozen 1
  obtain ⟨hfits, hat, hused, hpool⟩ := h.inv
  clear h
  by_cases hc : st.at_ + n ≤ f.size
  · go_enter Tryd.func58, Tryd.ntmps58
    go_wp2
    go_quiet (fail)
    go_wp2
    go_quiet (fail)
    go_wp2
    go_ret
    refine ⟨gb_tr (gb_drewN _ _ _) (gb_set _ ⟨b, 1, none⟩ _), ?_⟩
    rw [takeM, if_pos hc]
    exact ⟨_, rfl, rfl, (HR.out.keep (gb_drewN _ _ _)).setAt (st.at_ + n) hc⟩
  · go_enter Tryd.func58, Tryd.ntmps58
    go_wp2
    go_quiet (fail)
    go_wp2
    refine ⟨rfl, gb_drewN _ _ _, ?_⟩
    rw [takeM, if_neg hc]; rfl
end Go.Proofs.YtdhophglnhcjbaaDoor

namespace Go.Proofs.YtdhophglnhcjbaaDoor
open Go.RowKit Cf

theorem beL_snoc (l : List UInt8) (c : UInt8) : beL (l ++ [c]) = beL l * 256 + c.toNat := by
  simp [beL, List.foldl_append]
theorem beL_lt_acc (l : List UInt8) : ∀ a : Nat, l.foldl (fun n c => n * 256 + c.toNat) a < (a + 1) * 256 ^ l.length := by
  induction l with
  | nil => intro a; simp
  | cons c l ih =>
    intro a
    have h := ih (a * 256 + c.toNat)
    have hc := c.toNat_lt
    simp only [List.foldl_cons, List.length_cons]
    refine Nat.lt_of_lt_of_le h ?_
    rw [Nat.pow_succ, Nat.mul_comm (256 ^ l.length) 256, ← Nat.mul_assoc]
    exact Nat.mul_le_mul_right _ (by omega)
theorem beL_lt (l : List UInt8) : beL l < 256 ^ l.length := by
  have := beL_lt_acc l 0
  simpa [beL] using this
theorem take_succ_at (s : ByteArray) (k : Nat) (h : k < s.size) : s.data.toList.take (k + 1) = s.data.toList.take k ++ [s.data[k]] := by
  rw [List.take_succ_eq_append_getElem (by simpa using h)]; rfl
theorem ext_list (s : ByteArray) (a b : Nat) : (s.extract a b).data.toList = (s.data.toList.drop a).take (b - a) := by
  rw [ByteArray.data_extract, Array.toList_extract]
theorem or_bytes (x c : Nat) (hx : x < 2 ^ 40) (hc : c < 256) : bits BinOp.or IntKind.i64 (wrap64 ((x : Int) * 256)) (wrap64 (c : Int)) = ((x * 256 + c : Nat) : Int) := by
  have h1 : wrap64 ((x : Int) * 256) = ((x * 256 : Nat) : Int) := by unfold wrap64; omega
  have h2 : wrap64 (c : Int) = (c : Int) := by unfold wrap64; omega
  rw [h1, h2, (bits_nat .i64 62 (by decide) (fun n h0 h1 => by rw [IntKind.wrap_i64]; omega) (x * 256) c (by omega) (by omega)).2]
  have := Nat.two_pow_add_eq_or_of_lt (i := 8) (b := c) (by omega) x
  rw [Nat.mul_comm (2 ^ 8) x] at this
  exact congrArg _ this.symm
end Go.Proofs.YtdhophglnhcjbaaDoor

namespace Go.Proofs.YtdhophglnhcjbaaDoor
open Go.RowKit Cf

set_option maxHeartbeats 400000 in
theorem number_any (w : World) (b : Nat) (f : ByteArray) (pv : Value) (st : St) (n : Nat) (h : Hid (Rd w b f pv st)) (hn : n ≤ 4) :
    Calls Tryd.prog 42 #[.pointer (some ⟨b, 0, none⟩), .int .i64 n] w (Ends w b f pv (num f n st) isInt) := by
  go_enter Tryd.func42, Tryd.ntmps42
  go_wp2_with (go_at_call 58; refine (take_any w b f pv st n h (by omega)).mono ?_)
  intro e w1 he
  rcases he.cases with ⟨s, st1, v, hr, rfl, rfl, hR, hg⟩ | ⟨er, hr, rfl, hg⟩
  · clear he
    have HH : Hid (takeM f n st = .ok (s, st1)) := hr
    clear hr
    have hss : s.size ≤ 4 := by
      have hr := HH.out
      rw [takeM] at hr
      split at hr
      · cases hr
        simp; omega
      · cases hr
    have hcv := fun wx => run_bytes_of_string (P := Tryd.prog) wx 9 61 5 s Tryd.underlying9 Tryd.underlying61 Tryd.underlying5
    go_wp2
    obtain ⟨W, hW⟩ : ∃ W, W = (w1.alloc (Obj.cells (bytesRow s (grownCap w1 s.size 0 5)) 5 ((bytesRow s (grownCap w1 s.size 0 5)).size, (bytesRow s (grownCap w1 s.size 0 5)).size + 1))).drew := ⟨_, rfl⟩
    rw [← hW]
    have hcell : ∀ j (hj : j < s.size), W.cell? ⟨w1.heap.size, j, none⟩ = some (.int .u8 (s.data[j].toNat : Int)) := by
      intro j hj; rw [hW, World.cell?_drew, World.cell?_alloc_mark, bytesRow_at s _ j hj]
    have hgW : w1.grownBy W none := by rw [hW]; exact gb_trans (gb_alloc _ _ _) (gb_drew _ none) (by simp)
    clear hW hcv
    go_loop [5, 13] (fun a i => ∃ k : Nat, k ≤ s.size ∧ i = .int .i64 k ∧ a = .int .i64 (beL (s.data.toList.take k))) (fun _ i => s.size - (intOf i).toNat)
    case atStart => exact ⟨0, Nat.zero_le _, rfl, rfl⟩
    case round =>
      obtain ⟨k, hk, rfl, rfl⟩ := hrel
      by_cases hlt : k < s.size
      · have hck := hcell k hlt
        clear hcell
        go_wp2
        have hb := beL_lt (s.data.toList.take k)
        have hl : (s.data.toList.take k).length = k := by simp; omega
        have hcc := s.data[k].toNat_lt
        rw [hl] at hb
        have hp : 256 ^ k ≤ 256 ^ 4 := Nat.pow_le_pow_right (by omega) (by omega)
        refine ⟨⟨k + 1, hlt, by go_num, ?_⟩, by simp [intOf]; omega⟩
        rw [take_succ_at s k hlt, beL_snoc, or_bytes _ _ (by omega) hcc]
      · go_wp2
        go_ret
        have hk' : k = s.size := by omega
        subst hk'
        have hr := HH.out
        rw [takeM] at hr
        split at hr
        · rename_i hc
          cases hr
          refine .ok (a := beL (f.data.toList.drop st.at_ |>.take n)) ?_ (gb_tn hg hgW) ?_ (hR.out.keep hgW)
          · rw [num, if_pos hc]
          · show Value.int .i64 (beL (List.take _ (f.extract st.at_ (st.at_ + n)).data.toList) : Nat) = Value.int .i64 _
            rw [ext_list, Nat.add_sub_cancel_left, List.take_take]
            have : (f.extract st.at_ (st.at_ + n)).size = n := by simp; omega
            rw [this, Nat.min_self]
        · cases hr
  · go_wp2
    refine ⟨rfl, .err (er := er) ?_ rfl rfl hg⟩
    rw [takeM] at hr
    split at hr <;> rename_i hc
    · cases hr
    · rw [num, if_neg hc]; cases hr; rfl
end Go.Proofs.YtdhophglnhcjbaaDoor

namespace Go.Proofs.YtdhophglnhcjbaaDoor
open Go.RowKit Cf

theorem Rd.cells {w : World} {b : Nat} {f : ByteArray} {pv : Value} {st : St} (h : Rd w b f pv st) : Inv f st ∧ w.ownsRow (b + 1) 9 1 pv st.pool.length (st.pool.map Value.string) ∧
    w.cell? ⟨b, 0, none⟩ = some (.string f) ∧ w.cell? ⟨b, 1, none⟩ = some (.int .i64 st.at_) ∧ w.cell? ⟨b, 2, none⟩ = some pv ∧ w.cell? ⟨b, 3, none⟩ = some (.int .i64 st.used) ∧
    w.frozen? ⟨b, 1, none⟩ = false ∧ w.frozen? ⟨b, 2, none⟩ = false ∧ w.frozen? ⟨b, 3, none⟩ = false :=
  ⟨h.inv, h.own, h.blk.cell 0 _ rfl, h.blk.cell 1 _ rfl, h.blk.cell 2 _ rfl, h.blk.cell 3 _ rfl, h.blk.frozen 1, h.blk.frozen 2, h.blk.frozen 3⟩

/-- a slice of strings of one's own: nothing, or a row -/
theorem own_strs {w : World} {base : Nat} {v : Value} {l : List ByteArray} (h : w.ownsRow base 9 1 v l.length (l.map Value.string)) :
    (v = .slice none 0 0 ∧ l = []) ∨ ∃ g cap, v = .slice (some ⟨g, 0, none⟩) l.length cap ∧ base ≤ g ∧ ∀ j, j < l.length → w.cell? ⟨g, j, none⟩ = some (.string (l.getD j ByteArray.empty)) := by
  rcases h.2 with ⟨rfl, hn⟩ | ⟨g, cap, cur, rfl, hg, hh, _, _, _, ht⟩
  · exact .inl ⟨rfl, List.eq_nil_of_length_eq_zero hn⟩
  · refine .inr ⟨g, cap, rfl, hg, fun j hj => ?_⟩
    have := h.cells (g := g) rfl j (.string (l.getD j ByteArray.empty)) (by simp [List.getD, hj])
    unfold Addr.add at this
    split at this
    · rename_i h0; subst h0; exact this
    · simpa using this

theorem name_end {w w1 : World} {b : Nat} {f : ByteArray} {pv : Value} {st : St} {n : Nat} (hg : w.grownBy w1 (some b)) (hR : Rd w1 b f pv { st with at_ := st.at_ + 1 })
    (hn : num f 1 st = .ok (n, { st with at_ := st.at_ + 1 })) (hu : n ≤ st.used) (hp : n < st.pool.length) {m : Int} (hm : m = (max st.used (n + 1) : Nat)) {v : Value} (hv : v = .string (st.pool[n])) :
    Ends w b f pv (name f st) isStr (.returned v) (w1.setCell ⟨b, 3, none⟩ (.int .i64 m)) := by
  subst hm
  have := hR.cells.1.used
  refine .ok (a := st.pool[n]) (st := { st with at_ := st.at_ + 1, used := max st.used (n + 1) }) ?_ (gb_tr hg (gb_set _ ⟨b, 3, none⟩ _)) hv (hR.setUsed _ ?_)
  · rw [name, hn]; simp [hu, hp]
  · simp at this ⊢; omega

set_option maxHeartbeats 400000 in
theorem name_any (w : World) (b : Nat) (f : ByteArray) (pv : Value) (st : St) (h : Hid (Rd w b f pv st)) :
    Calls Tryd.prog 44 #[.pointer (some ⟨b, 0, none⟩)] w (Ends w b f pv (name f st) isStr) := by
  obtain ⟨-, -, -, c1, -, -, -, -, -⟩ := h.out.cells
  go_enter Tryd.func44, Tryd.ntmps44
  go_wp2_with (go_at_call 42; refine (number_any w b f pv st 1 h (by omega)).mono ?_)
  intro e w1 he
  rcases he.cases with ⟨n, st1, v, hr, rfl, rfl, hR, hg⟩ | ⟨er, hr, rfl, hg⟩
  · clear he c1
    have HH : Hid (num f 1 st = .ok (n, st1)) := hr
    have hst : st1 = { st with at_ := st.at_ + 1 } ∧ n < 256 := by
      rw [num] at hr
      split at hr
      · cases hr
        refine ⟨rfl, ?_⟩
        have := beL_lt ((f.data.toList.drop st.at_).take 1)
        have h2 : ((f.data.toList.drop st.at_).take 1).length ≤ 1 := by simp; omega
        have : 256 ^ ((f.data.toList.drop st.at_).take 1).length ≤ 256 ^ 1 := Nat.pow_le_pow_right (by omega) h2
        omega
      · cases hr
    clear hr
    obtain ⟨rfl, hn⟩ := hst
    obtain ⟨⟨h1, h2, h3, h4⟩, ho, c0, c1, c2, c3, f1, f2, f3⟩ := hR.out.cells
    simp only at c1 c2 c3 h2 h3 h4 ho
    have hRp := hR
    rcases own_strs ho with ⟨rfl, hnil⟩ | ⟨g, cap, rfl, hbg, hcell⟩
    · clear ho
      have HN : Hid (st.pool = []) := hnil
      clear hnil
      by_cases hu : n ≤ st.used
      all_goals
        go_wp2
        refine ⟨rfl, .err (er := (5, st.at_)) ?_ rfl rfl hg⟩
        rw [name, HH.out]
        simp [HN.out]
    · clear ho
      by_cases hu : n ≤ st.used
      · by_cases hp : n < st.pool.length
        · have hc := hcell n hp
          clear hcell
          go_wp2
          all_goals
            go_ret
            exact name_end hg hR.out HH.out hu hp (by omega) rfl
        · go_wp2
          refine ⟨rfl, .err (er := (5, st.at_)) ?_ rfl rfl hg⟩
          rw [name, HH.out]
          simp [hp]
      · go_wp2
        refine ⟨rfl, .err (er := (5, st.at_)) ?_ rfl rfl hg⟩
        rw [name, HH.out]
        simp [hu]
  · go_wp2
    refine ⟨rfl, .err (er := er) ?_ rfl rfl hg⟩
    rw [name, hr]
end Go.Proofs.YtdhophglnhcjbaaDoor

namespace Go.Proofs.YtdhophglnhcjbaaDoor
open Go.RowKit Cf

def isTy (_ : World) (v : Value) (t : Ty) : Prop := v = .agg #[.int .i64 t.kind, .string t.name]
def isFld (_ : World) (v : Value) (t : Fld) : Prop := v = .agg #[.string t.name, .int .i64 t.ty.kind, .string t.ty.name]
def isIn (_ : World) (v : Value) (t : In) : Prop := v = .agg #[.int .i64 t.op, .int .i64 t.a, .string t.cls, .string t.mem]
def isHd (_ : World) (v : Value) (t : Hd) : Prop := v = .agg #[.int .i64 t.from_, .int .i64 t.to, .int .i64 t.at_, .string t.cls]

set_option maxHeartbeats 400000 in
theorem hasName_any (k : Nat) (w : World) :
    Calls Tryd.prog 70 #[.int .i64 k] w fun e w' => e = .returned (.bool (hasName k)) ∧ w' = w := by
  go_enter Tryd.func70, Tryd.ntmps70
  go_wp2
  all_goals
    go_ret
    refine ⟨?_, rfl⟩
    refine congrArg (fun x => Ending.returned (.bool x)) ?_
    simp only [hasName]
    rw [Bool.eq_iff_iff]
    simp
    omega

set_option maxHeartbeats 400000 in
theorem nameIf_any (w : World) (b : Nat) (f : ByteArray) (pv : Value) (st : St) (c : Bool) (h : Hid (Rd w b f pv st)) :
    Calls Tryd.prog 73 #[.pointer (some ⟨b, 0, none⟩), .bool c] w (Ends w b f pv (nameIf f c st) isStr) := by
  cases c
  · go_enter Tryd.func73, Tryd.ntmps73
    go_wp2
    go_ret
    exact .ok (a := ByteArray.empty) (by rw [nameIf]; rfl) (gb_refl _ _) rfl h.out
  · go_enter Tryd.func73, Tryd.ntmps73
    go_wp2_with (go_at_call 44; refine (name_any w b f pv st h).mono ?_)
    intro e w1 he
    rcases he.cases with ⟨n, st1, v, hr, rfl, rfl, hR, hg⟩ | ⟨er, hr, rfl, hg⟩
    · go_wp2
      go_ret
      exact .ok (by rw [nameIf]; exact hr) hg rfl hR.out
    · go_wp2
      exact ⟨rfl, .err (er := er) (by rw [nameIf]; exact hr) rfl rfl hg⟩

theorem num_lt {f : ByteArray} {k : Nat} {st st1 : St} {n : Nat} (h : num f k st = .ok (n, st1)) : st1 = { st with at_ := st.at_ + k } ∧ n < 256 ^ k := by
  rw [num] at h
  split at h
  · cases h
    refine ⟨rfl, ?_⟩
    have := beL_lt ((f.data.toList.drop st.at_).take k)
    have h2 : ((f.data.toList.drop st.at_).take k).length ≤ k := by simp; omega
    have : 256 ^ ((f.data.toList.drop st.at_).take k).length ≤ 256 ^ k := Nat.pow_le_pow_right (by omega) h2
    omega
  · cases h

set_option maxHeartbeats 400000 in
theorem kind_any (w : World) (b : Nat) (f : ByteArray) (pv : Value) (st : St) (h : Hid (Rd w b f pv st)) :
    Calls Tryd.prog 61 #[.pointer (some ⟨b, 0, none⟩)] w (Ends w b f pv (kind f st) isTy) := by
  obtain ⟨-, -, -, c1, -, -, -, -, -⟩ := h.out.cells
  have hbl : b < w.heap.size := h.out.lt
  go_enter Tryd.func61, Tryd.ntmps61
  go_wp2_with (go_at_call 42; refine (number_any _ b f pv st 1 (h.out.keep (gb_alloc _ _ _)) (by omega)).mono ?_)
  intro e w1 he
  rcases he.cases with ⟨n, st1, v, hr, rfl, rfl, hR, hg⟩ | ⟨er, hr, rfl, hg⟩
  · have hq := num_lt hr
    have HH : Hid (num f 1 st = .ok (n, st1)) := hr
    clear hr he c1
    obtain ⟨rfl, hn⟩ := hq
    by_cases h4 : 4 < n
    · go_wp2
      refine ⟨rfl, .err (er := (3, st.at_)) ?_ rfl rfl (gb_tr (gb_alloc _ _ _) hg)⟩
      rw [kind, HH.out]
      simp [h4]
    · go_wp2_with (first | (go_at_call 70; refine (hasName_any n _).mono ?_; rintro e w' ⟨rfl, rfl⟩) | (go_at_call 73; refine (nameIf_any _ b f pv _ _ hR).mono ?_))
      intro e w2 he
      rcases he.cases with ⟨s, st2, v, hr, rfl, rfl, hR2, hg2⟩ | ⟨er, hr, rfl, hg2⟩
      · have HH2 : Hid (nameIf f (hasName n) { at_ := st.at_ + 1, used := st.used, pool := st.pool } = .ok (s, st2)) := hr
        clear hr he
        have hB : Blk w2 w.heap.size _ _ := ((Blk.new w _ _).keep hg (by simp; omega)).keep hg2 (by simp; omega)
        have d0 := hB.cell 0 _ rfl
        have d1 := hB.cell 1 _ rfl
        have e0 := hB.frozen 0
        have e1 := hB.frozen 1
        clear hB
        go_wp2
        refine bodyPost_ret (v := .agg #[.int .i64 n, .string s]) (by simp [results, Tryd.results61, go_sem, d0, d1]) rfl ?_
        refine .ok (a := ⟨n, s⟩) (st := st2) ?_ ?_ rfl ?_
        · rw [kind, HH.out]
          simp only [h4, if_false, HH2.out]
        · exact gb_new2 (gb_tr (gb_tr (gb_alloc _ _ _) hg) hg2) (Nat.le_refl _)
        · exact hR2.out.new2 (by omega) (h.out.poolLt (Nat.le_refl _))
      · go_wp2
        refine ⟨rfl, .err (er := er) ?_ rfl rfl (gb_tr (gb_tr (gb_alloc _ _ _) hg) hg2)⟩
        rw [kind, HH.out]
        simp only [h4, if_false, hr]
  · go_wp2
    refine ⟨rfl, .err (er := er) ?_ rfl rfl (gb_tr (gb_alloc _ _ _) hg)⟩
    rw [kind, hr]
end Go.Proofs.YtdhophglnhcjbaaDoor

namespace Go.Proofs.YtdhophglnhcjbaaDoor
open Go.RowKit Cf

set_option maxHeartbeats 400000 in
theorem field_any (w : World) (b : Nat) (f : ByteArray) (pv : Value) (st : St) (h : Hid (Rd w b f pv st)) :
    Calls Tryd.prog 46 #[.pointer (some ⟨b, 0, none⟩)] w (Ends w b f pv (field f st) isFld) := by
  have hbl : b < w.heap.size := h.out.lt
  go_enter Tryd.func46, Tryd.ntmps46
  go_wp2_with (go_at_call 44; refine (name_any _ b f pv st (h.out.keep (gb_alloc _ _ _))).mono ?_)
  intro e w1 he
  rcases he.cases with ⟨n, st1, v, hr, rfl, rfl, hR, hg⟩ | ⟨er, hr, rfl, hg⟩
  · have HH : Hid (name f st = .ok (n, st1)) := hr
    clear hr he
    go_wp2_with (go_at_call 61; refine (kind_any _ b f pv st1 hR).mono ?_)
    intro e w2 he
    rcases he.cases with ⟨t, st2, v, hr, rfl, rfl, hR2, hg2⟩ | ⟨er, hr, rfl, hg2⟩
    · have HH2 : Hid (kind f st1 = .ok (t, st2)) := hr
      clear hr he
      have hB : Blk w2 w.heap.size _ _ := ((Blk.new w _ _).keep hg (by simp; omega)).keep hg2 (by simp; omega)
      have d0 := hB.cell 0 _ rfl
      have d1 := hB.cell 1 _ rfl
      have d2 := hB.cell 2 _ rfl
      have e0 := hB.frozen 0
      have e1 := hB.frozen 1
      have e2 := hB.frozen 2
      clear hB
      go_wp2
      refine bodyPost_ret (v := .agg #[.string n, .int .i64 t.kind, .string t.name]) (by simp [results, Tryd.results46, go_sem, d0, d1, d2]) rfl ?_
      refine .ok (a := ⟨n, t⟩) (st := st2) ?_ ?_ rfl ?_
      · rw [field, HH.out]
        simp only [HH2.out]
      · exact gb_new3 (gb_tr (gb_tr (gb_alloc _ _ _) hg) hg2) (Nat.le_refl _)
      · exact hR2.out.new3 (by omega) (h.out.poolLt (Nat.le_refl _))
    · go_wp2
      refine ⟨rfl, .err (er := er) ?_ rfl rfl (gb_tr (gb_tr (gb_alloc _ _ _) hg) hg2)⟩
      rw [field, HH.out]
      simp only [hr]
  · go_wp2
    refine ⟨rfl, .err (er := er) ?_ rfl rfl (gb_tr (gb_alloc _ _ _) hg)⟩
    rw [field, hr]

set_option maxHeartbeats 400000 in
theorem handler_any (w : World) (b : Nat) (f : ByteArray) (pv : Value) (st : St) (h : Hid (Rd w b f pv st)) :
    Calls Tryd.prog 66 #[.pointer (some ⟨b, 0, none⟩)] w (Ends w b f pv (handler f st) isHd) := by
  have hbl : b < w.heap.size := h.out.lt
  go_enter Tryd.func66, Tryd.ntmps66
  go_wp2_with (go_at_call 42; refine (number_any _ b f pv st 2 (h.out.keep (gb_alloc _ _ _)) (by omega)).mono ?_)
  intro e w1 he
  rcases he.cases with ⟨n1, st1, v, hr, rfl, rfl, hR, hg⟩ | ⟨er, hr, rfl, hg⟩
  · have HH : Hid (num f 2 st = .ok (n1, st1)) := hr
    clear hr he
    go_wp2_with (go_at_call 42; refine (number_any w1 b f pv st1 2 hR (by omega)).mono ?_)
    intro e w2 he
    rcases he.cases with ⟨n2, st2, v, hr, rfl, rfl, hR2, hg2⟩ | ⟨er, hr, rfl, hg2⟩
    · have HH2 : Hid (num f 2 st1 = .ok (n2, st2)) := hr
      clear hr he
      go_wp2_with (go_at_call 42; refine (number_any w2 b f pv st2 2 hR2 (by omega)).mono ?_)
      intro e w3 he
      rcases he.cases with ⟨n3, st3, v, hr, rfl, rfl, hR3, hg3⟩ | ⟨er, hr, rfl, hg3⟩
      · have HH3 : Hid (num f 2 st2 = .ok (n3, st3)) := hr
        clear hr he
        go_wp2_with (go_at_call 44; refine (name_any w3 b f pv st3 hR3).mono ?_)
        intro e w4 he
        rcases he.cases with ⟨n4, st4, v, hr, rfl, rfl, hR4, hg4⟩ | ⟨er, hr, rfl, hg4⟩
        · have HH4 : Hid (name f st3 = .ok (n4, st4)) := hr
          clear hr he
          have hB : Blk w4 w.heap.size _ _ := ((((Blk.new w _ _).keep hg (by simp; omega)).keep hg2 (by simp; omega)).keep hg3 (by simp; omega)).keep hg4 (by simp; omega)
          have d0 := hB.cell 0 _ rfl
          have d1 := hB.cell 1 _ rfl
          have d2 := hB.cell 2 _ rfl
          have d3 := hB.cell 3 _ rfl
          have e0 := hB.frozen 0
          have e1 := hB.frozen 1
          have e2 := hB.frozen 2
          have e3 := hB.frozen 3
          clear hB
          go_wp2
          refine bodyPost_ret (v := .agg #[.int .i64 n1, .int .i64 n2, .int .i64 n3, .string n4]) (by simp [results, Tryd.results66, go_sem, d0, d1, d2, d3]) rfl ?_
          refine .ok (a := ⟨n1, n2, n3, n4⟩) (st := st4) ?_ ?_ rfl ?_
          · rw [handler, HH.out]
            simp only [HH2.out, HH3.out, HH4.out]
          · exact gb_new4 (gb_tr (gb_tr (gb_tr (gb_tr (gb_alloc _ _ _) hg) hg2) hg3) hg4) (Nat.le_refl _)
          · exact hR4.out.new4 (by omega) (h.out.poolLt (Nat.le_refl _))
        · go_wp2
          refine ⟨rfl, .err (er := er) ?_ rfl rfl (gb_tr (gb_tr (gb_tr (gb_tr (gb_alloc _ _ _) hg) hg2) hg3) hg4)⟩
          rw [handler, HH.out]
          simp only [HH2.out, HH3.out, hr]
      · go_wp2
        refine ⟨rfl, .err (er := er) ?_ rfl rfl (gb_tr (gb_tr (gb_tr (gb_alloc _ _ _) hg) hg2) hg3)⟩
        rw [handler, HH.out]
        simp only [HH2.out, hr]
    · go_wp2
      refine ⟨rfl, .err (er := er) ?_ rfl rfl (gb_tr (gb_tr (gb_alloc _ _ _) hg) hg2)⟩
      rw [handler, HH.out]
      simp only [hr]
  · go_wp2
    refine ⟨rfl, .err (er := er) ?_ rfl rfl (gb_tr (gb_alloc _ _ _) hg)⟩
    rw [handler, hr]
end Go.Proofs.YtdhophglnhcjbaaDoor

namespace Go.Proofs.YtdhophglnhcjbaaDoor
open Go.RowKit Cf

/-- the table of the shapes, as it is laid -/
def Shp (w : World) : Prop := 0 < w.heap.size ∧ ∀ op, op < 32 → w.cell? ⟨0, op * 3, none⟩ = some (.int .i64 (width op)) ∧ w.cell? ⟨0, op * 3 + 1, none⟩ = some (.bool (wantsC op)) ∧ w.cell? ⟨0, op * 3 + 2, none⟩ = some (.bool (wantsM op))
theorem Shp.keep {w w1 : World} {row : Option Nat} (h : Shp w) (hg : w.grownBy w1 row) (hr : some 0 ≠ row) : Shp w1 := by
  have h0 : w1.heap[0]? = w.heap[0]? := hg.block 0 h.1 hr
  refine ⟨Nat.lt_of_lt_of_le h.1 hg.size, fun op ho => ?_⟩
  have := h.2 op ho
  simp only [World.cell?, h0] at this ⊢
  exact this

theorem width_le (op : Nat) : width op ≤ 4 := by unfold width; split; omega; split; omega; split <;> omega

def opnd (f : ByteArray) (k : Nat) (st : St) : R Int := match num f k st with | .ok (n, st1) => .ok (signed k n, st1) | .error er => .error er
def isInt' (_ : World) (v : Value) (a : Int) : Prop := v = .int .i64 a
theorem wrap_signed (n : Nat) (h : n < 256 ^ 4) : wrap64 (wrap32 n) = signed 4 n := by
  unfold wrap64 wrap32 signed
  split <;> omega

set_option maxHeartbeats 400000 in
theorem operand_any (w : World) (b : Nat) (f : ByteArray) (pv : Value) (st : St) (k : Nat) (h : Hid (Rd w b f pv st)) (hk : k ≤ 4) :
    Calls Tryd.prog 74 #[.pointer (some ⟨b, 0, none⟩), .int .i64 k] w
      (Ends w b f pv (opnd f k st) isInt') := by
  go_enter Tryd.func74, Tryd.ntmps74
  go_wp2_with (go_at_call 42; refine (number_any _ b f pv st k h hk).mono ?_)
  intro e w1 he
  rcases he.cases with ⟨n, st1, v, hr, rfl, rfl, hR, hg⟩ | ⟨er, hr, rfl, hg⟩
  · have hq := (num_lt hr).2
    have HH : Hid (num f k st = .ok (n, st1)) := hr
    clear hr he
    by_cases h4 : k = 4
    · subst h4
      go_wp2
      go_ret
      refine .ok (a := signed 4 n) ?_ hg (congrArg _ (wrap_signed n hq)) hR.out
      rw [opnd, HH.out]
    · go_wp2
      go_ret
      refine .ok (a := (n : Int)) ?_ hg rfl hR.out
      rw [opnd, HH.out]
      simp [signed, h4]
  · go_wp2
    refine ⟨rfl, .err (er := er) ?_ rfl rfl hg⟩
    rw [opnd, hr]

section
variable {f : ByteArray} {st st1 st2 st3 st4 : St} {op : Nat} {va : Int} {vc vm : ByteArray} {er : Er}
theorem ins_e1 (h1 : num f 1 st = .ok (op, st1)) (h4 : ¬ 32 ≤ op) (h : opnd f (width op) st1 = .error er) : ins f st = .error er := by
  rw [opnd] at h
  rw [ins, h1]
  simp only [h4, if_false]
  split at h
  · cases h
  · rename_i h5; simp only [h5]; cases h; rfl
theorem opnd_ok (h : opnd f (width op) st1 = .ok (va, st2)) : ∃ n, num f (width op) st1 = .ok (n, st2) ∧ va = signed (width op) n := by
  rw [opnd] at h
  split at h
  · rename_i n s h5; cases h; exact ⟨n, h5, rfl⟩
  · cases h
theorem ins_e2 (h1 : num f 1 st = .ok (op, st1)) (h4 : ¬ 32 ≤ op) (h2 : opnd f (width op) st1 = .ok (va, st2)) (h : nameIf f (wantsC op) st2 = .error er) : ins f st = .error er := by
  obtain ⟨n, hn, rfl⟩ := opnd_ok h2
  rw [ins, h1]
  simp only [h4, if_false, hn, h]
theorem ins_e3 (h1 : num f 1 st = .ok (op, st1)) (h4 : ¬ 32 ≤ op) (h2 : opnd f (width op) st1 = .ok (va, st2)) (h3 : nameIf f (wantsC op) st2 = .ok (vc, st3)) (h : nameIf f (wantsM op) st3 = .error er) : ins f st = .error er := by
  obtain ⟨n, hn, rfl⟩ := opnd_ok h2
  rw [ins, h1]
  simp only [h4, if_false, hn, h3, h]
theorem ins_ok (h1 : num f 1 st = .ok (op, st1)) (h4 : ¬ 32 ≤ op) (h2 : opnd f (width op) st1 = .ok (va, st2)) (h3 : nameIf f (wantsC op) st2 = .ok (vc, st3)) (h : nameIf f (wantsM op) st3 = .ok (vm, st4)) :
    ins f st = .ok (⟨op, va, vc, vm⟩, st4) := by
  obtain ⟨n, hn, rfl⟩ := opnd_ok h2
  rw [ins, h1]
  simp only [h4, if_false, hn, h3, h]
end

set_option maxHeartbeats 400000 in
theorem instruction_any (w : World) (b : Nat) (f : ByteArray) (pv : Value) (st : St) (h : Hid (Rd w b f pv st)) (hS : Hid (Shp w)) (hb0 : 0 < b) :
    Calls Tryd.prog 64 #[.pointer (some ⟨b, 0, none⟩)] w (Ends w b f pv (ins f st) isIn) := by
  obtain ⟨-, -, -, c1, -, -, -, -, -⟩ := h.out.cells
  have hbl : b < w.heap.size := h.out.lt
  go_enter Tryd.func64, Tryd.ntmps64
  go_wp2_with (go_at_call 42; refine (number_any _ b f pv st 1 (h.out.keep (gb_alloc _ _ _)) (by omega)).mono ?_)
  intro e w1 he
  rcases he.cases with ⟨op, st1, v, hr, rfl, rfl, hR, hg⟩ | ⟨er, hr, rfl, hg⟩
  · have hq := num_lt hr
    have HH : Hid (num f 1 st = .ok (op, st1)) := hr
    clear hr he c1
    obtain ⟨rfl, hn⟩ := hq
    by_cases h4 : 32 ≤ op
    · go_wp2
      refine ⟨rfl, .err (er := (3, st.at_)) ?_ rfl rfl (gb_tr (gb_alloc _ _ _) hg)⟩
      rw [ins, HH.out]
      simp [h4]
    · have hS1 : Shp w1 := (hS.out.keep (gb_alloc w _ none) (by simp)).keep hg (by simp; omega)
      obtain ⟨s0, s1, s2⟩ := hS1.2 op (by omega)
      go_wp2
      obtain ⟨wa, hwa⟩ : ∃ wa, wa = (w1.alloc (Obj.cells #[Value.int IntKind.i64 (width op), Value.bool (wantsC op), Value.bool (wantsM op)] 113)).drew := ⟨_, rfl⟩
      have hga : w1.grownBy wa none := by rw [hwa]; exact gb_tr (gb_alloc _ _ _) (gb_drew _ _)
      have hRa : Hid (Rd wa b f pv { st with at_ := st.at_ + 1 }) := hR.out.keep hga
      have hB : Blk wa w.heap.size _ _ := ((Blk.new w _ _).keep hg (by simp; omega)).keep hga (by simp)
      have hA : Blk wa w1.heap.size #[Value.int IntKind.i64 (width op), Value.bool (wantsC op), Value.bool (wantsM op)] 113 := by rw [hwa]; exact (Blk.new w1 _ _).keep (gb_drew _ none) (by simp)
      have hlt1 : w.heap.size < w1.heap.size := by have := hg.size; simp at this; omega
      have hne1 : w.heap.size ≠ w1.heap.size := by omega
      have hb1 : b < w1.heap.size := hR.out.lt
      rw [hwa] at hRa
      have hg0 : w.grownBy wa (some b) := gb_tn (gb_tr (gb_alloc _ _ _) hg) hga
      rw [hwa] at hg0 hB hA
      clear hga hwa s0 s1 s2 hS1
      go_region_held2 (fun w' => w'.cell? ⟨w1.heap.size, 0, none⟩ = some (.int .i64 (width op)) ∧ w'.cell? ⟨w1.heap.size, 1, none⟩ = some (.bool (wantsC op)) ∧ w'.cell? ⟨w1.heap.size, 2, none⟩ = some (.bool (wantsM op))) (go_keep)
        (first
          | (go_at_call 74
             refine Ends.bind (operand_any _ b f pv _ _ hRa (width_le op)) (fun er w' hr hg2 => ⟨rfl, .err (er := er) (ins_e1 HH.out h4 hr) rfl rfl (gb_tr hg0 hg2)⟩) ?_
             rintro va st2 v w2 HH2 rfl hR2 hg2
             have hB2 : Blk w2 w.heap.size _ _ := hB.keep hg2 (by simp; omega)
             have hA2 : Blk w2 w1.heap.size _ _ := hA.keep hg2 (by simp; omega)
             have d0 := hA2.cell 0 _ rfl
             have d1 := hA2.cell 1 _ rfl
             have d2 := hA2.cell 2 _ rfl
             have hg0' : w.grownBy w2 (some b) := gb_tr hg0 hg2
             clear hB hA hRa hg0 hg2)
          | (go_at_call_of 73 (wantsC op)
             refine Ends.bind (nameIf_any w2 b f pv _ _ hR2) (fun er w' hr hg2 => ⟨rfl, .err (er := er) (ins_e2 HH.out h4 HH2.out hr) rfl rfl (gb_tr hg0' hg2)⟩) ?_
             rintro vc st3 v w3 HH3 rfl hR3 hg3
             have hB3 : Blk w3 w.heap.size _ _ := hB2.keep hg3 (by simp; omega)
             have hA3 : Blk w3 w1.heap.size _ _ := hA2.keep hg3 (by simp; omega)
             clear d0 d1 d2
             have d0 := hA3.cell 0 _ rfl
             have d1 := hA3.cell 1 _ rfl
             have d2 := hA3.cell 2 _ rfl
             have hg1' : w.grownBy w3 (some b) := gb_tr hg0' hg3
             clear hB2 hA2 hR2 hg0' hg3)
          | (go_at_call_of 73 (wantsM op)
             refine Ends.bind (nameIf_any w3 b f pv _ _ hR3) (fun er w' hr hg2 => ⟨rfl, .err (er := er) (ins_e3 HH.out h4 HH2.out HH3.out hr) rfl rfl (gb_tr hg1' hg2)⟩) ?_
             rintro vm st4 v w4 HH4 rfl hR4 hg4
             have hB4 : Blk w4 w.heap.size _ _ := hB3.keep hg4 (by simp; omega)
             have hA4 : Blk w4 w1.heap.size _ _ := hA3.keep hg4 (by simp; omega)
             clear d0 d1 d2
             have d0 := hA4.cell 0 _ rfl
             have d1 := hA4.cell 1 _ rfl
             have d2 := hA4.cell 2 _ rfl
             have g0 := hB4.cell 0 _ rfl
             have g1 := hB4.cell 1 _ rfl
             have g2 := hB4.cell 2 _ rfl
             have g3 := hB4.cell 3 _ rfl
             have e0 := hB4.frozen 0
             have e1 := hB4.frozen 1
             have e2 := hB4.frozen 2
             have e3 := hB4.frozen 3
             have hg2' : w.grownBy w4 (some b) := gb_tr hg1' hg4
             clear hB3 hA3 hR3 hg1' hg4))
      go_wp2
      refine bodyPost_ret (v := .agg #[.int .i64 op, .int .i64 va, .string vc, .string vm]) (by simp [results, Tryd.results64, go_sem, g0, g1, g2, g3]) rfl ?_
      exact .ok (a := ⟨op, va, vc, vm⟩) (st := st4) (ins_ok HH.out h4 HH2.out HH3.out HH4.out) (gb_new4 hg2' (Nat.le_refl _)) rfl (hR4.out.new4 (by omega) (h.out.poolLt (Nat.le_refl _)))
  · go_wp2
    refine ⟨rfl, .err (er := er) ?_ rfl rfl (gb_tr (gb_alloc _ _ _) hg)⟩
    rw [ins, hr]
end Go.Proofs.YtdhophglnhcjbaaDoor
