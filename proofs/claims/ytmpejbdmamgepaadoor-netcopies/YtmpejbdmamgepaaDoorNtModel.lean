/-
  Processes: plain mathematics (which rule is broken, and where), and how a process lies in memory.
-/
import Derived.Test.YtmpejbdmamgepaaDoorTmModel
import Derived.Test.YtmpejbdmamgepaaDoorRkModel
namespace Go.Proofs
open Go.RowKit

structure Nd where
  kind : Int
  a : Int
  t : Tm
structure Fl where
  fr : Int
  to : Int
  els : Bool
  c : Tm

namespace Nt
/-- Is it the zero term? -/
def zeroB (T : Tm) : Bool := decide (T.op = 0) && decide (T.num = 0) && decide (T.ks.length = 0)
/-- Is it a right term of a type? -/
def ofB (T : Tm) (k : Int) : Bool := decide (T.checkR.2 = 0) && decide (T.checkR.1 = k)
def mostN (k : Int) : Int := if k = 3 ∨ k = 4 then 3 else if k = 8 then 4 else 0
/-- Rule 1 of a node. -/
def oneB (x : Nd) : Bool := decide (1 ≤ x.kind ∧ x.kind ≤ 8 ∧ 0 ≤ x.a ∧ x.a ≤ mostN x.kind) && (if x.kind = 4 then ofB x.t 1 else zeroB x.t)
def isNodeB (n : Nat) (i : Int) : Bool := decide (0 ≤ i) && decide (i < n)
def kindAt (ns : List Nd) (i : Nat) : Int := (ns[i]?.map Nd.kind).getD 0
def outsN (fs : List Fl) (i : Int) : Nat := fs.countP fun f => decide (f.fr = i)
def insN (fs : List Fl) (i : Int) : Nat := fs.countP fun f => decide (f.to = i)
def elsesN (fs : List Fl) (i : Int) : Nat := fs.countP fun f => decide (f.fr = i) && f.els
def othersN (ns : List Nd) (fs : List Fl) (i : Int) : Nat := fs.countP fun f => decide (f.fr = i) && !decide (kindAt ns f.to.toNat = 8)
def outsL (fs : List Fl) (i : Int) : List Nat := (List.range fs.length).filter fun k => decide ((fs[k]?.map Fl.fr) = some i)
def insL (fs : List Fl) (i : Int) : List Nat := (List.range fs.length).filter fun k => decide ((fs[k]?.map Fl.to) = some i)
def chosenB (ns : List Nd) (fs : List Fl) (f : Fl) : Bool := decide (kindAt ns f.fr.toNat = 5) && decide (2 ≤ outsN fs f.fr)
/-- Rule 2 of a flow's condition. -/
def condB (f : Fl) (ch : Bool) : Bool := if ch = true ∧ f.els = false then ofB f.c 2 else (ch == f.els) && zeroB f.c
/-- Rule 2 of a flow. -/
def twoB (ns : List Nd) (fs : List Fl) (f : Fl) : Bool := isNodeB ns.length f.fr && isNodeB ns.length f.to && !decide (f.fr = f.to) && condB f (chosenB ns fs f)
/-- Rule 3 of a node, as far as its flows go. -/
def joinB (k : Int) (a b el ot : Nat) : Bool :=
  if k = 1 then decide (a = 0 ∧ b = 1) else if k = 2 then decide (a = 1 ∧ b = 0) else if k = 5 then decide ((a = 1 ∧ 2 ≤ b ∧ el = 1) ∨ (2 ≤ a ∧ b = 1))
  else if k = 6 then decide ((a = 1 ∧ 2 ≤ b) ∨ (2 ≤ a ∧ b = 1)) else if k = 7 then decide (a = 1 ∧ 2 ≤ b ∧ ot = 0) else decide (a = 1 ∧ b = 1)
def threeB (ns : List Nd) (fs : List Fl) (i : Nat) : Bool := joinB (kindAt ns i) (insN fs i) (outsN fs i) (elsesN fs i) (othersN ns fs i)
/-- The first node of a kind. -/
def firstI (ns : List Nd) (k : Int) : Int := match ns.findIdx? (fun x => decide (x.kind = k)) with
  | some i => (i : Int)
  | none => -1
def jointB (ns : List Nd) (fs : List Fl) (i : Nat) : Bool := threeB ns fs i && !(decide (kindAt ns i = 1) && !decide ((i : Int) = firstI ns 1)) && !(decide (kindAt ns i = 2) && !decide ((i : Int) = firstI ns 2))
def edges (fs : List Fl) : List (Nat × Nat) := fs.map fun f => (f.fr.toNat, f.to.toNat)
noncomputable def roadB (ns : List Nd) (fs : List Fl) (i : Nat) : Bool := Rk.met (edges fs) (firstI ns 1).toNat i && Rk.met (edges fs) i (firstI ns 2).toNat

def hugeB (ns : List Nd) (fs : List Fl) : Bool := decide (24 < ns.length) || decide (40 < fs.length)
def wrong1 (ns : List Nd) (fs : List Fl) : List Nat := if hugeB ns fs = true then [0] else (List.range ns.length).filter fun i => !((ns[i]?.map oneB).getD true)
def wrong2 (ns : List Nd) (fs : List Fl) : List Nat := (List.range fs.length).filter fun i => !((fs[i]?.map (twoB ns fs)).getD true)
def lostB (ns : List Nd) : Bool := decide (firstI ns 1 < 0) || decide (firstI ns 2 < 0)
def wrong3 (ns : List Nd) (fs : List Fl) : List Nat := ((List.range ns.length).filter fun i => !jointB ns fs i) ++ if lostB ns = true then [ns.length] else []
noncomputable def wrong4 (ns : List Nd) (fs : List Fl) : List Nat := (List.range ns.length).filter fun i => !roadB ns fs i
/-- The first rule that is broken, and all its places. -/
noncomputable def broken (ns : List Nd) (fs : List Fl) : Nat × List Nat :=
  if (wrong1 ns fs).isEmpty = false then (1, wrong1 ns fs) else if (wrong2 ns fs).isEmpty = false then (2, wrong2 ns fs) else if (wrong3 ns fs).isEmpty = false then (3, wrong3 ns fs)
  else if (wrong4 ns fs).isEmpty = false then (4, wrong4 ns fs) else (0, [])
noncomputable def checkN (ns : List Nd) (fs : List Fl) : Nat × Nat := ((broken ns fs).1, (broken ns fs).2.headD 0)

theorem filter_take {α : Type} (p : α → Bool) (l : List α) : ∀ k, k ≤ l.length → ((List.range k).filter fun j => ((l[j]?.map p).getD false)).length = (l.take k).countP p := by
  intro k
  induction k with
  | zero => simp
  | succ k ih =>
    intro hk
    rw [List.range_succ, List.filter_append, List.length_append, ih (by omega), Tm.take_snoc l k (by omega), List.countP_append]
    congr 1
    have hk' : k < l.length := by omega
    cases hp : p l[k] <;> simp [hk', hp]
theorem filter_len {α : Type} (p : α → Bool) (l : List α) : ((List.range l.length).filter fun k => ((l[k]?.map p).getD false)).length = l.countP p := by
  rw [filter_take p l l.length (Nat.le_refl _), List.take_length]
theorem outsL_eq (fs : List Fl) (i : Int) : outsL fs i = (List.range fs.length).filter fun k => ((fs[k]?.map fun f => decide (f.fr = i)).getD false) := by
  refine List.filter_congr fun k hk => ?_
  rw [List.getElem?_eq_getElem (List.mem_range.1 hk)]
  simp
theorem insL_eq (fs : List Fl) (i : Int) : insL fs i = (List.range fs.length).filter fun k => ((fs[k]?.map fun f => decide (f.to = i)).getD false) := by
  refine List.filter_congr fun k hk => ?_
  rw [List.getElem?_eq_getElem (List.mem_range.1 hk)]
  simp
theorem outsL_len (fs : List Fl) (i : Int) : (outsL fs i).length = outsN fs i := by rw [outsL_eq, filter_len]; rfl
theorem insL_len (fs : List Fl) (i : Int) : (insL fs i).length = insN fs i := by rw [insL_eq, filter_len]; rfl
theorem kindAt_get (ns : List Nd) (i : Nat) (h : i < ns.length) : kindAt ns i = ns[i].kind := by simp [kindAt, List.getElem?_eq_getElem h]
theorem filter_nil {n : Nat} {p : Nat → Bool} (h : ((List.range n).filter p).isEmpty = true) : ∀ i, i < n → p i = false := by
  intro i hi
  rw [List.isEmpty_iff, List.filter_eq_nil_iff] at h
  simpa using h i (List.mem_range.2 hi)
theorem one_keeps {ns : List Nd} {fs : List Fl} (h : (wrong1 ns fs).isEmpty = true) : ns.length ≤ 24 ∧ fs.length ≤ 40 := by
  unfold wrong1 at h
  split at h
  · simp at h
  · next hh => simpa [hugeB, Nat.not_lt] using hh
theorem two_keeps {ns : List Nd} {fs : List Fl} (h : (wrong2 ns fs).isEmpty = true) : ∀ f, f ∈ fs → 0 ≤ f.fr ∧ f.fr < ns.length ∧ 0 ≤ f.to ∧ f.to < ns.length ∧ twoB ns fs f = true := by
  intro f hf
  obtain ⟨i, hi, rfl⟩ := List.mem_iff_getElem.1 hf
  have := filter_nil h i hi
  rw [List.getElem?_eq_getElem hi] at this
  have h2 : twoB ns fs fs[i] = true := by simpa using this
  refine ⟨?_, ?_, ?_, ?_, h2⟩ <;> simp [twoB, isNodeB] at h2 <;> omega
theorem three_keeps {ns : List Nd} {fs : List Fl} (h : (wrong3 ns fs).isEmpty = true) : 0 ≤ firstI ns 1 ∧ 0 ≤ firstI ns 2 := by
  unfold wrong3 at h
  split at h
  · simp at h
  · next hh => simp [lostB] at hh; exact hh
theorem firstI_lt (ns : List Nd) (k : Int) : firstI ns k < ns.length := by
  unfold firstI
  split
  · next i h =>
    have := (List.findIdx?_eq_some_iff_getElem.1 h).1
    omega
  · omega

/-- Nodes in memory: cells of five. -/
def Nds (w : World) (B d : Nat) (a : Option Addr) (ns : List Nd) : Prop := ∀ j (h : j < ns.length), ∃ g off u, a = some ⟨g, off, none⟩ ∧ g < B ∧ w.cell? ⟨g, off + j * 5, none⟩ = some (.int .i64 ns[j].kind) ∧ w.cell? ⟨g, off + j * 5 + 1, none⟩ = some (.int .i64 ns[j].a) ∧
  w.cell? ⟨g, off + j * 5 + 2, none⟩ = some (.int .i64 ns[j].t.op) ∧ w.cell? ⟨g, off + j * 5 + 3, none⟩ = some (.int .i64 ns[j].t.num) ∧ w.cell? ⟨g, off + j * 5 + 4, none⟩ = some u ∧ Tm.Lies w B d u ns[j].t
/-- Flows in memory: cells of six. -/
def Fls (w : World) (B d : Nat) (a : Option Addr) (fs : List Fl) : Prop := ∀ j (h : j < fs.length), ∃ g off u, a = some ⟨g, off, none⟩ ∧ g < B ∧ w.cell? ⟨g, off + j * 6, none⟩ = some (.int .i64 fs[j].fr) ∧ w.cell? ⟨g, off + j * 6 + 1, none⟩ = some (.int .i64 fs[j].to) ∧
  w.cell? ⟨g, off + j * 6 + 2, none⟩ = some (.bool fs[j].els) ∧ w.cell? ⟨g, off + j * 6 + 3, none⟩ = some (.int .i64 fs[j].c.op) ∧ w.cell? ⟨g, off + j * 6 + 4, none⟩ = some (.int .i64 fs[j].c.num) ∧ w.cell? ⟨g, off + j * 6 + 5, none⟩ = some u ∧ Tm.Lies w B d u fs[j].c
theorem Nds.below {w w' : World} {B d : Nat} {a : Option Addr} {ns : List Nd} (h : Nds w B d a ns) (hb : Below B w w') : Nds w' B d a ns := fun j hj => by
  obtain ⟨g, off, u, h1, h2, c0, c1, c2, c3, c4, h3⟩ := h j hj
  have hc : ∀ o, w'.cell? ⟨g, o, none⟩ = w.cell? ⟨g, o, none⟩ := fun o => hb.cell (p := ⟨g, o, none⟩) h2
  exact ⟨g, off, u, h1, h2, by rw [hc]; exact c0, by rw [hc]; exact c1, by rw [hc]; exact c2, by rw [hc]; exact c3, by rw [hc]; exact c4, h3.below hb⟩
theorem Fls.below {w w' : World} {B d : Nat} {a : Option Addr} {fs : List Fl} (h : Fls w B d a fs) (hb : Below B w w') : Fls w' B d a fs := fun j hj => by
  obtain ⟨g, off, u, h1, h2, c0, c1, c2, c3, c4, c5, h3⟩ := h j hj
  have hc : ∀ o, w'.cell? ⟨g, o, none⟩ = w.cell? ⟨g, o, none⟩ := fun o => hb.cell (p := ⟨g, o, none⟩) h2
  exact ⟨g, off, u, h1, h2, by rw [hc]; exact c0, by rw [hc]; exact c1, by rw [hc]; exact c2, by rw [hc]; exact c3, by rw [hc]; exact c4, by rw [hc]; exact c5, h3.below hb⟩
theorem Nds.wider {w : World} {B B' d : Nat} {a : Option Addr} {ns : List Nd} (h : Nds w B d a ns) (hB : B ≤ B') : Nds w B' d a ns := fun j hj => by
  obtain ⟨g, off, u, h1, h2, c0, c1, c2, c3, c4, h3⟩ := h j hj
  exact ⟨g, off, u, h1, by omega, c0, c1, c2, c3, c4, h3.wider hB⟩
theorem Fls.wider {w : World} {B B' d : Nat} {a : Option Addr} {fs : List Fl} (h : Fls w B d a fs) (hB : B ≤ B') : Fls w B' d a fs := fun j hj => by
  obtain ⟨g, off, u, h1, h2, c0, c1, c2, c3, c4, c5, h3⟩ := h j hj
  exact ⟨g, off, u, h1, by omega, c0, c1, c2, c3, c4, c5, h3.wider hB⟩
end Nt

/-- A process in memory, its sizes such that they can be gone through. -/
structure Nt.Has (w : World) (B d : Nat) (an af : Option Addr) (ns : List Nd) (fs : List Fl) : Prop where
  nds : Nt.Nds w B d an ns
  fls : Nt.Fls w B d af fs
  nlen : ns.length ≤ 100
  flen : fs.length ≤ 100
  nsz : ∀ x, x ∈ ns → x.t.size ≤ 2147483647
  fsz : ∀ x, x ∈ fs → x.c.size ≤ 2147483647
theorem Nt.Has.below {w w' : World} {B d : Nat} {an af : Option Addr} {ns : List Nd} {fs : List Fl} (h : Nt.Has w B d an af ns fs) (hb : Below B w w') : Nt.Has w' B d an af ns fs := ⟨h.nds.below hb, h.fls.below hb, h.nlen, h.flen, h.nsz, h.fsz⟩
theorem Nt.Has.wider {w : World} {B B' d : Nat} {an af : Option Addr} {ns : List Nd} {fs : List Fl} (h : Nt.Has w B d an af ns fs) (hB : B ≤ B') : Nt.Has w B' d an af ns fs := ⟨h.nds.wider hB, h.fls.wider hB, h.nlen, h.flen, h.nsz, h.fsz⟩

end Go.Proofs
