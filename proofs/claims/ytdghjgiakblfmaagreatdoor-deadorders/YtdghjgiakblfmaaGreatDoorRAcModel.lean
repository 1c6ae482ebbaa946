import Derived.Test.YtdghjgiakblfmaaGreatDoorRTmModel
namespace Go.Proofs
open Go.RowKit
inductive Ac where
 | mk (kind node a b : Int) (t : Tm) (cs : List Tm) (ks : List Ac) (ls : List (Int × Int)) (ns : List Nd) (fs : List Fl)
namespace Ac
def kind : Ac → Int | mk k _ _ _ _ _ _ _ _ _ => k
def node : Ac → Int | mk _ n _ _ _ _ _ _ _ _ => n
def a : Ac → Int | mk _ _ a _ _ _ _ _ _ _ => a
def b : Ac → Int | mk _ _ _ b _ _ _ _ _ _ => b
def t : Ac → Tm | mk _ _ _ _ t _ _ _ _ _ => t
def cs : Ac → List Tm | mk _ _ _ _ _ c _ _ _ _ => c
def ks : Ac → List Ac | mk _ _ _ _ _ _ k _ _ _ => k
def ls : Ac → List (Int × Int) | mk _ _ _ _ _ _ _ l _ _ => l
def ns : Ac → List Nd | mk _ _ _ _ _ _ _ _ n _ => n
def fs : Ac → List Fl | mk _ _ _ _ _ _ _ _ _ f => f
mutual
def size : Ac → Nat | mk _ _ _ _ _ _ ks _ _ _ => sizes ks + 1
def sizes : List Ac → Nat | [] => 0 | k :: r => size k + sizes r
end
mutual
def depth : Ac → Nat | mk _ _ _ _ _ _ ks _ _ _ => depths ks + 1
def depths : List Ac → Nat | [] => 0 | k :: r => max (depth k) (depths r)
end
mutual
def go {St : Type} (step : Ac → St → Bool × St) : Ac → St → Bool × St
 | .mk k n a b t c ks l x y, s => if (step (.mk k n a b t c ks l x y) s).1 = true then goes step ks (step (.mk k n a b t c ks l x y) s).2 else (false, (step (.mk k n a b t c ks l x y) s).2)
def goes {St : Type} (step : Ac → St → Bool × St) : List Ac → St → Bool × St
 | [], s => (true, s)
 | k :: r, s => if (go step k s).1 = true then goes step r (go step k s).2 else (false, (go step k s).2)
end
mutual
def All (P : Ac → Prop) : Ac → Prop | .mk k n a b t c ks l x y => P (.mk k n a b t c ks l x y) ∧ Alls P ks
def Alls (P : Ac → Prop) : List Ac → Prop | [] => True | k :: r => All P k ∧ Alls P r
end
mutual
def allP (p : Ac → Bool) : Ac → Bool | mk k n a b t c ks l x y => p (mk k n a b t c ks l x y) && allPs p ks
def allPs (p : Ac → Bool) : List Ac → Bool | [] => true | k :: r => allP p k && allPs p r
end
theorem take_snoc {α : Type} (l : List α) (k : Nat) (h : k < l.length) : l.take (k + 1) = l.take k ++ [l[k]] := Tm.take_snoc l k h
theorem sizes_snoc (l : List Ac) (a : Ac) : sizes (l ++ [a]) = sizes l + a.size := by
 induction l with
 | nil => simp [sizes]
 | cons k r ih => simp only [List.cons_append, sizes, ih]; omega
theorem depths_snoc (l : List Ac) (a : Ac) : depths (l ++ [a]) = max (depths l) a.depth := by
 induction l with
 | nil => simp [depths]
 | cons k r ih => simp only [List.cons_append, depths, ih]; omega
theorem sizes_take (l : List Ac) (k : Nat) (h : k < l.length) : sizes (l.take (k + 1)) = sizes (l.take k) + l[k].size := by rw [take_snoc l k h, sizes_snoc]
theorem depths_take (l : List Ac) (k : Nat) (h : k < l.length) : depths (l.take (k + 1)) = max (depths (l.take k)) l[k].depth := by rw [take_snoc l k h, depths_snoc]
theorem sizes_le (l : List Ac) : ∀ k, sizes (l.take k) ≤ sizes l := by
 induction l with
 | nil => intro k; simp
 | cons x r ih =>
   intro k
   cases k with
   | zero => simp [sizes]
   | succ k => simp only [List.take_succ_cons, sizes]; have := ih k; omega
theorem depths_get (l : List Ac) : ∀ k (h : k < l.length), l[k].depth ≤ depths l := by
 induction l with
 | nil => intro k h; simp at h
 | cons x r ih =>
   intro k h
   cases k with
   | zero => simp only [List.getElem_cons_zero, depths]; omega
   | succ k => simp only [List.getElem_cons_succ, depths]; have := ih k (by simpa using h); omega
theorem size_pos (T : Ac) : 1 ≤ T.size := by cases T; simp [size]
theorem sizes_get (l : List Ac) (k : Nat) (h : k < l.length) : sizes (l.take k) + l[k].size ≤ sizes l := by rw [← sizes_take l k h]; exact sizes_le _ _
theorem length_le_sizes (l : List Ac) : l.length ≤ sizes l := by
 induction l with
 | nil => simp
 | cons k r ih => simp only [List.length_cons, sizes]; have := k.size_pos; omega
theorem size_eq (T : Ac) : T.size = sizes T.ks + 1 := by cases T; rfl
theorem depth_eq (T : Ac) : T.depth = depths T.ks + 1 := by cases T; rfl
mutual
theorem depth_le_size : ∀ T : Ac, T.depth ≤ T.size
 | mk _ _ _ _ _ _ ks _ _ _ => by rw [depth, size]; have := depths_le_sizes ks; omega
theorem depths_le_sizes : ∀ l : List Ac, depths l ≤ sizes l
 | [] => by simp [depths, sizes]
 | k :: r => by rw [depths, sizes]; have := depth_le_size k; have := depths_le_sizes r; omega
end
theorem go_eq {St : Type} (step : Ac → St → Bool × St) (T : Ac) (s : St) : T.go step s = if (step T s).1 = true then goes step T.ks (step T s).2 else (false, (step T s).2) := by cases T; rfl
theorem all_eq (P : Ac → Prop) (T : Ac) : T.All P = (P T ∧ Alls P T.ks) := by cases T; rfl
theorem alls_get {P : Ac → Prop} : ∀ {l : List Ac}, Alls P l → ∀ k (h : k < l.length), l[k].All P
 | [], _, k, h => by simp at h
 | x :: r, hl, k, h => by
   cases k with
   | zero => exact hl.1
   | succ k => exact alls_get hl.2 k (by simpa using h)
theorem goes_snoc {St : Type} (step : Ac → St → Bool × St) (x : Ac) : ∀ (l : List Ac) (s : St), goes step (l ++ [x]) s = if (goes step l s).1 = true then x.go step (goes step l s).2 else (false, (goes step l s).2)
 | [], s => by
   simp only [List.nil_append, goes, if_true]
   split
   ·rename_i h; rw [← h]
   ·rename_i h; rw [← Bool.eq_false_iff.2 h]
 | k :: r, s => by
   rw [List.cons_append, goes, goes]
   split
   ·exact goes_snoc step x r _
   ·simp
theorem goes_stop {St : Type} (step : Ac → St → Bool × St) : ∀ (a b : List Ac) (s s' : St), goes step a s = (false, s') → goes step (a ++ b) s = (false, s')
 | [], b, s, s', h => by simp [goes] at h
 | k :: r, b, s, s', h => by
   rw [goes] at h
   rw [List.cons_append, goes]
   split
   ·rename_i hk; rw [if_pos hk] at h; exact goes_stop step r b _ _ h
   ·rename_i hk; rw [if_neg hk] at h; exact h
def Tms (w : World) (B d : Nat) (a : Option Addr) (cs : List Tm) : Prop := ∀ j (h : j < cs.length), ∃ g off u, a = some ⟨g, off, none⟩ ∧ g < B ∧ w.cell? ⟨g, off + j * 3, none⟩ = some (.int .i64 cs[j].op) ∧ w.cell? ⟨g, off + j * 3 + 1, none⟩ = some (.int .i64 cs[j].num) ∧ w.cell? ⟨g, off + j * 3 + 2, none⟩ = some u ∧ Tm.Lies w B d u cs[j]
def Lks (w : World) (B : Nat) (a : Option Addr) (ls : List (Int × Int)) : Prop := ∀ j (h : j < ls.length), ∃ g off, a = some ⟨g, off, none⟩ ∧ g < B ∧ w.cell? ⟨g, off + j * 2, none⟩ = some (.int .i64 ls[j].1) ∧ w.cell? ⟨g, off + j * 2 + 1, none⟩ = some (.int .i64 ls[j].2)
theorem Tms.keep {w w' : World} {B d : Nat} {a : Option Addr} {cs : List Tm} (h : Tms w B d a cs) (hk : ∀ k, k < B → w'.heap[k]? = w.heap[k]?) : Tms w' B d a cs := fun j hj => by
 obtain ⟨g, off, u, h1, h2, c0, c1, c2, h3⟩ := h j hj
 have hc : ∀ o, w'.cell? ⟨g, o, none⟩ = w.cell? ⟨g, o, none⟩ := fun o => World.cell?_of_block (w := w) (hk g h2)
 exact ⟨g, off, u, h1, h2, by rw [hc]; exact c0, by rw [hc]; exact c1, by rw [hc]; exact c2, h3.keep hk⟩
theorem Lks.keep {w w' : World} {B : Nat} {a : Option Addr} {ls : List (Int × Int)} (h : Lks w B a ls) (hk : ∀ k, k < B → w'.heap[k]? = w.heap[k]?) : Lks w' B a ls := fun j hj => by
 obtain ⟨g, off, h1, h2, c0, c1⟩ := h j hj
 have hc : ∀ o, w'.cell? ⟨g, o, none⟩ = w.cell? ⟨g, o, none⟩ := fun o => World.cell?_of_block (w := w) (hk g h2)
 exact ⟨g, off, h1, h2, by rw [hc]; exact c0, by rw [hc]; exact c1⟩
theorem Tms.wider {w : World} {B B' d : Nat} {a : Option Addr} {cs : List Tm} (h : Tms w B d a cs) (hB : B ≤ B') : Tms w B' d a cs := fun j hj => by
 obtain ⟨g, off, u, h1, h2, c0, c1, c2, h3⟩ := h j hj
 exact ⟨g, off, u, h1, by omega, c0, c1, c2, h3.wider hB⟩
theorem Lks.wider {w : World} {B B' : Nat} {a : Option Addr} {ls : List (Int × Int)} (h : Lks w B a ls) (hB : B ≤ B') : Lks w B' a ls := fun j hj => by
 obtain ⟨g, off, h1, h2, h3⟩ := h j hj
 exact ⟨g, off, h1, by omega, h3⟩
theorem nds_keep {w w' : World} {B d : Nat} {a : Option Addr} {ns : List Nd} (h : Nt.Nds w B d a ns) (hk : ∀ k, k < B → w'.heap[k]? = w.heap[k]?) : Nt.Nds w' B d a ns := fun j hj => by
 obtain ⟨g, off, u, h1, h2, c0, c1, c2, c3, c4, h3⟩ := h j hj
 have hc : ∀ o, w'.cell? ⟨g, o, none⟩ = w.cell? ⟨g, o, none⟩ := fun o => World.cell?_of_block (w := w) (hk g h2)
 exact ⟨g, off, u, h1, h2, by rw [hc]; exact c0, by rw [hc]; exact c1, by rw [hc]; exact c2, by rw [hc]; exact c3, by rw [hc]; exact c4, h3.keep hk⟩
theorem fls_keep {w w' : World} {B d : Nat} {a : Option Addr} {fs : List Fl} (h : Nt.Fls w B d a fs) (hk : ∀ k, k < B → w'.heap[k]? = w.heap[k]?) : Nt.Fls w' B d a fs := fun j hj => by
 obtain ⟨g, off, u, h1, h2, c0, c1, c2, c3, c4, c5, h3⟩ := h j hj
 have hc : ∀ o, w'.cell? ⟨g, o, none⟩ = w.cell? ⟨g, o, none⟩ := fun o => World.cell?_of_block (w := w) (hk g h2)
 exact ⟨g, off, u, h1, h2, by rw [hc]; exact c0, by rw [hc]; exact c1, by rw [hc]; exact c2, by rw [hc]; exact c3, by rw [hc]; exact c4, by rw [hc]; exact c5, h3.keep hk⟩
structure Vs where
 t : Value
 c : Value
 k : Value
 l : Value
 n : Value
 f : Value
def row (T : Ac) (V : Vs) : Array Value := #[.int .i64 T.kind, .int .i64 T.node, .int .i64 T.a, .int .i64 T.b, .int .i64 T.t.op, .int .i64 T.t.num, V.t, V.c, V.k, V.l, V.n, V.f]
structure Own (w : World) (B e : Nat) (V : Vs) (T : Ac) : Prop where
 t : Tm.Lies w B e V.t T.t
 c : ∃ a cap, V.c = .slice a T.cs.length cap ∧ Tms w B e a T.cs
 l : ∃ a cap, V.l = .slice a T.ls.length cap ∧ Lks w B a T.ls
 n : ∃ a cap, V.n = .slice a T.ns.length cap ∧ Nt.Nds w B e a T.ns
 f : ∃ a cap, V.f = .slice a T.fs.length cap ∧ Nt.Fls w B e a T.fs
theorem Own.keep {w w' : World} {B e : Nat} {V : Vs} {T : Ac} (h : Own w B e V T) (hk : ∀ k, k < B → w'.heap[k]? = w.heap[k]?) : Own w' B e V T := by
 obtain ⟨h1, ⟨a2, c2, e2, h2⟩, ⟨a3, c3, e3, h3⟩, ⟨a4, c4, e4, h4⟩, ⟨a5, c5, e5, h5⟩⟩ := h
 exact ⟨h1.keep hk, ⟨a2, c2, e2, h2.keep hk⟩, ⟨a3, c3, e3, h3.keep hk⟩, ⟨a4, c4, e4, nds_keep h4 hk⟩, ⟨a5, c5, e5, fls_keep h5 hk⟩⟩
theorem Own.wider {w : World} {B B' e : Nat} {V : Vs} {T : Ac} (h : Own w B e V T) (hB : B ≤ B') : Own w B' e V T := by
 obtain ⟨h1, ⟨a2, c2, e2, h2⟩, ⟨a3, c3, e3, h3⟩, ⟨a4, c4, e4, h4⟩, ⟨a5, c5, e5, h5⟩⟩ := h
 exact ⟨h1.wider hB, ⟨a2, c2, e2, h2.wider hB⟩, ⟨a3, c3, e3, h3.wider hB⟩, ⟨a4, c4, e4, h4.wider hB⟩, ⟨a5, c5, e5, h5.wider hB⟩⟩
def Row (w : World) (g o : Nat) (cs : Array Value) : Prop := ∀ i (h : i < cs.size), w.cell? ⟨g, o + i, none⟩ = some cs[i]
theorem Row.keep {w w' : World} {g o : Nat} {cs : Array Value} (h : Row w g o cs) (hk : w'.heap[g]? = w.heap[g]?) : Row w' g o cs := fun i hi => by
 rw [World.cell?_of_block (w := w) hk]
 exact h i hi
def Lies (w : World) (B e : Nat) : Nat → Vs → Ac → Prop
 | 0, _, _ => False
 | d + 1, V, T => Own w B e V T ∧ ∃ a cap, V.k = .slice a T.ks.length cap ∧ ∀ j (h : j < T.ks.length), ∃ g off U, a = some ⟨g, off, none⟩ ∧ g < B ∧ Row w g (off + j * 12) (row T.ks[j] U) ∧ Lies w B e d U T.ks[j]
theorem Lies.keep {w w' : World} {B e : Nat} (hk : ∀ k, k < B → w'.heap[k]? = w.heap[k]?) : ∀ {d : Nat} {V : Vs} {T : Ac}, Lies w B e d V T → Lies w' B e d V T
 | 0, _, _, h => h.elim
 | d + 1, V, T, h => by
   obtain ⟨ho, a, cap, hv, h⟩ := h
   refine ⟨ho.keep hk, a, cap, hv, fun j hj => ?_⟩
   obtain ⟨g, off, U, ha, hg, hr, h1⟩ := h j hj
   exact ⟨g, off, U, ha, hg, hr.keep (hk g hg), Lies.keep hk h1⟩
theorem Lies.below {w w' : World} {B e : Nat} (hb : Below B w w') {d : Nat} {V : Vs} {T : Ac} (h : Lies w B e d V T) : Lies w' B e d V T := h.keep hb.block
theorem Lies.wider {w : World} {B B' e : Nat} (hB : B ≤ B') : ∀ {d : Nat} {V : Vs} {T : Ac}, Lies w B e d V T → Lies w B' e d V T
 | 0, _, _, h => h.elim
 | d + 1, V, T, h => by
   obtain ⟨ho, a, cap, hv, h⟩ := h
   refine ⟨ho.wider hB, a, cap, hv, fun j hj => ?_⟩
   obtain ⟨g, off, U, ha, hg, hr, h1⟩ := h j hj
   exact ⟨g, off, U, ha, by omega, hr, Lies.wider hB h1⟩
theorem Lies.own {w : World} {B e d : Nat} {V : Vs} {T : Ac} (h : Lies w B e d V T) : Own w B e V T := by
 cases d with
 | zero => exact h.elim
 | succ d => exact h.1
theorem Lies.kids {w : World} {B e d : Nat} {V : Vs} {T : Ac} (h : Lies w B e d V T) : ∃ a cap, V.k = .slice a T.ks.length cap := by
 cases d with
 | zero => exact h.elim
 | succ d => obtain ⟨_, a, cap, hv, _⟩ := h; exact ⟨a, cap, hv⟩
theorem Lies.shape {w : World} {B e d : Nat} {V : Vs} {T : Ac} (h : Lies w B e d V T) : ∃ a6 c6 a7 c7 a8 c8 a9 c9 a10 c10 a11 c11, V = ⟨.slice a6 T.t.ks.length c6, .slice a7 T.cs.length c7, .slice a8 T.ks.length c8, .slice a9 T.ls.length c9, .slice a10 T.ns.length c10, .slice a11 T.fs.length c11⟩ := by
 obtain ⟨a6, c6, e6⟩ := h.own.t.shape
 obtain ⟨a7, c7, e7, _⟩ := h.own.c
 obtain ⟨a8, c8, e8⟩ := h.kids
 obtain ⟨a9, c9, e9, _⟩ := h.own.l
 obtain ⟨a10, c10, e10, _⟩ := h.own.n
 obtain ⟨a11, c11, e11, _⟩ := h.own.f
 refine ⟨a6, c6, a7, c7, a8, c8, a9, c9, a10, c10, a11, c11, ?_⟩
 cases V
 simp only at e6 e7 e8 e9 e10 e11
 rw [e6, e7, e8, e9, e10, e11]
theorem Lies.ones {w : World} {B e d : Nat} {V : Vs} {T : Ac} (h : Lies w B e d V T) : (row T V).all (·.oneCell') = true := by
 obtain ⟨a6, c6, a7, c7, a8, c8, a9, c9, a10, c10, a11, c11, rfl⟩ := h.shape
 simp [row, Value.oneCell']
theorem Lies.kid {w : World} {B e d : Nat} {V : Vs} {a : Option Addr} {n cap : Nat} {T : Ac} (h : Lies w B e (d + 1) V T) (hv : V.k = .slice a n cap) (j : Nat) (hj : j < T.ks.length) : ∃ g off U, a = some ⟨g, off, none⟩ ∧ g < B ∧ Row w g (off + j * 12) (row T.ks[j] U) ∧ Lies w B e d U T.ks[j] := by
 obtain ⟨_, a', cap', hv', h⟩ := h
 rw [hv] at hv'
 obtain ⟨rfl, _, _⟩ := Value.slice.inj hv'
 exact h j hj
end Ac
end Go.Proofs
