import Derived.Test.YtdghjgiakblfmaaGreatDoorRAcPairs
import Derived.Deep.Slices
namespace Go.Proofs
open Go.RowKit Go.Shelf
def Ac.Same1 (S T : Ac) : Prop := S.kind = T.kind ∧ S.node = T.node ∧ S.a = T.a ∧ S.b = T.b ∧ S.t = T.t ∧ S.cs = T.cs ∧ S.ls = T.ls ∧ S.ns = T.ns ∧ S.fs = T.fs
structure Ac.Fit (T : Ac) : Prop where
 t : T.t.size ≤ 2147483647 ∧ T.t.depth ≤ 1000
 c : ∀ x ∈ T.cs, x.size ≤ 2147483647 ∧ x.depth ≤ 1000
 n : ∀ x ∈ T.ns, x.t.size ≤ 2147483647 ∧ x.t.depth ≤ 1000
 f : ∀ x ∈ T.fs, x.c.size ≤ 2147483647 ∧ x.c.depth ≤ 1000
 cl : T.cs.length ≤ 1000
 kl : T.ks.length ≤ 1000
 ll : T.ls.length ≤ 1000
 nl : T.ns.length ≤ 100
 fl : T.fs.length ≤ 100
theorem Ak.all_get {α : Type} {l m : List α} (h : l.length = m.length) (hj : ∀ j, j < l.length → l[j]? = m[j]?) : l = m := by
 apply List.ext_getElem?
 intro j
 rcases Nat.lt_or_ge j l.length with h1 | h1
 ·exact hj j h1
 ·rw [List.getElem?_eq_none h1, List.getElem?_eq_none (by omega)]
theorem Tryz.condsEq_any (e e' B : Nat) (l m : List Tm) (a b : Option Addr) (ca cb : Nat) (w : World) (h1 : Ac.Tms w B e a l) (h2 : Ac.Tms w B e' b m) (hB : B ≤ w.heap.size) (h0 : 0 < w.heap.size) (hs : ∀ x ∈ l, x.size ≤ 2147483647 ∧ x.depth ≤ 1000) (hn : l.length ≤ 2147483647) :
  Calls Tryz.prog 81 #[.slice a l.length ca, .slice b m.length cb, .func (.func 77) #[] #[]] w fun e w' => Ak.Told (l = m) e ∧ Below w.heap.size w w' := by
 have e1 : ∀ j, j < l.length → ∃ u : Value, ∃ g off, a = some ⟨g, off, none⟩ ∧ g < B ∧ w.cell? ⟨g, off + j * 3, none⟩ = some (.int .i64 ((l[j]?).getD (.mk 0 0 [])).op) ∧ w.cell? ⟨g, off + j * 3 + 1, none⟩ = some (.int .i64 ((l[j]?).getD (.mk 0 0 [])).num) ∧ w.cell? ⟨g, off + j * 3 + 2, none⟩ = some u ∧ Tm.Lies w B e u ((l[j]?).getD (.mk 0 0 [])) := fun j hj => by
  obtain ⟨g, off, u, h1, h2, h3, h4, h5, h6⟩ := h1 j hj
  rw [List.getElem?_eq_getElem hj]
  exact ⟨u, g, off, h1, h2, h3, h4, h5, h6⟩
 have e2 : ∀ j, j < m.length → ∃ u : Value, ∃ g off, b = some ⟨g, off, none⟩ ∧ g < B ∧ w.cell? ⟨g, off + j * 3, none⟩ = some (.int .i64 ((m[j]?).getD (.mk 0 0 [])).op) ∧ w.cell? ⟨g, off + j * 3 + 1, none⟩ = some (.int .i64 ((m[j]?).getD (.mk 0 0 [])).num) ∧ w.cell? ⟨g, off + j * 3 + 2, none⟩ = some u ∧ Tm.Lies w B e' u ((m[j]?).getD (.mk 0 0 [])) := fun j hj => by
  obtain ⟨g, off, u, h1, h2, h3, h4, h5, h6⟩ := h2 j hj
  rw [List.getElem?_eq_getElem hj]
  exact ⟨u, g, off, h1, h2, h3, h4, h5, h6⟩
 haveI : Inhabited Value := ⟨.bool false⟩
 obtain ⟨u, hu⟩ := Go.Deep.choose_lt e1
 obtain ⟨v, hv⟩ := Go.Deep.choose_lt e2
 have key := Tryz.eqTerm_any (B := B) l.length m.length a b ca cb 77 (fun j => l[j]? = m[j]?) (fun j => .int .i64 ((l[j]?).getD (.mk 0 0 [])).op) (fun j => .int .i64 ((l[j]?).getD (.mk 0 0 [])).num) u (fun j => .int .i64 ((m[j]?).getD (.mk 0 0 [])).op) (fun j => .int .i64 ((m[j]?).getD (.mk 0 0 [])).num) v w hB (enters_of Tryz.func77 (by kernel_rfl) rfl)
  (fun j hj => by
   obtain ⟨g, off, p1, p2, p3, p4, p5, p6⟩ := hu j hj
   obtain ⟨ua, uc, hus⟩ := p6.shape
   exact ⟨g, off, p1, p2, ⟨p3, p4, p5⟩, by rw [hus]; simp [Value.oneCell']⟩)
  (fun j hj => by
   obtain ⟨g, off, p1, p2, p3, p4, p5, p6⟩ := hv j hj
   obtain ⟨ua, uc, hus⟩ := p6.shape
   exact ⟨g, off, p1, p2, ⟨p3, p4, p5⟩, by rw [hus]; simp [Value.oneCell']⟩)
  (fun hlm j W hj hb => by
   obtain ⟨_, _, _, _, _, _, _, p6⟩ := hu j hj
   obtain ⟨_, _, _, _, _, _, _, q6⟩ := hv j (by omega)
   have hs1 := hs _ (List.getElem_mem hj)
   rw [List.getElem?_eq_getElem hj, List.getElem?_eq_getElem (by omega : j < m.length)] at *
   refine (Tryz.termSame_any e e' l[j] m[j] (u j) (v j) W ((p6.below (hb.mono hB)).wider (Nat.le_trans hB hb.size)) ((q6.below (hb.mono hB)).wider (Nat.le_trans hB hb.size)) (by have := hb.size; omega) hs1.1 hs1.2).mono fun e w' h => ⟨?_, h.2⟩
   obtain ⟨r, hr1, hr2⟩ := h.1
   exact ⟨r, hr1, by rw [hr2, Option.some.injEq]⟩) hn
 refine key.mono fun e w' h => ⟨?_, h.2⟩
 obtain ⟨r, hr1, hr2⟩ := h.1
 refine ⟨r, hr1, hr2.trans ⟨fun h => Ak.all_get h.1 h.2, fun h => ?_⟩⟩
 subst h
 exact ⟨rfl, fun _ _ => rfl⟩
theorem Tryz.nodesEq_any (e e' B : Nat) (l m : List Nd) (a b : Option Addr) (ca cb : Nat) (w : World) (h1 : Nt.Nds w B e a l) (h2 : Nt.Nds w B e' b m) (hB : B ≤ w.heap.size) (h0 : 0 < w.heap.size) (hs : ∀ x ∈ l, x.t.size ≤ 2147483647 ∧ x.t.depth ≤ 1000) (hn : l.length ≤ 2147483647) :
  Calls Tryz.prog 83 #[.slice a l.length ca, .slice b m.length cb, .func (.func 84) #[] #[]] w fun e w' => Ak.Told (l = m) e ∧ Below w.heap.size w w' := by
 have e1 : ∀ j, j < l.length → ∃ u : Value, ∃ g off, a = some ⟨g, off, none⟩ ∧ g < B ∧ w.cell? ⟨g, off + j * 5, none⟩ = some (.int .i64 ((l[j]?).getD ⟨0, 0, .mk 0 0 []⟩).kind) ∧ w.cell? ⟨g, off + j * 5 + 1, none⟩ = some (.int .i64 ((l[j]?).getD ⟨0, 0, .mk 0 0 []⟩).a) ∧ w.cell? ⟨g, off + j * 5 + 2, none⟩ = some (.int .i64 ((l[j]?).getD ⟨0, 0, .mk 0 0 []⟩).t.op) ∧ w.cell? ⟨g, off + j * 5 + 3, none⟩ = some (.int .i64 ((l[j]?).getD ⟨0, 0, .mk 0 0 []⟩).t.num) ∧ w.cell? ⟨g, off + j * 5 + 4, none⟩ = some (u) ∧ Tm.Lies w B e u ((l[j]?).getD ⟨0, 0, .mk 0 0 []⟩).t := fun j hj => by
  obtain ⟨g, off, u, h1, h2, h3, h4, h5, h6, h7, h8⟩ := h1 j hj
  rw [List.getElem?_eq_getElem hj]
  exact ⟨u, g, off, h1, h2, h3, h4, h5, h6, h7, h8⟩
 have e2 : ∀ j, j < m.length → ∃ u : Value, ∃ g off, b = some ⟨g, off, none⟩ ∧ g < B ∧ w.cell? ⟨g, off + j * 5, none⟩ = some (.int .i64 ((m[j]?).getD ⟨0, 0, .mk 0 0 []⟩).kind) ∧ w.cell? ⟨g, off + j * 5 + 1, none⟩ = some (.int .i64 ((m[j]?).getD ⟨0, 0, .mk 0 0 []⟩).a) ∧ w.cell? ⟨g, off + j * 5 + 2, none⟩ = some (.int .i64 ((m[j]?).getD ⟨0, 0, .mk 0 0 []⟩).t.op) ∧ w.cell? ⟨g, off + j * 5 + 3, none⟩ = some (.int .i64 ((m[j]?).getD ⟨0, 0, .mk 0 0 []⟩).t.num) ∧ w.cell? ⟨g, off + j * 5 + 4, none⟩ = some (u) ∧ Tm.Lies w B e' u ((m[j]?).getD ⟨0, 0, .mk 0 0 []⟩).t := fun j hj => by
  obtain ⟨g, off, u, h1, h2, h3, h4, h5, h6, h7, h8⟩ := h2 j hj
  rw [List.getElem?_eq_getElem hj]
  exact ⟨u, g, off, h1, h2, h3, h4, h5, h6, h7, h8⟩
 haveI : Inhabited Value := ⟨.bool false⟩
 obtain ⟨u, hu⟩ := Go.Deep.choose_lt e1
 obtain ⟨v, hv⟩ := Go.Deep.choose_lt e2
 have key := Tryz.eqNode_any (B := B) l.length m.length a b ca cb 84 (fun j => l[j]? = m[j]?) (fun j => .int .i64 ((l[j]?).getD ⟨0, 0, .mk 0 0 []⟩).kind) (fun j => .int .i64 ((l[j]?).getD ⟨0, 0, .mk 0 0 []⟩).a) (fun j => .int .i64 ((l[j]?).getD ⟨0, 0, .mk 0 0 []⟩).t.op) (fun j => .int .i64 ((l[j]?).getD ⟨0, 0, .mk 0 0 []⟩).t.num) u (fun j => .int .i64 ((m[j]?).getD ⟨0, 0, .mk 0 0 []⟩).kind) (fun j => .int .i64 ((m[j]?).getD ⟨0, 0, .mk 0 0 []⟩).a) (fun j => .int .i64 ((m[j]?).getD ⟨0, 0, .mk 0 0 []⟩).t.op) (fun j => .int .i64 ((m[j]?).getD ⟨0, 0, .mk 0 0 []⟩).t.num) v w hB (enters_of Tryz.func84 (by kernel_rfl) rfl)
  (fun j hj => by
   obtain ⟨g, off, p1, p2, p3, p4, p5, p6, p7, pz⟩ := hu j hj
   obtain ⟨ua, uc, hus⟩ := pz.shape
   exact ⟨g, off, p1, p2, ⟨p3, p4, p5, p6, p7⟩, by rw [hus]; simp [Value.oneCell']⟩)
  (fun j hj => by
   obtain ⟨g, off, p1, p2, p3, p4, p5, p6, p7, pz⟩ := hv j hj
   obtain ⟨ua, uc, hus⟩ := pz.shape
   exact ⟨g, off, p1, p2, ⟨p3, p4, p5, p6, p7⟩, by rw [hus]; simp [Value.oneCell']⟩)
  (fun hlm j W hj hb => by
   obtain ⟨_, _, _, _, _, _, _, _, _, p6⟩ := hu j hj
   obtain ⟨_, _, _, _, _, _, _, _, _, q6⟩ := hv j (by omega)
   have hs1 := hs _ (List.getElem_mem hj)
   rw [List.getElem?_eq_getElem hj, List.getElem?_eq_getElem (by omega : j < m.length)] at *
   refine (Tryz.sameNode_any e e' l[j] m[j] (u j) (v j) W ((p6.below (hb.mono hB)).wider (Nat.le_trans hB hb.size)) ((q6.below (hb.mono hB)).wider (Nat.le_trans hB hb.size)) (by have := hb.size; omega) hs1.1 hs1.2).mono fun e w' h => ⟨?_, h.2⟩
   obtain ⟨r, hr1, hr2⟩ := h.1
   exact ⟨r, hr1, by rw [hr2, Option.some.injEq]⟩) hn
 refine key.mono fun e w' h => ⟨?_, h.2⟩
 obtain ⟨r, hr1, hr2⟩ := h.1
 refine ⟨r, hr1, hr2.trans ⟨fun h => Ak.all_get h.1 h.2, fun h => ?_⟩⟩
 subst h
 exact ⟨rfl, fun _ _ => rfl⟩
theorem Tryz.flowsEq_any (e e' B : Nat) (l m : List Fl) (a b : Option Addr) (ca cb : Nat) (w : World) (h1 : Nt.Fls w B e a l) (h2 : Nt.Fls w B e' b m) (hB : B ≤ w.heap.size) (h0 : 0 < w.heap.size) (hs : ∀ x ∈ l, x.c.size ≤ 2147483647 ∧ x.c.depth ≤ 1000) (hn : l.length ≤ 2147483647) :
  Calls Tryz.prog 85 #[.slice a l.length ca, .slice b m.length cb, .func (.func 86) #[] #[]] w fun e w' => Ak.Told (l = m) e ∧ Below w.heap.size w w' := by
 have e1 : ∀ j, j < l.length → ∃ u : Value, ∃ g off, a = some ⟨g, off, none⟩ ∧ g < B ∧ w.cell? ⟨g, off + j * 6, none⟩ = some (.int .i64 ((l[j]?).getD ⟨0, 0, false, .mk 0 0 []⟩).fr) ∧ w.cell? ⟨g, off + j * 6 + 1, none⟩ = some (.int .i64 ((l[j]?).getD ⟨0, 0, false, .mk 0 0 []⟩).to) ∧ w.cell? ⟨g, off + j * 6 + 2, none⟩ = some (.bool ((l[j]?).getD ⟨0, 0, false, .mk 0 0 []⟩).els) ∧ w.cell? ⟨g, off + j * 6 + 3, none⟩ = some (.int .i64 ((l[j]?).getD ⟨0, 0, false, .mk 0 0 []⟩).c.op) ∧ w.cell? ⟨g, off + j * 6 + 4, none⟩ = some (.int .i64 ((l[j]?).getD ⟨0, 0, false, .mk 0 0 []⟩).c.num) ∧ w.cell? ⟨g, off + j * 6 + 5, none⟩ = some (u) ∧ Tm.Lies w B e u ((l[j]?).getD ⟨0, 0, false, .mk 0 0 []⟩).c := fun j hj => by
  obtain ⟨g, off, u, h1, h2, h3, h4, h5, h6, h7, h8, h9⟩ := h1 j hj
  rw [List.getElem?_eq_getElem hj]
  exact ⟨u, g, off, h1, h2, h3, h4, h5, h6, h7, h8, h9⟩
 have e2 : ∀ j, j < m.length → ∃ u : Value, ∃ g off, b = some ⟨g, off, none⟩ ∧ g < B ∧ w.cell? ⟨g, off + j * 6, none⟩ = some (.int .i64 ((m[j]?).getD ⟨0, 0, false, .mk 0 0 []⟩).fr) ∧ w.cell? ⟨g, off + j * 6 + 1, none⟩ = some (.int .i64 ((m[j]?).getD ⟨0, 0, false, .mk 0 0 []⟩).to) ∧ w.cell? ⟨g, off + j * 6 + 2, none⟩ = some (.bool ((m[j]?).getD ⟨0, 0, false, .mk 0 0 []⟩).els) ∧ w.cell? ⟨g, off + j * 6 + 3, none⟩ = some (.int .i64 ((m[j]?).getD ⟨0, 0, false, .mk 0 0 []⟩).c.op) ∧ w.cell? ⟨g, off + j * 6 + 4, none⟩ = some (.int .i64 ((m[j]?).getD ⟨0, 0, false, .mk 0 0 []⟩).c.num) ∧ w.cell? ⟨g, off + j * 6 + 5, none⟩ = some (u) ∧ Tm.Lies w B e' u ((m[j]?).getD ⟨0, 0, false, .mk 0 0 []⟩).c := fun j hj => by
  obtain ⟨g, off, u, h1, h2, h3, h4, h5, h6, h7, h8, h9⟩ := h2 j hj
  rw [List.getElem?_eq_getElem hj]
  exact ⟨u, g, off, h1, h2, h3, h4, h5, h6, h7, h8, h9⟩
 haveI : Inhabited Value := ⟨.bool false⟩
 obtain ⟨u, hu⟩ := Go.Deep.choose_lt e1
 obtain ⟨v, hv⟩ := Go.Deep.choose_lt e2
 have key := Tryz.eqFlow_any (B := B) l.length m.length a b ca cb 86 (fun j => l[j]? = m[j]?) (fun j => .int .i64 ((l[j]?).getD ⟨0, 0, false, .mk 0 0 []⟩).fr) (fun j => .int .i64 ((l[j]?).getD ⟨0, 0, false, .mk 0 0 []⟩).to) (fun j => .bool ((l[j]?).getD ⟨0, 0, false, .mk 0 0 []⟩).els) (fun j => .int .i64 ((l[j]?).getD ⟨0, 0, false, .mk 0 0 []⟩).c.op) (fun j => .int .i64 ((l[j]?).getD ⟨0, 0, false, .mk 0 0 []⟩).c.num) u (fun j => .int .i64 ((m[j]?).getD ⟨0, 0, false, .mk 0 0 []⟩).fr) (fun j => .int .i64 ((m[j]?).getD ⟨0, 0, false, .mk 0 0 []⟩).to) (fun j => .bool ((m[j]?).getD ⟨0, 0, false, .mk 0 0 []⟩).els) (fun j => .int .i64 ((m[j]?).getD ⟨0, 0, false, .mk 0 0 []⟩).c.op) (fun j => .int .i64 ((m[j]?).getD ⟨0, 0, false, .mk 0 0 []⟩).c.num) v w hB (enters_of Tryz.func86 (by kernel_rfl) rfl)
  (fun j hj => by
   obtain ⟨g, off, p1, p2, p3, p4, p5, p6, p7, p8, pz⟩ := hu j hj
   obtain ⟨ua, uc, hus⟩ := pz.shape
   exact ⟨g, off, p1, p2, ⟨p3, p4, p5, p6, p7, p8⟩, by rw [hus]; simp [Value.oneCell']⟩)
  (fun j hj => by
   obtain ⟨g, off, p1, p2, p3, p4, p5, p6, p7, p8, pz⟩ := hv j hj
   obtain ⟨ua, uc, hus⟩ := pz.shape
   exact ⟨g, off, p1, p2, ⟨p3, p4, p5, p6, p7, p8⟩, by rw [hus]; simp [Value.oneCell']⟩)
  (fun hlm j W hj hb => by
   obtain ⟨_, _, _, _, _, _, _, _, _, _, p6⟩ := hu j hj
   obtain ⟨_, _, _, _, _, _, _, _, _, _, q6⟩ := hv j (by omega)
   have hs1 := hs _ (List.getElem_mem hj)
   rw [List.getElem?_eq_getElem hj, List.getElem?_eq_getElem (by omega : j < m.length)] at *
   refine (Tryz.sameFlow_any e e' l[j] m[j] (u j) (v j) W ((p6.below (hb.mono hB)).wider (Nat.le_trans hB hb.size)) ((q6.below (hb.mono hB)).wider (Nat.le_trans hB hb.size)) (by have := hb.size; omega) hs1.1 hs1.2).mono fun e w' h => ⟨?_, h.2⟩
   obtain ⟨r, hr1, hr2⟩ := h.1
   exact ⟨r, hr1, by rw [hr2, Option.some.injEq]⟩) hn
 refine key.mono fun e w' h => ⟨?_, h.2⟩
 obtain ⟨r, hr1, hr2⟩ := h.1
 refine ⟨r, hr1, hr2.trans ⟨fun h => Ak.all_get h.1 h.2, fun h => ?_⟩⟩
 subst h
 exact ⟨rfl, fun _ _ => rfl⟩
end Go.Proofs
