/-
  net.Copy ahead of its walk: the places of the terms of cloned nodes and flows; net.part.
-/
import Derived.Test.YtmpejbdmamgepaaDoorNtPartX
namespace Go.Proofs
open Go.RowKit Go.Shelf

/-- The places of a row's terms: in a block, each so many cells behind the one ahead of it. -/
def Pt.rowP (g s o : Nat) (ts : List Tm) : List Pl := (List.range ts.length).map fun j => ⟨g, j * s + o, ts[j]?.getD (.mk 0 0 [])⟩
theorem Pt.rowP_len (g s o : Nat) (ts : List Tm) : (Pt.rowP g s o ts).length = ts.length := by simp [Pt.rowP]
theorem Pt.mem_rowP {g s o : Nat} {ts : List Tm} {x : Pl} : x ∈ Pt.rowP g s o ts ↔ ∃ j, ∃ h : j < ts.length, x = ⟨g, j * s + o, ts[j]⟩ := by
  unfold Pt.rowP
  rw [List.mem_map]
  constructor
  · rintro ⟨j, hj, rfl⟩
    have hl := List.mem_range.1 hj
    exact ⟨j, hl, by rw [List.getElem?_eq_getElem hl]; rfl⟩
  · rintro ⟨j, hl, rfl⟩
    exact ⟨j, List.mem_range.2 hl, by rw [List.getElem?_eq_getElem hl]; rfl⟩
theorem Pt.rowP_get {g s o : Nat} {ts : List Tm} (j : Nat) (h : j < ts.length) : (Pt.rowP g s o ts)[j]? = some ⟨g, j * s + o, ts[j]⟩ := by
  unfold Pt.rowP
  rw [List.getElem?_map, List.getElem?_range h, Option.map_some, List.getElem?_eq_getElem h]
  rfl
theorem Pt.rowP_nodup (g s o : Nat) (ts : List Tm) (hs : 0 < s) : (Pt.pls (Pt.rowP g s o ts)).Nodup := by
  unfold Pt.pls Pt.rowP
  rw [List.map_map]
  unfold List.Nodup
  rw [List.pairwise_map]
  have h : (List.range ts.length).Nodup := List.nodup_range
  exact List.Pairwise.imp (fun hab e => hab (by
    have e2 := (Prod.mk.inj e).2
    simp only at e2
    exact Nat.eq_of_mul_eq_mul_right hs (by omega))) h
theorem Pt.wt_le (l : List Pl) (M : Nat) (h : ∀ x ∈ l, x.T.size ≤ M) : Pt.wt l ≤ l.length * M := by
  induction l with
  | nil => simp [Pt.wt]
  | cons x r ih =>
    rw [Pt.wt, List.length_cons, Nat.succ_mul]
    have h1 := h x List.mem_cons_self
    have h2 := ih fun y hy => h y (List.mem_cons_of_mem _ hy)
    omega
theorem Pt.owe_le : ∀ l : List Pl, Pt.owe l ≤ Pt.wt l
  | [] => Nat.le_refl _
  | x :: r => by rw [Pt.wt, Pt.owe]; have := Pt.owe_le r; omega
theorem Pt.ptrs_take (Q : List Pl) (k : Nat) (x : Pl) (h : Q[k]? = some x) : Pt.ptrs (Q.take (k + 1)) = Pt.ptrs (Q.take k) ++ [.pointer (some ⟨x.b, x.o, none⟩)] := by
  obtain ⟨hl, rfl⟩ := List.getElem?_eq_some_iff.1 h
  rw [List.take_succ_eq_append_getElem hl]
  unfold Pt.ptrs
  rw [List.map_append]
  rfl

/-- A row of nodes that was cloned: its terms' kids are still where they were. -/
def Pt.NRow (w : World) (B d : Nat) (ns : List Nd) (a : Option Addr) (A : Nat) (g : Nat) (W : World) : Prop :=
  ∀ j (h : j < ns.length), a = some ⟨g, 0, none⟩ ∧ A ≤ g ∧ ∃ cur, W.heap[g]? = some (.cells cur 37 (0, 0)) ∧
    cur[j * 5]? = some (.int .i64 ns[j].kind) ∧ cur[j * 5 + 1]? = some (.int .i64 ns[j].a) ∧ cur[j * 5 + 2]? = some (.int .i64 ns[j].t.op) ∧ cur[j * 5 + 3]? = some (.int .i64 ns[j].t.num) ∧ ∃ u, cur[j * 5 + 4]? = some u ∧ Tm.Lies w B d u ns[j].t
def Pt.FRow (w : World) (B d : Nat) (fs : List Fl) (a : Option Addr) (A : Nat) (g : Nat) (W : World) : Prop :=
  ∀ j (h : j < fs.length), a = some ⟨g, 0, none⟩ ∧ A ≤ g ∧ ∃ cur, W.heap[g]? = some (.cells cur 47 (0, 0)) ∧
    cur[j * 6]? = some (.int .i64 fs[j].fr) ∧ cur[j * 6 + 1]? = some (.int .i64 fs[j].to) ∧ cur[j * 6 + 2]? = some (.bool fs[j].els) ∧ cur[j * 6 + 3]? = some (.int .i64 fs[j].c.op) ∧ cur[j * 6 + 4]? = some (.int .i64 fs[j].c.num) ∧ ∃ u, cur[j * 6 + 5]? = some u ∧ Tm.Lies w B d u fs[j].c
theorem Pt.NRow.keep {w W W' : World} {B d A g : Nat} {ns : List Nd} {a : Option Addr} (h : Pt.NRow w B d ns a A g W) (hk : ∀ k, k < W.heap.size → A ≤ k → W'.heap[k]? = W.heap[k]?) : Pt.NRow w B d ns a A g W' := fun j hj => by
  obtain ⟨h1, h2, cur, h3, h4⟩ := h j hj
  exact ⟨h1, h2, cur, by rw [hk g (Array.getElem?_eq_some_iff.1 h3).1 h2]; exact h3, h4⟩
theorem Pt.FRow.keep {w W W' : World} {B d A g : Nat} {fs : List Fl} {a : Option Addr} (h : Pt.FRow w B d fs a A g W) (hk : ∀ k, k < W.heap.size → A ≤ k → W'.heap[k]? = W.heap[k]?) : Pt.FRow w B d fs a A g W' := fun j hj => by
  obtain ⟨h1, h2, cur, h3, h4⟩ := h j hj
  exact ⟨h1, h2, cur, by rw [hk g (Array.getElem?_eq_some_iff.1 h3).1 h2]; exact h3, h4⟩

theorem Pt.NRow.lower {w W : World} {B d A A' g : Nat} {ns : List Nd} {a : Option Addr} (h : Pt.NRow w B d ns a A g W) (hA : A' ≤ A) : Pt.NRow w B d ns a A' g W := fun j hj => by
  obtain ⟨h1, h2, h3⟩ := h j hj
  exact ⟨h1, by omega, h3⟩
theorem Pt.FRow.lower {w W : World} {B d A A' g : Nat} {fs : List Fl} {a : Option Addr} (h : Pt.FRow w B d fs a A g W) (hA : A' ≤ A) : Pt.FRow w B d fs a A' g W := fun j hj => by
  obtain ⟨h1, h2, h3⟩ := h j hj
  exact ⟨h1, by omega, h3⟩

/-- Cloned nodes and flows: all their terms are still to be copied. -/
theorem Pt.begin {w W : World} {B d A gn gf : Nat} {ns : List Nd} {fs : List Fl} {an af : Option Addr} (hb : Below B w W) (hA : B ≤ A) (hn : Pt.NRow w B d ns an A gn W) (hf : Pt.FRow w B d fs af A gf W) :
    Pt.Inv B d w (Pt.rowP gn 5 2 (ns.map Nd.t) ++ Pt.rowP gf 6 3 (fs.map Fl.c)) (Pt.pls (Pt.rowP gn 5 2 (ns.map Nd.t) ++ Pt.rowP gf 6 3 (fs.map Fl.c))) W := by
  have keep : ∀ {u T}, Tm.Lies w B d u T → Tm.Lies W B d u T := fun h => h.keep fun k hk => hb.block k hk
  have hne : ∀ j (_ : j < ns.length) k (_ : k < fs.length), gn ≠ gf := fun j hj k hk e => by
    obtain ⟨_, _, c1, h1, _⟩ := hn j hj
    obtain ⟨_, _, c2, h2, _⟩ := hf k hk
    rw [e, h2] at h1
    injection h1 with h1
    injection h1 with _ h1
    exact absurd h1 (by decide)
  have mem : ∀ x, x ∈ Pt.rowP gn 5 2 (ns.map Nd.t) ++ Pt.rowP gf 6 3 (fs.map Fl.c) → (∃ j, ∃ h : j < ns.length, x = ⟨gn, j * 5 + 2, ns[j].t⟩) ∨ ∃ j, ∃ h : j < fs.length, x = ⟨gf, j * 6 + 3, fs[j].c⟩ := fun x hx => by
    rcases List.mem_append.1 hx with hx | hx
    · obtain ⟨j, hj, rfl⟩ := Pt.mem_rowP.1 hx
      rw [List.length_map] at hj
      exact .inl ⟨j, hj, by simp⟩
    · obtain ⟨j, hj, rfl⟩ := Pt.mem_rowP.1 hx
      rw [List.length_map] at hj
      exact .inr ⟨j, hj, by simp⟩
  refine ⟨hb, fun x hx => ?_, fun x hx y hy e => ?_, ?_, fun s hs => ?_⟩
  · have hin : (x.b, x.o) ∈ Pt.pls (Pt.rowP gn 5 2 (ns.map Nd.t) ++ Pt.rowP gf 6 3 (fs.map Fl.c)) := List.mem_map.2 ⟨x, hx, rfl⟩
    rcases mem x hx with ⟨j, hj, rfl⟩ | ⟨j, hj, rfl⟩
    · obtain ⟨_, h2, cur, h3, _, _, c2, c3, u, c4, hu⟩ := hn j hj
      refine ⟨⟨cur, _, h3, by decide⟩, by show B ≤ gn; omega, ?_, ?_, u, ?_, .inl ⟨hin, keep hu⟩⟩
      · simp only [World.cell?, h3]; simpa using c2
      · simp only [World.cell?, h3]; simpa using c3
      · simp only [World.cell?, h3]; simpa using c4
    · obtain ⟨_, h2, cur, h3, _, _, _, c2, c3, u, c4, hu⟩ := hf j hj
      refine ⟨⟨cur, _, h3, by decide⟩, by show B ≤ gf; omega, ?_, ?_, u, ?_, .inl ⟨hin, keep hu⟩⟩
      · simp only [World.cell?, h3]; simpa using c2
      · simp only [World.cell?, h3]; simpa using c3
      · simp only [World.cell?, h3]; simpa using c4
  · rcases mem x hx with ⟨j, hj, rfl⟩ | ⟨j, hj, rfl⟩ <;> rcases mem y hy with ⟨k, hk, rfl⟩ | ⟨k, hk, rfl⟩
    · by_cases hjk : j = k
      · subst hjk; exact .inl ⟨rfl, rfl⟩
      · simp only; omega
    · exact (hne j hj k hk e).elim
    · exact (hne k hk j hj e.symm).elim
    · by_cases hjk : j = k
      · subst hjk; exact .inl ⟨rfl, rfl⟩
      · simp only; omega
  · show List.Nodup _
    unfold Pt.pls
    rw [List.map_append, List.nodup_append]
    refine ⟨Pt.rowP_nodup _ _ _ _ (by decide), Pt.rowP_nodup _ _ _ _ (by decide), fun s hs t ht e => ?_⟩
    obtain ⟨x, hx, rfl⟩ := List.mem_map.1 hs
    obtain ⟨y, hy, rfl⟩ := List.mem_map.1 ht
    obtain ⟨j, hj, rfl⟩ := Pt.mem_rowP.1 hx
    obtain ⟨k, hk, rfl⟩ := Pt.mem_rowP.1 hy
    rw [List.length_map] at hj hk
    exact hne j hj k hk (Prod.mk.inj e).1
  · obtain ⟨x, hx, rfl⟩ := List.mem_map.1 hs
    exact ⟨x, hx, rfl⟩

theorem Tryd.cloneNodes {d : Nat} {w : World} {ns : List Nd} {an : Option Addr} {cn : Nat} (hN : Nt.Nds w w.heap.size d an ns) (hn : ns.length ≤ 1000000) (W : World) (hb : Below w.heap.size w W) :
    Calls Tryd.prog 37 #[.slice an ns.length cn] W fun e W1 => ∃ a' c' g, e = .returned (.slice a' ns.length c') ∧ Hid (Below W.heap.size W W1) ∧ Hid (Pt.NRow w w.heap.size d ns a' W.heap.size g W1) := by
  cases an with
  | none =>
    have h0 : ns.length = 0 := by
      rcases Nat.eq_zero_or_pos ns.length with h | h
      · exact h
      · obtain ⟨g, off, u, ha, _⟩ := hN 0 h
        cases ha
    rw [h0]
    refine (Tryd.cloneNode_nil W cn).mono ?_
    rintro e W1 ⟨rfl, rfl⟩
    exact ⟨none, 0, 0, rfl, Below.refl _ _, fun j hj => by omega⟩
  | some ad =>
    by_cases h0 : ns.length = 0
    · rw [h0]
      refine (Tryd.cloneNode_any ad 0 cn [] W rfl (fun j v hv => by simp at hv) (fun v hv => by simp at hv) (fun h => by omega) (by omega)).mono ?_
      rintro e W1 ⟨g, c', rfl, H⟩
      exact ⟨_, _, g, rfl, H.out.2.2, fun j hj => by omega⟩
    · obtain ⟨g0, off, u0, had, hg0, -⟩ := hN 0 (by omega)
      simp only [Option.some.injEq] at had
      subst had
      have hcell : ∀ j (hj : j < ns.length), ∃ u, W.cell? ⟨g0, off + j * 5, none⟩ = some (.int .i64 ns[j].kind) ∧ W.cell? ⟨g0, off + j * 5 + 1, none⟩ = some (.int .i64 ns[j].a) ∧ W.cell? ⟨g0, off + j * 5 + 2, none⟩ = some (.int .i64 ns[j].t.op) ∧ W.cell? ⟨g0, off + j * 5 + 3, none⟩ = some (.int .i64 ns[j].t.num) ∧ W.cell? ⟨g0, off + j * 5 + 4, none⟩ = some u ∧ Tm.Lies w w.heap.size d u ns[j].t := fun j hj => by
        obtain ⟨g, o, u, ha, hg, c0, c1, c2, c3, c4, hT⟩ := hN j hj
        simp only [Option.some.injEq, Addr.mk.injEq, and_true] at ha
        obtain ⟨rfl, rfl⟩ := ha
        have hcc : ∀ o, W.cell? ⟨g0, o, none⟩ = w.cell? ⟨g0, o, none⟩ := fun o => hb.cell (p := ⟨g0, o, none⟩) hg
        exact ⟨u, (hcc _).trans c0, (hcc _).trans c1, (hcc _).trans c2, (hcc _).trans c3, (hcc _).trans c4, hT⟩
      let cl : Nat → Value := fun i => (W.cell? ⟨g0, off + i, none⟩).getD undef
      have hcl : ∀ j (hj : j < ns.length), cl (j * 5) = .int .i64 ns[j].kind ∧ cl (j * 5 + 1) = .int .i64 ns[j].a ∧ cl (j * 5 + 2) = .int .i64 ns[j].t.op ∧ cl (j * 5 + 3) = .int .i64 ns[j].t.num ∧ Tm.Lies w w.heap.size d (cl (j * 5 + 4)) ns[j].t := fun j hj => by
        obtain ⟨u, k0, k1, k2, k3, k4, k5⟩ := hcell j hj
        refine ⟨?_, ?_, ?_, ?_, ?_⟩
        · simp only [cl]; rw [k0]; rfl
        · simp only [cl]; rw [← Nat.add_assoc, k1]; rfl
        · simp only [cl]; rw [← Nat.add_assoc, k2]; rfl
        · simp only [cl]; rw [← Nat.add_assoc, k3]; rfl
        · simp only [cl]; rw [← Nat.add_assoc, k4]; exact k5
      have hone : ∀ i, i < ns.length * 5 → W.cell? ⟨g0, off + i, none⟩ = some (cl i) ∧ (cl i).oneCell' = true := fun i hi => by
        obtain ⟨u, k0, k1, k2, k3, k4, k5⟩ := hcell (i / 5) (by omega)
        obtain ⟨a, cap, e4⟩ := k5.shape
        have hi5 : i = i / 5 * 5 ∨ i = i / 5 * 5 + 1 ∨ i = i / 5 * 5 + 2 ∨ i = i / 5 * 5 + 3 ∨ i = i / 5 * 5 + 4 := by omega
        rw [Nat.add_assoc] at k1 k2 k3 k4
        rcases hi5 with e | e | e | e | e
        · rw [← e] at k0; simp only [cl]; rw [k0]; exact ⟨rfl, rfl⟩
        · rw [← e] at k1; simp only [cl]; rw [k1]; exact ⟨rfl, rfl⟩
        · rw [← e] at k2; simp only [cl]; rw [k2]; exact ⟨rfl, rfl⟩
        · rw [← e] at k3; simp only [cl]; rw [k3]; exact ⟨rfl, rfl⟩
        · rw [← e] at k4; simp only [cl]; rw [k4, e4]; exact ⟨rfl, rfl⟩
      have hget : ∀ i, i < ns.length * 5 → ((List.range (ns.length * 5)).map cl)[i]? = some (cl i) := fun i hi => by simp [hi]
      refine (Tryd.cloneNode_any ⟨g0, off, none⟩ ns.length cn ((List.range (ns.length * 5)).map cl) W (by simp) (fun j v hv => ?_) (fun v hv => ?_) (fun _ => Nat.lt_of_lt_of_le hg0 hb.size) hn).mono ?_
      · have hj : j < ns.length * 5 := by have := (List.getElem?_eq_some_iff.1 hv).1; simpa using this
        rw [hget j hj] at hv
        rw [Pt.add_off, (hone j hj).1, hv]
      · obtain ⟨i, hi, rfl⟩ := List.mem_map.1 hv
        exact (hone i (List.mem_range.1 hi)).2
      · rintro e W1 ⟨g, c', rfl, H⟩
        obtain ⟨hg, ⟨cur, hgc, htake⟩, hb1⟩ := H.out
        have hcur : ∀ i, i < ns.length * 5 → cur[i]? = some (cl i) := fun i hi => by
          have := hget i hi
          rw [← htake, List.getElem?_take_of_lt hi] at this
          simpa using this
        refine ⟨_, _, g, rfl, hb1, fun j hj => ⟨rfl, hg, cur, hgc, ?_⟩⟩
        obtain ⟨k0, k1, k2, k3, k4⟩ := hcl j hj
        rw [hcur _ (by omega), hcur _ (by omega), hcur _ (by omega), hcur _ (by omega), k0, k1, k2, k3]
        exact ⟨rfl, rfl, rfl, rfl, _, hcur _ (by omega), k4⟩

theorem Tryd.cloneFlows {d : Nat} {w : World} {fs : List Fl} {af : Option Addr} {cf : Nat} (hF : Nt.Fls w w.heap.size d af fs) (hn : fs.length ≤ 1000000) (W : World) (hb : Below w.heap.size w W) :
    Calls Tryd.prog 38 #[.slice af fs.length cf] W fun e W1 => ∃ a' c' g, e = .returned (.slice a' fs.length c') ∧ Hid (Below W.heap.size W W1) ∧ Hid (Pt.FRow w w.heap.size d fs a' W.heap.size g W1) := by
  cases af with
  | none =>
    have h0 : fs.length = 0 := by
      rcases Nat.eq_zero_or_pos fs.length with h | h
      · exact h
      · obtain ⟨g, off, u, ha, _⟩ := hF 0 h
        cases ha
    rw [h0]
    refine (Tryd.cloneFlow_nil W cf).mono ?_
    rintro e W1 ⟨rfl, rfl⟩
    exact ⟨none, 0, 0, rfl, Below.refl _ _, fun j hj => by omega⟩
  | some ad =>
    by_cases h0 : fs.length = 0
    · rw [h0]
      refine (Tryd.cloneFlow_any ad 0 cf [] W rfl (fun j v hv => by simp at hv) (fun v hv => by simp at hv) (fun h => by omega) (by omega)).mono ?_
      rintro e W1 ⟨g, c', rfl, H⟩
      exact ⟨_, _, g, rfl, H.out.2.2, fun j hj => by omega⟩
    · obtain ⟨g0, off, u0, had, hg0, -⟩ := hF 0 (by omega)
      simp only [Option.some.injEq] at had
      subst had
      have hcell : ∀ j (hj : j < fs.length), ∃ u, W.cell? ⟨g0, off + j * 6, none⟩ = some (.int .i64 fs[j].fr) ∧ W.cell? ⟨g0, off + j * 6 + 1, none⟩ = some (.int .i64 fs[j].to) ∧ W.cell? ⟨g0, off + j * 6 + 2, none⟩ = some (.bool fs[j].els) ∧ W.cell? ⟨g0, off + j * 6 + 3, none⟩ = some (.int .i64 fs[j].c.op) ∧ W.cell? ⟨g0, off + j * 6 + 4, none⟩ = some (.int .i64 fs[j].c.num) ∧ W.cell? ⟨g0, off + j * 6 + 5, none⟩ = some u ∧ Tm.Lies w w.heap.size d u fs[j].c := fun j hj => by
        obtain ⟨g, o, u, ha, hg, c0, c1, c2, c3, c4, c5, hT⟩ := hF j hj
        simp only [Option.some.injEq, Addr.mk.injEq, and_true] at ha
        obtain ⟨rfl, rfl⟩ := ha
        have hcc : ∀ o, W.cell? ⟨g0, o, none⟩ = w.cell? ⟨g0, o, none⟩ := fun o => hb.cell (p := ⟨g0, o, none⟩) hg
        exact ⟨u, (hcc _).trans c0, (hcc _).trans c1, (hcc _).trans c2, (hcc _).trans c3, (hcc _).trans c4, (hcc _).trans c5, hT⟩
      let cl : Nat → Value := fun i => (W.cell? ⟨g0, off + i, none⟩).getD undef
      have hcl : ∀ j (hj : j < fs.length), cl (j * 6) = .int .i64 fs[j].fr ∧ cl (j * 6 + 1) = .int .i64 fs[j].to ∧ cl (j * 6 + 2) = .bool fs[j].els ∧ cl (j * 6 + 3) = .int .i64 fs[j].c.op ∧ cl (j * 6 + 4) = .int .i64 fs[j].c.num ∧ Tm.Lies w w.heap.size d (cl (j * 6 + 5)) fs[j].c := fun j hj => by
        obtain ⟨u, k0, k1, k2, k3, k4, k5, k6⟩ := hcell j hj
        refine ⟨?_, ?_, ?_, ?_, ?_, ?_⟩
        · simp only [cl]; rw [k0]; rfl
        · simp only [cl]; rw [← Nat.add_assoc, k1]; rfl
        · simp only [cl]; rw [← Nat.add_assoc, k2]; rfl
        · simp only [cl]; rw [← Nat.add_assoc, k3]; rfl
        · simp only [cl]; rw [← Nat.add_assoc, k4]; rfl
        · simp only [cl]; rw [← Nat.add_assoc, k5]; exact k6
      have hone : ∀ i, i < fs.length * 6 → W.cell? ⟨g0, off + i, none⟩ = some (cl i) ∧ (cl i).oneCell' = true := fun i hi => by
        obtain ⟨u, k0, k1, k2, k3, k4, k5, k6⟩ := hcell (i / 6) (by omega)
        obtain ⟨a, cap, e4⟩ := k6.shape
        have hi5 : i = i / 6 * 6 ∨ i = i / 6 * 6 + 1 ∨ i = i / 6 * 6 + 2 ∨ i = i / 6 * 6 + 3 ∨ i = i / 6 * 6 + 4 ∨ i = i / 6 * 6 + 5 := by omega
        rw [Nat.add_assoc] at k1 k2 k3 k4 k5
        rcases hi5 with e | e | e | e | e | e
        · rw [← e] at k0; simp only [cl]; rw [k0]; exact ⟨rfl, rfl⟩
        · rw [← e] at k1; simp only [cl]; rw [k1]; exact ⟨rfl, rfl⟩
        · rw [← e] at k2; simp only [cl]; rw [k2]; exact ⟨rfl, rfl⟩
        · rw [← e] at k3; simp only [cl]; rw [k3]; exact ⟨rfl, rfl⟩
        · rw [← e] at k4; simp only [cl]; rw [k4]; exact ⟨rfl, rfl⟩
        · rw [← e] at k5; simp only [cl]; rw [k5, e4]; exact ⟨rfl, rfl⟩
      have hget : ∀ i, i < fs.length * 6 → ((List.range (fs.length * 6)).map cl)[i]? = some (cl i) := fun i hi => by simp [hi]
      refine (Tryd.cloneFlow_any ⟨g0, off, none⟩ fs.length cf ((List.range (fs.length * 6)).map cl) W (by simp) (fun j v hv => ?_) (fun v hv => ?_) (fun _ => Nat.lt_of_lt_of_le hg0 hb.size) hn).mono ?_
      · have hj : j < fs.length * 6 := by have := (List.getElem?_eq_some_iff.1 hv).1; simpa using this
        rw [hget j hj] at hv
        rw [Pt.add_off, (hone j hj).1, hv]
      · obtain ⟨i, hi, rfl⟩ := List.mem_map.1 hv
        exact (hone i (List.mem_range.1 hi)).2
      · rintro e W1 ⟨g, c', rfl, H⟩
        obtain ⟨hg, ⟨cur, hgc, htake⟩, hb1⟩ := H.out
        have hcur : ∀ i, i < fs.length * 6 → cur[i]? = some (cl i) := fun i hi => by
          have := hget i hi
          rw [← htake, List.getElem?_take_of_lt hi] at this
          simpa using this
        refine ⟨_, _, g, rfl, hb1, fun j hj => ⟨rfl, hg, cur, hgc, ?_⟩⟩
        obtain ⟨k0, k1, k2, k3, k4, k5⟩ := hcl j hj
        rw [hcur _ (by omega), hcur _ (by omega), hcur _ (by omega), hcur _ (by omega), hcur _ (by omega), k0, k1, k2, k3, k4]
        exact ⟨rfl, rfl, rfl, rfl, rfl, _, hcur _ (by omega), k5⟩

set_option maxRecDepth 20000 in
set_option maxHeartbeats 4000000 in
theorem Tryd.npart_any (B d : Nat) (w W : World) (L Q : List Pl) (v : Value) (h : Pt.Inv B d w L (Pt.pls Q) W) (hQ : ∀ x ∈ Q, x ∈ L) (hv : W.ownsRow B 66 1 v Q.length (Pt.ptrs Q)) (hw : Pt.wt Q ≤ 1000000) (hB : B ≤ W.heap.size) (w0 : World) (L0 : List Pl) (hK : Pt.Kept w0 L0 L W) :
    Calls Tryd.prog 39 #[v] W fun e w' => e = .returned (.tuple #[]) ∧ Hid (∃ L', (∀ x ∈ L, x ∈ L') ∧ Pt.Inv B d w L' [] w' ∧ Pt.Kept w0 L0 L' w') := by
  have HC : Hid _ := Tryd.part_any B d w W L Q v h hQ hv hw (Nat.le_trans (Pt.owe_le Q) hw) hB w0 L0 hK
  clear h hQ hv hw hB hK
  go_enter Tryd.func39, Tryd.ntmps39
  go_wp2_with fail
  refine Calls.mono HC.out ?_
  rintro e W1 ⟨rfl, hL⟩
  have HL : Hid _ := hL
  clear hL HC
  go_wp2
  go_end0
  exact ⟨rfl, HL.out⟩

end Go.Proofs
