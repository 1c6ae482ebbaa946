import Derived.Test.YtdghjgiakblfmaaGreatDoorRAllTRefChk
namespace Go.Proofs
open Go.RowKit
theorem Rk.sweep_take {n : Nat} : ∀ (es : List (Nat × Nat)) (bs : List Bool), (∀ e, e ∈ es → e.1 < n ∧ e.2 < n) → (Rk.sweep es bs).take n = Rk.sweep es (bs.take n)
 | [], _, _ => rfl
 | e :: es, bs, h => by
   have h1 := h e List.mem_cons_self
   rw [Rk.sweep, Rk.sweep, Rk.sweep_take es _ (fun x hx => h x (List.mem_cons_of_mem _ hx))]
   congr 1
   rw [List.getElem?_take_of_lt h1.1]
   split
   ·rw [List.take_set]
   ·rfl
theorem Rk.sweeps_take {n : Nat} {es : List (Nat × Nat)} (h : ∀ e, e ∈ es → e.1 < n ∧ e.2 < n) : ∀ (k : Nat) (bs : List Bool), (Rk.sweeps es k bs).take n = Rk.sweeps es k (bs.take n)
 | 0, _ => rfl
 | k + 1, bs => by rw [Rk.sweeps, Rk.sweeps, Rk.sweeps_take h k, Rk.sweep_take es bs h]
theorem Nt.way_sweep {fs : List (Nat × Nat)} {n a : Nat} (hf : ∀ e, e ∈ fs → e.2 < n) : ∀ (es : List (Nat × Nat)) (bs : List Bool), (∀ e, e ∈ es → e ∈ fs) → Rk.Way fs n a bs → Rk.Way fs n a (Rk.sweep es bs)
 | [], _, _, h => h
 | e :: es, bs, hs, h => by
   rw [Rk.sweep]
   refine Nt.way_sweep hf es _ (fun x hx => hs x (List.mem_cons_of_mem _ hx)) ?_
   split
   ·next hx => exact h.mark (hs e List.mem_cons_self) hx (hf e (hs e List.mem_cons_self))
   ·exact h
theorem Nt.way_sweeps {fs : List (Nat × Nat)} {n a : Nat} (hf : ∀ e, e ∈ fs → e.2 < n) : ∀ (k : Nat) (bs : List Bool), Rk.Way fs n a bs → Rk.Way fs n a (Rk.sweeps fs k bs)
 | 0, _, h => h
 | k + 1, bs, h => Nt.way_sweeps hf k _ (Nt.way_sweep hf fs bs (fun _ h => h) h)
theorem Nt.sweeps_met {es : List (Nat × Nat)} {n a : Nat} (hes : ∀ e, e ∈ es → e.1 < n ∧ e.2 < n) (ha : a < n) : Rk.sweeps es n ((List.replicate n false).set a true) = (List.range n).map (Rk.met es a) := by
 refine (Nt.way_sweeps (fun e h => (hes e h).2) n _ (Rk.Way.start es ha)).done ?_
 refine Rk.sweeps_shut n _ (fun e h => by simpa using (hes e h).2) ?_
 have := Rk.left_le ((List.replicate n false).set a true)
 simpa using this
theorem Nt.sweeps_long {es : List (Nat × Nat)} {n a N : Nat} (hes : ∀ e, e ∈ es → e.1 < n ∧ e.2 < n) (ha : a < n) (hN : n ≤ N) (i : Nat) (hi : i < n) : (Rk.sweeps es n ((List.replicate N false).set a true))[i]? = some (Rk.met es a i) := by
 have h := Rk.sweeps_take hes n ((List.replicate N false).set a true)
 rw [List.take_set, List.take_replicate, Nat.min_eq_left hN, Nt.sweeps_met hes ha] at h
 rw [← List.getElem?_take_of_lt hi, h]
 simp [hi]
def Nt.back (es : List (Nat × Nat)) : List (Nat × Nat) := es.map fun e => (e.2, e.1)
theorem Nt.met_back (es : List (Nat × Nat)) (a b : Nat) : Rk.met (Nt.back es) b a = Rk.met es a b := by
 rw [Bool.eq_iff_iff, Rk.met_iff, Rk.met_iff]
 exact Rk.back_iff es a b
theorem Nt.back_lt {es : List (Nat × Nat)} {n : Nat} (hes : ∀ e, e ∈ es → e.1 < n ∧ e.2 < n) : ∀ e, e ∈ Nt.back es → e.1 < n ∧ e.2 < n := by
 intro e he
 obtain ⟨x, hx, rfl⟩ := List.mem_map.1 he
 have := hes x hx
 exact ⟨this.2, this.1⟩
theorem Nt.edges_lt {ns : List Nd} {fs : List Fl} (h : ∀ f, f ∈ fs → 0 ≤ f.fr ∧ f.fr < ns.length ∧ 0 ≤ f.to ∧ f.to < ns.length) : ∀ e, e ∈ Nt.edges fs → e.1 < ns.length ∧ e.2 < ns.length := by
 intro e he
 obtain ⟨f, hf, rfl⟩ := List.mem_map.1 he
 have := h f hf
 exact ⟨by show f.fr.toNat < _; omega, by show f.to.toNat < _; omega⟩
theorem Nt.edges_get (fs : List Fl) (k : Nat) (h : k < fs.length) : (Nt.edges fs)[k]'(by simpa [Nt.edges] using h) = (fs[k].fr.toNat, fs[k].to.toNat) := by simp [Nt.edges]
theorem Nt.edges_length (fs : List Fl) : (Nt.edges fs).length = fs.length := by simp [Nt.edges]
theorem Nt.back_length (es : List (Nat × Nat)) : (Nt.back es).length = es.length := by simp [Nt.back]
end Go.Proofs
namespace Go.Proofs
end Go.Proofs
