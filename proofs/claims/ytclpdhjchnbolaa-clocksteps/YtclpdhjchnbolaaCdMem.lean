/-
  The document's clock in memory; where an alarm is; Tick.
-/
import Derived.Test.YtclpdhjchnbolaaCkTwo
namespace Go.Proofs
open Go.RowKit Go.Shelf Go.Sort

/-- The document's clock: its time, its alarms in a row of its own. -/
structure Cd.At (B c : Nat) (v : Value) (now : Int) (L : List Ck.Al) (w : World) : Prop where
  low : B ≤ c
  blk : w.heap[c]? = some (.cells #[.int .i64 now, v] 29 (0, 0))
  row : w.ownsRow B 40 2 v L.length (Ck.cells L)

theorem Cd.At.lt {B c : Nat} {v : Value} {now : Int} {L : List Ck.Al} {w : World} (h : Cd.At B c v now L w) : c < w.heap.size := (Array.getElem?_eq_some_iff.1 h.blk).1
theorem Cd.At.c0 {B c : Nat} {v : Value} {now : Int} {L : List Ck.Al} {w : World} (h : Cd.At B c v now L w) : w.cell? ⟨c, 0, none⟩ = some (.int .i64 now) := by simp [World.cell?, h.blk]
theorem Cd.At.c1 {B c : Nat} {v : Value} {now : Int} {L : List Ck.Al} {w : World} (h : Cd.At B c v now L w) : w.cell? ⟨c, 1, none⟩ = some v := by simp [World.cell?, h.blk]
theorem Cd.At.fz {B c : Nat} {v : Value} {now : Int} {L : List Ck.Al} {w : World} (h : Cd.At B c v now L w) (i : Nat) : w.frozen? ⟨c, i, none⟩ = false := by simp [World.frozen?, h.blk]
theorem Cd.At.far {B c : Nat} {v : Value} {now : Int} {L : List Ck.Al} {w : World} (h : Cd.At B c v now L w) : v.ownBlock ≠ some c := fun e => by
  rcases h.row.2 with ⟨rfl, _⟩ | ⟨g, cap, cur, rfl, _, h4, _⟩
  · cases e
  · have : g = c := by simpa [Value.ownBlock] using e
    subst this
    rw [h.blk] at h4
    simp at h4
theorem Cd.At.keep {B c : Nat} {v : Value} {now : Int} {L : List Ck.Al} {w w' : World} (h : Cd.At B c v now L w) (h1 : w'.heap[c]? = w.heap[c]?) (h2 : ∀ b, v.ownBlock = some b → w'.heap[b]? = w.heap[b]?) : Cd.At B c v now L w' := by
  refine ⟨h.low, h1.trans h.blk, h.row.1, ?_⟩
  rcases h.row.2 with hn | ⟨g, cap, cur, rfl, h3, h4, h5⟩
  · exact .inl hn
  · exact .inr ⟨g, cap, cur, rfl, h3, (h2 g rfl).trans h4, h5⟩
theorem Cd.At.rlt {B c : Nat} {v : Value} {now : Int} {L : List Ck.Al} {w : World} (h : Cd.At B c v now L w) (b : Nat) (e : v.ownBlock = some b) : b < w.heap.size := (h.row.lt b e).2
theorem Cd.At.but {E : Nat → Prop} {B c : Nat} {v : Value} {now : Int} {L : List Ck.Al} {w w' : World} (h : Cd.At B c v now L w) (hb : Tk.But E w w') (h1 : ¬ E c) (h2 : ∀ b, v.ownBlock = some b → ¬ E b) : Cd.At B c v now L w' :=
  h.keep (hb.block c h.lt h1) fun b e => hb.block b (h.rlt b e) (h2 b e)
theorem Cd.At.below {D : Nat} {B c : Nat} {v : Value} {now : Int} {L : List Ck.Al} {w w' : World} (h : Cd.At B c v now L w) (hb : Below D w w') (hB : w.heap.size ≤ D) : Cd.At B c v now L w' :=
  h.keep (hb.block c (by have := h.lt; omega)) fun b e => hb.block b (by have := h.rlt b e; omega)
theorem Cd.At.alloc {B c : Nat} {v : Value} {now : Int} {L : List Ck.Al} {w : World} (h : Cd.At B c v now L w) (x : Obj) : Cd.At B c v now L (w.alloc x) := h.below ((Below.refl w.heap.size w).alloc (Nat.le_refl _) x) (Nat.le_refl _)

/-- Where alarm j lies. -/
theorem Cd.At.nth {B c : Nat} {v : Value} {now : Int} {L : List Ck.Al} {w : World} (h : Cd.At B c v now L w) {j : Nat} (hj : j < L.length) : ∃ g cap, v = .slice (some ⟨g, 0, none⟩) L.length cap ∧ g < w.heap.size ∧ L.length ≤ cap ∧ w.cell? ⟨g, j * 2, none⟩ = some (.int .i64 L[j].1) ∧ w.cell? ⟨g, j * 2 + 1, none⟩ = some (.int .i64 L[j].2) ∧ ∀ o, w.frozen? ⟨g, o, none⟩ = false := by
  rcases h.row.2 with ⟨_, hn⟩ | ⟨g, cap, cur, rfl, h3, h4, h5, h6, h7, h8⟩
  · omega
  · have key : ∀ (M : List Ck.Al) (i : Nat) (hi : i < M.length), (Ck.cells M)[i * 2]? = some (.int .i64 M[i].1) ∧ (Ck.cells M)[i * 2 + 1]? = some (.int .i64 M[i].2) := by
      intro M
      induction M with
      | nil => intro i hi; simp at hi
      | cons a r ih =>
        intro i hi
        have hc : Ck.cells (a :: r) = .int .i64 a.1 :: .int .i64 a.2 :: Ck.cells r := rfl
        rw [hc]
        cases i with
        | zero => simp
        | succ i =>
          have := ih i (by simpa using hi)
          rw [show (i + 1) * 2 = i * 2 + 1 + 1 by omega]
          simpa using this
    have hk := key L j hj
    rw [← h8, List.getElem?_take, List.getElem?_take, if_pos (by omega), if_pos (by omega), Array.getElem?_toList, Array.getElem?_toList] at hk
    refine ⟨g, cap, rfl, (Array.getElem?_eq_some_iff.1 h4).1, h5, ?_, ?_, fun o => by simp [World.frozen?, h4]⟩
    · simp only [World.cell?, h4]; exact hk.1
    · simp only [World.cell?, h4]; exact hk.2
theorem Cd.At.shape {B c : Nat} {v : Value} {now : Int} {L : List Ck.Al} {w : World} (h : Cd.At B c v now L w) : ∃ a cap, v = .slice a L.length cap := by
  rcases h.row.2 with ⟨e, hn⟩ | ⟨g', cap, cur, e, _⟩
  · exact ⟨none, 0, by rw [e, hn]⟩
  · exact ⟨_, _, e⟩

theorem Cd.At.tick {B c : Nat} {v : Value} {now : Int} {L : List Ck.Al} {w : World} (h : Cd.At B c v now L w) (n : Int) : Cd.At B c v n L (w.setCell ⟨c, 0, none⟩ (.int .i64 n)) := by
  refine ⟨h.low, by simp [World.setCell, Array.getElem?_modify, h.blk], h.row.1, ?_⟩
  rcases h.row.2 with hn | ⟨g, cap, cur, rfl, h3, h4, h5⟩
  · exact .inl hn
  · exact .inr ⟨g, cap, cur, rfl, h3, (Below.heap_setCell _ _ _ _ (fun e => h.far (by simp [Value.ownBlock]; exact e))).trans h4, h5⟩

/-- Another row. -/
theorem Cd.At.rerow {B c : Nat} {v v' : Value} {now : Int} {L L' : List Ck.Al} {w w' : World} (h : Cd.At B c v now L w) (hb : w'.heap[c]? = w.heap[c]?) (ho : w'.ownsRow B 40 2 v' L'.length (Ck.cells L')) : Cd.At B c v' now L' (w'.setCell ⟨c, 1, none⟩ v') := by
  have hc := hb.trans h.blk
  refine ⟨h.low, by simp [World.setCell, Array.getElem?_modify, hc], ho.1, ?_⟩
  rcases ho.2 with hn | ⟨g, cap, cur, rfl, h3, h4, h5⟩
  · exact .inl hn
  · refine .inr ⟨g, cap, cur, rfl, h3, (Below.heap_setCell _ _ _ _ (fun e => ?_)).trans h4, h5⟩
    have e' : g = c := e
    rw [e', hc] at h4
    simp at h4


set_option maxRecDepth 20000 in
set_option maxHeartbeats 4000000 in
theorem Try.rAt_any {B q : Nat} {v : Value} {now : Int} {M : List Ck.Al} (id : Int) (w : World) (h : Cd.At B q v now M w) (h64 : M.length ≤ 64) : Calls Try.prog 13 #[.pointer (some ⟨q, 0, none⟩), .int .i64 id] w fun e w' => (∃ r, e = .returned (.int .i64 r) ∧ Ck.Ix M id r) ∧ Below w.heap.size w w' := by
  have c1 := h.c1
  obtain ⟨n, hn⟩ : ∃ n, M.length = n := ⟨_, rfl⟩
  obtain ⟨va, vc, hv⟩ := h.shape
  rw [hn] at hv h64
  subst hv
  have H : Hid (Cd.At B q (.slice va n vc) now M w ∧ M.length = n) := ⟨h, hn⟩
  clear h hn
  go_enter Try.func13, Try.ntmps13
  go_wp2
  go_loopg [5, 6, 12] n (fun gk _ _ s12 wr => ∃ k : Nat, gk + k = n ∧ s12 = .int .i64 k ∧ Hid ((∀ i (h : i < M.length), i < k → M[i].1 ≠ id) ∧ Below w.heap.size w wr))
  case atStart => exact ⟨0, by omega, rfl, ⟨fun i _ h => absurd h (by omega), Below.refl _ w⟩⟩
  case round =>
    obtain ⟨k, hk, rfl, HB⟩ := hrel
    by_cases hlt : k < n
    · have hd : decide ((k : Int) < n) = true := decide_eq_true (by omega)
      have hkl : k < M.length := by rw [H.out.2]; exact hlt
      have h1 := H.out.1.below HB.out.2 (Nat.le_refl _)
      obtain ⟨g, cap, hv, hg, hcap, k1, k2, _⟩ := h1.nth hkl
      rw [H.out.2] at hv
      simp only [Value.slice.injEq, true_and] at hv
      obtain ⟨rfl, rfl⟩ := hv
      obtain ⟨⟨x, t⟩, hx⟩ : ∃ x, M[k] = x := ⟨_, rfl⟩
      rw [hx] at k1 k2
      simp only at k1 k2
      have HX : Hid (∃ h : k < M.length, M[k].1 = x) := ⟨hkl, by rw [hx]⟩
      have HK : Hid ((wr.alloc (.cells #[.int .i64 0, .int .i64 0] 40)).heap[wr.heap.size]? = some (.cells #[.int .i64 0, .int .i64 0] 40 (0, 0))) := heap_alloc_new wr _
      obtain ⟨V0, hV0⟩ : ∃ z, (wr.alloc (.cells #[.int .i64 0, .int .i64 0] 40)).setRow wr.heap.size #[.int .i64 x, .int .i64 t] = z := ⟨_, rfl⟩
      have HV0 : Hid _ := hV0
      have GV : V0.heap[wr.heap.size]? = some (.cells #[.int .i64 x, .int .i64 t] 40 (0, 0)) := by show _ = _; rw [← hV0]; exact setRow_heap _ _ _ _ _ _ HK.out
      have BV : Hid (Below w.heap.size w V0) := by
        show Below _ _ _
        have : Below wr.heap.size wr V0 := by
          rw [← hV0]
          exact ((Below.refl _ wr).alloc (Nat.le_refl _) _).trans ⟨rfl, rfl, rfl, by simp [World.setRow], fun k hk => setRow_other _ _ _ _ (by omega)⟩
        exact HB.out.2.trans (this.mono HB.out.2.size)
      have v0 : V0.cell? ⟨wr.heap.size, 0, none⟩ = some (.int .i64 x) := by simp [World.cell?, GV]
      have hk0 : (0 : Int) ≤ k := by omega
      have hlt' : (k : Int) < n := by omega
      clear h1 hx hV0 hcap hg GV
      by_cases he : x = id
      · have e1 : (x == id) = true := by simp [he]
        have HE : Hid (x = id) := he
        clear he
        go_upto_region 4 with (refine wpList_store_row rfl 40 _ _ rfl wr.heap.size #[.int .i64 x, .int .i64 t] rfl rfl 40 _ HK.out (by kernel_rfl) rfl (by kernel_rfl) ?_)
        rw [HV0.out]
        go_wp2
        go_ret
        obtain ⟨h, e⟩ := HX.out
        exact ⟨⟨_, rfl, .inr ⟨k, h, rfl, e.trans HE.out⟩⟩, BV.out⟩
      · have e1 : (x == id) = false := by simp [he]
        have HE : Hid (¬ x = id) := he
        clear he
        go_upto_region 4 with (refine wpList_store_row rfl 40 _ _ rfl wr.heap.size #[.int .i64 x, .int .i64 t] rfl rfl 40 _ HK.out (by kernel_rfl) rfl (by kernel_rfl) ?_)
        rw [HV0.out]
        go_wp2
        go_roundg (gk - 1)
        case measure => omega
        case rel =>
          refine ⟨k + 1, by omega, by go_num, ⟨fun i h hi => ?_, BV.out⟩⟩
          rcases Nat.lt_or_ge i k with h1 | h1
          · exact HB.out.1 i h h1
          · have : i = k := by omega
            subst this
            obtain ⟨_, e⟩ := HX.out
            rw [e]
            exact HE.out
    · have hd : decide ((k : Int) < n) = false := decide_eq_false (by omega)
      have hkn : k = n := by omega
      have HN : Hid (∀ a ∈ M, a.1 ≠ id) := fun a ha => by
        obtain ⟨i, hi, rfl⟩ := List.getElem_of_mem ha
        exact HB.out.1 i hi (by have := H.out.2; omega)
      clear hkn
      go_wp2
      go_ret
      exact ⟨⟨_, rfl, .inl ⟨rfl, HN.out⟩⟩, HB.out.2⟩

set_option maxHeartbeats 2000000 in
theorem Try.rTick_any {B q : Nat} {v : Value} {now : Int} {M : List Ck.Al} (n : Int) (w : World) (h : Cd.At B q v now M w) (ho : Ck.Ok now M) : Calls Try.prog 24 #[.pointer (some ⟨q, 0, none⟩), .int .i64 n] w fun e w' => e = .returned (.int .i64 (Ck.tickE now n)) ∧ Cd.At B q v (Ck.tickN now n) M w' ∧ Tk.But (fun x => x = q) w w' := by
  have c0 := h.c0
  have f0 := h.fz 0
  have hnow := ho.now
  have H : Hid (Cd.At B q v now M w) := h
  by_cases h1 : n < 0
  · have tf : Ck.time n = false := by unfold Ck.time; simp; omega
    have e1 : Ck.tickE now n = 1 := by unfold Ck.tickE; rw [if_pos tf]
    have e2 : Ck.tickN now n = now := by unfold Ck.tickN; rw [e1, if_neg (by omega)]
    rw [e1, e2]
    have d1 : decide (n < 0) = true := decide_eq_true h1
    clear h ho h1 tf e1 e2 hnow
    go_enter Try.func24, Try.ntmps24
    go_wp2
    go_ret
    exact ⟨rfl, H.out, Tk.But.refl _ _⟩
  · have d1 : decide (n < 0) = false := decide_eq_false h1
    by_cases h2 : 1099511627776 < n
    · have tf : Ck.time n = false := by unfold Ck.time; simp; omega
      have e1 : Ck.tickE now n = 1 := by unfold Ck.tickE; rw [if_pos tf]
      have e2 : Ck.tickN now n = now := by unfold Ck.tickN; rw [e1, if_neg (by omega)]
      rw [e1, e2]
      have d2 : decide (1099511627776 < n) = true := decide_eq_true h2
      clear h ho h1 h2 tf e1 e2 hnow
      go_enter Try.func24, Try.ntmps24
      go_wp2
      go_ret
      exact ⟨rfl, H.out, Tk.But.refl _ _⟩
    · have d2 : decide (1099511627776 < n) = false := decide_eq_false h2
      have tt : Ck.time n = true := Ck.time_iff.2 (by omega)
      have hwr : IntKind.i64.wrap (now + n) = now + n := Go.IntWalk.i64_in _ (by omega)
      by_cases h3 : 1099511627776 < now + n
      · have tf : Ck.time (now + n) = false := by unfold Ck.time; simp; omega
        have e1 : Ck.tickE now n = 40 := by unfold Ck.tickE; rw [if_neg (by rw [tt]; decide), if_pos tf]
        have e2 : Ck.tickN now n = now := by unfold Ck.tickN; rw [e1, if_neg (by omega)]
        rw [e1, e2]
        have d3 : decide (1099511627776 < now + n) = true := decide_eq_true h3
        clear h ho h1 h2 h3 tf e1 e2 hnow tt
        go_enter Try.func24, Try.ntmps24
        go_wp2
        go_ret
        exact ⟨rfl, H.out, Tk.But.refl _ _⟩
      · have tf : Ck.time (now + n) = true := Ck.time_iff.2 (by omega)
        have e1 : Ck.tickE now n = 0 := by unfold Ck.tickE; rw [if_neg (by rw [tt]; decide), if_neg (by rw [tf]; decide)]
        have e2 : Ck.tickN now n = now + n := by unfold Ck.tickN; rw [e1, if_pos rfl]
        rw [e1, e2]
        have d3 : decide (1099511627776 < now + n) = false := decide_eq_false h3
        clear h ho h1 h2 h3 tf e1 e2 hnow tt
        go_enter Try.func24, Try.ntmps24
        go_wp2
        go_ret
        exact ⟨rfl, H.out.tick _, (Tk.But.refl (fun x => x = q) w).setCell (p := ⟨q, 0, none⟩) rfl _⟩

set_option maxHeartbeats 2000000 in
theorem Try.rLeft_any {B q : Nat} {v : Value} {now : Int} {M : List Ck.Al} (i : Nat) (hi : i < M.length) (w : World) (h : Cd.At B q v now M w) (ho : Ck.Ok now M) : Calls Try.prog 14 #[.pointer (some ⟨q, 0, none⟩), .int .i64 i] w fun e w' => e = .returned (.int .i64 (Ck.left now M[i].2)) ∧ Below w.heap.size w w' := by
  have c0 := h.c0
  have c1 := h.c1
  have hnow := ho.now
  have hat := ho.at' _ (List.getElem_mem hi)
  obtain ⟨g, cap, hv, hg, hcap, k1, k2, _⟩ := h.nth hi
  obtain ⟨n, hn⟩ : ∃ n, M.length = n := ⟨_, rfl⟩
  rw [hn] at hv
  subst hv
  obtain ⟨⟨x, t⟩, hx⟩ : ∃ x, M[i] = x := ⟨_, rfl⟩
  rw [hx] at k2 hat ⊢
  simp only at k2 hat ⊢
  have hi0 : (0 : Int) ≤ i := by omega
  have hin : (i : Int) < n := by omega
  by_cases hl : t ≤ now
  · have d1 : decide (t ≤ now) = true := decide_eq_true hl
    have e1 : Ck.left now t = 0 := by unfold Ck.left; omega
    rw [e1]
    clear hl e1 hat hnow h ho hx k1 hcap hg hn
    go_enter Try.func14, Try.ntmps14
    go_upto_region 1 with fail
    go_quiet (fail)
    all_goals
      go_wp2
      go_ret
      exact ⟨rfl, Tk.below_drewN (Below.refl _ w) _⟩
  · have d1 : decide (t ≤ now) = false := decide_eq_false hl
    have e1 : Ck.left now t = t - now := by unfold Ck.left; omega
    have hwr : IntKind.i64.wrap (t - now) = t - now := Go.IntWalk.i64_in _ (by omega)
    rw [e1]
    clear hl e1 hat hnow h ho hx k1 hcap hg hn
    go_enter Try.func14, Try.ntmps14
    go_upto_region 1 with fail
    go_quiet (fail)
    all_goals
      go_wp2
      go_quiet (fail)
      all_goals
        go_wp2
        go_ret
        exact ⟨rfl, Tk.below_drewN (Tk.below_drewN (Below.refl _ w) _) _⟩

end Go.Proofs
