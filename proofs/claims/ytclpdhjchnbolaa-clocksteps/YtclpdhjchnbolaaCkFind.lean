/-
  Where an alarm is; how long it is until then; Left, Next, Tick; a nil clock.
-/
import Derived.Test.YtclpdhjchnbolaaCkSort
import Derived.Shelf.SlicesE.DeleteFunc
namespace Go.Proofs
open Go.RowKit Go.Shelf Go.Sort

/-- Where an id stands; -1: nowhere. -/
def Ck.Ix (L : List Ck.Al) (id r : Int) : Prop := (r = -1 ∧ ∀ a ∈ L, a.1 ≠ id) ∨ ∃ i : Nat, ∃ h : i < L.length, r = i ∧ L[i].1 = id
/-- What a clock keeps to. -/
structure Ck.Ok (now : Int) (L : List Ck.Al) : Prop where
  now : 0 ≤ now ∧ now ≤ 1099511627776
  at' : ∀ a ∈ L, 0 ≤ a.2 ∧ a.2 ≤ 1099511627776
  len : L.length ≤ 64
/-- How long it is until then. -/
def Ck.left (now t : Int) : Int := max 0 (t - now)

theorem Try.find1_any (bx : Nat) (id : Int) (a : Ck.Al) (W : World) (h : W.cell? ⟨bx, 0, none⟩ = some (.int .i64 id)) : Calls Try.prog 35 #[.agg #[.int .i64 a.1, .int .i64 a.2], .pointer (some ⟨bx, 0, none⟩)] W fun e w' => e = .returned (.bool (a.1 == id)) ∧ Below W.heap.size W w' := by
  obtain ⟨x, t⟩ := a
  have hlt : bx < W.heap.size := by
    rcases Nat.lt_or_ge bx W.heap.size with h1 | h1
    · exact h1
    · unfold World.cell? at h
      simp [h1] at h
  have h' : (W.alloc (.cells #[.int .i64 x, .int .i64 t] 62)).cell? ⟨bx, 0, none⟩ = some (.int .i64 id) := ((Below.refl _ W).alloc (Nat.le_refl _) _).cell (p := ⟨bx, 0, none⟩) hlt |>.trans h
  clear h
  go_enter Try.func35, Try.ntmps35
  go_wp2
  go_ret
  exact ⟨rfl, (Below.refl _ W).alloc (Nat.le_refl _) _⟩

theorem Try.idx_nil (cap : Nat) (fv : Value) (w : World) : Calls Try.prog 34 #[.slice none 0 cap, fv] w fun e w' => e = .returned (.int .i64 (-1)) ∧ Below w.heap.size w w' := by
  go_enter Try.func34, Try.ntmps34
  go_wp2
  refine wp_loop_rounds 1 ?_
  rw [rounds_succ]
  go_wp2
  go_ret
  exact ⟨rfl, Below.refl _ w⟩

theorem Try.find_nil (id : Int) (w : World) : Calls Try.prog 26 #[.pointer none, .int .i64 id] w fun e w' => e = .returned (.int .i64 (-1)) ∧ Below w.heap.size w w' := by
  go_enter Try.func26, Try.ntmps26
  go_wp2
  go_ret
  exact ⟨rfl, (Below.refl _ w).alloc (Nat.le_refl _) _⟩

theorem Ck.ix_of (L : List Ck.Al) (id : Int) : Ck.Ix L id (Lib.idxBy (fun _ y : Ck.Al => y.1 == id) (L.take L.length) default) := by
  rw [List.take_length]
  rcases idxByFrom_spec (fun _ y : Ck.Al => y.1 == id) default L 0 with ⟨e1, hall⟩ | ⟨k, hk, e1, ht, _⟩
  · refine .inl ⟨e1, fun a ha => ?_⟩
    obtain ⟨j, hj, rfl⟩ := List.getElem_of_mem ha
    have := hall j hj
    rw [getElem!_pos L j hj] at this
    simpa using this
  · refine .inr ⟨k, hk, ?_, ?_⟩
    · show Lib.idxByFrom _ _ _ _ = _
      rw [e1]; simp
    · rw [getElem!_pos L k hk] at ht
      simpa using ht

set_option maxHeartbeats 1000000 in
theorem Try.find_any {B c : Nat} {v : Value} {now : Int} {L : List Ck.Al} (id : Int) (w : World) (h : Ck.At B c v now L w) (hl : L.length ≤ 100) : Calls Try.prog 26 #[.pointer (some ⟨c, 0, none⟩), .int .i64 id] w fun e w' => (∃ r, e = .returned (.int .i64 r) ∧ Ck.Ix L id r) ∧ Below w.heap.size w w' := by
  obtain ⟨W1, hW1⟩ : ∃ y, w.alloc (.cells #[.int .i64 id] 3) = y := ⟨_, rfl⟩
  have b1 : Below w.heap.size w W1 := by rw [← hW1]; exact (Below.refl _ w).alloc (Nat.le_refl _) _
  have s1 : W1.heap.size = w.heap.size + 1 := by rw [← hW1]; simp
  have h1 := h.below b1 (Nat.le_refl _)
  have hn : W1.cell? ⟨w.heap.size, 0, none⟩ = some (.int .i64 id) := by
    have := heap_alloc_new w (.cells #[.int .i64 id] 3)
    rw [hW1] at this
    simp [World.cell?, this]
  have C : Calls Try.prog 34 #[v, .func (.func 35) #[] #[.pointer (some ⟨w.heap.size, 0, none⟩)]] W1 fun e w' => (∃ r, e = .returned (.int .i64 r) ∧ Ck.Ix L id r) ∧ Below W1.heap.size W1 w' := by
    rcases h1.row.2 with ⟨rfl, hn0⟩ | ⟨g, cap, cur, rfl, h3, h4, h5, h6, h7, h8⟩
    · have hL : L = [] := List.eq_nil_of_length_eq_zero hn0
      refine (Try.idx_nil 0 _ W1).mono fun e w' ⟨e1, e2⟩ => ⟨⟨_, e1, .inl ⟨rfl, ?_⟩⟩, e2⟩
      rw [hL]
      simp
    · have eg : ∀ args w, (callFunc 35 args).run Try.prog w = .ok (.enter 35 args) w := enters_of Try.func35 (by kernel_rfl) rfl
      have hcon := AnyQ.slices_IndexFunc Try.idxA 2 Try.isAgg62 Try.sizeOf62 Ck.enc (fun _ => rfl) (fun y : Ck.Al => y.1 == id) 35 #[.pointer (some ⟨w.heap.size, 0, none⟩)] eg g 0 L.length cap L W1
        (fun W x hb => (Try.find1_any w.heap.size id x W ((hb.cell (p := ⟨w.heap.size, 0, none⟩) (by show w.heap.size < _; omega)).trans hn)).mono fun _ _ ⟨e1, e2⟩ => ⟨e1, hb.trans (e2.mono hb.size)⟩)
        (Nat.le_refl _) (by omega) (Array.getElem?_eq_some_iff.1 h4).1
        (fun j hj i u hi => by
          obtain ⟨g', cap', e, _, _, k1, k2, _⟩ := h1.nth hj
          simp only [Value.slice.injEq, Option.some.injEq, Addr.mk.injEq] at e
          obtain ⟨⟨rfl, -, -⟩, -⟩ := e
          rw [getElem!_pos L j hj] at hi
          rw [Nat.zero_add]
          match i, hi with
          | 0, hi => simp [Ck.enc] at hi; subst hi; simpa using k1
          | 1, hi => simp [Ck.enc] at hi; subst hi; simpa using k2)
      change Calls Try.prog 34 _ _ _ at hcon
      exact hcon.mono fun e w' ⟨e1, e2⟩ => ⟨⟨_, e1, Ck.ix_of L id⟩, e2⟩
  have c1 := h1.c1
  have HC : Hid _ := C
  have HW : Hid (w.alloc (.cells #[.int .i64 id] 3) = W1) := hW1
  have HB : Hid (Below w.heap.size w W1) := b1
  clear C hW1 b1 s1 h1 hn h
  go_enter Try.func26, Try.ntmps26
  go_upto_region 1 with fail
  rw [HW.out]
  go_wp2_with fail
  refine Calls.mono HC.out ?_
  rintro e W2 ⟨⟨r, rfl, hr⟩, hb⟩
  have HR : Hid (Ck.Ix L id r) := hr
  clear hr
  go_wp2
  go_ret
  exact ⟨⟨_, rfl, HR.out⟩, HB.out.trans (hb.mono HB.out.size)⟩

set_option maxHeartbeats 1000000 in
theorem Try.left_any (c : Nat) (now : Int) (a : Ck.Al) (w : World) (h : w.cell? ⟨c, 0, none⟩ = some (.int .i64 now)) (h1 : 0 ≤ now ∧ now ≤ 1099511627776) (h2 : 0 ≤ a.2 ∧ a.2 ≤ 1099511627776) : Calls Try.prog 27 #[.pointer (some ⟨c, 0, none⟩), .agg #[.int .i64 a.1, .int .i64 a.2]] w fun e w' => e = .returned (.int .i64 (Ck.left now a.2)) ∧ Below w.heap.size w w' := by
  obtain ⟨x, t⟩ := a
  simp only at h2 ⊢
  have hlt : c < w.heap.size := by
    rcases Nat.lt_or_ge c w.heap.size with h1 | h1
    · exact h1
    · unfold World.cell? at h
      simp [h1] at h
  obtain ⟨W1, hW1⟩ : ∃ y, w.alloc (.cells #[.int .i64 x, .int .i64 t] 62) = y := ⟨_, rfl⟩
  have b1 : Below w.heap.size w W1 := by rw [← hW1]; exact (Below.refl _ w).alloc (Nat.le_refl _) _
  have hn : W1.cell? ⟨w.heap.size, 1, none⟩ = some (.int .i64 t) := by
    have := heap_alloc_new w (.cells #[.int .i64 x, .int .i64 t] 62)
    rw [hW1] at this
    simp [World.cell?, this]
  have hc : W1.cell? ⟨c, 0, none⟩ = some (.int .i64 now) := (b1.cell (p := ⟨c, 0, none⟩) hlt).trans h
  have C : Hid (∀ W : World, W.heap = W1.heap → Calls Try.prog 11 #[.pointer (some ⟨c, 0, none⟩)] W fun e w' => e = .returned (.int .i64 now) ∧ w' = W) := fun W hW => Try.cNow_any c now W (by unfold World.cell?; rw [hW]; exact hc)
  have HB : Hid (Below w.heap.size w W1) := b1
  have HW : Hid (w.alloc (.cells #[.int .i64 x, .int .i64 t] 62) = W1) := hW1
  have hwr : IntKind.i64.wrap (t - now) = t - now := Go.IntWalk.i64_in _ (by omega)
  clear hW1 b1 h h1 h2 hlt
  go_enter Try.func27, Try.ntmps27
  go_upto_region 1 with fail
  rw [HW.out]
  go_region_law (first | (go_simp; go_at_call 11; refine Calls.mono (C.out _ rfl) ?_; rintro e W3 ⟨rfl, rfl⟩) | fail)
  all_goals
    go_wp2
    go_ret
    exact ⟨rfl, HB.out.drew⟩

end Go.Proofs
