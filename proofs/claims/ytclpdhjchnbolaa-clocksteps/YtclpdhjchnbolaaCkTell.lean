/-
  What a clock tells: Left, Next, Tick; a nil clock's.
-/
import Derived.Test.YtclpdhjchnbolaaCkFind
namespace Go.Proofs
open Go.RowKit Go.Shelf Go.Sort

theorem Try.cLeft_nil (id : Int) (w : World) : Calls Try.prog 12 #[.pointer none, .int .i64 id] w fun e w' => e = .returned (.tuple #[.int .i64 0, .bool false]) ∧ Below w.heap.size w w' := by
  have C := Try.find_nil id w
  go_enter Try.func12, Try.ntmps12
  go_wp2_with (go_at_call 26; refine Calls.mono C ?_; rintro e w' ⟨rfl, hb⟩)
  go_ret2
  exact ⟨rfl, hb⟩
theorem Try.cNext_nil (w : World) : Calls Try.prog 17 #[.pointer none] w fun e w' => e = .returned (.tuple #[.int .i64 0, .bool false]) ∧ w' = w := by
  go_enter Try.func17, Try.ntmps17
  go_wp2
  go_ret2
  exact ⟨rfl, rfl⟩
theorem Try.cDue_nil (w : World) : Calls Try.prog 15 #[.pointer none] w fun e w' => e = .returned (.slice none 0 0) ∧ w' = w := by
  go_enter Try.func15, Try.ntmps15
  go_wp2
  go_ret
  exact ⟨rfl, rfl⟩
theorem Try.cDrop_nil (id : Int) (w : World) : Calls Try.prog 21 #[.pointer none, .int .i64 id] w fun e w' => e = .returned (.int .i64 7) ∧ w' = w := by
  go_enter Try.func21, Try.ntmps21
  go_wp2
  go_ret
  exact ⟨rfl, rfl⟩
/-- Tick of a nil clock. -/
def Ck.nilE (b : Bool) : Int := if b = true then 7 else 1
theorem Try.cTick_nil (n : Int) (w : World) : Calls Try.prog 19 #[.pointer none, .int .i64 n] w fun e w' => e = .returned (.int .i64 (Ck.nilE (Ck.time n))) ∧ w' = w := by
  have C := Try.cIsTime_any n w
  cases hq : Ck.time n
  all_goals
    rw [hq] at C
    go_enter Try.func19, Try.ntmps19
    go_wp2_with (go_at_call 28; refine Calls.mono C ?_; rintro e w' ⟨rfl, rfl⟩)
    go_ret
    exact ⟨rfl, rfl⟩
theorem Try.cSet_nil (id n : Int) (w : World) : Calls Try.prog 18 #[.pointer none, .int .i64 id, .int .i64 n] w fun e w' => e = .returned (.int .i64 (Ck.nilE (decide (0 ≤ id) && Ck.time n))) ∧ w' = w := by
  have C := Try.cIsTime_any n w
  by_cases h : id < 0
  · have d : decide (id < 0) = true := decide_eq_true h
    have d' : decide (0 ≤ id) = false := decide_eq_false (by omega)
    rw [d']
    clear h d'
    go_enter Try.func18, Try.ntmps18
    go_wp2
    go_ret
    exact ⟨rfl, rfl⟩
  · have d : decide (id < 0) = false := decide_eq_false h
    have d' : decide (0 ≤ id) = true := decide_eq_true (by omega)
    rw [d']
    clear h d'
    cases hq : Ck.time n
    all_goals
      rw [hq] at C
      go_enter Try.func18, Try.ntmps18
      go_wp2_with (go_at_call 28; refine Calls.mono C ?_; rintro e w' ⟨rfl, rfl⟩)
      go_ret
      exact ⟨rfl, rfl⟩

/-- What Left tells. -/
def Ck.Lft (now : Int) (L : List Ck.Al) (id n : Int) (b : Bool) : Prop := (b = false ∧ n = 0 ∧ ∀ a ∈ L, a.1 ≠ id) ∨ (b = true ∧ ∃ i : Nat, ∃ h : i < L.length, L[i].1 = id ∧ n = Ck.left now L[i].2)

set_option maxHeartbeats 1000000 in
theorem Try.cLeft_any {B c : Nat} {v : Value} {now : Int} {L : List Ck.Al} (id : Int) (w : World) (h : Ck.At B c v now L w) (ho : Ck.Ok now L) : Calls Try.prog 12 #[.pointer (some ⟨c, 0, none⟩), .int .i64 id] w fun e w' => (∃ n b, e = .returned (.tuple #[.int .i64 n, .bool b]) ∧ Ck.Lft now L id n b) ∧ Below w.heap.size w w' := by
  have C : Hid _ := Try.find_any id w h (by have := ho.len; omega)
  have H : Hid (Ck.At B c v now L w ∧ Ck.Ok now L) := ⟨h, ho⟩
  clear h ho
  go_enter Try.func12, Try.ntmps12
  go_wp2_with fail
  refine Calls.mono C.out ?_
  rintro e W1 ⟨⟨r, rfl, hr⟩, hb⟩
  have HB : Hid (Below w.heap.size w W1) := hb
  rcases hr with ⟨rfl, hno⟩ | ⟨i, hi, rfl, hid⟩
  · have HN : Hid (∀ a ∈ L, a.1 ≠ id) := hno
    clear hno hb
    go_wp2
    go_ret2
    exact ⟨⟨_, _, rfl, .inl ⟨rfl, rfl, HN.out⟩⟩, HB.out⟩
  · have h1 := H.out.1.below hb (Nat.le_refl _)
    have c1 := h1.c1
    obtain ⟨g, cap, hv, hg, hcap, k1, k2, _⟩ := h1.nth hi
    obtain ⟨n, hn⟩ : ∃ n, L.length = n := ⟨_, rfl⟩
    rw [hn] at hv
    subst hv
    have C2 : Hid _ := Try.left_any c now L[i] W1 h1.c0 H.out.2.now (H.out.2.at' _ (List.getElem_mem hi))
    obtain ⟨⟨x, t⟩, hx⟩ : ∃ x, L[i] = x := ⟨_, rfl⟩
    have HX : Hid (L[i] = (x, t) ∧ L[i].1 = id) := ⟨hx, hid⟩
    rw [hx] at k1 k2 C2
    simp only at k1 k2 C2
    have HL := hn
    have hlt : (i : Int) < n := by omega
    have hle : (0 : Int) ≤ i := by omega
    have d1 : decide ((i : Int) < 0) = false := decide_eq_false (by omega)
    have HN : Hid (L.length = n) := hn
    clear hx hid h1 hb hn HL hcap hg
    go_wp2_with fail
    refine Calls.mono C2.out ?_
    rintro e W2 ⟨rfl, hb⟩
    go_wp2
    go_ret2
    exact ⟨⟨_, _, rfl, .inr ⟨rfl, i, hi, HX.out.2, by rw [HX.out.1]⟩⟩, HB.out.trans (hb.mono HB.out.size)⟩

set_option maxHeartbeats 1000000 in
theorem Try.cNext_any {B c : Nat} {v : Value} {now : Int} {L : List Ck.Al} (w : World) (h : Ck.At B c v now L w) (ho : Ck.Ok now L) : Calls Try.prog 17 #[.pointer (some ⟨c, 0, none⟩)] w fun e w' => (∃ n b, e = .returned (.tuple #[.int .i64 n, .bool b]) ∧ ((b = false ∧ n = 0 ∧ L = []) ∨ (b = true ∧ ∃ h : 0 < L.length, n = Ck.left now L[0].2))) ∧ Below w.heap.size w w' := by
  have c1 := h.c1
  by_cases hl : L.length = 0
  · obtain ⟨a, cap, hv⟩ := h.shape
    rw [hl] at hv
    subst hv
    have HL : Hid (L = []) := List.eq_nil_of_length_eq_zero hl
    clear hl h
    go_enter Try.func17, Try.ntmps17
    go_wp2
    go_ret2
    exact ⟨⟨_, _, rfl, .inl ⟨rfl, rfl, HL.out⟩⟩, Below.refl _ w⟩
  · have hi : 0 < L.length := by omega
    obtain ⟨g, cap, hv, hg, hcap, k1, k2, _⟩ := h.nth hi
    obtain ⟨n, hn⟩ : ∃ n, L.length = n := ⟨_, rfl⟩
    rw [hn] at hv
    subst hv
    have C2 : Hid _ := Try.left_any c now L[0] w h.c0 ho.now (ho.at' _ (List.getElem_mem hi))
    obtain ⟨⟨x, t⟩, hx⟩ : ∃ x, L[0] = x := ⟨_, rfl⟩
    have HX : Hid (L[0] = (x, t)) := hx
    rw [hx] at k1 k2 C2
    simp only [Nat.zero_mul, Nat.zero_add] at k1 k2 C2
    have hlt : (0 : Int) < n := by omega
    have hltn : 0 < n := by omega
    have d1 : ((n : Int) == 0) = false := by simp; omega
    clear hx h hn hcap hg hl
    go_enter Try.func17, Try.ntmps17
    go_wp2_with fail
    refine Calls.mono C2.out ?_
    rintro e W2 ⟨rfl, hb⟩
    go_wp2
    go_ret2
    exact ⟨⟨_, _, rfl, .inr ⟨rfl, hi, by rw [HX.out]⟩⟩, hb⟩

/-- Tick's answer, and what the time is behind it. -/
def Ck.tickE (now n : Int) : Int := if Ck.time n = false then 1 else if Ck.time (now + n) = false then 40 else 0
def Ck.tickN (now n : Int) : Int := if Ck.tickE now n = 0 then now + n else now
theorem Ck.At.tick {B c : Nat} {v : Value} {now : Int} {L : List Ck.Al} {w : World} (h : Ck.At B c v now L w) (n : Int) : Ck.At B c v n L (w.setCell ⟨c, 0, none⟩ (.int .i64 n)) := by
  refine ⟨h.low, by simp [World.setCell, Array.getElem?_modify, h.blk], h.row.1, ?_⟩
  rcases h.row.2 with hn | ⟨g, cap, cur, rfl, h3, h4, h5⟩
  · exact .inl hn
  · exact .inr ⟨g, cap, cur, rfl, h3, (Below.heap_setCell _ _ _ _ (fun e => h.far (by simp [Value.ownBlock]; exact e))).trans h4, h5⟩

set_option maxHeartbeats 1000000 in
theorem Try.cTick_any {B c : Nat} {v : Value} {now : Int} {L : List Ck.Al} (n : Int) (w : World) (h : Ck.At B c v now L w) (ho : Ck.Ok now L) : Calls Try.prog 19 #[.pointer (some ⟨c, 0, none⟩), .int .i64 n] w fun e w' => e = .returned (.int .i64 (Ck.tickE now n)) ∧ Ck.At B c v (Ck.tickN now n) L w' ∧ Tk.But (fun x => x = c) w w' := by
  have C : Hid (∀ (m : Int) (W : World), Calls Try.prog 28 #[.int .i64 m] W fun e w' => e = .returned (.bool (Ck.time m)) ∧ w' = W) := Try.cIsTime_any
  have H : Hid (Ck.At B c v now L w) := h
  cases hq : Ck.time n with
  | false =>
    have e1 : Ck.tickE now n = 1 := by unfold Ck.tickE; rw [if_pos hq]
    have e2 : Ck.tickN now n = now := by unfold Ck.tickN; rw [e1, if_neg (by omega)]
    rw [e1, e2]
    have C1 := C.out n w
    rw [hq] at C1
    clear hq e1 e2 h C
    go_enter Try.func19, Try.ntmps19
    go_wp2_with (go_at_call 28; refine Calls.mono C1 ?_; rintro e w' ⟨rfl, rfl⟩)
    go_ret
    exact ⟨rfl, H.out, Tk.But.refl _ _⟩
  | true =>
    have hr := Ck.time_iff.1 hq
    have hn := ho.now
    have hwr : IntKind.i64.wrap (now + n) = now + n := Go.IntWalk.i64_in _ (by omega)
    have C1 : Hid _ := C.out n w
    rw [hq] at C1
    have C2 : Hid _ := Try.cNow_any c now w h.c0
    cases hp : Ck.time (now + n) with
    | false =>
      have e1 : Ck.tickE now n = 40 := by unfold Ck.tickE; rw [if_neg (by rw [hq]; decide), if_pos hp]
      have e2 : Ck.tickN now n = now := by unfold Ck.tickN; rw [e1, if_neg (by omega)]
      rw [e1, e2]
      have C3 : Hid _ := C.out (now + n) w
      rw [hp] at C3
      clear hq e1 e2 h C hr hn hp ho
      go_enter Try.func19, Try.ntmps19
      go_wp2_with fail
      refine Calls.mono C1.out ?_
      rintro e w' ⟨rfl, hw⟩
      obtain rfl := hw.symm
      go_wp2_with fail
      refine Calls.mono C2.out ?_
      rintro e w' ⟨rfl, hw⟩
      obtain rfl := hw.symm
      go_wp2_with fail
      refine Calls.mono C3.out ?_
      rintro e w' ⟨rfl, hw⟩
      obtain rfl := hw.symm
      go_wp2
      go_ret
      exact ⟨rfl, H.out, Tk.But.refl _ _⟩
    | true =>
      have e1 : Ck.tickE now n = 0 := by unfold Ck.tickE; rw [if_neg (by rw [hq]; decide), if_neg (by rw [hp]; decide)]
      have e2 : Ck.tickN now n = now + n := by unfold Ck.tickN; rw [e1, if_pos rfl]
      rw [e1, e2]
      have C3 : Hid _ := C.out (now + n) w
      rw [hp] at C3
      have C4 : Hid _ := Try.cStore_any c now (now + n) w h.c0 (h.fz 0)
      clear hq e1 e2 h C hr hn hp ho
      go_enter Try.func19, Try.ntmps19
      go_wp2_with fail
      refine Calls.mono C1.out ?_
      rintro e w' ⟨rfl, hw⟩
      obtain rfl := hw.symm
      go_wp2_with fail
      refine Calls.mono C2.out ?_
      rintro e w' ⟨rfl, hw⟩
      obtain rfl := hw.symm
      go_wp2_with fail
      refine Calls.mono C3.out ?_
      rintro e w' ⟨rfl, hw⟩
      obtain rfl := hw.symm
      go_wp2_with fail
      refine Calls.mono C4.out ?_
      rintro e w' ⟨rfl, rfl⟩
      go_wp2
      go_ret
      exact ⟨rfl, H.out.tick _, (Tk.But.refl (fun x => x = c) w).setCell (p := ⟨c, 0, none⟩) rfl _⟩

end Go.Proofs
