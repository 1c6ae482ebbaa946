/-
  Each function of layer 9, of the program and of the document, over any graph: one answer for both.
-/
import Derived.Test.YtkbenpgmadnkcaaRkThree
namespace Go.Proofs
open Go.RowKit Go.Shelf

/-- Edges as numbers from nought on. -/
def Rk.down (rs : List (Int × Int)) : List (Nat × Nat) := rs.map fun e => (e.1.toNat, e.2.toNat)
theorem Rk.down_up (es : List (Nat × Nat)) : Rk.down (Rk.up es) = es := by
  rw [Rk.down, Rk.up, List.map_map]
  exact (List.map_congr_left fun e _ => by simp).trans (List.map_id es)

/-- What Meets answers. -/
noncomputable def Rk.meetsR (n : Int) (rs : List (Int × Int)) (f : Int) : List Nat × Int :=
  if Rk.chk n rs ≠ 0 then ([], Rk.chk n rs) else if Rk.inB n f = false then ([], 6) else ((List.range n.toNat).filter (Rk.met (Rk.down rs) f.toNat), 0)
/-- What Round answers. -/
noncomputable def Rk.roundR (n : Int) (rs : List (Int × Int)) : List Nat × Int :=
  if Rk.chk n rs ≠ 0 then ([], Rk.chk n rs) else ((List.range n.toNat).filter (fun i => Rk.lead (Rk.down rs) i i), 0)
/-- What Order answers. -/
def Rk.ordR (n : Int) (rs : List (Int × Int)) : List Nat × Int :=
  if Rk.chk n rs ≠ 0 then ([], Rk.chk n rs) else Rk.orderR n.toNat (Rk.down rs)
/-- What Between answers. -/
noncomputable def Rk.betR (n : Int) (rs : List (Int × Int)) (x y : Int) : List Nat × Int :=
  if Rk.chk n rs ≠ 0 then ([], Rk.chk n rs) else if (Rk.inB n x && Rk.inB n y) = false then ([], 6) else ((List.range n.toNat).filter (fun i => Rk.met (Rk.down rs) x.toNat i && Rk.met (Rk.down rs) i y.toNat), 0)

/-- A list and an error, as a call returns them. -/
def Rk.Gives (r : List Nat × Int) (w : World) (e : Ending) (w' : World) : Prop :=
  ∃ v, e = .returned (.tuple #[v, .int .i64 r.2]) ∧ w'.ownsRow w.heap.size 3 1 v r.1.length (Rk.nums r.1) ∧ Below w.heap.size w w'
theorem Rk.gives_nil {err : Int} {w w' : World} {e : Ending} (h : e = .returned (.tuple #[.slice none 0 0, .int .i64 err]) ∧ Below w.heap.size w w') : Rk.Gives ([], err) w e w' := ⟨_, h.1, World.ownsRow_nil _ _ _ _, h.2⟩

theorem Try.meets_all (n f : Int) (a : Option Addr) (c : Nat) (rs : List (Int × Int)) (w : World) (hE : Rk.Eds w w.heap.size a rs) (hm : rs.length ≤ 1000000000000000) :
    Calls Try.prog 10 #[.int .i64 n, .slice a rs.length c, .int .i64 f] w (Rk.Gives (Rk.meetsR n rs f) w) := by
  unfold Rk.meetsR
  split
  · next h => exact (Try.meets_err n f _ a c rs w hE hm rfl h).mono fun _ _ h => Rk.gives_nil h
  · next h =>
    have h0 : Rk.chk n rs = 0 := Decidable.not_not.1 h
    split
    · next h1 => exact (Try.meets_none n f a c rs w hE hm h0 h1).mono fun _ _ h => Rk.gives_nil h
    · next h1 =>
      obtain ⟨k, es, rfl, hk, rfl, hl, hes⟩ := Rk.chk_ok h0
      have hf := (Rk.inB_iff _ _).1 (Bool.not_eq_false _ ▸ h1)
      obtain ⟨i, rfl⟩ : ∃ i : Nat, f = i := ⟨f.toNat, by omega⟩
      rw [Rk.down_up, Rk.up_length, Int.toNat_natCast, Int.toNat_natCast]
      exact Try.meets_ok k i a c es w hk (by omega) hes hE (by omega) h0

theorem Try.rmeets_all (n f : Int) (a : Option Addr) (c : Nat) (rs : List (Int × Int)) (w : World) (hE : Rk.Eds w w.heap.size a rs) (hm : rs.length ≤ 1000000000000000) :
    Calls Try.prog 11 #[.int .i64 n, .slice a rs.length c, .int .i64 f] w (Rk.Gives (Rk.meetsR n rs f) w) := by
  unfold Rk.meetsR
  split
  · next h => exact (Try.rmeets_err n f _ a c rs w hE hm rfl h).mono fun _ _ h => Rk.gives_nil h
  · next h =>
    have h0 : Rk.chk n rs = 0 := Decidable.not_not.1 h
    split
    · next h1 => exact (Try.rmeets_none n f a c rs w hE hm h0 h1).mono fun _ _ h => Rk.gives_nil h
    · next h1 =>
      obtain ⟨k, es, rfl, hk, rfl, hl, hes⟩ := Rk.chk_ok h0
      have hf := (Rk.inB_iff _ _).1 (Bool.not_eq_false _ ▸ h1)
      obtain ⟨i, rfl⟩ : ∃ i : Nat, f = i := ⟨f.toNat, by omega⟩
      rw [Rk.down_up, Rk.up_length, Int.toNat_natCast, Int.toNat_natCast]
      exact Try.rmeets_ok k i a c es w hk (by omega) hes hE (by omega) h0

theorem Try.round_all (n : Int) (a : Option Addr) (c : Nat) (rs : List (Int × Int)) (w : World) (hE : Rk.Eds w w.heap.size a rs) (hm : rs.length ≤ 1000000000000000) :
    Calls Try.prog 12 #[.int .i64 n, .slice a rs.length c] w (Rk.Gives (Rk.roundR n rs) w) := by
  unfold Rk.roundR
  split
  · next h => exact (Try.round_err n _ a c rs w hE hm rfl h).mono fun _ _ h => Rk.gives_nil h
  · next h =>
    have h0 : Rk.chk n rs = 0 := Decidable.not_not.1 h
    obtain ⟨k, es, rfl, hk, rfl, hl, hes⟩ := Rk.chk_ok h0
    rw [Rk.down_up, Rk.up_length, Int.toNat_natCast]
    exact Try.round_ok k a c es w hk hes hE (by omega) h0

theorem Try.rround_all (n : Int) (a : Option Addr) (c : Nat) (rs : List (Int × Int)) (w : World) (hE : Rk.Eds w w.heap.size a rs) (hm : rs.length ≤ 1000000000000000) :
    Calls Try.prog 13 #[.int .i64 n, .slice a rs.length c] w (Rk.Gives (Rk.roundR n rs) w) := by
  unfold Rk.roundR
  split
  · next h => exact (Try.rround_err n _ a c rs w hE hm rfl h).mono fun _ _ h => Rk.gives_nil h
  · next h =>
    have h0 : Rk.chk n rs = 0 := Decidable.not_not.1 h
    obtain ⟨k, es, rfl, hk, rfl, hl, hes⟩ := Rk.chk_ok h0
    rw [Rk.down_up, Rk.up_length, Int.toNat_natCast]
    exact Try.rround_ok k a c es w hk hes hE (by omega) h0

theorem Try.order_all (n : Int) (a : Option Addr) (c : Nat) (rs : List (Int × Int)) (w : World) (hE : Rk.Eds w w.heap.size a rs) (hm : rs.length ≤ 1000000000000000) :
    Calls Try.prog 17 #[.int .i64 n, .slice a rs.length c] w (Rk.Gives (Rk.ordR n rs) w) := by
  unfold Rk.ordR
  split
  · next h => exact (Try.order_err n _ a c rs w hE hm rfl h).mono fun _ _ h => Rk.gives_nil h
  · next h =>
    have h0 : Rk.chk n rs = 0 := Decidable.not_not.1 h
    obtain ⟨k, es, rfl, hk, rfl, hl, hes⟩ := Rk.chk_ok h0
    rw [Rk.down_up, Rk.up_length, Int.toNat_natCast]
    exact Try.order_ok k a c es w hk hes hE (by omega) h0

theorem Try.rorder_all (n : Int) (a : Option Addr) (c : Nat) (rs : List (Int × Int)) (w : World) (hE : Rk.Eds w w.heap.size a rs) (hm : rs.length ≤ 1000000000000000) :
    Calls Try.prog 18 #[.int .i64 n, .slice a rs.length c] w (Rk.Gives (Rk.ordR n rs) w) := by
  unfold Rk.ordR
  split
  · next h => exact (Try.rorder_err n _ a c rs w hE hm rfl h).mono fun _ _ h => Rk.gives_nil h
  · next h =>
    have h0 : Rk.chk n rs = 0 := Decidable.not_not.1 h
    obtain ⟨k, es, rfl, hk, rfl, hl, hes⟩ := Rk.chk_ok h0
    rw [Rk.down_up, Rk.up_length, Int.toNat_natCast]
    exact Try.rorder_ok k a c es w hk hes hE (by omega) h0

theorem Try.between_all (n x y : Int) (a : Option Addr) (c : Nat) (rs : List (Int × Int)) (w : World) (hE : Rk.Eds w w.heap.size a rs) (hm : rs.length ≤ 1000000000000000) :
    Calls Try.prog 19 #[.int .i64 n, .slice a rs.length c, .int .i64 x, .int .i64 y] w (Rk.Gives (Rk.betR n rs x y) w) := by
  unfold Rk.betR
  split
  · next h => exact (Try.between_err n x y _ a c rs w hE hm rfl h).mono fun _ _ h => Rk.gives_nil h
  · next h =>
    have h0 : Rk.chk n rs = 0 := Decidable.not_not.1 h
    split
    · next h1 => exact (Try.between_none n x y a c rs w hE hm h0 h1).mono fun _ _ h => Rk.gives_nil h
    · next h1 =>
      obtain ⟨k, es, rfl, hk, rfl, hl, hes⟩ := Rk.chk_ok h0
      rw [Bool.not_eq_false, Bool.and_eq_true, Rk.inB_iff, Rk.inB_iff] at h1
      obtain ⟨i, rfl⟩ : ∃ i : Nat, x = i := ⟨x.toNat, by omega⟩
      obtain ⟨j, rfl⟩ : ∃ i : Nat, y = i := ⟨y.toNat, by omega⟩
      simp only [Rk.down_up, Rk.up_length, Int.toNat_natCast]
      exact Try.between_ok k i j a c es w hk (by omega) (by omega) hes hE (by omega) h0

theorem Try.rbetween_all (n x y : Int) (a : Option Addr) (c : Nat) (rs : List (Int × Int)) (w : World) (hE : Rk.Eds w w.heap.size a rs) (hm : rs.length ≤ 1000000000000000) :
    Calls Try.prog 20 #[.int .i64 n, .slice a rs.length c, .agg #[.int .i64 x, .int .i64 y]] w (Rk.Gives (Rk.betR n rs x y) w) := by
  unfold Rk.betR
  split
  · next h => exact (Try.rbetween_err n x y _ a c rs w hE hm rfl h).mono fun _ _ h => Rk.gives_nil h
  · next h =>
    have h0 : Rk.chk n rs = 0 := Decidable.not_not.1 h
    split
    · next h1 => exact (Try.rbetween_none n x y a c rs w hE hm h0 h1).mono fun _ _ h => Rk.gives_nil h
    · next h1 =>
      obtain ⟨k, es, rfl, hk, rfl, hl, hes⟩ := Rk.chk_ok h0
      rw [Bool.not_eq_false, Bool.and_eq_true, Rk.inB_iff, Rk.inB_iff] at h1
      obtain ⟨i, rfl⟩ : ∃ i : Nat, x = i := ⟨x.toNat, by omega⟩
      obtain ⟨j, rfl⟩ : ∃ i : Nat, y = i := ⟨y.toNat, by omega⟩
      simp only [Rk.down_up, Rk.up_length, Int.toNat_natCast]
      exact Try.rbetween_ok k i j a c es w hk (by omega) (by omega) hes hE (by omega) h0

theorem Try.ints_same (a b : Option Addr) (c d : Nat) (L : List Nat) (w : World) (hL : Rk.Nums w w.heap.size a L) (hM : Rk.Nums w w.heap.size b L) (h1 : L.length ≤ 1000000) :
    Calls Try.prog 14 #[.slice a L.length c, .slice b L.length d] w fun e w' => e = .returned (.bool true) ∧ Below w.heap.size w w' := by
  have h := Try.ints_any a b c d L L w hL hM h1 h1
  rwa [decide_eq_true (rfl : L = L)] at h
theorem Rk.filter_small (n : Nat) (hn : n ≤ 64) (p : Nat → Bool) : ((List.range n).filter p).length ≤ 64 := by
  have := List.length_filter_le p (List.range n)
  rw [List.length_range] at this
  omega
theorem Rk.meetsR_small (n : Int) (rs : List (Int × Int)) (f : Int) : (Rk.meetsR n rs f).1.length ≤ 64 := by
  unfold Rk.meetsR
  split
  · simp
  · next h =>
    split
    · simp
    · obtain ⟨k, es, rfl, hk, _⟩ := Rk.chk_ok (Decidable.not_not.1 h)
      exact Rk.filter_small _ (by simpa using hk) _
theorem Rk.roundR_small (n : Int) (rs : List (Int × Int)) : (Rk.roundR n rs).1.length ≤ 64 := by
  unfold Rk.roundR
  split
  · simp
  · next h =>
    obtain ⟨k, es, rfl, hk, _⟩ := Rk.chk_ok (Decidable.not_not.1 h)
    exact Rk.filter_small _ (by simpa using hk) _
theorem Rk.betR_small (n : Int) (rs : List (Int × Int)) (x y : Int) : (Rk.betR n rs x y).1.length ≤ 64 := by
  unfold Rk.betR
  split
  · simp
  · next h =>
    split
    · simp
    · obtain ⟨k, es, rfl, hk, _⟩ := Rk.chk_ok (Decidable.not_not.1 h)
      exact Rk.filter_small _ (by simpa using hk) _
theorem Rk.order_le (n : Nat) (es : List (Nat × Nat)) : (Rk.order n es).length ≤ n := by
  obtain ⟨tk, T, _⟩ := Rk.order_took n es
  have := T.left
  omega
theorem Rk.ordR_small (n : Int) (rs : List (Int × Int)) : (Rk.ordR n rs).1.length ≤ 64 := by
  unfold Rk.ordR
  split
  · simp
  · next h =>
    obtain ⟨k, es, rfl, hk, _⟩ := Rk.chk_ok (Decidable.not_not.1 h)
    have := Rk.order_le k (Rk.down rs)
    unfold Rk.orderR
    split
    · simp
    · simpa using Nat.le_trans this hk

end Go.Proofs
