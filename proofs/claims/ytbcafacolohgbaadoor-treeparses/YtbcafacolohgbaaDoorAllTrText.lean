import Derived.Test.YtbcafacolohgbaaDoorAllTrStep
import Derived.Deep.DeepCutAuto
/-
  The contract of the parser's text.
-/
namespace Go.Proofs
open Go.RowKit
open Go.Proofs.Mk

theorem Tr.own_set {X : World} {B : Nat} {e : TypeId} {s g n cap : Nat} {cs : List Value} (h : X.ownsRow B e s (.slice (some ⟨g, 0, none⟩) n cap) n cs) (j : Nat) (u : Value) (_hj : j < n * s) : (X.setCell ⟨g, j, none⟩ u).ownsRow B e s (.slice (some ⟨g, 0, none⟩) n cap) n (cs.set j u) := by
  have hl := h.1
  obtain ⟨cur, hb, hg, h1, h2, h3, h4⟩ := Tr.own_block h
  refine ⟨by simpa using hl, .inr ⟨g, cap, cur.set! j u, rfl, hb, ?_, h1, h2, by simpa using h3, ?_⟩⟩
  · simp [World.setCell, Array.getElem?_modify, hg]
  · rw [← h4]
    simp [List.take_set]
theorem Tr.own_frozen {X : World} {B : Nat} {e : TypeId} {s g n cap : Nat} {cs : List Value} (h : X.ownsRow B e s (.slice (some ⟨g, 0, none⟩) n cap) n cs) (j : Nat) : X.frozen? ⟨g, j, none⟩ = false := by
  obtain ⟨cur, hb, hg, _⟩ := Tr.own_block h
  simp [World.frozen?, hg]

set_option maxHeartbeats 4000000 in
theorem Tryd.text_out (bp c' : Nat) (o' : Option Addr) (kd at_ : Int) (nm tx : ByteArray) (va : Value) (w : World) (hbp : bp < w.heap.size) (h1 : w.cell? ⟨bp, 1, none⟩ = some (.slice o' 0 c')) :
    Calls Tryd.prog 48 #[.pointer (some ⟨bp, 0, none⟩), .agg #[.int .i64 kd, .int .i64 at_, .string nm, va, .string tx]] w fun e w' => e = .returned (.int .i64 4) ∧ Below w.heap.size w w' := by
  go_enter Tryd.func48, Tryd.ntmps48
  go_wp2_with fail
  refine (Tryd.inside_any bp _ 0 _ false _ (by rw [World.cell?_of_block (w := w) (Below.heap_alloc _ _ _ hbp)]; exact h1) rfl).mono ?_
  rintro e W1 ⟨rfl, rfl⟩
  go_wp2
  go_ret
  exact ⟨rfl, (Below.refl _ w).alloc (Nat.le_refl _) _⟩

set_option maxHeartbeats 4000000 in
theorem Tryd.text_kids (bp gE cE gO cO n m p : Nat) (ht : ByteArray) (kd at_ : Int) (nm tx : ByteArray) (va : Value) (w : World) (hI : Tr.In bp gE cE gO cO n m p ht w) (hk : p + 1 < n) :
    Calls Tryd.prog 48 #[.pointer (some ⟨bp, 0, none⟩), .agg #[.int .i64 kd, .int .i64 at_, .string nm, va, .string tx]] w fun e w' => e = .returned (.int .i64 4) ∧ Below w.heap.size w w' := by
  have A0 : Hid (Below w.heap.size w (w.alloc (.cells #[.int .i64 kd, .int .i64 at_, .string nm, va, .string tx] 78))) := (Below.refl _ w).alloc (Nat.le_refl _) _
  have HI : Hid _ := hI.heap A0.out
  have hd : decide ((0 : Int) < (n : Int) - p - 1) = true := decide_eq_true (by omega)
  clear hI
  go_enter Tryd.func48, Tryd.ntmps48
  go_wp2_with fail
  refine (Tryd.inside_any bp _ (m + 1) _ true _ (by exact HI.out.h1) (by simp)).mono ?_
  rintro e W1 ⟨rfl, rfl⟩
  go_wp2_with fail
  refine (Tryd.pkids_any bp gE cE gO cO n m p _ HI.out.h0 HI.out.h1 HI.out.h2 HI.out.hp HI.out.hn HI.out.hm).mono ?_
  rintro e W3 ⟨rfl, b3, hh⟩
  have B3 : Hid (Below w.heap.size w W3) := A0.out.trans (b3.mono A0.out.size)
  clear b3 hh
  go_wp2
  go_ret
  exact ⟨rfl, B3.out⟩

set_option maxHeartbeats 4000000 in
theorem Tryd.text_ok (bp B gE cE gO cO n m p : Nat) (ht : ByteArray) (kd at_ : Int) (nm tx : ByteArray) (va : Value) (cs : List Value) (w : World) (hI : Tr.In bp gE cE gO cO n m p ht w) (hk : p + 1 = n)
    (hE : w.ownsRow B 25 4 (.slice (some ⟨gE, 0, none⟩) n cE) n cs) :
    Calls Tryd.prog 48 #[.pointer (some ⟨bp, 0, none⟩), .agg #[.int .i64 kd, .int .i64 at_, .string nm, va, .string tx]] w fun e w' => e = .returned (.int .i64 0) ∧ Tk.But (fun k => k = gE) w w' ∧ w'.ownsRow B 25 4 (.slice (some ⟨gE, 0, none⟩) n cE) n (cs.set (p * 4 + 3) (.string tx)) := by
  obtain ⟨w0, hw0⟩ : ∃ x, w.alloc (.cells #[.int .i64 kd, .int .i64 at_, .string nm, va, .string tx] 78) = x := ⟨_, rfl⟩
  have A0 : Hid (Below w.heap.size w w0) := by show Below _ _ _; rw [← hw0]; exact (Below.refl _ w).alloc (Nat.le_refl _) _
  have HI : Hid _ := hI.heap A0.out
  have hd : decide ((0 : Int) < (n : Int) - p - 1) = false := decide_eq_false (by omega)
  have HWX : Hid (w0.heap[w.heap.size]? = some (.cells #[.int .i64 kd, .int .i64 at_, .string nm, va, .string tx] 78 (0, 0))) := by show _ = _; rw [← hw0]; exact heap_alloc_new w _
  have HE : Hid (w0.ownsRow B 25 4 (.slice (some ⟨gE, 0, none⟩) n cE) n cs) := Tr.own_kept hE fun k hk => A0.out.block k (Tr.row_lt hE hk).2
  have HW : Hid (w.alloc (.cells #[.int .i64 kd, .int .i64 at_, .string nm, va, .string tx] 78) = w0) := hw0
  clear hI hw0 hE
  go_enter Tryd.func48, Tryd.ntmps48
  go_wp2_with fail
  rw [HW.out]
  refine (Tryd.inside_any bp _ (m + 1) _ true _ (by exact HI.out.h1) (by simp)).mono ?_
  rintro e w0 ⟨rfl, rfl⟩
  go_wp2_with fail
  refine (Tryd.pkids_any bp gE cE gO cO n m p _ HI.out.h0 HI.out.h1 HI.out.h2 HI.out.hp HI.out.hn HI.out.hm).mono ?_
  rintro e W3 ⟨rfl, b3, hh⟩
  have I3 : Hid _ := HI.out.heap b3
  have B3 : Hid (Below w.heap.size w W3) := A0.out.trans (b3.mono A0.out.size)
  have E3 : Hid (W3.ownsRow B 25 4 (.slice (some ⟨gE, 0, none⟩) n cE) n cs) := Tr.own_kept HE.out fun k hk => b3.block k (Tr.row_lt HE.out hk).2
  have M3 := (b3.block _ (Array.getElem?_eq_some_iff.1 HWX.out).1).trans HWX.out
  have m4 : W3.cell? ⟨w.heap.size, 4, none⟩ = some (.string tx) := by simp [World.cell?, M3]
  have c3 := I3.out.h3
  have f3 := Tr.own_frozen E3.out (p * 4 + 3)
  clear b3 hh HW M3
  go_upto_region 3 with fail
  go_region_with (first | (go_at_call 68; refine Calls.mono (Tryd.innermost_q bp gE cE gO cO n m p _ (by exact I3.out.h0) (by exact I3.out.h1) (by exact I3.out.h2) I3.out.hp I3.out.hn I3.out.hm) ?_; rintro e W4 ⟨rfl, kq, rfl⟩) | fail)
  all_goals
    go_wp2
    go_ret
    refine ⟨rfl, ?_, ?_⟩
    · exact ((Tk.But.of_below B3.out).drewN _).setCell (E := fun k => k = gE) (p := ⟨gE, p * 4 + 3, none⟩) rfl _
    · exact Tr.own_set E3.out _ _ (by have := I3.out.hp; omega)

end Go.Proofs

/-
  The contract of the parser's end.
-/
namespace Go.Proofs
open Go.RowKit
open Go.Proofs.Mk

set_option maxHeartbeats 4000000 in
theorem Tryd.end_out (bp c' : Nat) (o' : Option Addr) (kd at_ : Int) (nm tx : ByteArray) (va : Value) (w : World) (hbp : bp < w.heap.size) (h1 : w.cell? ⟨bp, 1, none⟩ = some (.slice o' 0 c')) :
    Calls Tryd.prog 47 #[.pointer (some ⟨bp, 0, none⟩), .agg #[.int .i64 kd, .int .i64 at_, .string nm, va, .string tx]] w fun e w' => e = .returned (.int .i64 4) ∧ Below w.heap.size w w' := by
  obtain ⟨w0, hw0⟩ : ∃ x, w.alloc (.cells #[.int .i64 kd, .int .i64 at_, .string nm, va, .string tx] 78) = x := ⟨_, rfl⟩
  have A0 : Hid (Below w.heap.size w w0) := by show Below _ _ _; rw [← hw0]; exact (Below.refl _ w).alloc (Nat.le_refl _) _
  have H1 : Hid (w0.cell? ⟨bp, 1, none⟩ = some (.slice o' 0 c')) := by show _ = _; rw [World.cell?_of_block (w := w) (A0.out.block bp hbp)]; exact h1
  have HW : Hid (w.alloc (.cells #[.int .i64 kd, .int .i64 at_, .string nm, va, .string tx] 78) = w0) := hw0
  clear hw0
  go_enter Tryd.func47, Tryd.ntmps47
  go_upto_region 1 with fail
  rw [HW.out]
  clear HW
  go_quiet (first | (go_at_call 49; refine Calls.quiet_of_same (Tryd.inside_any bp _ 0 _ false _ (by exact H1.out) rfl)) | fail)
  go_wp2
  go_ret
  exact ⟨rfl, Mk.below_drewN A0.out _⟩

set_option maxHeartbeats 4000000 in
theorem Tryd.end_name (bp gE cE gO cO n m p : Nat) (ht hn : ByteArray) (kd at_ : Int) (nm tx : ByteArray) (va : Value) (w : World) (hI : Tr.In bp gE cE gO cO n m p ht w) (h4 : w.cell? ⟨gE, p * 4, none⟩ = some (.string hn)) (hne : hn ≠ nm) :
    Calls Tryd.prog 47 #[.pointer (some ⟨bp, 0, none⟩), .agg #[.int .i64 kd, .int .i64 at_, .string nm, va, .string tx]] w fun e w' => e = .returned (.int .i64 4) ∧ Below w.heap.size w w' := by
  obtain ⟨w0, hw0⟩ : ∃ x, w.alloc (.cells #[.int .i64 kd, .int .i64 at_, .string nm, va, .string tx] 78) = x := ⟨_, rfl⟩
  have A0 : Hid (Below w.heap.size w w0) := by show Below _ _ _; rw [← hw0]; exact (Below.refl _ w).alloc (Nat.le_refl _) _
  have HI : Hid _ := hI.heap A0.out
  have k4 : w0.cell? ⟨gE, p * 4, none⟩ = some (.string hn) := by rw [World.cell?_of_block (w := w) (A0.out.block gE (Mk.cell_lt h4))]; exact h4
  have HWX : w0.heap[w.heap.size]? = some (.cells #[.int .i64 kd, .int .i64 at_, .string nm, va, .string tx] 78 (0, 0)) := by rw [← hw0]; exact heap_alloc_new w _
  have m2 : w0.cell? ⟨w.heap.size, 2, none⟩ = some (.string nm) := by simp [World.cell?, HWX]
  have HW : Hid (w.alloc (.cells #[.int .i64 kd, .int .i64 at_, .string nm, va, .string tx] 78) = w0) := hw0
  have he := Mk.beq_of_ne hne
  clear hw0 hI h4 HWX hne
  go_enter Tryd.func47, Tryd.ntmps47
  go_upto_region 1 with fail
  rw [HW.out]
  clear HW
  go_quiet (first | (go_at_call 49; refine Calls.quiet_of_same (Tryd.inside_any bp _ (m + 1) _ true _ (by exact HI.out.h1) (by simp))) | (go_at_call 68; refine Calls.quiet_of (Tryd.innermost_q bp gE cE gO cO n m p _ (by exact HI.out.h0) (by exact HI.out.h1) (by exact HI.out.h2) HI.out.hp HI.out.hn HI.out.hm)) | fail)
  go_wp2
  go_ret
  exact ⟨rfl, Mk.below_drewN A0.out _⟩

/-- What takeOff hands back. -/
def Tr.Taken (k : Nat) (ds : List Value) (vk : Value) (s : Nat) (w' : World) : Prop := (k = 0 ∧ vk = .slice none 0 0) ∨ ∃ gk, s ≤ gk ∧ vk = .slice (some ⟨gk, 0, none⟩) k k ∧ w'.heap[gk]? = some (.cells ds.toArray 25 (0, 0))
theorem Tr.Taken.shape {k : Nat} {ds : List Value} {vk : Value} {s : Nat} {w' : World} (h : Tr.Taken k ds vk s w') : ∃ a l c, vk = .slice a l c := by
  rcases h with ⟨_, rfl⟩ | ⟨gk, _, rfl, _⟩
  · exact ⟨_, _, _, rfl⟩
  · exact ⟨_, _, _, rfl⟩

theorem Tryd.takeOff_any (bp B gE cE m k : Nat) (vO : Value) (cs ds : List Value) (w : World) (hp : w.heap[bp]? = some (.cells #[.slice (some ⟨gE, 0, none⟩) (m + k) cE, vO] 76 (0, 0))) (hB : B ≤ w.heap.size)
    (hE : w.ownsRow B 25 4 (.slice (some ⟨gE, 0, none⟩) (m + k) cE) (m + k) (cs ++ ds)) (hl : cs.length = m * 4) (h1 : ∀ u ∈ ds, u.oneCell' = true) (hn : m + k ≤ 1000000) :
    Calls Tryd.prog 71 #[.pointer (some ⟨bp, 0, none⟩), .int .i64 m] w fun e w' => ∃ vk, e = .returned vk ∧ Tk.But (fun k => k = bp) w w' ∧ w'.heap[bp]? = some (.cells #[.slice (some ⟨gE, 0, none⟩) m cE, vO] 76 (0, 0)) ∧ Tr.Taken k ds vk w.heap.size w' := by
  cases k with
  | zero =>
    refine (Tryd.takeOff_none bp gE cE m vO w hp (by omega)).mono ?_
    rintro e w' ⟨rfl, rfl⟩
    exact ⟨_, rfl, Tk.But.refl _ _, hp, .inl ⟨rfl, rfl⟩⟩
  | succ k =>
    refine (Tryd.takeOff_some bp B gE cE m (k + 1) vO cs ds w hp hB hE hl (by omega) h1 hn).mono ?_
    rintro e w' ⟨rfl, hb, _, hp', hd⟩
    exact ⟨_, rfl, hb, hp', .inr ⟨_, Nat.le_refl _, rfl, hd⟩⟩

set_option maxHeartbeats 8000000 in
set_option maxRecDepth 20000 in
theorem Tryd.end_ok (bp B gE cE gO cO m p k : Nat) (ht : ByteArray) (kd at_ : Int) (nm tx : ByteArray) (va : Value) (cs ds os : List Value) (w : World) (hI : Tr.In bp gE cE gO cO (p + 1 + k) m p ht w) (h4 : w.cell? ⟨gE, p * 4, none⟩ = some (.string nm))
    (hp : w.heap[bp]? = some (.cells #[.slice (some ⟨gE, 0, none⟩) (p + 1 + k) cE, .slice (some ⟨gO, 0, none⟩) (m + 1) cO] 76 (0, 0))) (_hB : B ≤ w.heap.size)
    (hE : w.ownsRow B 25 4 (.slice (some ⟨gE, 0, none⟩) (p + 1 + k) cE) (p + 1 + k) (cs ++ ds)) (hO : w.ownsRow B 3 1 (.slice (some ⟨gO, 0, none⟩) (m + 1) cO) (m + 1) os) (hl : cs.length = (p + 1) * 4) (h1 : ∀ u ∈ ds, u.oneCell' = true) :
    Calls Tryd.prog 47 #[.pointer (some ⟨bp, 0, none⟩), .agg #[.int .i64 kd, .int .i64 at_, .string nm, va, .string tx]] w fun e w' => e = .returned (.int .i64 0) ∧ Tk.But (fun k => k = bp ∨ k = gE) w w' ∧
      w'.heap[bp]? = some (.cells #[.slice (some ⟨gE, 0, none⟩) (p + 1) cE, .slice (some ⟨gO, 0, none⟩) m cO] 76 (0, 0)) ∧ ∃ vk, Tr.Taken k ds vk w.heap.size w' ∧ w'.ownsRow B 25 4 (.slice (some ⟨gE, 0, none⟩) (p + 1) cE) (p + 1) (cs.set (p * 4 + 2) vk) := by
  obtain ⟨w0, hw0⟩ : ∃ x, w.alloc (.cells #[.int .i64 kd, .int .i64 at_, .string nm, va, .string tx] 78) = x := ⟨_, rfl⟩
  have A0 : Hid (Below w.heap.size w w0) := by show Below _ _ _; rw [← hw0]; exact (Below.refl _ w).alloc (Nat.le_refl _) _
  have HI : Hid _ := hI.heap A0.out
  have k4 : w0.cell? ⟨gE, p * 4, none⟩ = some (.string nm) := by rw [World.cell?_of_block (w := w) (A0.out.block gE (Mk.cell_lt h4))]; exact h4
  have HWX : w0.heap[w.heap.size]? = some (.cells #[.int .i64 kd, .int .i64 at_, .string nm, va, .string tx] 78 (0, 0)) := by rw [← hw0]; exact heap_alloc_new w _
  have m2 : w0.cell? ⟨w.heap.size, 2, none⟩ = some (.string nm) := by simp [World.cell?, HWX]
  have HW : Hid (w.alloc (.cells #[.int .i64 kd, .int .i64 at_, .string nm, va, .string tx] 78) = w0) := hw0
  have he : (nm.toList == nm.toList) = true := by simp
  have j1 := HI.out.h1
  have j2 := HI.out.h2
  have hmb := HI.out.hm
  have hnb := HI.out.hn
  have hgOb : gO ≠ bp := fun e => Tr.row_ne hO hp (by decide) (by rw [e]; rfl)
  have hgEb : gE ≠ bp := fun e => Tr.row_ne hE hp (by decide) (by rw [e]; rfl)
  have hgEO : gE ≠ gO := fun e => Tr.rows_ne hE hO (by decide) (k := gE) rfl (by rw [e]; rfl)
  have hbl := (Array.getElem?_eq_some_iff.1 hp).1
  have hgEl := (Tr.row_lt hE (k := gE) rfl).2
  have hgOl := (Tr.row_lt hO (k := gO) rfl).2
  obtain ⟨curO, _, hcO, hcap, _⟩ := Tr.own_block hO
  have HCO : Hid (w.heap[gO]? = some (.cells curO 3 (0, 0)) ∧ m + 1 ≤ cO) := ⟨hcO, hcap⟩
  have CL : Hid (∀ W : World, W.heap = w0.heap → W.os = w.os ∧ W.tape = w.tape ∧ W.output = w.output →
      Calls Tryd.prog 71 #[.pointer (some ⟨bp, 0, none⟩), .int .i64 ((p : Int) + 1)] W fun e w' => ∃ vk, e = .returned vk ∧ Tk.But (fun k => k = bp) w w' ∧ w'.heap[bp]? = some (.cells #[.slice (some ⟨gE, 0, none⟩) (p + 1) cE, .slice (some ⟨gO, 0, none⟩) (m + 1) cO] 76 (0, 0)) ∧ Tr.Taken k ds vk w.heap.size w') := by
    intro W hh ho
    have hk : ∀ j, j < w.heap.size → W.heap[j]? = w.heap[j]? := fun j hj => by rw [hh]; exact A0.out.block j hj
    have hs : w.heap.size ≤ W.heap.size := by rw [hh]; exact A0.out.size
    have := Tryd.takeOff_any bp B gE cE (p + 1) k (.slice (some ⟨gO, 0, none⟩) (m + 1) cO) cs ds W ((hk _ hbl).trans hp) (by omega) (Tr.own_kept hE fun j hj => hk j (Tr.row_lt hE hj).2) hl h1 hnb
    rw [show ((p + 1 : Nat) : Int) = (p : Int) + 1 by omega] at this
    refine this.mono ?_
    rintro e w' ⟨vk, rfl, hb, hp', ht⟩
    refine ⟨vk, rfl, ⟨hb.os.trans ho.1, hb.tape.trans ho.2.1, hb.output.trans ho.2.2, by have := hb.size; omega, fun j hj he => (hb.block j (by omega) he).trans (hk j hj)⟩, hp', ht.imp id fun ⟨gk, a, b⟩ => ⟨gk, by omega, b⟩⟩
  have HU : Hid (w0.os = w.os ∧ w0.tape = w.tape ∧ w0.output = w.output) := ⟨A0.out.os, A0.out.tape, A0.out.output⟩
  have HE : Hid (w.ownsRow B 25 4 (.slice (some ⟨gE, 0, none⟩) (p + 1) cE) (p + 1) cs) := Tr.own_cut hE (by omega) hl
  have H2 : Hid (w.cell? ⟨gO, m, none⟩ = some (.int .i64 p)) := hI.h2
  have HLn : Hid (cs.length = (p + 1) * 4) := hl
  clear hw0 hI h4 HWX hp hE hO h1 hl hcO hcap
  go_enter Tryd.func47, Tryd.ntmps47
  go_upto_region 1 with fail
  rw [HW.out]
  clear HW
  go_quiet (first | (go_at_call 49; refine Calls.quiet_of_same (Tryd.inside_any bp _ (m + 1) _ true _ (by exact HI.out.h1) (by simp))) | (go_at_call 68; refine Calls.quiet_of (Tryd.innermost_q bp gE cE gO cO (p + 1 + k) m p _ (by exact HI.out.h0) (by exact HI.out.h1) (by exact HI.out.h2) HI.out.hp HI.out.hn HI.out.hm)) | fail)
  go_upto_region 4 with fail
  clear k4 m2 he
  have ix : (m : Int) < (m : Int) + 1 := by omega
  have iy : (0 : Int) ≤ (m : Int) := by omega
  have hpb : (p : Int) + 1 ≤ 1000000 := by omega
  have hwr : IntKind.i64.wrap ((p : Int) + 1) = (p : Int) + 1 := Go.IntWalk.i64_in _ (by omega)
  go_region_law (first | (go_simp; go_at_call 71; refine Calls.mono (CL.out _ ?_ ?_) ?_; exact rfl; exact HU.out; rintro e W4 ⟨vk, rfl, b4, p4, t4⟩) | fail)
  all_goals
    obtain ⟨va4, vl4, vc4, rfl⟩ := t4.shape
    have q0 : W4.cell? ⟨bp, 0, none⟩ = some (.slice (some ⟨gE, 0, none⟩) (p + 1) cE) := by simp [World.cell?, p4]
    have q1 : W4.cell? ⟨bp, 1, none⟩ = some (.slice (some ⟨gO, 0, none⟩) (m + 1) cO) := by simp [World.cell?, p4]
    have q2 : W4.cell? ⟨gO, m, none⟩ = some (.int .i64 p) := by rw [World.cell?_of_block (w := w) (b4.block gO hgOl hgOb)]; exact H2.out
    have E4 : W4.ownsRow B 25 4 (.slice (some ⟨gE, 0, none⟩) (p + 1) cE) (p + 1) cs := Tr.own_kept HE.out fun k hk => by
      have e : gE = k := Option.some.inj hk
      subst e
      exact b4.block gE hgEl hgEb
    obtain ⟨u2, hu2⟩ : ∃ u, cs[p * 4 + 2]? = some u := ⟨_, List.getElem?_eq_getElem (by have := HLn.out; omega)⟩
    have q3 : W4.cell? ⟨gE, p * 4 + 2, none⟩ = some u2 := Tr.own_at E4 hu2
    have q4 := Tr.own_frozen E4 (p * 4 + 2)
    have HP4 : Hid _ := p4
    have HB4 : Hid _ := b4
    have HT4 : Hid _ := t4
    have HE4 : Hid _ := E4
    have HQ : Hid (W4.cell? ⟨bp, 0, none⟩ = some (.slice (some ⟨gE, 0, none⟩) (p + 1) cE) ∧ W4.cell? ⟨bp, 1, none⟩ = some (.slice (some ⟨gO, 0, none⟩) (m + 1) cO) ∧ W4.cell? ⟨gO, m, none⟩ = some (.int .i64 p)) := ⟨q0, q1, q2⟩
    clear p4 b4 t4 E4 hu2 j1 j2 hwr CL HU HI q0 q1 q2 ix iy hpb
    go_wp2_with fail
    refine (Tryd.innermost_q bp gE cE gO cO (p + 1) m p _ (by exact HQ.out.1) (by exact HQ.out.2.1) (by exact HQ.out.2.2) (by omega) (by omega) hmb).mono ?_
    rintro e W5 ⟨rfl, kq, hW5⟩
    have hcap : m ≤ cO := by have := HCO.out.2; omega
    have hh5 : W5.heap = W4.heap := by rw [hW5]; rfl
    have B5 : Hid (Tk.But (fun k => k = bp) w W5) := by show Tk.But _ _ _; rw [hW5]; exact HB4.out.drewN _
    have c3 : W5.cell? ⟨gE, p * 4 + 2, none⟩ = some u2 := by rw [World.cell?_of_block (w := W4) (by rw [hh5])]; exact q3
    have c4 : W5.frozen? ⟨gE, p * 4 + 2, none⟩ = false := by have := q4; simp only [World.frozen?, hh5] at this ⊢; exact this
    have P5 : Hid ((W5.setCell ⟨gE, p * 4 + 2, none⟩ (.slice va4 vl4 vc4)).heap[bp]? = some (.cells #[.slice (some ⟨gE, 0, none⟩) (p + 1) cE, .slice (some ⟨gO, 0, none⟩) (m + 1) cO] 76 (0, 0))) := by
      show _ = _
      rw [Below.heap_setCell _ _ _ _ (by show bp ≠ gE; exact Ne.symm hgEb), hh5]
      exact HP4.out
    have q1 : (W5.setCell ⟨gE, p * 4 + 2, none⟩ (.slice va4 vl4 vc4)).cell? ⟨bp, 1, none⟩ = some (.slice (some ⟨gO, 0, none⟩) (m + 1) cO) := by have := P5.out; simp [World.cell?, this]
    have q5 : (W5.setCell ⟨gE, p * 4 + 2, none⟩ (.slice va4 vl4 vc4)).frozen? ⟨bp, 1, none⟩ = false := by have := P5.out; simp [World.frozen?, this]
    have E5 : Hid (W5.ownsRow B 25 4 (.slice (some ⟨gE, 0, none⟩) (p + 1) cE) (p + 1) cs) := Tr.own_kept HE4.out fun k _ => by rw [hh5]
    have T5 : Hid (Tr.Taken k ds (.slice va4 vl4 vc4) w.heap.size W5) := by show Tr.Taken _ _ _ _ _; unfold Tr.Taken; rw [hh5]; exact HT4.out
    clear hW5 hh5 q3 q4
    go_wp2
    go_ret
    refine ⟨rfl, ?_, ?_, .slice va4 vl4 vc4, ?_, ?_⟩
    · refine Tk.But.setCell (E := fun k => k = bp ∨ k = gE) (p := ⟨bp, 1, none⟩) (Tk.But.setCell (E := fun k => k = bp ∨ k = gE) (p := ⟨gE, p * 4 + 2, none⟩) ?_ (.inr rfl) _) (.inl rfl) _
      exact ⟨B5.out.os, B5.out.tape, B5.out.output, B5.out.size, fun k hk he => B5.out.block k hk (fun e => he (.inl e))⟩
    · have := P5.out; simp only [World.setCell] at this ⊢; simp [Array.getElem?_modify] at this ⊢; simp [this]
    · refine T5.out.imp id fun ⟨gk, h1, h2, h3⟩ => ⟨gk, h1, h2, ?_⟩
      rw [Below.heap_setCell _ _ _ _ (by show gk ≠ bp; omega), Below.heap_setCell _ _ _ _ (by show gk ≠ gE; omega)]
      exact h3
    · exact ownsRow_setCell_other (Tr.own_set E5.out _ _ (by omega)) (by simp [Value.ownBlock]; exact hgEb) _

end Go.Proofs
