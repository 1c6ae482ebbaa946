/-
  The walk of TermParses: the term of any text, or that it is none's.
-/
import Derived.Test.YtegcepenpchonaaDoorTLess
import Derived.Test.YtegcepenpchonaaDoorTPlainT
import Derived.Test.YtegcepenpchonaaDoorTRefReadAll
import Derived.Test.YtegcepenpchonaaDoorWalkTermBack
namespace Go.Proofs.YtegcepenpchonaaDoor.TermParses
open Go.RowKit

/-- The term that an answer has. -/
def Told (r : Except Int Tm) (T : Tm) (err : Int) : Prop := match r with | .error x => err = x ∧ T = .mk 0 0 [] | .ok U => err = 0 ∧ T = U
/-- Both answers are the same term's. -/
theorem both {r : Except Int Tm} {op n : Int} {a : Option Addr} {len cap : Nat} {err : Int} {W W' : World}
    (h : match (generalizing := false) r with | .error x => err = x ∧ op = 0 ∧ n = 0 ∧ a = none ∧ len = 0 ∧ cap = 0 | .ok T => err = 0 ∧ op = T.op ∧ n = T.num ∧ Tm.LiesIn W' W.heap.size W'.heap.size 24 (.slice a len cap) T) :
    ∃ T : Tm, op = T.op ∧ n = T.num ∧ Tm.Lies W' W'.heap.size 24 (.slice a len cap) T ∧ Told r T err := by
  cases r with
  | error x =>
    obtain ⟨rfl, rfl, rfl, rfl, rfl, rfl⟩ := h
    exact ⟨.mk 0 0 [], rfl, rfl, ⟨none, 0, rfl, .inl rfl⟩, rfl, rfl⟩
  | ok U =>
    obtain ⟨rfl, rfl, rfl, hl⟩ := h
    exact ⟨U, rfl, rfl, hl.lies, rfl, rfl⟩
theorem size_ok {l : List UInt8} {T : Tm} {err : Int} (h : Told (Tk.parseR l) T err) : T.size ≤ 2147483647 := by
  cases hp : Tk.parseR l with
  | error x => rw [hp] at h; rw [h.2]; decide
  | ok U =>
    rw [hp] at h
    rw [h.2]
    have := (Tm.text_ok (Tk.text_of_parse hp)).2
    omega
theorem same_of {l : List UInt8} {T U : Tm} {e f : Int} (h : Told (Tk.parseR l) T e) (h' : Told (Tk.parseR l) U f) : U = T ∧ f = e := by
  cases hp : Tk.parseR l with
  | error x => rw [hp] at h h'; exact ⟨by rw [h.2, h'.2], by rw [h.1, h'.1]⟩
  | ok V => rw [hp] at h h'; exact ⟨by rw [h.2, h'.2], by rw [h.1, h'.1]⟩

set_option maxHeartbeats 8000000 in
set_option maxRecDepth 20000 in
theorem walk (ls : List UInt8) (w : World) (hO : Tk.Ops w) (hTB : Lib.TabBelow Tryd.prog w.heap.size w "internal/strconv.uint64pow10" .u64 Lib.pow10Tab) (hlz : ls.length ≤ 9223372036854775807) :
    Calls Tryd.prog 5 #[.string ⟨ls.toArray⟩] w fun e w' => e = .returned (.bool true) ∧ Below w.heap.size w w' := by
  obtain ⟨s, hs⟩ : ∃ s : ByteArray, s = ⟨ls.toArray⟩ := ⟨_, rfl⟩
  have hsz : s.size = ls.length := by rw [hs]; simp [ByteArray.size]
  rw [← hs]
  have HO : Hid (Tk.Ops w) := hO
  have HS : Hid (s = ⟨ls.toArray⟩ ∧ s.size = ls.length) := ⟨hs, hsz⟩
  have hs9 : s.size ≤ 9223372036854775807 := by omega
  have HH : Hid (∀ W, Below w.heap.size w W → Calls Tryd.prog 9 #[] W fun e w' => e = .returned (.bool true) ∧ Below w.heap.size w w') := fun W hW => (Tryd.less_any W (HO.out.below hW HO.out.lt) (Lib.tabBelow_of_tabIs (hTB W hW))).mono fun e w' ⟨he, hb⟩ => ⟨he, hW.trans (hb.mono hW.size)⟩
  clear hO hTB hs hsz hlz
  by_cases hlong : 21000 < s.size
  · go_enter Tryd.func5, Tryd.ntmps5
    go_wp2_with fail
    refine Calls.mono (HH.out _ (Below.refl _ _)) ?_
    rintro e W2 ⟨rfl, b2⟩
    have B2 : Hid (Below w.heap.size w W2) := b2
    clear b2
    go_wp2
    go_ret
    exact ⟨rfl, B2.out⟩
  have hs5 : s.size ≤ 21000 := by omega
  have H1 : Hid (Calls Tryd.prog 14 #[.string s] w fun e w' => Tk.Parsed (Tk.parseR ls) w e w') := by
    have := Tryd.parse_any ls w HO.out (by have := HS.out.2; omega)
    rw [← HS.out.1] at this
    exact this
  have H2 : Hid (∀ W, Calls Tryd.prog 15 #[.string s] W fun e w' => Tk.Parsed (Tk.parseR ls) W e w') := fun W => by
    have := Tryd.refParse_of (Tryd.read_any 24 (by omega)) ls W (by have := HS.out.2; omega)
    rw [← HS.out.1] at this
    exact this
  go_enter Tryd.func5, Tryd.ntmps5
  go_wp2_with fail
  refine Calls.mono H1.out ?_
  rintro e W1 ⟨op1, n1, a1, len1, cap1, err1, rfl, b1, h1⟩
  obtain ⟨T, rfl, rfl, hl1, he1⟩ := both h1
  obtain ⟨o, ho⟩ : ∃ x, T.op = x := ⟨_, rfl⟩
  obtain ⟨m, hm⟩ : ∃ x, T.num = x := ⟨_, rfl⟩
  rw [ho, hm]
  have HM : Hid (T.op = o ∧ T.num = m) := ⟨ho, hm⟩
  obtain ⟨Wa, hWa⟩ : ∃ x, x = W1.alloc (.cells #[.int .i64 o, .int .i64 m, .slice a1 len1 cap1] 24) := ⟨_, rfl⟩
  have B1 : Hid (Below w.heap.size w Wa) := by rw [hWa]; exact b1.alloc b1.size _
  have L1 : Hid (Tm.Lies Wa W1.heap.size 24 (.slice a1 len1 cap1) T) := by rw [hWa]; exact hl1.keep (fun k hk => Below.heap_alloc _ _ _ hk)
  have S1 : Hid (Wa.heap.size = W1.heap.size + 1) := by show _ = _; rw [hWa]; simp
  have N1 : Hid (Wa.heap[W1.heap.size]? = some (.cells #[.int .i64 o, .int .i64 m, .slice a1 len1 cap1] 24 (0, 0))) := by rw [hWa]; exact heap_alloc_new W1 _
  have HE1 : Hid (Told (Tk.parseR ls) T err1) := he1
  have HWa : Hid (Wa = W1.alloc (.cells #[.int .i64 o, .int .i64 m, .slice a1 len1 cap1] 24)) := hWa
  clear b1 h1 hl1 he1 ho hm hWa
  go_wp2_with fail
  rw [← HWa.out]
  refine Calls.mono (H2.out _) ?_
  rintro e W2 ⟨op2, n2, a2, len2, cap2, err2, rfl, b2, h2⟩
  obtain ⟨U, rfl, rfl, hl2, he2⟩ := both h2
  obtain ⟨rfl, rfl⟩ := same_of HE1.out he2
  rw [HM.out.1, HM.out.2]
  have B2 : Hid (Below w.heap.size w (W2.alloc (.cells #[.int .i64 o, .int .i64 m, .slice a2 len2 cap2] 24))) := (B1.out.trans (b2.mono B1.out.size)).alloc (by have := B1.out.size; have := b2.size; omega) _
  have N2 := (Below.heap_alloc W2 (.cells #[.int .i64 o, .int .i64 m, .slice a2 len2 cap2] 24) _ (Nat.lt_of_lt_of_le (Array.getElem?_eq_some_iff.1 N1.out).1 b2.size)).trans ((b2.block _ (Array.getElem?_eq_some_iff.1 N1.out).1).trans N1.out)
  obtain ⟨⟨z0, z1, z2⟩, _⟩ := Tk.row3 N2
  have h4 := Tryd.plainTerm_same 24 U (.slice a1 len1 cap1) (.slice a2 len2 cap2) 24 W2.heap.size (W2.alloc (.cells #[.int .i64 o, .int .i64 m, .slice a2 len2 cap2] 24))
    ((L1.out.keep fun k hk => (Below.heap_alloc _ _ _ (by have := b2.size; have := S1.out; omega)).trans (b2.block k (by have := S1.out; omega))).wider (by have := b2.size; have := S1.out; omega))
    (hl2.keep fun k hk => Below.heap_alloc _ _ _ hk) (by simp) (size_ok HE1.out)
  rw [HM.out.1, HM.out.2] at h4
  have H4 : Hid _ := h4
  clear h4 h2 hl2 he2 b2 N2
  go_wp2_with fail
  refine Calls.mono H4.out ?_
  rintro e W4 ⟨rfl, b4⟩
  have B4 : Hid (Below w.heap.size w W4) := B2.out.trans (b4.mono B2.out.size)
  clear b4
  go_wp2_with fail
  refine Calls.mono (HH.out _ B4.out) ?_
  rintro e W9 ⟨rfl, b9⟩
  have B9 : Hid (Below w.heap.size w W9) := b9
  clear b9
  go_wp2
  go_ret
  exact ⟨rfl, B9.out⟩

end Go.Proofs.YtegcepenpchonaaDoor.TermParses
