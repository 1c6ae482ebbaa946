/-
  block.Text.
-/
import Derived.Test.YtimmgchapcbgfaaDoorBlWrite
namespace Go.Proofs
open Go.RowKit

theorem Bk.shown_writ (B bw : Nat) : Bk.Shown Bl.writB 14 #[] (fun _ _ => True) (fun _ => False) B bw where
  enters := enters_of Tryd.func14 (by kernel_rfl) rfl
  calls := fun s W k n r a len c al cl ls _ _ hB hL hn => (Tryd.writable_any k n r a len c al cl B ls W hL hB hn).mono fun _ _ q => ⟨q.1, trivial, Tk.But.of_below q.2⟩
  keeps := fun _ _ _ _ _ => trivial
  above := fun k hk => hk.elim
  not_bw := fun h => h

/-- Numbers that machines have, and no more links than they count. -/
def Bl.intB (_ n r : Int) (ls : List (Int × Int × Int)) : Bool := (decide (n ≤ 9223372036854775807 ∧ r ≤ 9223372036854775807) && ls.all fun x => decide ((-9223372036854775808 ≤ x.1 ∧ x.1 ≤ 9223372036854775807) ∧ (-9223372036854775808 ≤ x.2.1 ∧ x.2.1 ≤ 9223372036854775807) ∧ (-9223372036854775808 ≤ x.2.2 ∧ x.2.2 ≤ 9223372036854775807)))
mutual
theorem Bl.ok_of : ∀ T : Bl, T.allP Bl.writB = true → T.allP Bl.intB = true → T.allP Bl.okB = true
  | .mk k n r ks ls, h1, h2 => by
    rw [Bl.allP, Bool.and_eq_true] at h1 h2 ⊢
    refine ⟨?_, Bl.oks_of ks h1.2 h2.2⟩
    rw [Bl.okB, Bool.and_eq_true]
    exact ⟨h1.1, h2.1⟩
theorem Bl.oks_of : ∀ l : List Bl, Bl.allPs Bl.writB l = true → Bl.allPs Bl.intB l = true → Bl.allPs Bl.okB l = true
  | [], _, _ => by rw [Bl.allPs]
  | k :: r, h1, h2 => by
    rw [Bl.allPs, Bool.and_eq_true] at h1 h2 ⊢
    exact ⟨Bl.ok_of k h1.1 h2.1, Bl.oks_of r h1.2 h2.2⟩
end
theorem Bl.dec_pos (u : Nat) : 1 ≤ (Lib.decDigits u).length := by
  unfold Lib.decDigits
  split <;> simp
theorem Bl.text_pos (T : Bl) : 1 ≤ T.textL.length := by
  have h1 : 1 ≤ (Lib.itoa T.node).length := by
    unfold Lib.itoa
    split
    · simp
    · exact Bl.dec_pos _
  rw [Bl.textL_eq]
  (repeat' split) <;> first | exact h1 | simp

/-- Text's answer. -/
def Bl.textR (T : Bl) : List UInt8 × Int := if T.tooB = true then ([], 2) else if T.allP Bl.writB = true then (T.textL, 0) else ([], 4)

set_option maxRecDepth 20000 in
set_option maxHeartbeats 4000000 in
theorem Tryd.btext_any (d : Nat) (T : Bl) (v lv : Value) (w : World) (hT : Bl.Lies w w.heap.size d v lv T) (hO : Bk.Names w) (hTab : Lib.TabIs Tryd.prog w "internal/strconv.uint64pow10" .u64 Lib.pow10Tab) (hsz : T.size ≤ 2147483647) (hdp : T.depth ≤ 1000) (hlk : T.allP (fun _ _ _ ls => decide (ls.length ≤ 2147483647)) = true) (hin : T.allP Bl.intB = true) (hrm : T.room ≤ 800000000) :
    Calls Tryd.prog 7 #[.agg #[.int .i64 T.kind, .int .i64 T.node, .int .i64 T.arg, v, lv]] w fun e w' => e = .returned (.tuple #[.string ⟨T.textR.1.toArray⟩, .int .i64 T.textR.2]) ∧ Below w.heap.size w w' := by
  obtain ⟨a, cap, rfl⟩ := hT.shape
  obtain ⟨al, cl, rfl⟩ := hT.links.shape
  obtain ⟨o, ho⟩ : ∃ o, T.kind = o := ⟨_, rfl⟩
  obtain ⟨m, hm⟩ : ∃ m, T.node = m := ⟨_, rfl⟩
  obtain ⟨r, hr⟩ : ∃ m, T.arg = m := ⟨_, rfl⟩
  obtain ⟨n, hn⟩ : ∃ n, T.ks.length = n := ⟨_, rfl⟩
  obtain ⟨nl, hnl⟩ : ∃ n, T.ls.length = n := ⟨_, rfl⟩
  rw [ho, hm, hr, hn, hnl]
  rw [hn, hnl] at hT
  obtain ⟨w0, hw0⟩ : ∃ x, w.alloc (.cells #[.int .i64 o, .int .i64 m, .int .i64 r, .slice a n cap, .slice al nl cl] 25) = x := ⟨_, rfl⟩
  obtain ⟨B, hBB⟩ : ∃ x, w.heap.size = x := ⟨_, rfl⟩
  have A0 : Below B w w0 := by rw [← hw0, ← hBB]; exact (Below.refl _ w).alloc (Nat.le_refl _) _
  have C0 : w0.heap[B]? = some (.cells #[.int .i64 o, .int .i64 m, .int .i64 r, .slice a n cap, .slice al nl cl] 25 (0, 0)) := by rw [← hw0, ← hBB]; exact heap_alloc_new w _
  have hs0 : B + 1 ≤ w0.heap.size := by rw [← hw0, ← hBB]; simp
  rw [hBB] at hT
  have h1 := Tryd.tooLarge_any d T (.slice a n cap) (.slice al nl cl) w0 ((hT.below A0).wider (by omega)) (by omega) hsz hlk
  rw [ho, hm, hr] at h1
  obtain ⟨tb, htb⟩ : ∃ b, T.tooB = b := ⟨_, rfl⟩
  rw [htb] at h1
  have H1 : Hid (Calls Tryd.prog 12 #[.agg #[.int .i64 o, .int .i64 m, .int .i64 r, .slice a n cap, .slice al nl cl]] w0 fun e w' => e = .returned (.bool tb) ∧ Hid (Below B w w' ∧ w'.heap[B]? = some (.cells #[.int .i64 o, .int .i64 m, .int .i64 r, .slice a n cap, .slice al nl cl] 25 (0, 0)))) := h1.mono fun _ w' h => ⟨h.1, A0.trans (h.2.mono (by omega)), (h.2.block B (by omega)).trans C0⟩
  have HM : Hid (Bl.Lies w B d (.slice a n cap) (.slice al nl cl) T ∧ T.kind = o ∧ T.node = m ∧ T.arg = r ∧ T.tooB = tb) := ⟨hT, ho, hm, hr, htb⟩
  have HB : Hid (w.heap.size = B ∧ 0 < B ∧ T.size ≤ 2147483647 ∧ T.depth ≤ 1000 ∧ T.allP (fun _ _ _ ls => decide (ls.length ≤ 2147483647)) = true ∧ T.allP Bl.intB = true ∧ T.room ≤ 800000000) := ⟨hBB, by rw [← hBB]; exact hO.lt, hsz, hdp, hlk, hin, hrm⟩
  have HO : Hid (Bk.Names w ∧ Lib.TabBelow Tryd.prog B w "internal/strconv.uint64pow10" .u64 Lib.pow10Tab) := ⟨hO, by rw [← hBB]; exact Lib.tabBelow_of_tabIs hTab⟩
  have HW0 : Hid (w.alloc (.cells #[.int .i64 o, .int .i64 m, .int .i64 r, .slice a n cap, .slice al nl cl] 25) = w0) := hw0
  have hu := Tryd.underlying25
  obtain ⟨tx, htx⟩ : ∃ z, T.textR = z := ⟨_, rfl⟩
  rw [htx]
  have HTX : Hid (T.textR = tx) := htx
  have C0c := Bk.box5 C0
  obtain ⟨k0, k1, k2, k3, k4⟩ := C0c
  clear hw0 h1 hT ho hm hr hn hnl A0 C0 hO hTab hsz hdp hlk hin hrm htb hs0 htx
  rw [hBB]
  go_enter Tryd.func7, Tryd.ntmps7
  go_wp2_with fail
  rw [HW0.out]
  refine Calls.mono H1.out ?_
  rintro e W1 ⟨rfl, B1⟩
  clear H1 HW0 k0 k1 k2 k3 k4
  cases tb with
  | true =>
    have HX : Hid (tx = ([], 2)) := by show _ = _; rw [← HTX.out]; unfold Bl.textR; rw [if_pos HM.out.2.2.2.2]
    go_wp2
    go_ret2
    exact ⟨by rw [HX.out]; rfl, B1.out.1⟩
  | false =>
    obtain ⟨k0, k1, k2, k3, k4⟩ := Bk.box5 B1.out.2
    have h2 := Tryd.bthrough_any (B := B) d T (.slice a n cap) (.slice al nl cl) W1 (fun bw _ => Bk.shown_writ B bw) (HM.out.1.below B1.out.1) HB.out.2.1 (by have h := B1.out.1.size; rw [HB.out.1] at h; exact h) trivial (fun k hk => hk.elim) HB.out.2.2.1 HB.out.2.2.2.2.1
    rw [HM.out.2.1, HM.out.2.2.1, HM.out.2.2.2.1] at h2
    obtain ⟨q, hq⟩ : ∃ q, T.allP Bl.writB = q := ⟨_, rfl⟩
    have hBW : B ≤ W1.heap.size := by have h := B1.out.1.size; rw [HB.out.1] at h; exact h
    have hB1 : B < W1.heap.size := (Array.getElem?_eq_some_iff.1 B1.out.2).1
    have H2 : Hid (Calls Tryd.prog 13 #[.agg #[.int .i64 o, .int .i64 m, .int .i64 r, .slice a n cap, .slice al nl cl], .func (.func 14) #[] #[]] W1 fun e w' => e = .returned (.bool q) ∧ Hid (Below B w w' ∧ w'.heap[B]? = some (.cells #[.int .i64 o, .int .i64 m, .int .i64 r, .slice a n cap, .slice al nl cl] 25 (0, 0)))) := by
      refine h2.mono ?_
      rintro e w' ⟨hbt, hend⟩
      have hb := hbt.below (Nat.le_refl _) (fun k _ h => h)
      refine ⟨?_, B1.out.1.trans (hb.mono hBW), (hb.block B hB1).trans B1.out.2⟩
      rcases hend with ⟨x1, x2, x3, rfl, x4⟩ | ⟨x1, rfl⟩
      · rw [← hq, x3]
      · have hqf : q = false := by
          cases q with
          | false => rfl
          | true => exact (x1 ⟨HB.out.2.2.2.1, HB.out.2.2.1, hq⟩).elim
        rw [hqf]
    have HQ : Hid (T.allP Bl.writB = q) := hq
    clear h2 hq hBW hB1
    go_wp2_with fail
    refine Calls.mono H2.out ?_
    rintro e W2 ⟨rfl, B2⟩
    clear H2 k0 k1 k2 k3 k4
    cases q with
    | false =>
      have HX : Hid (tx = ([], 4)) := by show _ = _; rw [← HTX.out]; unfold Bl.textR; rw [if_neg (by rw [HM.out.2.2.2.2]; simp), if_neg (by rw [HQ.out]; simp)]
      go_wp2
      go_ret2
      exact ⟨by rw [HX.out]; rfl, B2.out.1⟩
    | true =>
      have HX : Hid (tx = (T.textL, 0)) := by show _ = _; rw [← HTX.out]; unfold Bl.textR; rw [if_neg (by rw [HM.out.2.2.2.2]; simp), if_pos HQ.out]
      obtain ⟨k0, k1, k2, k3, k4⟩ := Bk.box5 B2.out.2
      have hBW : B ≤ W2.heap.size := by have h := B2.out.1.size; rw [HB.out.1] at h; exact h
      have h3 := Tryd.bwrite_any d T (.slice a n cap) (.slice al nl cl) B [] (.slice none 0 0) W2 (HM.out.1.below B2.out.1) (Bl.ok_of T HQ.out HB.out.2.2.2.2.2.1) hBW (HO.out.1.below B2.out.1 HB.out.2.1) HB.out.2.1 (HO.out.2.on B2.out.1) (World.ownsRow_nil _ _ _ _) (by simp only [List.length_nil]; have := HB.out.2.2.2.2.2.2; omega)
      rw [HM.out.2.1, HM.out.2.2.1, HM.out.2.2.2.1, List.nil_append] at h3
      have hpos := T.text_pos
      obtain ⟨bs, hbs⟩ : ∃ z, T.textL = z := ⟨_, rfl⟩
      rw [hbs] at h3 hpos HX
      have H3 : Hid _ := h3
      have HP : Hid (1 ≤ bs.length) := hpos
      clear h3 hpos hbs hBW
      go_wp2_with fail
      refine Calls.mono H3.out ?_
      rintro e W3 ⟨v3, rfl, X3⟩
      have B3 : Hid (Below B w W3) := B2.out.1.trans X3.out.below
      obtain ⟨ca, cc, rfl⟩ := Tk.own_shape X3.out.own
      have p2 := X3.out.own
      rcases p2.2 with ⟨_, hz⟩ | ⟨g, cap2, cur, hv, _⟩
      · have := HP.out; omega
      · simp only [Value.slice.injEq] at hv
        obtain ⟨rfl, -, rfl⟩ := hv
        have hcv := run_convert_bytes_back (P := Tryd.prog) W3 49 9 5 ⟨g, 0, none⟩ cc bs Tryd.underlying49 Tryd.underlying5 Tryd.underlying9 (fun j hj => p2.cells (g := g) rfl j _ (by simp [Lib.byteCells, hj]))
        clear H3 p2 X3 k0 k1 k2 k3 k4
        go_wp2
        go_ret2
        exact ⟨by rw [HX.out]; rfl, B3.out⟩

end Go.Proofs
