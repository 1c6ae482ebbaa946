/-
  The walk of TreeDeep: elements may lie just 24 deep in one another.
-/
import Derived.Test.YtcnhmooogcgglaaDoorTrKids
import Derived.Test.YtcnhmooogcgglaaDoorTrDeepF
namespace Go.Proofs.YtcnhmooogcgglaaDoor.TreeDeep
open Go.RowKit
open Go.Proofs.Mk

set_option maxHeartbeats 16000000 in
set_option maxRecDepth 20000 in
theorem walk (z : Int) (w : World) (hE : Mk.Esc w) :
    Calls Tryd.prog 8 #[.int .i64 z] w fun e w' => e = .returned (.bool true) ∧ Below w.heap.size w w' := by
  have h0 := Tr.esc_pos hE
  have HK : Hid (∀ W, Below w.heap.size w W → Calls Tryd.prog 16 #[] W fun e w' => e = .returned (.bool true) ∧ Below w.heap.size w w') := fun W hW => (Tryd.kids_any W (Tr.esc_below hE hW h0)).mono fun e w' ⟨he, hb⟩ => ⟨he, hW.trans (hb.mono hW.size)⟩
  have HES : Hid (Mk.Esc w) := hE
  clear hE
  by_cases hz1 : z < 1
  · have d1 : decide (z < 1) = true := decide_eq_true hz1
    clear hz1
    go_enter Tryd.func8, Tryd.ntmps8
    go_wp2_with fail
    refine Calls.mono (HK.out _ (Below.refl _ _)) ?_
    rintro e W2 ⟨rfl, b2⟩
    have B2 : Hid (Below w.heap.size w W2) := b2
    clear b2
    go_wp2
    go_ret
    exact ⟨rfl, B2.out⟩
  have d1 : decide (z < 1) = false := decide_eq_false hz1
  by_cases hz2 : 60 < z
  · have d2 : decide (60 < z) = true := decide_eq_true hz2
    clear hz1 hz2
    go_enter Tryd.func8, Tryd.ntmps8
    go_wp2_with fail
    refine Calls.mono (HK.out _ (Below.refl _ _)) ?_
    rintro e W2 ⟨rfl, b2⟩
    have B2 : Hid (Below w.heap.size w W2) := b2
    clear b2
    go_wp2
    go_ret
    exact ⟨rfl, B2.out⟩
  have d2 : decide (60 < z) = false := decide_eq_false hz2
  obtain ⟨n, rfl⟩ : ∃ n : Nat, z = n := ⟨z.toNat, by omega⟩
  have hn1 : 1 ≤ n := by omega
  have hn2 : n ≤ 60 := by omega
  clear hz1 hz2
  have HT : Hid (El.deepT n = true) := El.deep_at El.deepT_all hn1 hn2
  have hU := El.deep_at El.deepU_all hn1 hn2
  simp only [El.deepU, Bool.and_eq_true, decide_eq_true_eq] at hU
  have HU : Hid ((El.deepE (n - 1)).writeR.2 = (if 24 < n then 2 else 0) ∧ (El.deepE (n - 1)).depth = n ∧ (El.deepE (n - 1)).count ≤ 1000 ∧ (El.deepE (n - 1)).weight ≤ 100000) := ⟨hU.1.1.1, hU.1.1.2, hU.1.2, hU.2⟩
  clear hU
  go_enter Tryd.func8, Tryd.ntmps8
  go_wp2_with fail
  refine Calls.mono (Tryd.deep_any n _ hn1 hn2) ?_
  rintro e W1 ⟨b1, va, vk, rfl, l1⟩
  obtain ⟨aa, ca, ak, ck, hva, hvk⟩ := l1.shape
  obtain ⟨E, hEq⟩ : ∃ E, El.deepE (n - 1) = E := ⟨_, rfl⟩
  have hnm : E.name = ⟨#[97]⟩ := by rw [← hEq]; exact El.deepE_name _
  have htx : E.text = ⟨#[]⟩ := by rw [← hEq]; exact El.deepE_text _
  have hre : E.Reach := by rw [← hEq]; exact El.deepE_reach _
  rw [hEq] at l1 hva hvk HU
  obtain ⟨la, hla⟩ : ∃ x, E.attrs.length = x := ⟨_, rfl⟩
  obtain ⟨lk, hlk⟩ : ∃ x, E.kids.length = x := ⟨_, rfl⟩
  rw [hla] at hva
  rw [hlk] at hvk
  subst hva hvk
  obtain ⟨W2, hW2⟩ : ∃ x, W1.alloc (.cells #[.string ⟨#[97]⟩, .slice aa la ca, .slice ak lk ck, .string ⟨#[]⟩] 42) = x := ⟨_, rfl⟩
  have A2 : Below W1.heap.size W1 W2 := by rw [← hW2]; exact (Below.refl _ W1).alloc (Nat.le_refl _) _
  have B2 : Hid (Below w.heap.size w W2) := b1.trans (A2.mono b1.size)
  have N2 : W2.heap[W1.heap.size]? = some (.cells #[.string ⟨#[97]⟩, .slice aa la ca, .slice ak lk ck, .string ⟨#[]⟩] 42 (0, 0)) := by rw [← hW2]; exact heap_alloc_new W1 _
  have HW2 : Hid _ := hW2
  have HL : Hid (∀ W, Below W2.heap.size W2 W → El.Lies W (· < W.heap.size) n (.slice aa la ca) (.slice ak lk ck) E) := fun W hW => l1.keep (fun k hk => (hW.block k (Nat.lt_of_lt_of_le hk A2.size)).trans (A2.block k hk)) fun k hk => Nat.lt_of_lt_of_le hk (Nat.le_trans A2.size hW.size)
  have HLE : Hid (∀ W, Below W2.heap.size W2 W → Below w.heap.size w W) := fun W hW => B2.out.trans (hW.mono B2.out.size)
  have HEW : Hid (∀ W, Below W2.heap.size W2 W → Mk.Esc W) := fun W hW => Tr.esc_below HES.out (HLE.out W hW) h0
  have CF : Hid (∀ W, Below W2.heap.size W2 W → (W.cell? ⟨W1.heap.size, 0, none⟩ = some (.string ⟨#[97]⟩) ∧ W.cell? ⟨W1.heap.size, 1, none⟩ = some (.slice aa la ca) ∧ W.cell? ⟨W1.heap.size, 2, none⟩ = some (.slice ak lk ck) ∧ W.cell? ⟨W1.heap.size, 3, none⟩ = some (.string ⟨#[]⟩))) := fun W hW => (Tr.row4 ((hW.block _ (Array.getElem?_eq_some_iff.1 N2).1).trans N2)).1
  obtain ⟨er, her⟩ : ∃ x, E.writeR.2 = x := ⟨_, rfl⟩
  have K1 : Hid (∀ W, Below W2.heap.size W2 W → Calls Tryd.prog 20 #[.agg #[.string ⟨#[97]⟩, .slice aa la ca, .slice ak lk ck, .string ⟨#[]⟩]] W fun e w' => e = .returned (.int .i64 er) ∧ Below W.heap.size W w') := fun W hW => by
    have := Tryd.Check_any n E _ _ W (HL.out W hW) hre HU.out.2.2.2 (HEW.out W hW)
    rw [hnm, htx, her] at this
    exact this
  have K2 : Hid (∀ W, Below W2.heap.size W2 W → Calls Tryd.prog 27 #[.agg #[.string ⟨#[97]⟩, .slice aa la ca, .slice ak lk ck, .string ⟨#[]⟩]] W fun e w' => e = .returned (.int .i64 n) ∧ Below W2.heap.size W2 w') := fun W hW => by
    have := Tryd.Depth_any n E _ _ W (HL.out W hW) (by rw [HU.out.2.1]; omega) (by have := HU.out.2.2.1; omega)
    rw [hnm, htx, HU.out.2.1] at this
    exact this.mono fun e w' ⟨he, hb⟩ => ⟨he, hW.trans (hb.mono hW.size)⟩
  have K5 : Hid (∀ W, Below W2.heap.size W2 W → Calls Tryd.prog 16 #[] W fun e w' => e = .returned (.bool true) ∧ Below W2.heap.size W2 w') := fun W hW => (Tryd.kids_any W (HEW.out W hW)).mono fun e w' ⟨he, hb⟩ => ⟨he, hW.trans (hb.mono hW.size)⟩
  have KP : Hid (∀ S W, S = El.clB (El.opB n) n → Below W2.heap.size W2 W → Calls Tryd.prog 21 #[.string S] W fun e w' => Below W2.heap.size W2 w' ∧ ((24 < n ∧ e = .returned (.tuple #[.agg #[.string ⟨#[]⟩, .slice none 0 0, .slice none 0 0, .string ⟨#[]⟩], .int .i64 72, .int .i64 2])) ∨ (n ≤ 24 ∧ ∃ xn xa xm xc xk xl xd xt, e = .returned (.tuple #[.agg #[.string xn, .slice xa xm xc, .slice xk xl xd, .string xt], .int .i64 0, .int .i64 0]) ∧ ∀ V, Below w'.heap.size w' V → Calls Tryd.prog 27 #[.agg #[.string xn, .slice xa xm xc, .slice xk xl xd, .string xt]] V fun e v' => e = .returned (.int .i64 n) ∧ Below V.heap.size V v'))) := fun S W hS hW => by
    refine (Tryd.parse_any S W (HEW.out W hW) (by rw [hS, El.clB_size, El.opB_size]; omega)).mono fun e w' ⟨hb, hp⟩ => ⟨hW.trans (hb.mono hW.size), ?_⟩
    have ht := HT.out
    rw [hS, El.deepB_eq] at hp
    unfold Tr.ParseEnd at hp
    unfold El.deepT at ht
    obtain ⟨⟨o, k, er'⟩, ho⟩ : ∃ o, El.parseL ⟨(El.opL n ++ El.clL n).toArray⟩ = o := ⟨_, rfl⟩
    rw [ho] at hp ht
    cases o with
    | none =>
      simp only [Bool.and_eq_true, decide_eq_true_eq] at ht
      obtain ⟨⟨h1, rfl⟩, rfl⟩ := ht
      exact .inl ⟨h1, hp⟩
    | some X =>
      simp only [Bool.and_eq_true, decide_eq_true_eq] at ht
      obtain ⟨ua, uk, dd, he, hl⟩ := hp
      obtain ⟨xa, xc, xk, xd, rfl, rfl⟩ := hl.shape
      refine .inr ⟨ht.1.1, _, _, _, _, _, _, _, _, he, fun V hV => ?_⟩
      have := Tryd.Depth_any dd X _ _ V (hl.keep (fun k hk => hV.block k hk) fun k hk => Nat.lt_of_lt_of_le hk hV.size) (by rw [ht.1.2]; omega) (by have := ht.2; omega)
      rw [ht.1.2] at this
      exact this
  clear hla hlk b1 l1 hW2 A2 N2 hEq hnm htx hre HT
  go_upto_region 4 with fail
  rw [HW2.out]
  have HER : Hid (er = if 24 < n then 2 else 0) := her.symm.trans HU.out.1
  clear her HU
  rcases Nat.lt_or_ge 24 n with h24 | h24
  · have d24 : decide ((24 : Int) < n) = true := decide_eq_true (by omega)
    obtain rfl : er = 2 := by rw [HER.out, if_pos h24]
    go_wp2
    go_loopg [5, 6] n (fun g o i wr => ∃ (j : Nat) (S : ByteArray), g + j = n ∧ i = .int .i64 j ∧ o = .string S ∧ W2 = wr ∧ S.size ≤ 1000 ∧ Hid (S = El.opB j))
    case atStart => exact ⟨0, ⟨#[]⟩, by omega, rfl, rfl, rfl, by decide, rfl⟩
    case round =>
      obtain ⟨j, S, hj, rfl, rfl, rfl, hsz, HS⟩ := hrel
      by_cases hjn : j < n
      · have hd : decide ((j : Int) < n) = true := decide_eq_true (by omega)
        go_wp2
        go_roundg (gk - 1)
        case measure => omega
        case rel => exact ⟨j + 1, _, by omega, by go_num, rfl, rfl, by rw [ByteArray.size_append, HS.out, El.opB_size]; show 3 * j + 3 ≤ 1000; omega, by show _ = _; rw [HS.out]; rfl⟩
      · have hd : decide ((j : Int) < n) = false := decide_eq_false (by omega)
        obtain rfl : j = n := by omega
        clear hj hjn
        go_wp2
        go_loopg [5, 7] j (fun g o i wr => ∃ (k : Nat) (S' : ByteArray), g + k = j ∧ i = .int .i64 k ∧ o = .string S' ∧ W2 = wr ∧ S'.size ≤ 1000 ∧ Hid (S' = El.clB (El.opB j) k))
        case atStart => exact ⟨0, S, by omega, rfl, rfl, rfl, hsz, HS.out⟩
        case round =>
          obtain ⟨k, S', hk, rfl, rfl, rfl, hsz', HS'⟩ := hrel
          clear hsz HS
          by_cases hkn : k < j
          · have hd' : decide ((k : Int) < j) = true := decide_eq_true (by omega)
            clear hd
            go_wp2
            go_roundg (gk - 1)
            case measure => omega
            case rel => exact ⟨k + 1, _, by omega, by go_num, rfl, rfl, by rw [ByteArray.size_append, HS'.out, El.clB_size, El.opB_size]; show 3 * j + 4 * k + 4 ≤ 1000; omega, by show _ = _; rw [HS'.out]; rfl⟩
          · have hd' : decide ((k : Int) < j) = false := decide_eq_false (by omega)
            obtain rfl : k = j := by omega
            clear hk hkn
            go_wp2_with fail
            refine Calls.mono (KP.out _ _ HS'.out (Below.refl _ _)) ?_
            rintro e W3 ⟨b3, hcase⟩
            rcases hcase with ⟨_, rfl⟩ | ⟨hx, _⟩
            rotate_left
            · exact absurd hx (by omega)
            obtain ⟨W4, hW4⟩ : ∃ x, W3.alloc (.cells #[.string ⟨#[]⟩, .slice none 0 0, .slice none 0 0, .string ⟨#[]⟩] 42) = x := ⟨_, rfl⟩
            have B4 : Hid (Below W2.heap.size W2 W4) := by show Below _ _ _; rw [← hW4]; exact b3.alloc b3.size _
            have HW4 : Hid _ := hW4
            obtain ⟨f0, f1, f2, f3⟩ := CF.out W4 B4.out
            clear b3 hW4
            go_upto_region 17 with fail
            rw [HW4.out]
            go_wp2_with fail
            refine Calls.mono (K1.out _ B4.out) ?_
            rintro e W5 ⟨rfl, b5⟩
            have B5 : Hid (Below W2.heap.size W2 W5) := B4.out.trans (b5.mono B4.out.size)
            obtain ⟨g0, g1, g2, g3⟩ := CF.out W5 B5.out
            clear b5 f0 f1 f2 f3
            go_wp2_with fail
            refine Calls.mono (K2.out _ B5.out) ?_
            rintro e W6 ⟨rfl, b6⟩
            have B6 : Hid (Below W2.heap.size W2 W6) := b6
            clear b6 g0 g1 g2 g3
            go_wp2_with fail
            refine Calls.mono (K5.out _ B6.out) ?_
            rintro e W7 ⟨rfl, b7⟩
            have BE : Hid (Below w.heap.size w W7) := HLE.out W7 b7
            clear b7
            go_wp2
            go_ret
            exact ⟨rfl, BE.out⟩
  · have d24 : decide ((24 : Int) < n) = false := decide_eq_false (by omega)
    obtain rfl : er = 0 := by rw [HER.out, if_neg (by omega)]
    go_wp2
    go_loopg [5, 6] n (fun g o i wr => ∃ (j : Nat) (S : ByteArray), g + j = n ∧ i = .int .i64 j ∧ o = .string S ∧ W2 = wr ∧ S.size ≤ 1000 ∧ Hid (S = El.opB j))
    case atStart => exact ⟨0, ⟨#[]⟩, by omega, rfl, rfl, rfl, by decide, rfl⟩
    case round =>
      obtain ⟨j, S, hj, rfl, rfl, rfl, hsz, HS⟩ := hrel
      by_cases hjn : j < n
      · have hd : decide ((j : Int) < n) = true := decide_eq_true (by omega)
        go_wp2
        go_roundg (gk - 1)
        case measure => omega
        case rel => exact ⟨j + 1, _, by omega, by go_num, rfl, rfl, by rw [ByteArray.size_append, HS.out, El.opB_size]; show 3 * j + 3 ≤ 1000; omega, by show _ = _; rw [HS.out]; rfl⟩
      · have hd : decide ((j : Int) < n) = false := decide_eq_false (by omega)
        obtain rfl : j = n := by omega
        clear hj hjn
        go_wp2
        go_loopg [5, 7] j (fun g o i wr => ∃ (k : Nat) (S' : ByteArray), g + k = j ∧ i = .int .i64 k ∧ o = .string S' ∧ W2 = wr ∧ S'.size ≤ 1000 ∧ Hid (S' = El.clB (El.opB j) k))
        case atStart => exact ⟨0, S, by omega, rfl, rfl, rfl, hsz, HS.out⟩
        case round =>
          obtain ⟨k, S', hk, rfl, rfl, rfl, hsz', HS'⟩ := hrel
          clear hsz HS
          by_cases hkn : k < j
          · have hd' : decide ((k : Int) < j) = true := decide_eq_true (by omega)
            clear hd
            go_wp2
            go_roundg (gk - 1)
            case measure => omega
            case rel => exact ⟨k + 1, _, by omega, by go_num, rfl, rfl, by rw [ByteArray.size_append, HS'.out, El.clB_size, El.opB_size]; show 3 * j + 4 * k + 4 ≤ 1000; omega, by show _ = _; rw [HS'.out]; rfl⟩
          · have hd' : decide ((k : Int) < j) = false := decide_eq_false (by omega)
            obtain rfl : k = j := by omega
            clear hk hkn
            go_wp2_with fail
            refine Calls.mono (KP.out _ _ HS'.out (Below.refl _ _)) ?_
            rintro e W3 ⟨b3, hcase⟩
            rcases hcase with ⟨hx, _⟩ | ⟨_, xn, xa, xm, xc, xk, xl, xd, xt, rfl, hdx⟩
            · exact absurd hx (by omega)
            obtain ⟨W4, hW4⟩ : ∃ x, W3.alloc (.cells #[.string xn, .slice xa xm xc, .slice xk xl xd, .string xt] 42) = x := ⟨_, rfl⟩
            have A4 : Below W3.heap.size W3 W4 := by rw [← hW4]; exact (Below.refl _ W3).alloc (Nat.le_refl _) _
            have B4 : Hid (Below W2.heap.size W2 W4) := b3.trans (A4.mono b3.size)
            have N4 : W4.heap[W3.heap.size]? = some (.cells #[.string xn, .slice xa xm xc, .slice xk xl xd, .string xt] 42 (0, 0)) := by rw [← hW4]; exact heap_alloc_new W3 _
            have HW4 : Hid _ := hW4
            have CG : Hid (∀ W, Below W4.heap.size W4 W → (W.cell? ⟨W3.heap.size, 0, none⟩ = some (.string xn) ∧ W.cell? ⟨W3.heap.size, 1, none⟩ = some (.slice xa xm xc) ∧ W.cell? ⟨W3.heap.size, 2, none⟩ = some (.slice xk xl xd) ∧ W.cell? ⟨W3.heap.size, 3, none⟩ = some (.string xt))) := fun W hW => (Tr.row4 ((hW.block _ (Array.getElem?_eq_some_iff.1 N4).1).trans N4)).1
            have KX : Hid (∀ V, Below W4.heap.size W4 V → Calls Tryd.prog 27 #[.agg #[.string xn, .slice xa xm xc, .slice xk xl xd, .string xt]] V fun e v' => e = .returned (.int .i64 k) ∧ Below W4.heap.size W4 v') := fun V hV => (hdx V (A4.trans (hV.mono A4.size))).mono fun e v' ⟨he, hb⟩ => ⟨he, hV.trans (hb.mono hV.size)⟩
            have KC : Hid (∀ V, Below W4.heap.size W4 V → Below W2.heap.size W2 V) := fun V hV => B4.out.trans (hV.mono B4.out.size)
            obtain ⟨f0, f1, f2, f3⟩ := CF.out W4 B4.out
            clear b3 hW4 A4 N4 hdx
            go_upto_region 17 with fail
            rw [HW4.out]
            go_wp2_with fail
            refine Calls.mono (K1.out _ B4.out) ?_
            rintro e W5 ⟨rfl, b5⟩
            have B5 : Hid (Below W4.heap.size W4 W5) := b5
            obtain ⟨g0, g1, g2, g3⟩ := CG.out W5 b5
            clear b5 f0 f1 f2 f3
            go_wp2_with fail
            refine Calls.mono (KX.out _ B5.out) ?_
            rintro e W6 ⟨rfl, b6⟩
            have B6 : Hid (Below W2.heap.size W2 W6) := KC.out _ b6
            obtain ⟨f0, f1, f2, f3⟩ := CF.out W6 B6.out
            clear b6 g0 g1 g2 g3
            go_wp2_with fail
            refine Calls.mono (K2.out _ B6.out) ?_
            rintro e W7 ⟨rfl, b7⟩
            have B7 : Hid (Below W2.heap.size W2 W7) := b7
            clear b7 f0 f1 f2 f3
            go_wp2_with fail
            refine Calls.mono (K5.out _ B7.out) ?_
            rintro e W8 ⟨rfl, b8⟩
            have BE : Hid (Below w.heap.size w W8) := HLE.out W8 b8
            clear b8
            go_wp2
            go_ret
            exact ⟨rfl, BE.out⟩

end Go.Proofs.YtcnhmooogcgglaaDoor.TreeDeep
