/-
  The document's plain of kinds with kids, webs aside.
-/
import Derived.Test.YtimmgchapcbgfaaDoorBlRefFlat
namespace Go.Proofs
open Go.RowKit

/-- plain of blocks with so many levels. -/
def Bk.PlainC (d : Nat) : Prop := ∀ (T : Bl) (v lv : Value) (w : World), Bl.Lies w w.heap.size d v lv T → T.allP Bl.okB = true → T.room ≤ 800000000 →
    Calls Tryd.prog 18 #[.agg #[.int .i64 T.kind, .int .i64 T.node, .int .i64 T.arg, v, lv]] w fun e w' => e = .returned (.string ⟨T.textL.toArray⟩) ∧ Below w.heap.size w w'

set_option maxRecDepth 20000 in
set_option maxHeartbeats 16000000 in
theorem Tryd.refBPlain_tree (d : Nat) (ih : Bk.PlainC d) (T : Bl) (v lv : Value) (w : World) (hT : Bl.Lies w w.heap.size (d + 1) v lv T) (hF : T.allP Bl.okB = true) (hrm : T.room ≤ 800000000) (hk : T.kind = 3 ∨ T.kind = 4 ∨ T.kind = 5 ∨ T.kind = 6 ∨ T.kind = 7) :
    Calls Tryd.prog 18 #[.agg #[.int .i64 T.kind, .int .i64 T.node, .int .i64 T.arg, v, lv]] w fun e w' => e = .returned (.string ⟨T.textL.toArray⟩) ∧ Below w.heap.size w w' := by
  obtain ⟨a, c, rfl⟩ := hT.shape
  obtain ⟨al, cl, rfl⟩ := hT.links.shape
  rw [Bl.allP_eq, Bool.and_eq_true] at hF
  obtain ⟨ok1, ok2, ok3, ok4⟩ := Bl.okB_iff hF.1
  have htx := T.textL_eq
  obtain ⟨k, hkk⟩ : ∃ z, T.kind = z := ⟨_, rfl⟩
  obtain ⟨nn, hnn⟩ : ∃ z, T.node = z := ⟨_, rfl⟩
  obtain ⟨rr, hrr⟩ : ∃ z, T.arg = z := ⟨_, rfl⟩
  obtain ⟨n, hn⟩ : ∃ n, T.ks.length = n := ⟨_, rfl⟩
  obtain ⟨nl, hnl⟩ : ∃ n, T.ls.length = n := ⟨_, rfl⟩
  rw [hkk] at hk
  rw [hnn] at ok2
  rw [hrr] at ok3
  rw [hkk, hnn, hrr, if_neg (by omega), if_neg (by omega), if_neg (by omega), if_neg (by omega), if_neg (by omega)] at htx
  rw [hkk, hnn, hrr, hn, hnl]
  rw [hn, hnl] at hT
  have hroom := T.room_eq
  obtain ⟨W0, hW0⟩ : ∃ z, w.alloc (.cells #[.int .i64 k, .int .i64 nn, .int .i64 rr, .slice a n c, .slice al nl cl] 34) = z := ⟨_, rfl⟩
  have A0 : Hid (Below w.heap.size w W0) := by show Below _ _ _; rw [← hW0]; exact (Below.refl _ w).alloc (Nat.le_refl _) _
  have G0 : Hid (W0.heap[w.heap.size]? = some (.cells #[.int .i64 k, .int .i64 nn, .int .i64 rr, .slice a n c, .slice al nl cl] 34 (0, 0))) := by show _ = _; rw [← hW0]; exact heap_alloc_new w _
  have SZ : Hid (w.heap.size < W0.heap.size) := (Array.getElem?_eq_some_iff.1 G0.out).1
  have CF : Hid (∀ W, Below W0.heap.size W0 W → (W.cell? ⟨w.heap.size, 0, none⟩ = some (.int .i64 k) ∧ W.cell? ⟨w.heap.size, 1, none⟩ = some (.int .i64 nn) ∧ W.cell? ⟨w.heap.size, 2, none⟩ = some (.int .i64 rr) ∧ W.cell? ⟨w.heap.size, 3, none⟩ = some (.slice a n c) ∧ W.cell? ⟨w.heap.size, 4, none⟩ = some (.slice al nl cl)) ∧ Below w.heap.size w W) := fun W hb => by
    have e1 := (hb.block _ SZ.out).trans G0.out
    exact ⟨⟨by simp [World.cell?, e1], by simp [World.cell?, e1], by simp [World.cell?, e1], by simp [World.cell?, e1], by simp [World.cell?, e1]⟩, A0.out.trans (hb.mono A0.out.size)⟩
  have hil := Lib.itoa_length_le nn (by omega) ok2.2
  have hir := Lib.itoa_length_le rr (by omega) ok3.2
  have C1 : Hid (∀ W, Below W0.heap.size W0 W → Calls Tryd.prog 30 #[.int .i64 nn] W fun e w' => e = .returned (.string ⟨(Lib.itoa nn).toArray⟩) ∧ Hid (Below W0.heap.size W0 w')) := fun W hb => (Tryd.refNum_any nn (by omega) ok2.2 W).mono fun _ _ q => ⟨q.1, hb.trans (q.2.mono hb.size)⟩
  have C2 : Hid (∀ W, Below W0.heap.size W0 W → Calls Tryd.prog 30 #[.int .i64 rr] W fun e w' => e = .returned (.string ⟨(Lib.itoa rr).toArray⟩) ∧ Hid (Below W0.heap.size W0 w')) := fun W hb => (Tryd.refNum_any rr (by omega) ok3.2 W).mono fun _ _ q => ⟨q.1, hb.trans (q.2.mono hb.size)⟩
  have HI : Hid (Bk.PlainC d) := ih
  have HT : Hid (Bl.Lies w w.heap.size (d + 1) (.slice a n c) (.slice al nl cl) T) := hT
  have HM : Hid (T.ks.length = n ∧ Bl.allPs Bl.okB T.ks = true ∧ Bl.rooms T.ks + 100 ≤ 800000000) := ⟨hn, hF.2, by omega⟩
  obtain ⟨dn, hdn⟩ : ∃ z, Lib.itoa nn = z := ⟨_, rfl⟩
  obtain ⟨dr, hdr⟩ : ∃ z, Lib.itoa rr = z := ⟨_, rfl⟩
  obtain ⟨R, hR⟩ : ∃ z, T.textL = z := ⟨_, rfl⟩
  obtain ⟨hd0, hhd⟩ : ∃ z, 40 :: (Bl.nameL k ++ Bl.nodeL k nn rr) = z := ⟨_, rfl⟩
  have HX : Hid (R = hd0 ++ (Bl.textsL T.ks ++ [41])) := by show _ = _; rw [← hR, htx, ← hhd]; simp
  have hh := hhd
  rw [Bl.nodeL, hdn, hdr] at hh
  rw [hdn] at C1 hil
  rw [hdr] at C2 hir
  rw [hR]
  have s1 : (⟨dn.toArray⟩ : ByteArray).size ≤ 21 := by simpa [ByteArray.size] using hil
  have s2 : (⟨dr.toArray⟩ : ByteArray).size ≤ 21 := by simpa [ByteArray.size] using hir
  have HL : Hid (hd0.length ≤ 60) := by
    show _ ≤ _
    have h1 := Bl.nameL_le k
    have h2 := Bl.nodeL_le k nn rr ok2 ok3
    rw [← hhd]
    simp
    omega
  have hnb : n ≤ 800000000 := by
    have h2 : ∀ l : List Bl, l.length ≤ Bl.rooms l := by
      intro l
      induction l with
      | nil => simp
      | cons x r ih => rw [List.length_cons, Bl.rooms, Bl.room_eq]; omega
    have h3 := h2 T.ks
    have := HM.out
    omega
  have HW0 : Hid _ := hW0
  have BR : Hid (Below W0.heap.size W0 W0) := Below.refl _ _
  clear hF ok1 ok2 ok3 ok4 hkk hnn hrr hn hnl hdn hdr hR hhd htx ih hT hrm hroom hW0
  rcases hk with rfl | rfl | rfl | rfl | rfl
  · have HH : Hid _ := hh
    clear hh
    have BA : Hid (Below W0.heap.size W0 (W0.alloc (.cells #[.string ⟨#[115, 101, 113]⟩, .string ⟨#[112, 97, 114]⟩, .string ⟨#[97, 108, 116]⟩, .string ⟨#[112, 105, 99, 107]⟩, .string ⟨#[108, 111, 111, 112]⟩, .string ⟨#[]⟩, .string ⟨#[119, 101, 98]⟩] 9))) := BR.out.alloc (Nat.le_refl _) _
    have hz := SZ.out
    go_enter Tryd.func18, Tryd.ntmps18
    go_upto_region 10 with fail
    rw [HW0.out]
    clear HW0
    obtain ⟨⟨x0, x1, x2, x3, x4⟩, -⟩ := CF.out W0 BR.out
    obtain ⟨⟨y0, y1, y2, y3, y4⟩, -⟩ := CF.out _ BA.out
    go_wp2
    go_loopg [3, 58] n (fun g s i wr => ∃ (j : Nat) (S : ByteArray), g + j = n ∧ i = .int .i64 j ∧ s = .string S ∧ S.size ≤ 800000000 ∧ Hid (S.data.toList = hd0 ++ Bl.textsL (T.ks.take j) ∧ Below W0.heap.size W0 wr))
    case atStart =>
      refine ⟨0, _, by omega, rfl, rfl, ?_, ?_, BA.out⟩
      · first | (simp [ByteArray.size]; omega) | (simp [ByteArray.size]; done)
      · rw [← HH.out]; simp [Bl.nameL, Bl.textsL, ByteArray.data_append]
    case round =>
      obtain ⟨j, S, hj, rfl, rfl, hS, HJ⟩ := hrel
      clear x0 x1 x2 x3 x4 y0 y1 y2 y3 y4
      by_cases hjn : j < n
      · have hd : decide ((j : Int) < n) = true := decide_eq_true (by omega)
        have hjk : j < T.ks.length := by rw [HM.out.1]; exact hjn
        have hxF := Bl.allPs_get _ T.ks HM.out.2.1 j hjk
        have htk := Bl.textsL_take T.ks j hjk
        have hrk := Bl.rooms_take T.ks j hjk
        have htl := Bl.texts_len (T.ks.take (j + 1)) (Bl.allPs_takes T.ks HM.out.2.1 (j + 1))
        have hrl := Bl.rooms_le T.ks (j + 1)
        obtain ⟨g, off, u, lu, rfl, hg, q0, q1, q2, q3, q4, q5⟩ := HT.out.kid j hjk
        obtain ⟨x, hx⟩ : ∃ x, T.ks[j] = x := ⟨_, rfl⟩
        rw [hx] at q0 q1 q2 q5 hxF htk hrk
        obtain ⟨au, cu, rfl⟩ := q5.shape
        obtain ⟨bu, du, rfl⟩ := q5.links.shape
        obtain ⟨mx, hmx⟩ : ∃ n, x.ls.length = n := ⟨_, rfl⟩
        rw [hmx] at q4 q5
        obtain ⟨nx, hnx⟩ : ∃ n, x.ks.length = n := ⟨_, rfl⟩
        rw [hnx] at q3 q5
        obtain ⟨z0, hz0⟩ : ∃ y, x.kind = y := ⟨_, rfl⟩
        obtain ⟨z1, hz1⟩ : ∃ y, x.node = y := ⟨_, rfl⟩
        obtain ⟨z2, hz2⟩ : ∃ y, x.arg = y := ⟨_, rfl⟩
        rw [hz0] at q0
        rw [hz1] at q1
        rw [hz2] at q2
        have HBW := (CF.out wr HJ.out.2).2
        have hc : ∀ p, wr.cell? ⟨g, p, none⟩ = w.cell? ⟨g, p, none⟩ := fun p => HBW.cell (p := ⟨g, p, none⟩) hg
        have hc0 : wr.cell? ⟨g, off + j * 5, none⟩ = some (.int .i64 z0) := by rw [hc]; exact q0
        have hc1 : wr.cell? ⟨g, off + j * 5 + 1, none⟩ = some (.int .i64 z1) := by rw [hc]; exact q1
        have hc2 : wr.cell? ⟨g, off + j * 5 + 2, none⟩ = some (.int .i64 z2) := by rw [hc]; exact q2
        have hc3 : wr.cell? ⟨g, off + j * 5 + 3, none⟩ = some (.slice au nx cu) := by rw [hc]; exact q3
        have hc4 : wr.cell? ⟨g, off + j * 5 + 4, none⟩ = some (.slice bu mx du) := by rw [hc]; exact q4
        have BB : Hid (Below W0.heap.size W0 (wr.alloc (.cells #[.int .i64 z0, .int .i64 z1, .int .i64 z2, .slice au nx cu, .slice bu mx du] 34))) := HJ.out.2.alloc HJ.out.2.size _
        have BB2 := (CF.out _ BB.out).2
        have hcall := HI.out x (.slice au nx cu) (.slice bu mx du) _ ((q5.below BB2).wider BB2.size) hxF (by have := HM.out.2.2; omega)
        obtain ⟨fx, hfx⟩ : ∃ y, x.textL = y := ⟨_, rfl⟩
        rw [hz0, hz1, hz2, hfx] at hcall
        rw [hfx] at htk
        have HC : Hid _ := hcall
        have hfl : fx.length ≤ 800000000 := by rw [htk] at htl; simp at htl; have := HM.out.2.2; omega
        have hfs : (⟨fx.toArray⟩ : ByteArray).size ≤ 800000000 := by simpa [ByteArray.size] using hfl
        have HTK : Hid (Bl.textsL (T.ks.take (j + 1)) = Bl.textsL (T.ks.take j) ++ 32 :: fx ∧ (Bl.textsL (T.ks.take (j + 1))).length + 100 ≤ 800000000) := ⟨htk, by have := HM.out.2.2; omega⟩
        clear hc q0 q1 q2 q3 q4 q5 hx hz0 hz1 hz2 hnx hmx hcall hfx hxF htk hrk htl hrl HBW BB2 hjk
        go_wp2_with fail
        refine Calls.mono HC.out ?_
        rintro e W3 ⟨rfl, b3⟩
        have B3 : Hid (Below W0.heap.size W0 W3) := BB.out.trans (b3.mono BB.out.size)
        clear b3 HC
        have HS2 : Hid (((S ++ ⟨#[32]⟩) ++ (⟨fx.toArray⟩ : ByteArray)).data.toList = hd0 ++ Bl.textsL (T.ks.take (j + 1))) := by
          show _ = _
          rw [ByteArray.data_append, ByteArray.data_append, Array.toList_append, Array.toList_append, HJ.out.1, HTK.out.1]
          simp
        have hsz2 : ((S ++ ⟨#[32]⟩) ++ (⟨fx.toArray⟩ : ByteArray)).size ≤ 800000000 := by
          show (((S ++ ⟨#[32]⟩) ++ (⟨fx.toArray⟩ : ByteArray)).data.toList).length ≤ _
          rw [HS2.out, List.length_append]
          have := HTK.out.2
          have := HL.out
          omega
        go_wp2
        go_roundg (gk - 1)
        case measure => omega
        case rel => exact ⟨j + 1, _, by omega, by go_num, rfl, hsz2, HS2.out, B3.out⟩
      · have hd : decide ((j : Int) < n) = false := decide_eq_false (by omega)
        have HF : Hid ((⟨R.toArray⟩ : ByteArray) = S ++ ⟨#[41]⟩) := by
          have h1 := HJ.out.1
          rw [List.take_of_length_le (by rw [HM.out.1]; omega)] at h1
          refine Tk.ba_eq ?_
          rw [ByteArray.data_append, Array.toList_append, h1, HX.out]
          simp
        obtain ⟨⟨z0, z1, z2, z3, z4⟩, HBW⟩ := CF.out wr HJ.out.2
        have HB : Hid (Below w.heap.size w wr) := HBW
        clear HBW
        go_wp2
        go_ret
        exact ⟨by rw [HF.out]; rfl, HB.out⟩
  · have HH : Hid _ := hh
    clear hh
    have BA : Hid (Below W0.heap.size W0 (W0.alloc (.cells #[.string ⟨#[115, 101, 113]⟩, .string ⟨#[112, 97, 114]⟩, .string ⟨#[97, 108, 116]⟩, .string ⟨#[112, 105, 99, 107]⟩, .string ⟨#[108, 111, 111, 112]⟩, .string ⟨#[]⟩, .string ⟨#[119, 101, 98]⟩] 9))) := BR.out.alloc (Nat.le_refl _) _
    have hz := SZ.out
    go_enter Tryd.func18, Tryd.ntmps18
    go_upto_region 10 with fail
    rw [HW0.out]
    clear HW0
    obtain ⟨⟨x0, x1, x2, x3, x4⟩, -⟩ := CF.out W0 BR.out
    obtain ⟨⟨y0, y1, y2, y3, y4⟩, -⟩ := CF.out _ BA.out
    go_wp2_with fail
    refine Calls.mono (C1.out _ BA.out) ?_
    rintro e W1 ⟨rfl, X1⟩
    obtain ⟨⟨v0, v1, v2, v3, v4⟩, -⟩ := CF.out W1 X1.out
    go_wp2
    go_loopg [3, 58] n (fun g s i wr => ∃ (j : Nat) (S : ByteArray), g + j = n ∧ i = .int .i64 j ∧ s = .string S ∧ S.size ≤ 800000000 ∧ Hid (S.data.toList = hd0 ++ Bl.textsL (T.ks.take j) ∧ Below W0.heap.size W0 wr))
    case atStart =>
      refine ⟨0, _, by omega, rfl, rfl, ?_, ?_, X1.out⟩
      · first | (simp [ByteArray.size]; omega) | (simp [ByteArray.size]; done)
      · rw [← HH.out]; simp [Bl.nameL, Bl.textsL, ByteArray.data_append]
    case round =>
      obtain ⟨j, S, hj, rfl, rfl, hS, HJ⟩ := hrel
      clear x0 x1 x2 x3 x4 y0 y1 y2 y3 y4 v0 v1 v2 v3 v4
      by_cases hjn : j < n
      · have hd : decide ((j : Int) < n) = true := decide_eq_true (by omega)
        have hjk : j < T.ks.length := by rw [HM.out.1]; exact hjn
        have hxF := Bl.allPs_get _ T.ks HM.out.2.1 j hjk
        have htk := Bl.textsL_take T.ks j hjk
        have hrk := Bl.rooms_take T.ks j hjk
        have htl := Bl.texts_len (T.ks.take (j + 1)) (Bl.allPs_takes T.ks HM.out.2.1 (j + 1))
        have hrl := Bl.rooms_le T.ks (j + 1)
        obtain ⟨g, off, u, lu, rfl, hg, q0, q1, q2, q3, q4, q5⟩ := HT.out.kid j hjk
        obtain ⟨x, hx⟩ : ∃ x, T.ks[j] = x := ⟨_, rfl⟩
        rw [hx] at q0 q1 q2 q5 hxF htk hrk
        obtain ⟨au, cu, rfl⟩ := q5.shape
        obtain ⟨bu, du, rfl⟩ := q5.links.shape
        obtain ⟨mx, hmx⟩ : ∃ n, x.ls.length = n := ⟨_, rfl⟩
        rw [hmx] at q4 q5
        obtain ⟨nx, hnx⟩ : ∃ n, x.ks.length = n := ⟨_, rfl⟩
        rw [hnx] at q3 q5
        obtain ⟨z0, hz0⟩ : ∃ y, x.kind = y := ⟨_, rfl⟩
        obtain ⟨z1, hz1⟩ : ∃ y, x.node = y := ⟨_, rfl⟩
        obtain ⟨z2, hz2⟩ : ∃ y, x.arg = y := ⟨_, rfl⟩
        rw [hz0] at q0
        rw [hz1] at q1
        rw [hz2] at q2
        have HBW := (CF.out wr HJ.out.2).2
        have hc : ∀ p, wr.cell? ⟨g, p, none⟩ = w.cell? ⟨g, p, none⟩ := fun p => HBW.cell (p := ⟨g, p, none⟩) hg
        have hc0 : wr.cell? ⟨g, off + j * 5, none⟩ = some (.int .i64 z0) := by rw [hc]; exact q0
        have hc1 : wr.cell? ⟨g, off + j * 5 + 1, none⟩ = some (.int .i64 z1) := by rw [hc]; exact q1
        have hc2 : wr.cell? ⟨g, off + j * 5 + 2, none⟩ = some (.int .i64 z2) := by rw [hc]; exact q2
        have hc3 : wr.cell? ⟨g, off + j * 5 + 3, none⟩ = some (.slice au nx cu) := by rw [hc]; exact q3
        have hc4 : wr.cell? ⟨g, off + j * 5 + 4, none⟩ = some (.slice bu mx du) := by rw [hc]; exact q4
        have BB : Hid (Below W0.heap.size W0 (wr.alloc (.cells #[.int .i64 z0, .int .i64 z1, .int .i64 z2, .slice au nx cu, .slice bu mx du] 34))) := HJ.out.2.alloc HJ.out.2.size _
        have BB2 := (CF.out _ BB.out).2
        have hcall := HI.out x (.slice au nx cu) (.slice bu mx du) _ ((q5.below BB2).wider BB2.size) hxF (by have := HM.out.2.2; omega)
        obtain ⟨fx, hfx⟩ : ∃ y, x.textL = y := ⟨_, rfl⟩
        rw [hz0, hz1, hz2, hfx] at hcall
        rw [hfx] at htk
        have HC : Hid _ := hcall
        have hfl : fx.length ≤ 800000000 := by rw [htk] at htl; simp at htl; have := HM.out.2.2; omega
        have hfs : (⟨fx.toArray⟩ : ByteArray).size ≤ 800000000 := by simpa [ByteArray.size] using hfl
        have HTK : Hid (Bl.textsL (T.ks.take (j + 1)) = Bl.textsL (T.ks.take j) ++ 32 :: fx ∧ (Bl.textsL (T.ks.take (j + 1))).length + 100 ≤ 800000000) := ⟨htk, by have := HM.out.2.2; omega⟩
        clear hc q0 q1 q2 q3 q4 q5 hx hz0 hz1 hz2 hnx hmx hcall hfx hxF htk hrk htl hrl HBW BB2 hjk
        go_wp2_with fail
        refine Calls.mono HC.out ?_
        rintro e W3 ⟨rfl, b3⟩
        have B3 : Hid (Below W0.heap.size W0 W3) := BB.out.trans (b3.mono BB.out.size)
        clear b3 HC
        have HS2 : Hid (((S ++ ⟨#[32]⟩) ++ (⟨fx.toArray⟩ : ByteArray)).data.toList = hd0 ++ Bl.textsL (T.ks.take (j + 1))) := by
          show _ = _
          rw [ByteArray.data_append, ByteArray.data_append, Array.toList_append, Array.toList_append, HJ.out.1, HTK.out.1]
          simp
        have hsz2 : ((S ++ ⟨#[32]⟩) ++ (⟨fx.toArray⟩ : ByteArray)).size ≤ 800000000 := by
          show (((S ++ ⟨#[32]⟩) ++ (⟨fx.toArray⟩ : ByteArray)).data.toList).length ≤ _
          rw [HS2.out, List.length_append]
          have := HTK.out.2
          have := HL.out
          omega
        go_wp2
        go_roundg (gk - 1)
        case measure => omega
        case rel => exact ⟨j + 1, _, by omega, by go_num, rfl, hsz2, HS2.out, B3.out⟩
      · have hd : decide ((j : Int) < n) = false := decide_eq_false (by omega)
        have HF : Hid ((⟨R.toArray⟩ : ByteArray) = S ++ ⟨#[41]⟩) := by
          have h1 := HJ.out.1
          rw [List.take_of_length_le (by rw [HM.out.1]; omega)] at h1
          refine Tk.ba_eq ?_
          rw [ByteArray.data_append, Array.toList_append, h1, HX.out]
          simp
        obtain ⟨⟨z0, z1, z2, z3, z4⟩, HBW⟩ := CF.out wr HJ.out.2
        have HB : Hid (Below w.heap.size w wr) := HBW
        clear HBW
        go_wp2
        go_ret
        exact ⟨by rw [HF.out]; rfl, HB.out⟩
  · have HH : Hid _ := hh
    clear hh
    have BA : Hid (Below W0.heap.size W0 (W0.alloc (.cells #[.string ⟨#[115, 101, 113]⟩, .string ⟨#[112, 97, 114]⟩, .string ⟨#[97, 108, 116]⟩, .string ⟨#[112, 105, 99, 107]⟩, .string ⟨#[108, 111, 111, 112]⟩, .string ⟨#[]⟩, .string ⟨#[119, 101, 98]⟩] 9))) := BR.out.alloc (Nat.le_refl _) _
    have hz := SZ.out
    go_enter Tryd.func18, Tryd.ntmps18
    go_upto_region 10 with fail
    rw [HW0.out]
    clear HW0
    obtain ⟨⟨x0, x1, x2, x3, x4⟩, -⟩ := CF.out W0 BR.out
    obtain ⟨⟨y0, y1, y2, y3, y4⟩, -⟩ := CF.out _ BA.out
    go_wp2_with fail
    refine Calls.mono (C1.out _ BA.out) ?_
    rintro e W1 ⟨rfl, X1⟩
    obtain ⟨⟨v0, v1, v2, v3, v4⟩, -⟩ := CF.out W1 X1.out
    go_wp2
    go_loopg [3, 58] n (fun g s i wr => ∃ (j : Nat) (S : ByteArray), g + j = n ∧ i = .int .i64 j ∧ s = .string S ∧ S.size ≤ 800000000 ∧ Hid (S.data.toList = hd0 ++ Bl.textsL (T.ks.take j) ∧ Below W0.heap.size W0 wr))
    case atStart =>
      refine ⟨0, _, by omega, rfl, rfl, ?_, ?_, X1.out⟩
      · first | (simp [ByteArray.size]; omega) | (simp [ByteArray.size]; done)
      · rw [← HH.out]; simp [Bl.nameL, Bl.textsL, ByteArray.data_append]
    case round =>
      obtain ⟨j, S, hj, rfl, rfl, hS, HJ⟩ := hrel
      clear x0 x1 x2 x3 x4 y0 y1 y2 y3 y4 v0 v1 v2 v3 v4
      by_cases hjn : j < n
      · have hd : decide ((j : Int) < n) = true := decide_eq_true (by omega)
        have hjk : j < T.ks.length := by rw [HM.out.1]; exact hjn
        have hxF := Bl.allPs_get _ T.ks HM.out.2.1 j hjk
        have htk := Bl.textsL_take T.ks j hjk
        have hrk := Bl.rooms_take T.ks j hjk
        have htl := Bl.texts_len (T.ks.take (j + 1)) (Bl.allPs_takes T.ks HM.out.2.1 (j + 1))
        have hrl := Bl.rooms_le T.ks (j + 1)
        obtain ⟨g, off, u, lu, rfl, hg, q0, q1, q2, q3, q4, q5⟩ := HT.out.kid j hjk
        obtain ⟨x, hx⟩ : ∃ x, T.ks[j] = x := ⟨_, rfl⟩
        rw [hx] at q0 q1 q2 q5 hxF htk hrk
        obtain ⟨au, cu, rfl⟩ := q5.shape
        obtain ⟨bu, du, rfl⟩ := q5.links.shape
        obtain ⟨mx, hmx⟩ : ∃ n, x.ls.length = n := ⟨_, rfl⟩
        rw [hmx] at q4 q5
        obtain ⟨nx, hnx⟩ : ∃ n, x.ks.length = n := ⟨_, rfl⟩
        rw [hnx] at q3 q5
        obtain ⟨z0, hz0⟩ : ∃ y, x.kind = y := ⟨_, rfl⟩
        obtain ⟨z1, hz1⟩ : ∃ y, x.node = y := ⟨_, rfl⟩
        obtain ⟨z2, hz2⟩ : ∃ y, x.arg = y := ⟨_, rfl⟩
        rw [hz0] at q0
        rw [hz1] at q1
        rw [hz2] at q2
        have HBW := (CF.out wr HJ.out.2).2
        have hc : ∀ p, wr.cell? ⟨g, p, none⟩ = w.cell? ⟨g, p, none⟩ := fun p => HBW.cell (p := ⟨g, p, none⟩) hg
        have hc0 : wr.cell? ⟨g, off + j * 5, none⟩ = some (.int .i64 z0) := by rw [hc]; exact q0
        have hc1 : wr.cell? ⟨g, off + j * 5 + 1, none⟩ = some (.int .i64 z1) := by rw [hc]; exact q1
        have hc2 : wr.cell? ⟨g, off + j * 5 + 2, none⟩ = some (.int .i64 z2) := by rw [hc]; exact q2
        have hc3 : wr.cell? ⟨g, off + j * 5 + 3, none⟩ = some (.slice au nx cu) := by rw [hc]; exact q3
        have hc4 : wr.cell? ⟨g, off + j * 5 + 4, none⟩ = some (.slice bu mx du) := by rw [hc]; exact q4
        have BB : Hid (Below W0.heap.size W0 (wr.alloc (.cells #[.int .i64 z0, .int .i64 z1, .int .i64 z2, .slice au nx cu, .slice bu mx du] 34))) := HJ.out.2.alloc HJ.out.2.size _
        have BB2 := (CF.out _ BB.out).2
        have hcall := HI.out x (.slice au nx cu) (.slice bu mx du) _ ((q5.below BB2).wider BB2.size) hxF (by have := HM.out.2.2; omega)
        obtain ⟨fx, hfx⟩ : ∃ y, x.textL = y := ⟨_, rfl⟩
        rw [hz0, hz1, hz2, hfx] at hcall
        rw [hfx] at htk
        have HC : Hid _ := hcall
        have hfl : fx.length ≤ 800000000 := by rw [htk] at htl; simp at htl; have := HM.out.2.2; omega
        have hfs : (⟨fx.toArray⟩ : ByteArray).size ≤ 800000000 := by simpa [ByteArray.size] using hfl
        have HTK : Hid (Bl.textsL (T.ks.take (j + 1)) = Bl.textsL (T.ks.take j) ++ 32 :: fx ∧ (Bl.textsL (T.ks.take (j + 1))).length + 100 ≤ 800000000) := ⟨htk, by have := HM.out.2.2; omega⟩
        clear hc q0 q1 q2 q3 q4 q5 hx hz0 hz1 hz2 hnx hmx hcall hfx hxF htk hrk htl hrl HBW BB2 hjk
        go_wp2_with fail
        refine Calls.mono HC.out ?_
        rintro e W3 ⟨rfl, b3⟩
        have B3 : Hid (Below W0.heap.size W0 W3) := BB.out.trans (b3.mono BB.out.size)
        clear b3 HC
        have HS2 : Hid (((S ++ ⟨#[32]⟩) ++ (⟨fx.toArray⟩ : ByteArray)).data.toList = hd0 ++ Bl.textsL (T.ks.take (j + 1))) := by
          show _ = _
          rw [ByteArray.data_append, ByteArray.data_append, Array.toList_append, Array.toList_append, HJ.out.1, HTK.out.1]
          simp
        have hsz2 : ((S ++ ⟨#[32]⟩) ++ (⟨fx.toArray⟩ : ByteArray)).size ≤ 800000000 := by
          show (((S ++ ⟨#[32]⟩) ++ (⟨fx.toArray⟩ : ByteArray)).data.toList).length ≤ _
          rw [HS2.out, List.length_append]
          have := HTK.out.2
          have := HL.out
          omega
        go_wp2
        go_roundg (gk - 1)
        case measure => omega
        case rel => exact ⟨j + 1, _, by omega, by go_num, rfl, hsz2, HS2.out, B3.out⟩
      · have hd : decide ((j : Int) < n) = false := decide_eq_false (by omega)
        have HF : Hid ((⟨R.toArray⟩ : ByteArray) = S ++ ⟨#[41]⟩) := by
          have h1 := HJ.out.1
          rw [List.take_of_length_le (by rw [HM.out.1]; omega)] at h1
          refine Tk.ba_eq ?_
          rw [ByteArray.data_append, Array.toList_append, h1, HX.out]
          simp
        obtain ⟨⟨z0, z1, z2, z3, z4⟩, HBW⟩ := CF.out wr HJ.out.2
        have HB : Hid (Below w.heap.size w wr) := HBW
        clear HBW
        go_wp2
        go_ret
        exact ⟨by rw [HF.out]; rfl, HB.out⟩
  · have HH : Hid _ := hh
    clear hh
    have BA : Hid (Below W0.heap.size W0 (W0.alloc (.cells #[.string ⟨#[115, 101, 113]⟩, .string ⟨#[112, 97, 114]⟩, .string ⟨#[97, 108, 116]⟩, .string ⟨#[112, 105, 99, 107]⟩, .string ⟨#[108, 111, 111, 112]⟩, .string ⟨#[]⟩, .string ⟨#[119, 101, 98]⟩] 9))) := BR.out.alloc (Nat.le_refl _) _
    have hz := SZ.out
    go_enter Tryd.func18, Tryd.ntmps18
    go_upto_region 10 with fail
    rw [HW0.out]
    clear HW0
    obtain ⟨⟨x0, x1, x2, x3, x4⟩, -⟩ := CF.out W0 BR.out
    obtain ⟨⟨y0, y1, y2, y3, y4⟩, -⟩ := CF.out _ BA.out
    go_wp2_with fail
    refine Calls.mono (C1.out _ BA.out) ?_
    rintro e W1 ⟨rfl, X1⟩
    obtain ⟨⟨v0, v1, v2, v3, v4⟩, -⟩ := CF.out W1 X1.out
    go_wp2
    go_loopg [3, 58] n (fun g s i wr => ∃ (j : Nat) (S : ByteArray), g + j = n ∧ i = .int .i64 j ∧ s = .string S ∧ S.size ≤ 800000000 ∧ Hid (S.data.toList = hd0 ++ Bl.textsL (T.ks.take j) ∧ Below W0.heap.size W0 wr))
    case atStart =>
      refine ⟨0, _, by omega, rfl, rfl, ?_, ?_, X1.out⟩
      · first | (simp [ByteArray.size]; omega) | (simp [ByteArray.size]; done)
      · rw [← HH.out]; simp [Bl.nameL, Bl.textsL, ByteArray.data_append]
    case round =>
      obtain ⟨j, S, hj, rfl, rfl, hS, HJ⟩ := hrel
      clear x0 x1 x2 x3 x4 y0 y1 y2 y3 y4 v0 v1 v2 v3 v4
      by_cases hjn : j < n
      · have hd : decide ((j : Int) < n) = true := decide_eq_true (by omega)
        have hjk : j < T.ks.length := by rw [HM.out.1]; exact hjn
        have hxF := Bl.allPs_get _ T.ks HM.out.2.1 j hjk
        have htk := Bl.textsL_take T.ks j hjk
        have hrk := Bl.rooms_take T.ks j hjk
        have htl := Bl.texts_len (T.ks.take (j + 1)) (Bl.allPs_takes T.ks HM.out.2.1 (j + 1))
        have hrl := Bl.rooms_le T.ks (j + 1)
        obtain ⟨g, off, u, lu, rfl, hg, q0, q1, q2, q3, q4, q5⟩ := HT.out.kid j hjk
        obtain ⟨x, hx⟩ : ∃ x, T.ks[j] = x := ⟨_, rfl⟩
        rw [hx] at q0 q1 q2 q5 hxF htk hrk
        obtain ⟨au, cu, rfl⟩ := q5.shape
        obtain ⟨bu, du, rfl⟩ := q5.links.shape
        obtain ⟨mx, hmx⟩ : ∃ n, x.ls.length = n := ⟨_, rfl⟩
        rw [hmx] at q4 q5
        obtain ⟨nx, hnx⟩ : ∃ n, x.ks.length = n := ⟨_, rfl⟩
        rw [hnx] at q3 q5
        obtain ⟨z0, hz0⟩ : ∃ y, x.kind = y := ⟨_, rfl⟩
        obtain ⟨z1, hz1⟩ : ∃ y, x.node = y := ⟨_, rfl⟩
        obtain ⟨z2, hz2⟩ : ∃ y, x.arg = y := ⟨_, rfl⟩
        rw [hz0] at q0
        rw [hz1] at q1
        rw [hz2] at q2
        have HBW := (CF.out wr HJ.out.2).2
        have hc : ∀ p, wr.cell? ⟨g, p, none⟩ = w.cell? ⟨g, p, none⟩ := fun p => HBW.cell (p := ⟨g, p, none⟩) hg
        have hc0 : wr.cell? ⟨g, off + j * 5, none⟩ = some (.int .i64 z0) := by rw [hc]; exact q0
        have hc1 : wr.cell? ⟨g, off + j * 5 + 1, none⟩ = some (.int .i64 z1) := by rw [hc]; exact q1
        have hc2 : wr.cell? ⟨g, off + j * 5 + 2, none⟩ = some (.int .i64 z2) := by rw [hc]; exact q2
        have hc3 : wr.cell? ⟨g, off + j * 5 + 3, none⟩ = some (.slice au nx cu) := by rw [hc]; exact q3
        have hc4 : wr.cell? ⟨g, off + j * 5 + 4, none⟩ = some (.slice bu mx du) := by rw [hc]; exact q4
        have BB : Hid (Below W0.heap.size W0 (wr.alloc (.cells #[.int .i64 z0, .int .i64 z1, .int .i64 z2, .slice au nx cu, .slice bu mx du] 34))) := HJ.out.2.alloc HJ.out.2.size _
        have BB2 := (CF.out _ BB.out).2
        have hcall := HI.out x (.slice au nx cu) (.slice bu mx du) _ ((q5.below BB2).wider BB2.size) hxF (by have := HM.out.2.2; omega)
        obtain ⟨fx, hfx⟩ : ∃ y, x.textL = y := ⟨_, rfl⟩
        rw [hz0, hz1, hz2, hfx] at hcall
        rw [hfx] at htk
        have HC : Hid _ := hcall
        have hfl : fx.length ≤ 800000000 := by rw [htk] at htl; simp at htl; have := HM.out.2.2; omega
        have hfs : (⟨fx.toArray⟩ : ByteArray).size ≤ 800000000 := by simpa [ByteArray.size] using hfl
        have HTK : Hid (Bl.textsL (T.ks.take (j + 1)) = Bl.textsL (T.ks.take j) ++ 32 :: fx ∧ (Bl.textsL (T.ks.take (j + 1))).length + 100 ≤ 800000000) := ⟨htk, by have := HM.out.2.2; omega⟩
        clear hc q0 q1 q2 q3 q4 q5 hx hz0 hz1 hz2 hnx hmx hcall hfx hxF htk hrk htl hrl HBW BB2 hjk
        go_wp2_with fail
        refine Calls.mono HC.out ?_
        rintro e W3 ⟨rfl, b3⟩
        have B3 : Hid (Below W0.heap.size W0 W3) := BB.out.trans (b3.mono BB.out.size)
        clear b3 HC
        have HS2 : Hid (((S ++ ⟨#[32]⟩) ++ (⟨fx.toArray⟩ : ByteArray)).data.toList = hd0 ++ Bl.textsL (T.ks.take (j + 1))) := by
          show _ = _
          rw [ByteArray.data_append, ByteArray.data_append, Array.toList_append, Array.toList_append, HJ.out.1, HTK.out.1]
          simp
        have hsz2 : ((S ++ ⟨#[32]⟩) ++ (⟨fx.toArray⟩ : ByteArray)).size ≤ 800000000 := by
          show (((S ++ ⟨#[32]⟩) ++ (⟨fx.toArray⟩ : ByteArray)).data.toList).length ≤ _
          rw [HS2.out, List.length_append]
          have := HTK.out.2
          have := HL.out
          omega
        go_wp2
        go_roundg (gk - 1)
        case measure => omega
        case rel => exact ⟨j + 1, _, by omega, by go_num, rfl, hsz2, HS2.out, B3.out⟩
      · have hd : decide ((j : Int) < n) = false := decide_eq_false (by omega)
        have HF : Hid ((⟨R.toArray⟩ : ByteArray) = S ++ ⟨#[41]⟩) := by
          have h1 := HJ.out.1
          rw [List.take_of_length_le (by rw [HM.out.1]; omega)] at h1
          refine Tk.ba_eq ?_
          rw [ByteArray.data_append, Array.toList_append, h1, HX.out]
          simp
        obtain ⟨⟨z0, z1, z2, z3, z4⟩, HBW⟩ := CF.out wr HJ.out.2
        have HB : Hid (Below w.heap.size w wr) := HBW
        clear HBW
        go_wp2
        go_ret
        exact ⟨by rw [HF.out]; rfl, HB.out⟩
  · have HH : Hid _ := hh
    clear hh
    have BA : Hid (Below W0.heap.size W0 (W0.alloc (.cells #[.string ⟨#[115, 101, 113]⟩, .string ⟨#[112, 97, 114]⟩, .string ⟨#[97, 108, 116]⟩, .string ⟨#[112, 105, 99, 107]⟩, .string ⟨#[108, 111, 111, 112]⟩, .string ⟨#[]⟩, .string ⟨#[119, 101, 98]⟩] 9))) := BR.out.alloc (Nat.le_refl _) _
    have hz := SZ.out
    go_enter Tryd.func18, Tryd.ntmps18
    go_upto_region 10 with fail
    rw [HW0.out]
    clear HW0
    obtain ⟨⟨x0, x1, x2, x3, x4⟩, -⟩ := CF.out W0 BR.out
    obtain ⟨⟨y0, y1, y2, y3, y4⟩, -⟩ := CF.out _ BA.out
    go_wp2_with fail
    refine Calls.mono (C1.out _ BA.out) ?_
    rintro e W1 ⟨rfl, X1⟩
    obtain ⟨⟨v0, v1, v2, v3, v4⟩, -⟩ := CF.out W1 X1.out
    go_wp2_with fail
    refine Calls.mono (C2.out _ X1.out) ?_
    rintro e W2 ⟨rfl, X2⟩
    obtain ⟨⟨u0, u1, u2, u3, u4⟩, -⟩ := CF.out W2 X2.out
    go_wp2
    go_loopg [3, 58] n (fun g s i wr => ∃ (j : Nat) (S : ByteArray), g + j = n ∧ i = .int .i64 j ∧ s = .string S ∧ S.size ≤ 800000000 ∧ Hid (S.data.toList = hd0 ++ Bl.textsL (T.ks.take j) ∧ Below W0.heap.size W0 wr))
    case atStart =>
      refine ⟨0, _, by omega, rfl, rfl, ?_, ?_, X2.out⟩
      · first | (simp [ByteArray.size]; omega) | (simp [ByteArray.size]; done)
      · rw [← HH.out]; simp [Bl.nameL, Bl.textsL, ByteArray.data_append]
    case round =>
      obtain ⟨j, S, hj, rfl, rfl, hS, HJ⟩ := hrel
      clear x0 x1 x2 x3 x4 y0 y1 y2 y3 y4 v0 v1 v2 v3 v4 u0 u1 u2 u3 u4
      by_cases hjn : j < n
      · have hd : decide ((j : Int) < n) = true := decide_eq_true (by omega)
        have hjk : j < T.ks.length := by rw [HM.out.1]; exact hjn
        have hxF := Bl.allPs_get _ T.ks HM.out.2.1 j hjk
        have htk := Bl.textsL_take T.ks j hjk
        have hrk := Bl.rooms_take T.ks j hjk
        have htl := Bl.texts_len (T.ks.take (j + 1)) (Bl.allPs_takes T.ks HM.out.2.1 (j + 1))
        have hrl := Bl.rooms_le T.ks (j + 1)
        obtain ⟨g, off, u, lu, rfl, hg, q0, q1, q2, q3, q4, q5⟩ := HT.out.kid j hjk
        obtain ⟨x, hx⟩ : ∃ x, T.ks[j] = x := ⟨_, rfl⟩
        rw [hx] at q0 q1 q2 q5 hxF htk hrk
        obtain ⟨au, cu, rfl⟩ := q5.shape
        obtain ⟨bu, du, rfl⟩ := q5.links.shape
        obtain ⟨mx, hmx⟩ : ∃ n, x.ls.length = n := ⟨_, rfl⟩
        rw [hmx] at q4 q5
        obtain ⟨nx, hnx⟩ : ∃ n, x.ks.length = n := ⟨_, rfl⟩
        rw [hnx] at q3 q5
        obtain ⟨z0, hz0⟩ : ∃ y, x.kind = y := ⟨_, rfl⟩
        obtain ⟨z1, hz1⟩ : ∃ y, x.node = y := ⟨_, rfl⟩
        obtain ⟨z2, hz2⟩ : ∃ y, x.arg = y := ⟨_, rfl⟩
        rw [hz0] at q0
        rw [hz1] at q1
        rw [hz2] at q2
        have HBW := (CF.out wr HJ.out.2).2
        have hc : ∀ p, wr.cell? ⟨g, p, none⟩ = w.cell? ⟨g, p, none⟩ := fun p => HBW.cell (p := ⟨g, p, none⟩) hg
        have hc0 : wr.cell? ⟨g, off + j * 5, none⟩ = some (.int .i64 z0) := by rw [hc]; exact q0
        have hc1 : wr.cell? ⟨g, off + j * 5 + 1, none⟩ = some (.int .i64 z1) := by rw [hc]; exact q1
        have hc2 : wr.cell? ⟨g, off + j * 5 + 2, none⟩ = some (.int .i64 z2) := by rw [hc]; exact q2
        have hc3 : wr.cell? ⟨g, off + j * 5 + 3, none⟩ = some (.slice au nx cu) := by rw [hc]; exact q3
        have hc4 : wr.cell? ⟨g, off + j * 5 + 4, none⟩ = some (.slice bu mx du) := by rw [hc]; exact q4
        have BB : Hid (Below W0.heap.size W0 (wr.alloc (.cells #[.int .i64 z0, .int .i64 z1, .int .i64 z2, .slice au nx cu, .slice bu mx du] 34))) := HJ.out.2.alloc HJ.out.2.size _
        have BB2 := (CF.out _ BB.out).2
        have hcall := HI.out x (.slice au nx cu) (.slice bu mx du) _ ((q5.below BB2).wider BB2.size) hxF (by have := HM.out.2.2; omega)
        obtain ⟨fx, hfx⟩ : ∃ y, x.textL = y := ⟨_, rfl⟩
        rw [hz0, hz1, hz2, hfx] at hcall
        rw [hfx] at htk
        have HC : Hid _ := hcall
        have hfl : fx.length ≤ 800000000 := by rw [htk] at htl; simp at htl; have := HM.out.2.2; omega
        have hfs : (⟨fx.toArray⟩ : ByteArray).size ≤ 800000000 := by simpa [ByteArray.size] using hfl
        have HTK : Hid (Bl.textsL (T.ks.take (j + 1)) = Bl.textsL (T.ks.take j) ++ 32 :: fx ∧ (Bl.textsL (T.ks.take (j + 1))).length + 100 ≤ 800000000) := ⟨htk, by have := HM.out.2.2; omega⟩
        clear hc q0 q1 q2 q3 q4 q5 hx hz0 hz1 hz2 hnx hmx hcall hfx hxF htk hrk htl hrl HBW BB2 hjk
        go_wp2_with fail
        refine Calls.mono HC.out ?_
        rintro e W3 ⟨rfl, b3⟩
        have B3 : Hid (Below W0.heap.size W0 W3) := BB.out.trans (b3.mono BB.out.size)
        clear b3 HC
        have HS2 : Hid (((S ++ ⟨#[32]⟩) ++ (⟨fx.toArray⟩ : ByteArray)).data.toList = hd0 ++ Bl.textsL (T.ks.take (j + 1))) := by
          show _ = _
          rw [ByteArray.data_append, ByteArray.data_append, Array.toList_append, Array.toList_append, HJ.out.1, HTK.out.1]
          simp
        have hsz2 : ((S ++ ⟨#[32]⟩) ++ (⟨fx.toArray⟩ : ByteArray)).size ≤ 800000000 := by
          show (((S ++ ⟨#[32]⟩) ++ (⟨fx.toArray⟩ : ByteArray)).data.toList).length ≤ _
          rw [HS2.out, List.length_append]
          have := HTK.out.2
          have := HL.out
          omega
        go_wp2
        go_roundg (gk - 1)
        case measure => omega
        case rel => exact ⟨j + 1, _, by omega, by go_num, rfl, hsz2, HS2.out, B3.out⟩
      · have hd : decide ((j : Int) < n) = false := decide_eq_false (by omega)
        have HF : Hid ((⟨R.toArray⟩ : ByteArray) = S ++ ⟨#[41]⟩) := by
          have h1 := HJ.out.1
          rw [List.take_of_length_le (by rw [HM.out.1]; omega)] at h1
          refine Tk.ba_eq ?_
          rw [ByteArray.data_append, Array.toList_append, h1, HX.out]
          simp
        obtain ⟨⟨z0, z1, z2, z3, z4⟩, HBW⟩ := CF.out wr HJ.out.2
        have HB : Hid (Below w.heap.size w wr) := HBW
        clear HBW
        go_wp2
        go_ret
        exact ⟨by rw [HF.out]; rfl, HB.out⟩

end Go.Proofs
