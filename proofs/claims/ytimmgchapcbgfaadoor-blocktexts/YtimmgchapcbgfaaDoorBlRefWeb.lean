/-
  The document's plain of webs.
-/
import Derived.Test.YtimmgchapcbgfaaDoorBlRefTree
namespace Go.Proofs
open Go.RowKit

set_option maxRecDepth 20000 in
set_option maxHeartbeats 16000000 in
theorem Tryd.refBPlain_web (d : Nat) (ih : Bk.PlainC d) (T : Bl) (v lv : Value) (w : World) (hT : Bl.Lies w w.heap.size (d + 1) v lv T) (hF : T.allP Bl.okB = true) (hrm : T.room ≤ 800000000) (hk : T.kind = 9) :
    Calls Tryd.prog 18 #[.agg #[.int .i64 T.kind, .int .i64 T.node, .int .i64 T.arg, v, lv]] w fun e w' => e = .returned (.string ⟨T.textL.toArray⟩) ∧ Below w.heap.size w w' := by
  obtain ⟨a, c, rfl⟩ := hT.shape
  obtain ⟨al, cl, rfl⟩ := hT.links.shape
  rw [Bl.allP_eq, Bool.and_eq_true] at hF
  obtain ⟨ok1, ok2, ok3, ok4⟩ := Bl.okB_iff hF.1
  have htx := T.textL_eq
  obtain ⟨k, hkk⟩ : ∃ z, T.kind = z := ⟨_, rfl⟩
  obtain ⟨nn, hnn⟩ : ∃ z, T.node = z := ⟨_, rfl⟩
  obtain ⟨rr, hrr⟩ : ∃ z, T.arg = z := ⟨_, rfl⟩
  obtain ⟨n, hn⟩ : ∃ n, T.ks.length = n := ⟨_, rfl⟩
  obtain ⟨nl, hnl⟩ : ∃ n, T.ls.length = n := ⟨_, rfl⟩
  rw [hkk] at hk
  rw [hnn] at ok2
  rw [hrr] at ok3
  rw [hkk, hnn, hrr, if_neg (by omega), if_neg (by omega), if_neg (by omega), if_neg (by omega), if_pos hk] at htx
  rw [hkk, hnn, hrr, hn, hnl]
  rw [hn, hnl] at hT
  have hroom := T.room_eq
  obtain ⟨W0, hW0⟩ : ∃ z, w.alloc (.cells #[.int .i64 k, .int .i64 nn, .int .i64 rr, .slice a n c, .slice al nl cl] 34) = z := ⟨_, rfl⟩
  have A0 : Hid (Below w.heap.size w W0) := by show Below _ _ _; rw [← hW0]; exact (Below.refl _ w).alloc (Nat.le_refl _) _
  have G0 : Hid (W0.heap[w.heap.size]? = some (.cells #[.int .i64 k, .int .i64 nn, .int .i64 rr, .slice a n c, .slice al nl cl] 34 (0, 0))) := by show _ = _; rw [← hW0]; exact heap_alloc_new w _
  have SZ : Hid (w.heap.size < W0.heap.size) := (Array.getElem?_eq_some_iff.1 G0.out).1
  have CF : Hid (∀ W, Below W0.heap.size W0 W → (W.cell? ⟨w.heap.size, 0, none⟩ = some (.int .i64 k) ∧ W.cell? ⟨w.heap.size, 1, none⟩ = some (.int .i64 nn) ∧ W.cell? ⟨w.heap.size, 2, none⟩ = some (.int .i64 rr) ∧ W.cell? ⟨w.heap.size, 3, none⟩ = some (.slice a n c) ∧ W.cell? ⟨w.heap.size, 4, none⟩ = some (.slice al nl cl)) ∧ Below w.heap.size w W) := fun W hb => by
    have e1 := (hb.block _ SZ.out).trans G0.out
    exact ⟨⟨by simp [World.cell?, e1], by simp [World.cell?, e1], by simp [World.cell?, e1], by simp [World.cell?, e1], by simp [World.cell?, e1]⟩, A0.out.trans (hb.mono A0.out.size)⟩
  have hil := Lib.itoa_length_le nn (by omega) ok2.2
  have hir := Lib.itoa_length_le rr (by omega) ok3.2
  have C1 : Hid (∀ W, Below W0.heap.size W0 W → Calls Tryd.prog 30 #[.int .i64 nn] W fun e w' => e = .returned (.string ⟨(Lib.itoa nn).toArray⟩) ∧ Hid (Below W0.heap.size W0 w')) := fun W hb => (Tryd.refNum_any nn (by omega) ok2.2 W).mono fun _ _ q => ⟨q.1, hb.trans (q.2.mono hb.size)⟩
  have C2 : Hid (∀ W, Below W0.heap.size W0 W → Calls Tryd.prog 30 #[.int .i64 rr] W fun e w' => e = .returned (.string ⟨(Lib.itoa rr).toArray⟩) ∧ Hid (Below W0.heap.size W0 w')) := fun W hb => (Tryd.refNum_any rr (by omega) ok3.2 W).mono fun _ _ q => ⟨q.1, hb.trans (q.2.mono hb.size)⟩
  have HI : Hid (Bk.PlainC d) := ih
  have HT : Hid (Bl.Lies w w.heap.size (d + 1) (.slice a n c) (.slice al nl cl) T) := hT
  have HM : Hid (T.ks.length = n ∧ Bl.allPs Bl.okB T.ks = true ∧ Bl.rooms T.ks + 100 ≤ 800000000) := ⟨hn, hF.2, by omega⟩
  have HMM : Hid (T.ls.length = nl ∧ Bl.rooms T.ks + 68 * nl + 100 ≤ 800000000 ∧ (∀ x, x ∈ T.ls → Bl.I64 x.1 ∧ Bl.I64 x.2.1 ∧ Bl.I64 x.2.2) ∧ ∀ x, x ∈ T.ls → -1 ≤ x.1 ∧ -1 ≤ x.2.1 ∧ -1 ≤ x.2.2) := ⟨hnl, by rw [hnl] at hroom; omega, ok4, Bl.low_of hF.1⟩
  have HLK : Hid (Bl.Lk w w.heap.size (.slice al nl cl) T.ls) := by have := hT.links; exact this
  obtain ⟨dn, hdn⟩ : ∃ z, Lib.itoa nn = z := ⟨_, rfl⟩
  obtain ⟨dr, hdr⟩ : ∃ z, Lib.itoa rr = z := ⟨_, rfl⟩
  obtain ⟨R, hR⟩ : ∃ z, T.textL = z := ⟨_, rfl⟩
  obtain ⟨hd0, hhd⟩ : ∃ z, 40 :: (Bl.nameL k ++ Bl.nodeL k nn rr) = z := ⟨_, rfl⟩
  have HX : Hid (R = ((hd0 ++ Bl.textsL T.ks) ++ Bl.linksL T.ls) ++ [41]) := by show _ = _; rw [← hR, htx, ← hhd]; simp
  have hh := hhd
  rw [Bl.nodeL, hdn, hdr] at hh
  rw [hdn] at C1 hil
  rw [hdr] at C2 hir
  rw [hR]
  have s1 : (⟨dn.toArray⟩ : ByteArray).size ≤ 21 := by simpa [ByteArray.size] using hil
  have s2 : (⟨dr.toArray⟩ : ByteArray).size ≤ 21 := by simpa [ByteArray.size] using hir
  have HL : Hid (hd0.length ≤ 60) := by
    show _ ≤ _
    have h1 := Bl.nameL_le k
    have h2 := Bl.nodeL_le k nn rr ok2 ok3
    rw [← hhd]
    simp
    omega
  have hnb : n ≤ 800000000 := by
    have h2 : ∀ l : List Bl, l.length ≤ Bl.rooms l := by
      intro l
      induction l with
      | nil => simp
      | cons x r ih => rw [List.length_cons, Bl.rooms, Bl.room_eq]; omega
    have h3 := h2 T.ks
    have := HM.out
    omega
  have hlb : nl ≤ 800000000 := by have := HMM.out.2.1; omega
  have HW0 : Hid _ := hW0
  have BR : Hid (Below W0.heap.size W0 W0) := Below.refl _ _
  clear hF ok1 ok2 ok3 ok4 hkk hnn hrr hn hnl hdn hdr hR hhd htx ih hT hrm hroom hW0
  subst hk
  have HH : Hid _ := hh
  clear hh
  have BA : Hid (Below W0.heap.size W0 (W0.alloc (.cells #[.string ⟨#[115, 101, 113]⟩, .string ⟨#[112, 97, 114]⟩, .string ⟨#[97, 108, 116]⟩, .string ⟨#[112, 105, 99, 107]⟩, .string ⟨#[108, 111, 111, 112]⟩, .string ⟨#[]⟩, .string ⟨#[119, 101, 98]⟩] 9))) := BR.out.alloc (Nat.le_refl _) _
  have hz := SZ.out
  go_enter Tryd.func18, Tryd.ntmps18
  go_upto_region 10 with fail
  rw [HW0.out]
  clear HW0
  obtain ⟨⟨x0, x1, x2, x3, x4⟩, -⟩ := CF.out W0 BR.out
  obtain ⟨⟨y0, y1, y2, y3, y4⟩, -⟩ := CF.out _ BA.out
  go_wp2
  go_loopg [3, 58] n (fun g s i wr => ∃ (j : Nat) (S : ByteArray), g + j = n ∧ i = .int .i64 j ∧ s = .string S ∧ S.size ≤ 800000000 ∧ Hid (S.data.toList = hd0 ++ Bl.textsL (T.ks.take j) ∧ Below W0.heap.size W0 wr))
  case atStart =>
    refine ⟨0, _, by omega, rfl, rfl, ?_, ?_, BA.out⟩
    · first | (simp [ByteArray.size]; omega) | (simp [ByteArray.size]; done)
    · rw [← HH.out]; simp [Bl.nameL, Bl.textsL, ByteArray.data_append]
  case round =>
    obtain ⟨j, S, hj, rfl, rfl, hS, HJ⟩ := hrel
    clear x0 x1 x2 x3 x4 y0 y1 y2 y3 y4
    by_cases hjn : j < n
    · have hd : decide ((j : Int) < n) = true := decide_eq_true (by omega)
      have hjk : j < T.ks.length := by rw [HM.out.1]; exact hjn
      have hxF := Bl.allPs_get _ T.ks HM.out.2.1 j hjk
      have htk := Bl.textsL_take T.ks j hjk
      have hrk := Bl.rooms_take T.ks j hjk
      have htl := Bl.texts_len (T.ks.take (j + 1)) (Bl.allPs_takes T.ks HM.out.2.1 (j + 1))
      have hrl := Bl.rooms_le T.ks (j + 1)
      obtain ⟨g, off, u, lu, rfl, hg, q0, q1, q2, q3, q4, q5⟩ := HT.out.kid j hjk
      obtain ⟨x, hx⟩ : ∃ x, T.ks[j] = x := ⟨_, rfl⟩
      rw [hx] at q0 q1 q2 q5 hxF htk hrk
      obtain ⟨au, cu, rfl⟩ := q5.shape
      obtain ⟨bu, du, rfl⟩ := q5.links.shape
      obtain ⟨mx, hmx⟩ : ∃ n, x.ls.length = n := ⟨_, rfl⟩
      rw [hmx] at q4 q5
      obtain ⟨nx, hnx⟩ : ∃ n, x.ks.length = n := ⟨_, rfl⟩
      rw [hnx] at q3 q5
      obtain ⟨z0, hz0⟩ : ∃ y, x.kind = y := ⟨_, rfl⟩
      obtain ⟨z1, hz1⟩ : ∃ y, x.node = y := ⟨_, rfl⟩
      obtain ⟨z2, hz2⟩ : ∃ y, x.arg = y := ⟨_, rfl⟩
      rw [hz0] at q0
      rw [hz1] at q1
      rw [hz2] at q2
      have HBW := (CF.out wr HJ.out.2).2
      have hc : ∀ p, wr.cell? ⟨g, p, none⟩ = w.cell? ⟨g, p, none⟩ := fun p => HBW.cell (p := ⟨g, p, none⟩) hg
      have hc0 : wr.cell? ⟨g, off + j * 5, none⟩ = some (.int .i64 z0) := by rw [hc]; exact q0
      have hc1 : wr.cell? ⟨g, off + j * 5 + 1, none⟩ = some (.int .i64 z1) := by rw [hc]; exact q1
      have hc2 : wr.cell? ⟨g, off + j * 5 + 2, none⟩ = some (.int .i64 z2) := by rw [hc]; exact q2
      have hc3 : wr.cell? ⟨g, off + j * 5 + 3, none⟩ = some (.slice au nx cu) := by rw [hc]; exact q3
      have hc4 : wr.cell? ⟨g, off + j * 5 + 4, none⟩ = some (.slice bu mx du) := by rw [hc]; exact q4
      have BB : Hid (Below W0.heap.size W0 (wr.alloc (.cells #[.int .i64 z0, .int .i64 z1, .int .i64 z2, .slice au nx cu, .slice bu mx du] 34))) := HJ.out.2.alloc HJ.out.2.size _
      have BB2 := (CF.out _ BB.out).2
      have hcall := HI.out x (.slice au nx cu) (.slice bu mx du) _ ((q5.below BB2).wider BB2.size) hxF (by have := HM.out.2.2; omega)
      obtain ⟨fx, hfx⟩ : ∃ y, x.textL = y := ⟨_, rfl⟩
      rw [hz0, hz1, hz2, hfx] at hcall
      rw [hfx] at htk
      have HC : Hid _ := hcall
      have hfl : fx.length ≤ 800000000 := by rw [htk] at htl; simp at htl; have := HM.out.2.2; omega
      have hfs : (⟨fx.toArray⟩ : ByteArray).size ≤ 800000000 := by simpa [ByteArray.size] using hfl
      have HTK : Hid (Bl.textsL (T.ks.take (j + 1)) = Bl.textsL (T.ks.take j) ++ 32 :: fx ∧ (Bl.textsL (T.ks.take (j + 1))).length + 100 ≤ 800000000) := ⟨htk, by have := HM.out.2.2; omega⟩
      clear hc q0 q1 q2 q3 q4 q5 hx hz0 hz1 hz2 hnx hmx hcall hfx hxF htk hrk htl hrl HBW BB2 hjk
      go_wp2_with fail
      refine Calls.mono HC.out ?_
      rintro e W3 ⟨rfl, b3⟩
      have B3 : Hid (Below W0.heap.size W0 W3) := BB.out.trans (b3.mono BB.out.size)
      clear b3 HC
      have HS2 : Hid (((S ++ ⟨#[32]⟩) ++ (⟨fx.toArray⟩ : ByteArray)).data.toList = hd0 ++ Bl.textsL (T.ks.take (j + 1))) := by
        show _ = _
        rw [ByteArray.data_append, ByteArray.data_append, Array.toList_append, Array.toList_append, HJ.out.1, HTK.out.1]
        simp
      have hsz2 : ((S ++ ⟨#[32]⟩) ++ (⟨fx.toArray⟩ : ByteArray)).size ≤ 800000000 := by
        show (((S ++ ⟨#[32]⟩) ++ (⟨fx.toArray⟩ : ByteArray)).data.toList).length ≤ _
        rw [HS2.out, List.length_append]
        have := HTK.out.2
        have := HL.out
        omega
      go_wp2
      go_roundg (gk - 1)
      case measure => omega
      case rel => exact ⟨j + 1, _, by omega, by go_num, rfl, hsz2, HS2.out, B3.out⟩
    · have hd : decide ((j : Int) < n) = false := decide_eq_false (by omega)
      have HF0 : Hid (S.data.toList = hd0 ++ Bl.textsL T.ks) := by
        have h1 := HJ.out.1
        rw [List.take_of_length_le (by rw [HM.out.1]; omega)] at h1
        exact h1
      have HK0 : Hid ((hd0 ++ Bl.textsL T.ks).length ≤ 60 + Bl.rooms T.ks) := by
        show _ ≤ _
        have h1 := Bl.texts_len T.ks HM.out.2.1
        have h2 := HL.out
        rw [List.length_append]
        omega
      obtain ⟨bse, hbse⟩ : ∃ z, hd0 ++ Bl.textsL T.ks = z := ⟨_, rfl⟩
      rw [hbse] at HF0 HX HK0
      obtain ⟨⟨z0, z1, z2, z3, z4⟩, -⟩ := CF.out wr HJ.out.2
      have BJ : Hid (Below W0.heap.size W0 wr) := HJ.out.2
      clear hbse HJ
      go_wp2
      go_loopg [3, 74] nl (fun g s i wr => ∃ (j : Nat) (S : ByteArray), g + j = nl ∧ i = .int .i64 j ∧ s = .string S ∧ S.size ≤ 800000000 ∧ Hid (S.data.toList = bse ++ Bl.linksL (T.ls.take j) ∧ Below W0.heap.size W0 wr))
      case atStart => exact ⟨0, S, by omega, rfl, rfl, hS, by rw [HF0.out]; simp [Bl.linksL], BJ.out⟩
      case round =>
        obtain ⟨j, S, hj, rfl, rfl, hS, HJ⟩ := hrel
        clear z0 z1 z2 z3 z4
        by_cases hjn : j < nl
        · have hd : decide ((j : Int) < nl) = true := decide_eq_true (by omega)
          have hjk : j < T.ls.length := by rw [HMM.out.1]; exact hjn
          obtain ⟨al', cl', hv', hat'⟩ := HLK.out
          simp only [Value.slice.injEq] at hv'
          obtain ⟨rfl, -, -⟩ := hv'
          obtain ⟨g, off, rfl, hgl, c0, c1, c2⟩ := hat' j hjk
          have hI := HMM.out.2.2.1 T.ls[j] (List.getElem_mem hjk)
          have hJ := HMM.out.2.2.2 T.ls[j] (List.getElem_mem hjk)
          obtain ⟨x, hx⟩ : ∃ x, T.ls[j] = x := ⟨_, rfl⟩
          rw [hx] at c0 c1 c2 hI hJ
          obtain ⟨x0, x1, x2⟩ := x
          have hcb : ∀ o, wr.cell? ⟨g, o, none⟩ = w.cell? ⟨g, o, none⟩ := fun o => World.cell?_of_block (w := w) ((CF.out wr HJ.out.2).2.block g hgl)
          have hc0 : wr.cell? ⟨g, off + j * 3, none⟩ = some (.int .i64 x0) := by rw [hcb]; exact c0
          have hc1 : wr.cell? ⟨g, off + j * 3 + 1, none⟩ = some (.int .i64 x1) := by rw [hcb]; exact c1
          have hc2 : wr.cell? ⟨g, off + j * 3 + 2, none⟩ = some (.int .i64 x2) := by rw [hcb]; exact c2
          obtain ⟨V0, hV0⟩ : ∃ z, wr.alloc (.cells #[.int .i64 x0, .int .i64 x1, .int .i64 x2] 47) = z := ⟨_, rfl⟩
          obtain ⟨b6, hb6⟩ : ∃ z, wr.heap.size = z := ⟨_, rfl⟩
          have VG : V0.heap[b6]? = some (.cells #[.int .i64 x0, .int .i64 x1, .int .i64 x2] 47 (0, 0)) := by rw [← hV0, ← hb6]; exact heap_alloc_new wr _
          have VB : Hid (Below W0.heap.size W0 V0) := by show Below _ _ _; rw [← hV0]; exact HJ.out.2.alloc HJ.out.2.size _
          have CX : Hid (∀ W, Below V0.heap.size V0 W → W.cell? ⟨b6, 0, none⟩ = some (.int .i64 x0) ∧ W.cell? ⟨b6, 1, none⟩ = some (.int .i64 x1) ∧ W.cell? ⟨b6, 2, none⟩ = some (.int .i64 x2)) := fun W h => by
            have e1 := (h.block b6 (Array.getElem?_eq_some_iff.1 VG).1).trans VG
            exact ⟨by simp [World.cell?, e1], by simp [World.cell?, e1], by simp [World.cell?, e1]⟩
          have CN : ∀ z : Int, -1 ≤ z → z ≤ 9223372036854775807 → ∀ W, Below V0.heap.size V0 W → Calls Tryd.prog 30 #[.int .i64 z] W fun e w' => e = .returned (.string ⟨(Lib.itoa z).toArray⟩) ∧ Hid (Below V0.heap.size V0 w') := fun z h1 h2 W hb => (Tryd.refNum_any z h1 h2 W).mono fun _ _ q => ⟨q.1, hb.trans (q.2.mono hb.size)⟩
          have N0 : Hid _ := CN x0 hJ.1 hI.1.2
          have N1 : Hid _ := CN x1 hJ.2.1 hI.2.1.2
          have N2 : Hid _ := CN x2 hJ.2.2 hI.2.2.2
          have t0 := Lib.itoa_length_le x0 hI.1.1 hI.1.2
          have t1 := Lib.itoa_length_le x1 hI.2.1.1 hI.2.1.2
          have t2 := Lib.itoa_length_le x2 hI.2.2.1 hI.2.2.2
          obtain ⟨d0, hd0'⟩ : ∃ z, Lib.itoa x0 = z := ⟨_, rfl⟩
          obtain ⟨d1, hd1'⟩ : ∃ z, Lib.itoa x1 = z := ⟨_, rfl⟩
          obtain ⟨d2, hd2'⟩ : ∃ z, Lib.itoa x2 = z := ⟨_, rfl⟩
          have HTK : Hid (Bl.linksL (T.ls.take (j + 1)) = Bl.linksL (T.ls.take j) ++ (((([32, 91] ++ d0) ++ 32 :: d1) ++ 32 :: d2) ++ [93])) := by
            show _ = _
            rw [Bl.take_snoc _ _ hjk, Bl.linksL_snoc, hx, ← hd0', ← hd1', ← hd2']
            rfl
          have HTL : Hid ((Bl.linksL (T.ls.take (j + 1))).length ≤ 68 * (j + 1)) := by
            show _ ≤ _
            have h1 := Bl.linksL_le (T.ls.take (j + 1)) fun y hy => HMM.out.2.2.1 y (List.mem_of_mem_take hy)
            rw [List.length_take] at h1
            have h3 : 68 * min (j + 1) T.ls.length ≤ 68 * (j + 1) := Nat.mul_le_mul (Nat.le_refl _) (Nat.min_le_left _ _)
            omega
          rw [hd0'] at N0 t0
          rw [hd1'] at N1 t1
          rw [hd2'] at N2 t2
          have s0' : (⟨d0.toArray⟩ : ByteArray).size ≤ 21 := by simpa [ByteArray.size] using t0
          have s1' : (⟨d1.toArray⟩ : ByteArray).size ≤ 21 := by simpa [ByteArray.size] using t1
          have s2' : (⟨d2.toArray⟩ : ByteArray).size ≤ 21 := by simpa [ByteArray.size] using t2
          have HV0 : Hid _ := hV0
          have KX : Hid (Below V0.heap.size V0 V0) := Below.refl _ _
          clear c0 c1 c2 hcb hx hat' hI hJ CN hd0' hd1' hd2' hV0 VG hjk
          go_upto_region 24 with fail
          rw [HV0.out]
          clear hc0 hc1 hc2 HV0 hb6
          have o0 : ¬ 9223372036854775807 < S.size + 2 := by omega
          have o1 : ¬ 9223372036854775807 < S.size + 2 + d0.length := by omega
          have o2 : ¬ 9223372036854775807 < S.size + 2 + d0.length + 1 := by omega
          have o3 : ¬ 9223372036854775807 < S.size + 2 + d0.length + 1 + d1.length := by omega
          have o4 : ¬ 9223372036854775807 < S.size + 2 + d0.length + 1 + d1.length + 1 := by omega
          have o5 : ¬ 9223372036854775807 < S.size + 2 + d0.length + 1 + d1.length + 1 + d2.length := by omega
          have o6 : ¬ 9223372036854775807 < S.size + 2 + d0.length + 1 + d1.length + 1 + d2.length + 1 := by omega
          go_region_held3 (fun W => W.cell? ⟨b6, 0, none⟩ = some (.int .i64 x0) ∧ W.cell? ⟨b6, 1, none⟩ = some (.int .i64 x1) ∧ W.cell? ⟨b6, 2, none⟩ = some (.int .i64 x2))
            (first | exact CX.out _ P3.out | exact CX.out _ P2.out | exact CX.out _ P1.out | exact CX.out _ KX.out.drew | exact CX.out _ KX.out)
            (first
            | (go_simp; go_at_call 30; (first | (have hX := P2.out; refine Calls.mono (N2.out _ ?_) ?_; (first | exact hX | exact hX.drew | exact Tk.below_drewN hX _); rintro e W3 ⟨rfl, P3⟩) | (have hX := P1.out; refine Calls.mono (N1.out _ ?_) ?_; (first | exact hX | exact hX.drew | exact Tk.below_drewN hX _); rintro e W2 ⟨rfl, P2⟩) | (refine Calls.mono (N0.out _ ?_) ?_; (first | exact KX.out | exact KX.out.drew | exact Tk.below_drewN KX.out _); rintro e W1 ⟨rfl, P1⟩))))
          have B3 : Hid (Below W0.heap.size W0 W3) := VB.out.trans (P3.out.mono VB.out.size)
          have HS2 : Hid ((((((((S ++ ⟨#[32, 91]⟩) ++ (⟨d0.toArray⟩ : ByteArray)) ++ ⟨#[32]⟩) ++ (⟨d1.toArray⟩ : ByteArray)) ++ ⟨#[32]⟩) ++ (⟨d2.toArray⟩ : ByteArray)) ++ ⟨#[93]⟩).data.toList = bse ++ Bl.linksL (T.ls.take (j + 1))) := by
            show _ = _
            simp only [ByteArray.data_append, Array.toList_append]
            rw [HJ.out.1, HTK.out]
            simp
          have hsz2 : (((((((S ++ ⟨#[32, 91]⟩) ++ (⟨d0.toArray⟩ : ByteArray)) ++ ⟨#[32]⟩) ++ (⟨d1.toArray⟩ : ByteArray)) ++ ⟨#[32]⟩) ++ (⟨d2.toArray⟩ : ByteArray)) ++ ⟨#[93]⟩).size ≤ 800000000 := by
            show ((((((((S ++ ⟨#[32, 91]⟩) ++ (⟨d0.toArray⟩ : ByteArray)) ++ ⟨#[32]⟩) ++ (⟨d1.toArray⟩ : ByteArray)) ++ ⟨#[32]⟩) ++ (⟨d2.toArray⟩ : ByteArray)) ++ ⟨#[93]⟩).data.toList).length ≤ _
            rw [HS2.out, List.length_append]
            have e1 := HTL.out
            have e2 := HK0.out
            have e3 := HMM.out.2.1
            omega
          clear CX N0 N1 N2 KX P1 P2 P3 o0 o1 o2 o3 o4 o5 o6
          go_simp
          go_wp2
          go_roundg (gk - 1)
          case measure => omega
          case rel => exact ⟨j + 1, _, by omega, by go_num, rfl, hsz2, HS2.out, B3.out⟩
        · have hd : decide ((j : Int) < nl) = false := decide_eq_false (by omega)
          have HF : Hid ((⟨R.toArray⟩ : ByteArray) = S ++ ⟨#[41]⟩) := by
            have h1 := HJ.out.1
            rw [List.take_of_length_le (by rw [HMM.out.1]; omega)] at h1
            refine Tk.ba_eq ?_
            rw [ByteArray.data_append, Array.toList_append, h1, HX.out]
          have HB : Hid (Below w.heap.size w wr) := (CF.out wr HJ.out.2).2
          go_wp2
          go_ret
          exact ⟨by rw [HF.out]; rfl, HB.out⟩

theorem Tryd.refBPlain_any : ∀ d, Bk.PlainC d := by
  intro d
  induction d with
  | zero => intro T v lv w h; exact h.elim
  | succ d ih =>
    intro T v lv w hT hF hrm
    have hF' := hF
    rw [Bl.allP_eq, Bool.and_eq_true] at hF'
    obtain ⟨ok1, -⟩ := Bl.okB_iff hF'.1
    by_cases h9 : T.kind = 9
    · exact Tryd.refBPlain_web d ih T v lv w hT hF hrm h9
    · by_cases hk : T.kind = 3 ∨ T.kind = 4 ∨ T.kind = 5 ∨ T.kind = 6 ∨ T.kind = 7
      · exact Tryd.refBPlain_tree d ih T v lv w hT hF hrm hk
      · obtain ⟨a, c, hv⟩ := hT.shape
        obtain ⟨al, cl, hlv⟩ := hT.links.shape
        exact Tryd.refBPlain_flat T v lv a c al cl w hv hlv hF (by omega)

end Go.Proofs
