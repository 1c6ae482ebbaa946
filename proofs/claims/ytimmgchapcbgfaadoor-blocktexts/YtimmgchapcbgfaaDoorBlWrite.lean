/-
  write: a block's text behind other bytes.
-/
import Derived.Test.YtimmgchapcbgfaaDoorBlFlat
namespace Go.Proofs
open Go.RowKit

theorem Bk.Out.trans {B : Nat} {o1 o2 : List UInt8} {v1 v2 : Value} {w W W2 : World} (h : Bk.Out B o1 v1 w W) (h2 : Bk.Out B o2 v2 W W2) : Bk.Out B o2 v2 w W2 := ⟨h2.own, h.below.trans h2.below, h.kept.trans h2.kept⟩
/-- A block in its box. -/
theorem Bk.box5 {W : World} {b : Nat} {k n r v lv : Value} (h : W.heap[b]? = some (.cells #[k, n, r, v, lv] 25 (0, 0))) : W.cell? ⟨b, 0, none⟩ = some k ∧ W.cell? ⟨b, 1, none⟩ = some n ∧ W.cell? ⟨b, 2, none⟩ = some r ∧ W.cell? ⟨b, 3, none⟩ = some v ∧ W.cell? ⟨b, 4, none⟩ = some lv :=
  ⟨by simp [World.cell?, h], by simp [World.cell?, h], by simp [World.cell?, h], by simp [World.cell?, h], by simp [World.cell?, h]⟩
theorem Bk.box_kept {W0 W : World} {b : Nat} {k n r v lv : Value} (h : W0.heap[b]? = some (.cells #[k, n, r, v, lv] 25 (0, 0))) (hk : Lib.OthersKept 5 none W0 W) : W.heap[b]? = some (.cells #[k, n, r, v, lv] 25 (0, 0)) :=
  hk _ _ h (by simp) (by intro c fz h; simp at h)

/-- write of blocks with so many levels. -/
def Bk.WriteC (d : Nat) : Prop := ∀ (T : Bl) (v lv : Value) (B : Nat) (out : List UInt8) (sv : Value) (w : World), Bl.Lies w B d v lv T → T.allP Bl.okB = true → B ≤ w.heap.size → Bk.Names w → 0 < B →
    Lib.TabBelow Tryd.prog B w "internal/strconv.uint64pow10" .u64 Lib.pow10Tab → w.ownsRow B 5 1 sv out.length (Lib.byteCells out) → out.length + T.room ≤ 800000000 →
    Calls Tryd.prog 15 #[sv, .agg #[.int .i64 T.kind, .int .i64 T.node, .int .i64 T.arg, v, lv]] w fun e w' => ∃ v', e = .returned v' ∧ Hid (Bk.Out B (out ++ T.textL) v' w w')

set_option maxRecDepth 20000 in
set_option maxHeartbeats 16000000 in
theorem Tryd.bwrite_tree (d : Nat) (ih : Bk.WriteC d) (T : Bl) (v lv : Value) (B : Nat) (out : List UInt8) (sv : Value) (w : World) (hL : Bl.Lies w B (d + 1) v lv T) (hF : T.allP Bl.okB = true) (hB : B ≤ w.heap.size) (hN : Bk.Names w) (h0 : 0 < B)
    (hT : Lib.TabBelow Tryd.prog B w "internal/strconv.uint64pow10" .u64 Lib.pow10Tab) (hown : w.ownsRow B 5 1 sv out.length (Lib.byteCells out)) (hlen : out.length + T.room ≤ 800000000)
    (hk : T.kind = 3 ∨ T.kind = 4 ∨ T.kind = 5 ∨ T.kind = 6 ∨ T.kind = 7 ∨ T.kind = 9) :
    Calls Tryd.prog 15 #[sv, .agg #[.int .i64 T.kind, .int .i64 T.node, .int .i64 T.arg, v, lv]] w fun e w' => ∃ v', e = .returned v' ∧ Hid (Bk.Out B (out ++ T.textL) v' w w') := by
  obtain ⟨i0, hi, hz0, hz1, hz2⟩ := info_parts Tryd.infoByte
  obtain ⟨a, cap, rfl⟩ := hL.shape
  obtain ⟨la, lc, rfl⟩ := hL.links.shape
  rw [Bl.allP_eq, Bool.and_eq_true] at hF
  obtain ⟨ok1, ok2, ok3, ok4⟩ := Bl.okB_iff hF.1
  obtain ⟨k, hkn⟩ : ∃ k : Nat, T.kind = k := ⟨T.kind.toNat, by omega⟩
  obtain ⟨nn, hnn⟩ : ∃ z, T.node = z := ⟨_, rfl⟩
  obtain ⟨rr, hrr⟩ : ∃ z, T.arg = z := ⟨_, rfl⟩
  obtain ⟨n, hn⟩ : ∃ n, T.ks.length = n := ⟨_, rfl⟩
  obtain ⟨nl, hnl⟩ : ∃ n, T.ls.length = n := ⟨_, rfl⟩
  obtain ⟨R, hR⟩ : ∃ z, out ++ T.textL = z := ⟨_, rfl⟩
  rw [hkn] at hk ok1
  rw [hnn] at ok2
  rw [hrr] at ok3
  have HKK : Hid ((k : Int) = 3 ∨ (k : Int) = 4 ∨ (k : Int) = 5 ∨ (k : Int) = 6 ∨ (k : Int) = 7 ∨ (k : Int) = 9) := hk
  have htx : T.textL = 40 :: (Bl.nameL k ++ (Bl.nodeL k nn rr ++ (Bl.textsL T.ks ++ ((if (k : Int) = 9 then Bl.linksL T.ls else []) ++ [41])))) := by
    rw [Bl.textL_eq, hkn, hnn, hrr, if_neg (by omega), if_neg (by omega), if_neg (by omega), if_neg (by omega)]
  obtain ⟨tx, htn⟩ : ∃ z, Bl.nameL k = z := ⟨_, rfl⟩
  have htl : tx.length ≤ 4 := by rw [← htn]; exact Bl.nameL_le _
  have HR : Hid (R = ((((out ++ [40]) ++ tx) ++ Bl.nodeL k nn rr) ++ Bl.textsL T.ks) ++ ((if (k : Int) = 9 then Bl.linksL T.ls else []) ++ [41])) := by
    show _ = _
    rw [← hR, htx, htn]
    simp
  have hroom : T.room = 100 + 68 * nl + Bl.rooms T.ks := by rw [Bl.room_eq, hnl]
  have hnn44 := Bl.nodeL_le k nn rr ok2 ok3
  have HLEN : Hid (out.length + 100 + 68 * nl + Bl.rooms T.ks ≤ 800000000 ∧ tx.length ≤ 4 ∧ (Bl.nodeL k nn rr).length ≤ 44) := ⟨by rw [hroom] at hlen; omega, htl, hnn44⟩
  obtain ⟨W0, hW0⟩ : ∃ x, w.alloc (.cells #[.int .i64 k, .int .i64 nn, .int .i64 rr, .slice a n cap, .slice la nl lc] 25) = x := ⟨_, rfl⟩
  obtain ⟨b0, hb0⟩ : ∃ x, w.heap.size = x := ⟨_, rfl⟩
  have Y0 : Hid (Bk.Out B out sv w W0) := by
    show Bk.Out _ _ _ _ _
    rw [← hW0]
    exact Bk.Out.alloc ⟨hown, Below.refl _ _, Lib.OthersKept.refl _ _ _⟩ hB _
  have G0 : Hid (W0.heap[b0]? = some (.cells #[.int .i64 k, .int .i64 nn, .int .i64 rr, .slice a n cap, .slice la nl lc] 25 (0, 0))) := by show _ = _; rw [← hW0, ← hb0]; exact heap_alloc_new w _
  have HN : Hid (Bk.Names w ∧ 0 < B ∧ B ≤ w.heap.size ∧ Lib.TabBelow Tryd.prog B w "internal/strconv.uint64pow10" .u64 Lib.pow10Tab) := ⟨hN, h0, hB, hT⟩
  have hk10 : k ≤ 10 := by omega
  have CF : Hid (∀ W, (Lib.OthersKept 5 none W0 W ∧ Below B w W) → W.cell? ⟨b0, 0, none⟩ = some (.int .i64 k) ∧ W.cell? ⟨0, k, none⟩ = some (.string ⟨tx.toArray⟩)) := fun W h => by
    refine ⟨(Bk.box5 (Bk.box_kept G0.out h.1)).1, ?_⟩
    have := (hN.below h.2 h0).text k hk10
    rw [htn] at this
    exact this
  have KR : Hid (Lib.OthersKept 5 none W0 W0 ∧ Below B w W0) := ⟨Lib.OthersKept.refl _ _ _, Y0.out.below⟩
  obtain ⟨sa, sc, rfl⟩ := Tk.own_shape hown
  obtain ⟨WA, hWA⟩ : ∃ x, W0.alloc (.cells #[.int .u8 40] 5) = x := ⟨_, rfl⟩
  have YA : Hid (Bk.Out B out (.slice sa out.length sc) w (W0.alloc (.cells #[.int .u8 40] 5))) := Y0.out.alloc hB _
  have KA : Hid (Lib.OthersKept 5 none W0 (W0.alloc (.cells #[.int .u8 40] 5)) ∧ Below B w (W0.alloc (.cells #[.int .u8 40] 5))) := ⟨(Lib.OthersKept.refl _ _ _).alloc _, YA.out.below⟩
  have BS : Hid ((out.length + 1 ≤ maxLen ∧ (out.length + 1) * 1 ≤ 140737488355328 ∧ B ≤ (W0.alloc (.cells #[.int .u8 40] 5)).heap.size) ∧ (out ++ [40]).length + (⟨tx.toArray⟩ : ByteArray).size ≤ maxLen ∧ (out ++ [40]).length + (⟨tx.toArray⟩ : ByteArray).size ≤ 140737488355328) := by
    have h1 := HLEN.out.1
    have h2 : (⟨tx.toArray⟩ : ByteArray).size = tx.length := by simp [ByteArray.size]
    refine ⟨⟨by unfold maxLen; omega, by omega, YA.out.size hB⟩, ?_, ?_⟩
    · rw [h2, List.length_append]; unfold maxLen; simp; omega
    · rw [h2, List.length_append]; simp; omega
  have e1 : ((k : Int) == 1) = false := by simp; omega
  have e2 : ((k : Int) == 10) = false := by simp; omega
  have e3 : ((k : Int) == 8) = false := by simp; omega
  have e4 : ((k : Int) == 2) = false := by simp; omega
  have ix : (k : Int) < 11 := by omega
  have HW0 : Hid (w.alloc (.cells #[.int .i64 k, .int .i64 nn, .int .i64 rr, .slice a n cap, .slice la nl lc] 25) = W0) := hW0
  have HK : Hid (Bl.Lies w B (d + 1) (.slice a n cap) (.slice la nl lc) T ∧ T.ks.length = n ∧ T.ls.length = nl ∧ Bl.allPs Bl.okB T.ks = true ∧ Bk.WriteC d) := ⟨by rw [hn, hnl] at hL; exact hL, hn, hnl, hF.2, ih⟩
  have HO : Hid ((0 ≤ nn ∧ nn ≤ 9223372036854775807) ∧ (0 ≤ rr ∧ rr ≤ 9223372036854775807) ∧ ∀ x, x ∈ T.ls → Bl.I64 x.1 ∧ Bl.I64 x.2.1 ∧ Bl.I64 x.2.2) := ⟨ok2, ok3, ok4⟩
  rw [hkn, hnn, hrr, hn, hnl, hR]
  clear hkn hnn hrr hn hnl hR htx htn htl hroom hnn44 hW0 hWA hL hF hN hT hown hlen ih hk ok1 ok2 ok3 ok4 hk10 h0 hB
  go_enter Tryd.func15, Tryd.ntmps15
  go_upto_region 10 with fail
  rw [HW0.out]
  clear HW0
  go_region_held3 (fun W => W.cell? ⟨b0, 0, none⟩ = some (.int .i64 k) ∧ W.cell? ⟨0, k, none⟩ = some (.string ⟨tx.toArray⟩))
    (first | exact CF.out _ K2.out | exact CF.out _ K1.out | exact CF.out _ KA.out | exact CF.out _ ⟨KA.out.1.drew, KA.out.2.drew⟩ | exact CF.out _ ⟨KR.out.1.drew, KR.out.2.drew⟩ | exact CF.out _ KR.out)
    (first
    | ((with_reducible refine Tk.at_op (Op.call { callee := Callee.builtin Builtin.append, args := #[.tmp 33, .tmp 34], argTypes := #[49, 49] }) ?hop ?_); (case hop => with_reducible rfl); refine Tk.step_own rfl (.tmp 33) (.tmp 34) 49 rfl B 5 i0 (.int .u8 0) 1 1 Tryd.underlying49 hi hz0 hz1 hz2 rfl (by decide) (.slice sa out.length sc) out.length (Lib.byteCells out) (by simp [Act.eval]) (by exact YA.out.own) ⟨W0.heap.size, 0, none⟩ 1 1 [.int .u8 40] (by simp [Act.eval]) rfl (by exact Tk.one_cell W0 40 5) (Tk.one_one 40) (by exact BS.out.1.1) (by exact BS.out.1.2.1) (by exact BS.out.1.2.2) ?_; intro v1 W1 q1 g1; have Y1 : Hid (Bk.Out B (out ++ [40]) v1 w W1) := Y0.out.byte HN.out.2.2.1 40 q1 (Bk.undrew g1); have K1 : Hid (Lib.OthersKept 5 none W0 W1 ∧ Below B w W1) := ⟨KA.out.1.grown (Bk.undrew g1) (Lib.ownsRow_kind YA.out.own), Y1.out.below⟩)
    | ((with_reducible refine Tk.at_op (Op.call { callee := Callee.builtin Builtin.append, args := #[.tmp 35, .tmp 39], argTypes := #[49, 9] }) ?hop ?_); (case hop => with_reducible rfl); refine Tk.step_str rfl (.tmp 35) (.tmp 39) 49 9 rfl B 5 i0 Tryd.underlying49 Tryd.underlying9 hi hz0 hz1 hz2 v1 (out ++ [40]).length (Lib.byteCells (out ++ [40])) (by simp [Act.eval]) (by exact Y1.out.own) ⟨tx.toArray⟩ (by simp [Act.eval]) (by exact BS.out.2.1) (by exact BS.out.2.2) (by exact Y1.out.size HN.out.2.2.1) ?_; intro v2 W2 q2 g2; have Y2 : Hid (Bk.Out B ((out ++ [40]) ++ tx) v2 w W2) := Y1.out.str HN.out.2.2.1 ⟨tx.toArray⟩ q2 (by first | exact g2 | exact Bk.undrew g2); have K2 : Hid (Lib.OthersKept 5 none W0 W2 ∧ Below B w W2) := ⟨K1.out.1.grown (by first | exact g2 | exact Bk.undrew g2) (Lib.ownsRow_kind Y1.out.own), Y2.out.below⟩))
  clear q1 g1 q2 g2 K1 Y1 YA KA KR
  obtain ⟨o2, ho2⟩ : ∃ z, (out ++ [40]) ++ tx = z := ⟨_, rfl⟩
  rw [ho2] at Y2 HR
  have HO2 : Hid (o2.length ≤ out.length + 5) := by show _ ≤ _; rw [← ho2]; have := HLEN.out.2.1; simp; omega
  clear ho2
  obtain ⟨a2, c2, rfl⟩ := Tk.own_shape Y2.out.own
  have CB : Hid (∀ W, Lib.OthersKept 5 none W0 W → W.cell? ⟨b0, 0, none⟩ = some (.int .i64 k) ∧ W.cell? ⟨b0, 1, none⟩ = some (.int .i64 nn) ∧ W.cell? ⟨b0, 2, none⟩ = some (.int .i64 rr) ∧ W.cell? ⟨b0, 3, none⟩ = some (.slice a n cap) ∧ W.cell? ⟨b0, 4, none⟩ = some (.slice la nl lc)) := fun W h => Bk.box5 (Bk.box_kept G0.out h)
  obtain ⟨p0, p1, p2, p3, p4⟩ := CB.out W2 K2.out.1
  have NC : Hid (Calls Tryd.prog 28 #[.slice a2 o2.length c2, .agg #[.int .i64 k, .int .i64 nn, .int .i64 rr, .slice a n cap, .slice la nl lc]] W2 fun e w' => ∃ a' m' c', e = .returned (.slice a' m' c') ∧ Hid (m' = (o2 ++ Bl.nodeL k nn rr).length ∧ Bk.Out B (o2 ++ Bl.nodeL k nn rr) (.slice a' m' c') w w' ∧ Lib.OthersKept 5 none W2 w')) :=
    Tryd.writeNode_all k nn rr HKK.out HO.out.1 HO.out.2.1 a n cap la nl lc B o2 _ w W2 HN.out.2.2.1 HN.out.2.2.2 Y2.out (by have := HLEN.out; have := HO2.out; omega)
  clear CF G0
  go_upto_region 11 with fail
  go_wp2_with (go_at_call 28; refine Calls.mono NC.out ?_; rintro e W3 ⟨a3, m3, c3, rfl, X3⟩; obtain ⟨z0, z1, z2, z3, z4⟩ := CB.out W3 (K2.out.1.trans X3.out.2.2))
  obtain ⟨o3, ho3⟩ : ∃ z, o2 ++ Bl.nodeL k nn rr = z := ⟨_, rfl⟩
  rw [ho3] at X3 HR
  have HO3 : Hid (o3.length ≤ out.length + 49) := by show _ ≤ _; rw [← ho3]; have := HLEN.out.2.2; have := HO2.out; simp; omega
  have K3 : Hid (Lib.OthersKept 5 none W0 W3) := K2.out.1.trans X3.out.2.2
  have X3' := X3.out
  obtain ⟨rfl, Y3', -⟩ := X3'
  have Y3 : Hid (Bk.Out B o3 (.slice a3 o3.length c3) w W3) := Y3'
  clear ho3 X3 Y3' NC Y2 K2 p0 p1 p2 p3 p4
  have hnb : n ≤ 800000000 := by
    have h1 := HLEN.out.1
    have h2 : ∀ l : List Bl, l.length ≤ Bl.rooms l := by
      intro l
      induction l with
      | nil => simp
      | cons x r ih => rw [List.length_cons, Bl.rooms, Bl.room_eq]; omega
    have h3 := h2 T.ks
    rw [HK.out.2.1] at h3
    omega
  go_loopg [0, 47] n (fun gk s0 s47 wr => ∃ (j : Nat) (o : List UInt8) (va : Option Addr) (vc : Nat), gk + j = n ∧ s47 = .int .i64 j ∧ s0 = .slice va o.length vc ∧ Hid (o3 ++ Bl.textsL (T.ks.take j) = o ∧ Bk.Out B o (.slice va o.length vc) w wr ∧ Lib.OthersKept 5 none W0 wr))
  case atStart => exact ⟨0, o3, _, _, by omega, rfl, rfl, by simp [Bl.textsL], Y3.out, K3.out⟩
  case round =>
    obtain ⟨j, o, va, vc, hj, rfl, rfl, HJ⟩ := hrel
    have HOL : Hid (o.length ≤ o3.length + Bl.rooms (T.ks.take j)) := by
      show _ ≤ _
      have h1 := Bl.texts_len (T.ks.take j) (Bl.allPs_takes T.ks HK.out.2.2.2.1 j)
      rw [← HJ.out.1, List.length_append]
      omega
    by_cases hjn : j < n
    · have hd : decide ((j : Int) < n) = true := decide_eq_true (by omega)
      have hjk : j < T.ks.length := by rw [HK.out.2.1]; exact hjn
      have hxF := Bl.allPs_get Bl.okB T.ks HK.out.2.2.2.1 j hjk
      have htk := Bl.textsL_take T.ks j hjk
      have hrm := Bl.rooms_take T.ks j hjk
      obtain ⟨g, off, u, lu, rfl, hg, q0, q1, q2, q3, q4, q5⟩ := HK.out.1.kid j hjk
      obtain ⟨x, hx⟩ : ∃ x, T.ks[j] = x := ⟨_, rfl⟩
      rw [hx] at q0 q1 q2 q5 hxF htk hrm
      obtain ⟨au, cu, rfl⟩ := q5.shape
      obtain ⟨bu, du, rfl⟩ := q5.links.shape
      obtain ⟨mx, hmx⟩ : ∃ n, x.ls.length = n := ⟨_, rfl⟩
      rw [hmx] at q4 q5
      obtain ⟨nx, hnx⟩ : ∃ n, x.ks.length = n := ⟨_, rfl⟩
      rw [hnx] at q3 q5
      obtain ⟨y0, hy0⟩ : ∃ y, x.kind = y := ⟨_, rfl⟩
      obtain ⟨y1, hy1⟩ : ∃ y, x.node = y := ⟨_, rfl⟩
      obtain ⟨y2, hy2⟩ : ∃ y, x.arg = y := ⟨_, rfl⟩
      rw [hy0] at q0
      rw [hy1] at q1
      rw [hy2] at q2
      have hcc : ∀ p, wr.cell? ⟨g, p, none⟩ = w.cell? ⟨g, p, none⟩ := fun p => HJ.out.2.1.below.cell (p := ⟨g, p, none⟩) hg
      have d0 := (hcc _).trans q0
      have d1 := (hcc _).trans q1
      have d2 := (hcc _).trans q2
      have d3 := (hcc _).trans q3
      have d4 := (hcc _).trans q4
      obtain ⟨V0, hV0⟩ : ∃ z, wr.alloc (.cells #[.int .i64 y0, .int .i64 y1, .int .i64 y2, .slice au nx cu, .slice bu mx du] 25) = z := ⟨_, rfl⟩
      obtain ⟨b6, hb6⟩ : ∃ z, wr.heap.size = z := ⟨_, rfl⟩
      have V1 : V0.heap[b6]? = some (.cells #[.int .i64 y0, .int .i64 y1, .int .i64 y2, .slice au nx cu, .slice bu mx du] 25 (0, 0)) := by rw [← hV0, ← hb6]; exact heap_alloc_new wr _
      have Y4 : Hid (Bk.Out B o (.slice va o.length vc) w V0) := by show Bk.Out _ _ _ _ _; rw [← hV0]; exact HJ.out.2.1.alloc HN.out.2.2.1 _
      have K4 : Hid (Lib.OthersKept 5 none W0 V0) := by show Lib.OthersKept _ _ _ _; rw [← hV0]; exact HJ.out.2.2.alloc _
      have CX : Hid (∀ W, Lib.OthersKept 5 none V0 W → W.cell? ⟨b6, 0, none⟩ = some (.int .i64 y0) ∧ W.cell? ⟨b6, 1, none⟩ = some (.int .i64 y1) ∧ W.cell? ⟨b6, 2, none⟩ = some (.int .i64 y2) ∧ W.cell? ⟨b6, 3, none⟩ = some (.slice au nx cu) ∧ W.cell? ⟨b6, 4, none⟩ = some (.slice bu mx du)) := fun W h => Bk.box5 (Bk.box_kept V1 h)
      have YB : Hid (Bk.Out B o (.slice va o.length vc) w (V0.alloc (.cells #[.int .u8 32] 5))) := Y4.out.alloc HN.out.2.2.1 _
      have KX : Hid (Lib.OthersKept 5 none V0 V0) := Lib.OthersKept.refl _ _ _
      have KB : Hid (Lib.OthersKept 5 none V0 (V0.alloc (.cells #[.int .u8 32] 5))) := KX.out.alloc _
      have BB : Hid (o.length + 1 ≤ maxLen ∧ (o.length + 1) * 1 ≤ 140737488355328 ∧ B ≤ (V0.alloc (.cells #[.int .u8 32] 5)).heap.size) := by
        have h1 := HLEN.out.1
        have h2 := HO3.out
        have h3 := HOL.out
        exact ⟨by unfold maxLen; omega, by omega, YB.out.size HN.out.2.2.1⟩
      have WC : Hid (∀ v1 W1, Bk.Out B (o ++ [32]) v1 w W1 → Calls Tryd.prog 15 #[v1, .agg #[.int .i64 y0, .int .i64 y1, .int .i64 y2, .slice au nx cu, .slice bu mx du]] W1 fun e w' => ∃ v', e = .returned v' ∧ Hid (Bk.Out B ((o ++ [32]) ++ x.textL) v' W1 w')) := fun v1 W1 h => by
        have h1 := HLEN.out.1
        have h2 := HO3.out
        have h3 := HOL.out
        have := HK.out.2.2.2.2 x (.slice au nx cu) (.slice bu mx du) B (o ++ [32]) v1 W1 (q5.below h.below) hxF (h.size HN.out.2.2.1) (HN.out.1.below h.below HN.out.2.1) HN.out.2.1 (HN.out.2.2.2.on h.below) h.own (by simp; omega)
        rw [hy0, hy1, hy2] at this
        exact this
      have HTK : Hid (Bl.textsL (T.ks.take (j + 1)) = Bl.textsL (T.ks.take j) ++ 32 :: x.textL) := htk
      have HV0 : Hid (wr.alloc (.cells #[.int .i64 y0, .int .i64 y1, .int .i64 y2, .slice au nx cu, .slice bu mx du] 25) = V0) := hV0
      clear hcc q0 q1 q2 q3 q4 q5 hx hxF htk hrm hmx hnx hy0 hy1 hy2 hV0 V1 hjk
      go_upto_region 15 with fail
      rw [HV0.out]
      clear d0 d1 d2 d3 d4 HV0 hb6
      go_region_held3 (fun W => W.cell? ⟨b6, 0, none⟩ = some (.int .i64 y0) ∧ W.cell? ⟨b6, 1, none⟩ = some (.int .i64 y1) ∧ W.cell? ⟨b6, 2, none⟩ = some (.int .i64 y2) ∧ W.cell? ⟨b6, 3, none⟩ = some (.slice au nx cu) ∧ W.cell? ⟨b6, 4, none⟩ = some (.slice bu mx du))
        (first | exact CX.out _ K6.out | exact CX.out _ K5.out | exact CX.out _ KB.out | exact CX.out _ KB.out.drew | exact CX.out _ KX.out.drew | exact CX.out _ KX.out)
        (first
        | ((with_reducible refine Tk.at_op (Op.call { callee := Callee.builtin Builtin.append, args := #[.tmp 51, .tmp 52], argTypes := #[49, 49] }) ?hop ?_); (case hop => with_reducible rfl); refine Tk.step_own rfl (.tmp 51) (.tmp 52) 49 rfl B 5 i0 (.int .u8 0) 1 1 Tryd.underlying49 hi hz0 hz1 hz2 rfl (by decide) (.slice va o.length vc) o.length (Lib.byteCells o) (by simp [Act.eval]) (by exact YB.out.own) ⟨V0.heap.size, 0, none⟩ 1 1 [.int .u8 32] (by simp [Act.eval]) rfl (by exact Tk.one_cell V0 32 5) (Tk.one_one 32) (by exact BB.out.1) (by exact BB.out.2.1) (by exact BB.out.2.2) ?_; intro v1 W1 q1 g1; have Y5 : Hid (Bk.Out B (o ++ [32]) v1 w W1) := Y4.out.byte HN.out.2.2.1 32 q1 (Bk.undrew g1); have K5 : Hid (Lib.OthersKept 5 none V0 W1) := KB.out.grown (Bk.undrew g1) (Lib.ownsRow_kind YB.out.own))
        | (go_simp; go_at_call 15; refine Calls.mono (WC.out _ _ Y5.out) ?_; rintro e W6 ⟨v6, rfl, X6⟩; have K6 : Hid (Lib.OthersKept 5 none V0 W6) := K5.out.trans X6.out.kept))
      have Y6' := Y5.out.trans X6.out
      obtain ⟨o6, ho6⟩ : ∃ z, (o ++ [32]) ++ x.textL = z := ⟨_, rfl⟩
      rw [ho6] at Y6'
      have HF : Hid (o3 ++ Bl.textsL (T.ks.take (j + 1)) = o6) := by
        show _ = _
        rw [HTK.out, ← ho6, ← HJ.out.1]
        simp
      have K7 : Hid (Lib.OthersKept 5 none W0 W6) := K4.out.trans K6.out
      obtain ⟨a6, c6, rfl⟩ := Tk.own_shape Y6'.own
      have Y6 : Hid (Bk.Out B o6 (.slice a6 o6.length c6) w W6) := Y6'
      clear Y6' ho6 X6 Y5 K5 K6 q1 g1 CX WC KB KX YB
      go_wp2
      go_roundg (gk - 1)
      case measure => omega
      case rel => exact ⟨j + 1, o6, _, _, by omega, by go_num, rfl, HF.out, Y6.out, K7.out⟩
    · have hd : decide ((j : Int) < n) = false := decide_eq_false (by omega)
      have HJE : Hid (o3 ++ Bl.textsL T.ks = o) := by
        have := HJ.out.1
        rw [List.take_of_length_le (by rw [HK.out.2.1]; omega)] at this
        exact this
      have HJR : Hid (o.length ≤ o3.length + Bl.rooms T.ks) := by
        show _ ≤ _
        have h1 := HOL.out
        rw [List.take_of_length_le (by rw [HK.out.2.1]; omega)] at h1
        exact h1
      obtain ⟨x0, x1, x2, x3, x4⟩ := CB.out wr HJ.out.2.2
      by_cases h9 : (k : Int) = 9
      · have e9 : ((k : Int) == 9) = true := by simp [h9]
        have hLL := HK.out.1.links.below HJ.out.2.1.below
        have LC : Hid (Calls Tryd.prog 29 #[.slice va o.length vc, .slice la nl lc] wr fun e w' => ∃ v', e = .returned v' ∧ Hid (Bk.Out B (o ++ Bl.linksL T.ls) v' wr w')) := by
          have h1 := HLEN.out.1
          have h2 := HO3.out
          have h3 := HJR.out
          have := Tryd.writeLinks_any T.ls la lc B o (.slice va o.length vc) wr (HJ.out.2.1.size HN.out.2.2.1) (by rw [HK.out.2.2.1]; exact hLL) (HN.out.2.2.2.on HJ.out.2.1.below) HJ.out.2.1.own HO.out.2.2 (by rw [HK.out.2.2.1]; omega)
          rw [HK.out.2.2.1] at this
          exact this
        have HL9 : Hid ((Bl.linksL T.ls).length ≤ 68 * nl) := by
          show _ ≤ _
          have := Bl.linksL_le T.ls HO.out.2.2
          rw [HK.out.2.2.1] at this
          exact this
        have HR9 : Hid (R = (o ++ Bl.linksL T.ls) ++ [41]) := by
          show _ = _
          rw [HR.out, if_pos h9, HJE.out]
          simp
        clear hLL h9
        go_upto_region 18 with fail
        go_wp2_with fail
        refine Calls.mono LC.out ?_
        rintro e W7 ⟨v7, rfl, X7⟩
        have X7' := HJ.out.2.1.trans X7.out
        obtain ⟨o7, ho7⟩ : ∃ z, o ++ Bl.linksL T.ls = z := ⟨_, rfl⟩
        rw [ho7] at X7' HR9
        have L7 : Hid (o7.length ≤ 800000000) := by
          show _ ≤ _
          rw [← ho7, List.length_append]
          have h1 := HLEN.out.1
          have h2 := HO3.out
          have h3 := HJR.out
          have h4 := HL9.out
          omega
        obtain ⟨a7, c7, rfl⟩ := Tk.own_shape X7'.own
        have Y7 : Hid (Bk.Out B o7 (.slice a7 o7.length c7) w W7) := X7'
        have E7 : Hid (o7 ++ [41] = R) := HR9.out.symm
        clear X7' X7 ho7
        go_upto_region 19 with fail
        have BE : Hid (o7.length + 1 ≤ maxLen ∧ (o7.length + 1) * 1 ≤ 140737488355328 ∧ B ≤ (W7.alloc (.cells #[.int .u8 41] 5)).heap.size) := ⟨by unfold maxLen; have := L7.out; omega, by have := L7.out; omega, (Y7.out.alloc HN.out.2.2.1 _).size HN.out.2.2.1⟩
        go_wp2_with (at_builtin; refine wpList_append_own _ rfl _ _ 49 rfl B 5 i0 (.int .u8 0) 1 1 Tryd.underlying49 hi hz0 hz1 hz2 rfl (by decide) (.slice a7 o7.length c7) o7.length (Lib.byteCells o7) rfl (Y7.out.own.alloc _) ⟨W7.heap.size, 0, none⟩ 1 1 [.int .u8 41] rfl rfl (Tk.one_cell W7 41 5) (Tk.one_one 41) BE.out.1 BE.out.2.1 BE.out.2.2 ?_)
        intro v5 W5 q5 g5 _
        have Y5 : Hid (Bk.Out B (o7 ++ [41]) v5 w W5) := Y7.out.byte HN.out.2.2.1 41 q5 g5
        clear q5 g5
        go_wp2
        go_ret
        refine ⟨_, rfl, ?_⟩
        have := Y5.out
        rw [E7.out] at this
        exact this
      · have e9 : ((k : Int) == 9) = false := by simp [h9]
        have L7 : Hid (o.length ≤ 800000000) := by show _ ≤ _; have h1 := HLEN.out.1; have h2 := HO3.out; have h3 := HJR.out; omega
        have E7 : Hid (o ++ [41] = R) := by
          show _ = _
          rw [HR.out, if_neg h9, HJE.out]
          simp
        have Y7 : Hid (Bk.Out B o (.slice va o.length vc) w wr) := HJ.out.2.1
        clear h9
        go_upto_region 19 with fail
        have BE : Hid (o.length + 1 ≤ maxLen ∧ (o.length + 1) * 1 ≤ 140737488355328 ∧ B ≤ (wr.alloc (.cells #[.int .u8 41] 5)).heap.size) := ⟨by unfold maxLen; have := L7.out; omega, by have := L7.out; omega, (Y7.out.alloc HN.out.2.2.1 _).size HN.out.2.2.1⟩
        go_wp2_with (at_builtin; refine wpList_append_own _ rfl _ _ 49 rfl B 5 i0 (.int .u8 0) 1 1 Tryd.underlying49 hi hz0 hz1 hz2 rfl (by decide) (.slice va o.length vc) o.length (Lib.byteCells o) rfl (Y7.out.own.alloc _) ⟨wr.heap.size, 0, none⟩ 1 1 [.int .u8 41] rfl rfl (Tk.one_cell wr 41 5) (Tk.one_one 41) BE.out.1 BE.out.2.1 BE.out.2.2 ?_)
        intro v5 W5 q5 g5 _
        have Y5 : Hid (Bk.Out B (o ++ [41]) v5 w W5) := Y7.out.byte HN.out.2.2.1 41 q5 g5
        clear q5 g5
        go_wp2
        go_ret
        refine ⟨_, rfl, ?_⟩
        have := Y5.out
        rw [E7.out] at this
        exact this

theorem Tryd.bwrite_any : ∀ d, Bk.WriteC d := by
  intro d
  induction d with
  | zero => intro T v lv B out sv w h; exact h.elim
  | succ d ih =>
    intro T v lv B out sv w hL hF hB hN h0 hT hown hlen
    have hF' := hF
    rw [Bl.allP_eq, Bool.and_eq_true] at hF'
    obtain ⟨ok1, ok2, ok3, ok4⟩ := Bl.okB_iff hF'.1
    have hroom := T.room_eq
    by_cases hk : T.kind = 3 ∨ T.kind = 4 ∨ T.kind = 5 ∨ T.kind = 6 ∨ T.kind = 7 ∨ T.kind = 9
    · exact Tryd.bwrite_tree d ih T v lv B out sv w hL hF hB hN h0 hT hown hlen hk
    · obtain ⟨a, cap, rfl⟩ := hL.shape
      obtain ⟨la, lc, rfl⟩ := hL.links.shape
      rw [Bl.textL_eq]
      by_cases h8 : T.kind = 8
      · rw [h8, if_neg (by decide), if_neg (by decide), if_pos rfl]
        exact Tryd.bwrite_gate T.node T.arg ok2.1 ok2.2 a _ cap la _ lc B out sv w hB hT hown (by omega)
      · by_cases h2 : T.kind = 2
        · rw [h2, if_neg (by decide), if_neg (by decide), if_neg (by decide), if_pos rfl]
          exact Tryd.bwrite_leaf T.node T.arg ok2.1 ok2.2 a _ cap la _ lc B out sv w hB hT hown (by omega)
        · by_cases h1 : T.kind = 1
          · have := Tryd.bwrite_mark T.kind T.node T.arg (.inl h1) a T.ks.length cap la T.ls.length lc B out sv w hB hown (by omega)
            rw [if_pos h1] at this ⊢
            exact this
          · have h10 : T.kind = 10 := by omega
            have := Tryd.bwrite_mark T.kind T.node T.arg (.inr h10) a T.ks.length cap la T.ls.length lc B out sv w hB hown (by omega)
            rw [if_neg h1] at this ⊢
            rw [if_pos h10]
            exact this

end Go.Proofs
