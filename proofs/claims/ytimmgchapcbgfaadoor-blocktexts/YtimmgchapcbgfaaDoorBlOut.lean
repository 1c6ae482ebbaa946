/-
  What is written so far; writeNode of kinds without a node; writeLinks.
-/
import Derived.Test.YtimmgchapcbgfaaDoorBlNode
import Derived.Test.YtimmgchapcbgfaaDoorBlLinks
namespace Go.Proofs
open Go.RowKit

/-- What is written so far: the row of the call's own, and what else has turned since w. -/
structure Bk.Out (B : Nat) (out : List UInt8) (v : Value) (w W : World) : Prop where
  own : W.ownsRow B 5 1 v out.length (Lib.byteCells out)
  below : Below B w W
  kept : Lib.OthersKept 5 none w W
theorem Bk.Out.size {B : Nat} {out : List UInt8} {v : Value} {w W : World} (h : Bk.Out B out v w W) (hB : B ≤ w.heap.size) : B ≤ W.heap.size := Nat.le_trans hB h.below.size
theorem Bk.Out.alloc {B : Nat} {out : List UInt8} {v : Value} {w W : World} (h : Bk.Out B out v w W) (hB : B ≤ w.heap.size) (o : Obj) : Bk.Out B out v w (W.alloc o) := ⟨h.own.alloc o, h.below.alloc (h.size hB) o, h.kept.alloc o⟩
theorem Bk.undrew {W W1 : World} {r : Option Nat} (g : W.drew.grownBy W1 r) : W.grownBy W1 r := ⟨g.os, g.tape, g.output, g.size, g.block⟩
/-- A byte more. -/
theorem Bk.Out.byte {B : Nat} {out : List UInt8} {v : Value} {w W : World} (h : Bk.Out B out v w W) (hB : B ≤ w.heap.size) (c : UInt8) {v1 : Value} {W1 : World}
    (q : W1.ownsRow B 5 1 v1 (out.length + 1) (Lib.byteCells out ++ [.int .u8 (c.toNat : Int)])) (g : (W.alloc (.cells #[.int .u8 (c.toNat : Int)] 5)).grownBy W1 v.ownBlock) : Bk.Out B (out ++ [c]) v1 w W1 := by
  have h2 := h.alloc hB (.cells #[.int .u8 (c.toNat : Int)] 5)
  exact ⟨Tk.own_eq q (by simp) (by rw [Lib.byteCells_append]; simp [Lib.byteCells]), Tk.below_grown h2.below (h2.size hB) h2.own g, h2.kept.grown g (Lib.ownsRow_kind h2.own)⟩
/-- A text more. -/
theorem Bk.Out.str {B : Nat} {out : List UInt8} {v : Value} {w W : World} (h : Bk.Out B out v w W) (hB : B ≤ w.heap.size) (b : ByteArray) {v1 : Value} {W1 : World}
    (q : W1.ownsRow B 5 1 v1 (out.length + b.size) (Lib.byteCells out ++ Lib.strCells b)) (g : W.grownBy W1 v.ownBlock) : Bk.Out B (out ++ b.data.toList) v1 w W1 :=
  ⟨Tk.own_eq q (by rw [List.length_append]; rfl) (by rw [Lib.byteCells_append]; rfl), Tk.below_grown h.below (h.size hB) h.own g, h.kept.grown g (Lib.ownsRow_kind h.own)⟩
/-- A number more. -/
theorem Bk.Out.num {B : Nat} {out : List UInt8} {v : Value} {w W : World} (h : Bk.Out B out v w W) (hB : B ≤ w.heap.size) (n : Int) (h0 : -9223372036854775808 ≤ n) (h1 : n ≤ 9223372036854775807)
    (hT : Lib.TabBelow Tryd.prog B w "internal/strconv.uint64pow10" .u64 Lib.pow10Tab) (hlen : out.length ≤ 1000000000) :
    Calls Tryd.prog 27 #[v, .int .i64 n] W fun e w' => ∃ a m c, e = .returned (.slice a m c) ∧ Hid (m = (out ++ Lib.itoa n).length ∧ Bk.Out B (out ++ Lib.itoa n) (.slice a m c) w w' ∧ Lib.OthersKept 5 none W w') := by
  refine (Tryd.number_any n h0 h1 B out v W (h.size hB) (hT.on h.below) h.own hlen).mono ?_
  rintro e w' ⟨v', he, q, b, o⟩
  obtain ⟨a, c, rfl⟩ := Tk.own_shape q
  exact ⟨a, _, c, he, rfl, ⟨q, h.below.trans b, h.kept.trans o⟩, o⟩

set_option maxRecDepth 20000 in
set_option maxHeartbeats 4000000 in
theorem Tryd.writeNode_none (k n r : Int) (hk : k = 3 ∨ k = 9) (a : Option Addr) (len c : Nat) (al : Option Addr) (nl cl : Nat) (sa : Option Addr) (sn sc : Nat) (w : World) :
    Calls Tryd.prog 28 #[.slice sa sn sc, .agg #[.int .i64 k, .int .i64 n, .int .i64 r, .slice a len c, .slice al nl cl]] w fun e w' => e = .returned (.slice sa sn sc) ∧ Hid (w' = w.alloc (.cells #[.int .i64 k, .int .i64 n, .int .i64 r, .slice a len c, .slice al nl cl] 25)) := by
  rcases hk with rfl | rfl
  all_goals
    go_enter Tryd.func28, Tryd.ntmps28
    go_wp2
    go_ret
    exact ⟨rfl, rfl⟩

/-- What is written of links. -/
def Bl.linkL (x : Int × Int × Int) : List UInt8 := ((([32, 91] ++ Lib.itoa x.1) ++ 32 :: Lib.itoa x.2.1) ++ 32 :: Lib.itoa x.2.2) ++ [93]
def Bl.linksL (ls : List (Int × Int × Int)) : List UInt8 := ls.flatMap Bl.linkL
/-- Numbers that machines have. -/
def Bl.I64 (x : Int) : Prop := -9223372036854775808 ≤ x ∧ x ≤ 9223372036854775807
theorem Bl.linkL_len (x : Int × Int × Int) (h1 : Bl.I64 x.1) (h2 : Bl.I64 x.2.1) (h3 : Bl.I64 x.2.2) : (Bl.linkL x).length ≤ 68 := by
  have a1 := Lib.itoa_length_le x.1 h1.1 h1.2
  have a2 := Lib.itoa_length_le x.2.1 h2.1 h2.2
  have a3 := Lib.itoa_length_le x.2.2 h3.1 h3.2
  simp [Bl.linkL]
  omega
theorem Bl.linksL_snoc (l : List (Int × Int × Int)) (x : Int × Int × Int) : Bl.linksL (l ++ [x]) = Bl.linksL l ++ Bl.linkL x := by simp [Bl.linksL]

set_option maxRecDepth 20000 in
set_option maxHeartbeats 8000000 in
theorem Tryd.writeLinks_any (ls : List (Int × Int × Int)) (al : Option Addr) (cl B : Nat) (out : List UInt8) (sv : Value) (w : World) (hB : B ≤ w.heap.size) (hL : Bl.Lk w B (.slice al ls.length cl) ls)
    (hT : Lib.TabBelow Tryd.prog B w "internal/strconv.uint64pow10" .u64 Lib.pow10Tab) (hown : w.ownsRow B 5 1 sv out.length (Lib.byteCells out)) (hr : ∀ x, x ∈ ls → Bl.I64 x.1 ∧ Bl.I64 x.2.1 ∧ Bl.I64 x.2.2) (hlen : out.length + ls.length * 68 ≤ 900000000) :
    Calls Tryd.prog 29 #[sv, .slice al ls.length cl] w fun e w' => ∃ v', e = .returned v' ∧ Hid (Bk.Out B (out ++ Bl.linksL ls) v' w w') := by
  obtain ⟨i0, hi, hz0, hz1, hz2⟩ := info_parts Tryd.infoByte
  obtain ⟨n, hn⟩ : ∃ n, ls.length = n := ⟨_, rfl⟩
  have HE : Hid (Bl.Lk w B (.slice al ls.length cl) ls ∧ ls.length = n ∧ B ≤ w.heap.size ∧ (∀ x, x ∈ ls → Bl.I64 x.1 ∧ Bl.I64 x.2.1 ∧ Bl.I64 x.2.2)) := ⟨hL, hn, hB, hr⟩
  have HT : Hid (Lib.TabBelow Tryd.prog B w "internal/strconv.uint64pow10" .u64 Lib.pow10Tab) := hT
  have HL : Hid (∀ k, k ≤ n → (out ++ Bl.linksL (ls.take k)).length ≤ out.length + k * 68) := fun k => by
    induction k with
    | zero => intro _; simp [Bl.linksL]
    | succ k ih =>
      intro hk
      have hkl : k < ls.length := by omega
      have h1 := ih (by omega)
      have h2 := hr ls[k] (List.getElem_mem hkl)
      have h3 := Bl.linkL_len ls[k] h2.1 h2.2.1 h2.2.2
      rw [Bl.take_snoc _ _ hkl, Bl.linksL_snoc, ← List.append_assoc, List.length_append]
      omega
  have HLN : Hid (out.length + n * 68 ≤ 900000000) := by show _ ≤ _; omega
  have O0 : Hid (Bk.Out B out sv w w) := ⟨hown, Below.refl _ _, Lib.OthersKept.refl _ _ _⟩
  obtain ⟨sa, sc, rfl⟩ := Tk.own_shape hown
  have hnb : n ≤ 900000000 := by omega
  rw [hn]
  clear hL hT hown hr hlen hn
  go_enter Tryd.func29, Tryd.ntmps29
  go_wp2
  go_loopg [0, 9] n (fun gk s0 s9 wr => ∃ (k : Nat) (o : List UInt8) (va : Option Addr) (vc : Nat), gk + k = n ∧ s9 = .int .i64 k ∧ s0 = .slice va o.length vc ∧ Hid (out ++ Bl.linksL (ls.take k) = o ∧ Bk.Out B o (.slice va o.length vc) w wr))
  case atStart => exact ⟨0, out, _, _, by omega, rfl, rfl, by simp [Bl.linksL], O0.out⟩
  case round =>
    obtain ⟨k, o, va, vc, hk, rfl, rfl, HI⟩ := hrel
    by_cases hlt : k < n
    · have hd : decide ((k : Int) < n) = true := decide_eq_true (by omega)
      have hkl : k < ls.length := by rw [HE.out.2.1]; exact hlt
      obtain ⟨a', c', hv, hat⟩ := HE.out.1
      simp only [Value.slice.injEq] at hv
      obtain ⟨rfl, -, rfl⟩ := hv
      obtain ⟨g, off, rfl, hg, q0, q1, q2⟩ := hat k hkl
      obtain ⟨x, hx⟩ : ∃ x, ls[k] = x := ⟨_, rfl⟩
      have hxr := HE.out.2.2.2 ls[k] (List.getElem_mem hkl)
      rw [hx] at q0 q1 q2 hxr
      obtain ⟨x0, x1, x2⟩ := x
      have hcc : ∀ p, wr.cell? ⟨g, p, none⟩ = w.cell? ⟨g, p, none⟩ := fun p => HI.out.2.below.cell (p := ⟨g, p, none⟩) hg
      have d0 := (hcc _).trans q0
      have d1 := (hcc _).trans q1
      have d2 := (hcc _).trans q2
      obtain ⟨W0, hW0⟩ : ∃ z, wr.alloc (.cells #[.int .i64 x0, .int .i64 x1, .int .i64 x2] 46) = z := ⟨_, rfl⟩
      have G0 : W0.heap[wr.heap.size]? = some (.cells #[.int .i64 x0, .int .i64 x1, .int .i64 x2] 46 (0, 0)) := by rw [← hW0]; exact heap_alloc_new wr _
      have Y0 : Hid (Bk.Out B o (.slice va o.length vc) w W0) := by show Bk.Out _ _ _ _ _; rw [← hW0]; exact HI.out.2.alloc HE.out.2.2.1 _
      have CF : Hid (∀ W, Lib.OthersKept 5 none W0 W → W.cell? ⟨wr.heap.size, 0, none⟩ = some (.int .i64 x0) ∧ W.cell? ⟨wr.heap.size, 1, none⟩ = some (.int .i64 x1) ∧ W.cell? ⟨wr.heap.size, 2, none⟩ = some (.int .i64 x2)) := fun W hb => by
        have e1 := hb _ _ G0 (by simp) (by intro c fz h; simp at h)
        exact ⟨by simp [World.cell?, e1], by simp [World.cell?, e1], by simp [World.cell?, e1]⟩
      have hol : o.length + 68 ≤ 900000000 := by
        have h1 := HL.out k (by omega)
        have h2 := HLN.out
        rw [HI.out.1] at h1
        have : (k + 1) * 68 ≤ n * 68 := Nat.mul_le_mul (by omega) (Nat.le_refl _)
        omega
      have HX : Hid (ls[k] = (x0, x1, x2) ∧ Bl.I64 x0 ∧ Bl.I64 x1 ∧ Bl.I64 x2) := ⟨hx, hxr.1, hxr.2.1, hxr.2.2⟩
      have HW0 : Hid (wr.alloc (.cells #[.int .i64 x0, .int .i64 x1, .int .i64 x2] 46) = W0) := hW0
      have KR : Hid (Lib.OthersKept 5 none W0 W0) := Lib.OthersKept.refl _ _ _
      have hu := Tryd.underlying46
      obtain ⟨b6, hb6⟩ : ∃ z, wr.heap.size = z := ⟨_, rfl⟩
      rw [hb6] at CF
      have BS : Hid (o.length + 2 ≤ maxLen ∧ o.length + 2 ≤ 140737488355328 ∧ B ≤ W0.heap.size ∧ o.length + 68 ≤ 900000000) := ⟨by unfold maxLen; omega, by omega, Y0.out.size HE.out.2.2.1, hol⟩
      clear hat q0 q1 q2 hcc hg hW0 G0 hx hxr
      go_upto_region 4 with fail
      rw [HW0.out]
      clear d0 d1 d2 HW0 hb6
      go_region_held3 (fun W => W.cell? ⟨b6, 0, none⟩ = some (.int .i64 x0) ∧ W.cell? ⟨b6, 1, none⟩ = some (.int .i64 x1) ∧ W.cell? ⟨b6, 2, none⟩ = some (.int .i64 x2))
        (first | exact CF.out _ K2.out | exact CF.out _ K1.out | exact CF.out _ KR.out.drew | exact CF.out _ KR.out)
        (first
          | (refine Tk.step_str rfl (.tmp 13) _ 49 9 rfl B 5 i0 Tryd.underlying49 Tryd.underlying9 hi hz0 hz1 hz2 (.slice va o.length vc) o.length (Lib.byteCells o) (by simp [Act.eval]) (by exact Y0.out.own) ⟨#[32, 91]⟩ rfl (by exact BS.out.1) (by exact BS.out.2.1) (by exact BS.out.2.2.1) ?_; intro v1 W1 q1 g1; have Y1 : Hid (Bk.Out B (o ++ [32, 91]) v1 w W1) := Y0.out.str HE.out.2.2.1 ⟨#[32, 91]⟩ q1 (Bk.undrew g1); have K1 : Hid (Lib.OthersKept 5 none W0 W1) := KR.out.grown (Bk.undrew g1) (Lib.ownsRow_kind Y0.out.own))
          | (go_simp; go_at_call 27; refine Calls.mono (Y1.out.num HE.out.2.2.1 x0 HX.out.2.1.1 HX.out.2.1.2 HT.out (by have := BS.out.2.2.2; simp; omega)) ?_; rintro e W2 ⟨a2, m2, c2, rfl, X2⟩; have K2 : Hid (Lib.OthersKept 5 none W0 W2) := K1.out.trans X2.out.2.2))
      obtain ⟨o2, ho2⟩ : ∃ z, (o ++ [32, 91]) ++ Lib.itoa x0 = z := ⟨_, rfl⟩
      rw [ho2] at X2
      obtain rfl := X2.out.1
      have HO2 : Hid ((o ++ [32, 91]) ++ Lib.itoa x0 = o2) := ho2
      have Y2 : Hid (Bk.Out B o2 (.slice a2 o2.length c2) w W2) := X2.out.2.1
      have HLO : Hid (o2.length ≤ o.length + 23 ∧ (o2 ++ 32 :: Lib.itoa x1).length ≤ o.length + 45 ∧ ((o2 ++ 32 :: Lib.itoa x1) ++ 32 :: Lib.itoa x2).length ≤ o.length + 67 ∧ o.length + 68 ≤ 900000000) := by
        have e0 := Lib.itoa_length_le x0 HX.out.2.1.1 HX.out.2.1.2
        have e1 := Lib.itoa_length_le x1 HX.out.2.2.1.1 HX.out.2.2.1.2
        have e2 := Lib.itoa_length_le x2 HX.out.2.2.2.1 HX.out.2.2.2.2
        have e3 : o2.length = o.length + 2 + (Lib.itoa x0).length := by rw [← ho2]; simp; omega
        refine ⟨by omega, by simp; omega, by simp; omega, BS.out.2.2.2⟩
      clear K1 g1 q1 ho2 X2 Y1
      have Z3 : Hid (Bk.Byte 32 x1 32 B o2 a2 c2 w W2) := Bk.byte_of 32 x1 HX.out.2.2.1.1 HX.out.2.2.1.2 B o2 a2 c2 w W2 Y2.out.below Y2.out.own HE.out.2.2.1 HT.out (by have := HLO.out.1; have := HLO.out.2.2.2; omega)
      have CF3 : Hid (∀ W, Lib.OthersKept 5 none W2 W → W.cell? ⟨b6, 0, none⟩ = some (.int .i64 x0) ∧ W.cell? ⟨b6, 1, none⟩ = some (.int .i64 x1) ∧ W.cell? ⟨b6, 2, none⟩ = some (.int .i64 x2)) := fun W h => CF.out W (K2.out.trans h)
      have KR3 : Hid (Lib.OthersKept 5 none W2 W2) := Lib.OthersKept.refl _ _ _
      go_upto_region 5 with fail
      go_region_held3 (fun W => W.cell? ⟨b6, 0, none⟩ = some (.int .i64 x0) ∧ W.cell? ⟨b6, 1, none⟩ = some (.int .i64 x1) ∧ W.cell? ⟨b6, 2, none⟩ = some (.int .i64 x2))
        (first | exact CF3.out _ H3.out.2.2 | exact CF3.out _ J3.out | exact CF3.out _ Z3.out.kept | exact CF3.out _ Z3.out.kept.drew | exact CF3.out _ KR3.out.drew | exact CF3.out _ KR3.out)
        (first
          | ((with_reducible refine Tk.at_op (Op.call { callee := Callee.builtin Builtin.append, args := #[.tmp 18, .tmp 19], argTypes := #[49, 49] }) ?hop ?_); (case hop => with_reducible rfl); refine Tk.step_own rfl (.tmp 18) (.tmp 19) 49 rfl B 5 i0 (.int .u8 0) 1 1 Tryd.underlying49 hi hz0 hz1 hz2 rfl (by decide) (.slice a2 o2.length c2) o2.length (Lib.byteCells o2) (by simp [Act.eval]) (by exact Z3.out.own) ⟨W2.heap.size, 0, none⟩ 1 1 [.int .u8 32] (by simp [Act.eval]) rfl (by exact Tk.one_cell W2 32 5) (Tk.one_one 32) (by exact Z3.out.bound.1) (by exact Z3.out.bound.2) (by exact Z3.out.le) ?_; intro v1 W1 q1 g1; have J3 : Hid (Lib.OthersKept 5 none W2 W1) := Z3.out.grown W1 g1)
          | (go_simp; go_at_call 27; refine Calls.mono (Z3.out.num _ _ (by exact q1) (by exact g1)) ?_; rintro e W3 ⟨v3, rfl, H3⟩))
      obtain ⟨o3, ho3⟩ : ∃ z, o2 ++ 32 :: Lib.itoa x1 = z := ⟨_, rfl⟩
      rw [ho3] at H3
      obtain ⟨a3, c3, rfl⟩ := Tk.own_shape H3.out.1
      have HO3 : Hid (o2 ++ 32 :: Lib.itoa x1 = o3) := ho3
      have K3 : Hid (Lib.OthersKept 5 none W0 W3) := K2.out.trans H3.out.2.2
      have Y3 : Hid (Bk.Out B o3 (.slice a3 o3.length c3) w W3) := ⟨H3.out.1, H3.out.2.1, Y2.out.kept.trans H3.out.2.2⟩
      clear J3 g1 q1 ho3 Z3 CF3 KR3 H3
      have Z4 : Hid (Bk.Byte 32 x2 32 B o3 a3 c3 w W3) := Bk.byte_of 32 x2 HX.out.2.2.2.1 HX.out.2.2.2.2 B o3 a3 c3 w W3 Y3.out.below Y3.out.own HE.out.2.2.1 HT.out (by have h1 := HLO.out.2.1; have h2 := HLO.out.2.2.2; rw [HO3.out] at h1; omega)
      have CF4 : Hid (∀ W, Lib.OthersKept 5 none W3 W → W.cell? ⟨b6, 0, none⟩ = some (.int .i64 x0) ∧ W.cell? ⟨b6, 1, none⟩ = some (.int .i64 x1) ∧ W.cell? ⟨b6, 2, none⟩ = some (.int .i64 x2)) := fun W h => CF.out W (K3.out.trans h)
      have KR4 : Hid (Lib.OthersKept 5 none W3 W3) := Lib.OthersKept.refl _ _ _
      go_upto_region 6 with fail
      go_region_held3 (fun W => W.cell? ⟨b6, 0, none⟩ = some (.int .i64 x0) ∧ W.cell? ⟨b6, 1, none⟩ = some (.int .i64 x1) ∧ W.cell? ⟨b6, 2, none⟩ = some (.int .i64 x2))
        (first | exact CF4.out _ H4.out.2.2 | exact CF4.out _ J4.out | exact CF4.out _ Z4.out.kept | exact CF4.out _ Z4.out.kept.drew | exact CF4.out _ KR4.out.drew | exact CF4.out _ KR4.out)
        (first
          | ((with_reducible refine Tk.at_op (Op.call { callee := Callee.builtin Builtin.append, args := #[.tmp 24, .tmp 25], argTypes := #[49, 49] }) ?hop ?_); (case hop => with_reducible rfl); refine Tk.step_own rfl (.tmp 24) (.tmp 25) 49 rfl B 5 i0 (.int .u8 0) 1 1 Tryd.underlying49 hi hz0 hz1 hz2 rfl (by decide) (.slice a3 o3.length c3) o3.length (Lib.byteCells o3) (by simp [Act.eval]) (by exact Z4.out.own) ⟨W3.heap.size, 0, none⟩ 1 1 [.int .u8 32] (by simp [Act.eval]) rfl (by exact Tk.one_cell W3 32 5) (Tk.one_one 32) (by exact Z4.out.bound.1) (by exact Z4.out.bound.2) (by exact Z4.out.le) ?_; intro v1 W1 q1 g1; have J4 : Hid (Lib.OthersKept 5 none W3 W1) := Z4.out.grown W1 g1)
          | (go_simp; go_at_call 27; refine Calls.mono (Z4.out.num _ _ (by exact q1) (by exact g1)) ?_; rintro e W4 ⟨v4, rfl, H4⟩))
      obtain ⟨o4, ho4⟩ : ∃ z, o3 ++ 32 :: Lib.itoa x2 = z := ⟨_, rfl⟩
      rw [ho4] at H4
      obtain ⟨a4, c4, rfl⟩ := Tk.own_shape H4.out.1
      have HO4 : Hid (o3 ++ 32 :: Lib.itoa x2 = o4) := ho4
      have K4 : Hid (Lib.OthersKept 5 none W0 W4) := K3.out.trans H4.out.2.2
      have Y4 : Hid (Bk.Out B o4 (.slice a4 o4.length c4) w W4) := ⟨H4.out.1, H4.out.2.1, Y3.out.kept.trans H4.out.2.2⟩
      clear J4 g1 q1 ho4 Z4 CF4 KR4 H4
      have BE : Hid (o4.length + 1 ≤ maxLen ∧ (o4.length + 1) * 1 ≤ 140737488355328 ∧ B ≤ (W4.alloc (.cells #[.int .u8 93] 5)).heap.size) := by
        have h1 := HLO.out.2.2.1
        have h2 := HLO.out.2.2.2
        rw [HO3.out, HO4.out] at h1
        exact ⟨by unfold maxLen; omega, by omega, (Y4.out.alloc HE.out.2.2.1 _).size HE.out.2.2.1⟩
      go_wp2_with (at_builtin; refine wpList_append_own _ rfl _ _ 49 rfl B 5 i0 (.int .u8 0) 1 1 Tryd.underlying49 hi hz0 hz1 hz2 rfl (by decide) (.slice a4 o4.length c4) o4.length (Lib.byteCells o4) rfl (Y4.out.own.alloc _) ⟨W4.heap.size, 0, none⟩ 1 1 [.int .u8 93] rfl rfl (Tk.one_cell W4 93 5) (Tk.one_one 93) BE.out.1 BE.out.2.1 BE.out.2.2 ?_)
      intro v5 W5 q5 g5 _
      have Y5 : Bk.Out B (o4 ++ [93]) v5 w W5 := Y4.out.byte HE.out.2.2.1 93 q5 g5
      obtain ⟨o5, ho5⟩ : ∃ z, o4 ++ [93] = z := ⟨_, rfl⟩
      rw [ho5] at Y5
      obtain ⟨a5, c5, rfl⟩ := Tk.own_shape Y5.own
      have HY5 : Hid (Bk.Out B o5 (.slice a5 o5.length c5) w W5) := Y5
      have HF : Hid (out ++ Bl.linksL (ls.take (k + 1)) = o5) := by
        show _ = _
        rw [Bl.take_snoc _ _ hkl, Bl.linksL_snoc, ← List.append_assoc, HI.out.1, HX.out.1, ← ho5, ← HO4.out, ← HO3.out, ← HO2.out]
        simp [Bl.linkL]
      clear q5 g5 Y5 ho5
      go_wp2
      go_roundg (gk - 1)
      case measure => omega
      case rel => exact ⟨k + 1, o5, _, _, by omega, by go_num, rfl, HF.out, HY5.out⟩
    · have hd : decide ((k : Int) < n) = false := decide_eq_false (by omega)
      have HF : Hid (Bk.Out B (out ++ Bl.linksL ls) (.slice va o.length vc) w wr) := by
        have := HI.out.1
        rw [List.take_of_length_le (by rw [HE.out.2.1]; omega)] at this
        rw [this]
        exact HI.out.2
      go_wp2
      go_ret
      exact ⟨_, rfl, HF.out⟩

end Go.Proofs
