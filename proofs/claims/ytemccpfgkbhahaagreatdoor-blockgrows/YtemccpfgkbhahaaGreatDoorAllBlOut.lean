/-
  What is written so far; writeNode of kinds without a node; writeLinks. · writable: ContainsFunc over links, and what is written of a block by itself. · A block's text as plain bytes; the table of names in memory; writeNode of each kind with kids; write of the kinds without. · write of the kinds without kids. · write: a block's text behind other bytes. · block.Text.
-/
import Derived.Test.YtemccpfgkbhahaaGreatDoorAllBlNode
import Derived.Test.YtemccpfgkbhahaaGreatDoorBlLinks
import Derived.Test.YtemccpfgkbhahaaGreatDoorBlWays
namespace Go.Proofs
open Go.RowKit

/-- What is written so far: the row of the call's own, and what else has turned since w. -/
structure Bk.Out (B : Nat) (out : List UInt8) (v : Value) (w W : World) : Prop where
  own : W.ownsRow B 5 1 v out.length (Lib.byteCells out)
  below : Below B w W
  kept : Lib.OthersKept 5 none w W
theorem Bk.Out.size {B : Nat} {out : List UInt8} {v : Value} {w W : World} (h : Bk.Out B out v w W) (hB : B ≤ w.heap.size) : B ≤ W.heap.size := Nat.le_trans hB h.below.size
theorem Bk.Out.alloc {B : Nat} {out : List UInt8} {v : Value} {w W : World} (h : Bk.Out B out v w W) (hB : B ≤ w.heap.size) (o : Obj) : Bk.Out B out v w (W.alloc o) := ⟨h.own.alloc o, h.below.alloc (h.size hB) o, h.kept.alloc o⟩
theorem Bk.undrew {W W1 : World} {r : Option Nat} (g : W.drew.grownBy W1 r) : W.grownBy W1 r := ⟨g.os, g.tape, g.output, g.size, g.block⟩
/-- A byte more. -/
theorem Bk.Out.byte {B : Nat} {out : List UInt8} {v : Value} {w W : World} (h : Bk.Out B out v w W) (hB : B ≤ w.heap.size) (c : UInt8) {v1 : Value} {W1 : World}
    (q : W1.ownsRow B 5 1 v1 (out.length + 1) (Lib.byteCells out ++ [.int .u8 (c.toNat : Int)])) (g : (W.alloc (.cells #[.int .u8 (c.toNat : Int)] 5)).grownBy W1 v.ownBlock) : Bk.Out B (out ++ [c]) v1 w W1 := by
  have h2 := h.alloc hB (.cells #[.int .u8 (c.toNat : Int)] 5)
  exact ⟨Tk.own_eq q (by simp) (by rw [Lib.byteCells_append]; simp [Lib.byteCells]), Tk.below_grown h2.below (h2.size hB) h2.own g, h2.kept.grown g (Lib.ownsRow_kind h2.own)⟩
/-- A text more. -/
theorem Bk.Out.str {B : Nat} {out : List UInt8} {v : Value} {w W : World} (h : Bk.Out B out v w W) (hB : B ≤ w.heap.size) (b : ByteArray) {v1 : Value} {W1 : World}
    (q : W1.ownsRow B 5 1 v1 (out.length + b.size) (Lib.byteCells out ++ Lib.strCells b)) (g : W.grownBy W1 v.ownBlock) : Bk.Out B (out ++ b.data.toList) v1 w W1 :=
  ⟨Tk.own_eq q (by rw [List.length_append]; rfl) (by rw [Lib.byteCells_append]; rfl), Tk.below_grown h.below (h.size hB) h.own g, h.kept.grown g (Lib.ownsRow_kind h.own)⟩
/-- A number more. -/
theorem Bk.Out.num {B : Nat} {out : List UInt8} {v : Value} {w W : World} (h : Bk.Out B out v w W) (hB : B ≤ w.heap.size) (n : Int) (h0 : -9223372036854775808 ≤ n) (h1 : n ≤ 9223372036854775807)
    (hT : Lib.TabBelow Tryz.prog B w "internal/strconv.uint64pow10" .u64 Lib.pow10Tab) (hlen : out.length ≤ 1000000000) :
    Calls Tryz.prog 39 #[v, .int .i64 n] W fun e w' => ∃ a m c, e = .returned (.slice a m c) ∧ Hid (m = (out ++ Lib.itoa n).length ∧ Bk.Out B (out ++ Lib.itoa n) (.slice a m c) w w' ∧ Lib.OthersKept 5 none W w') := by
  refine (Tryz.number_any n h0 h1 B out v W (h.size hB) (hT.on h.below) h.own hlen).mono ?_
  rintro e w' ⟨v', he, q, b, o⟩
  obtain ⟨a, c, rfl⟩ := Tk.own_shape q
  exact ⟨a, _, c, he, rfl, ⟨q, h.below.trans b, h.kept.trans o⟩, o⟩

set_option maxRecDepth 20000 in
set_option maxHeartbeats 4000000 in
theorem Tryz.writeNode_none (k n r : Int) (hk : k = 3 ∨ k = 9) (a : Option Addr) (len c : Nat) (al : Option Addr) (nl cl : Nat) (sa : Option Addr) (sn sc : Nat) (w : World) :
    Calls Tryz.prog 40 #[.slice sa sn sc, .agg #[.int .i64 k, .int .i64 n, .int .i64 r, .slice a len c, .slice al nl cl]] w fun e w' => e = .returned (.slice sa sn sc) ∧ Hid (w' = w.alloc (.cells #[.int .i64 k, .int .i64 n, .int .i64 r, .slice a len c, .slice al nl cl] 29)) := by
  rcases hk with rfl | rfl
  all_goals
    go_enter Tryz.func40, Tryz.ntmps40
    go_wp2
    go_ret
    exact ⟨rfl, rfl⟩

/-- What is written of links. -/
def Bl.linkL (x : Int × Int × Int) : List UInt8 := ((([32, 91] ++ Lib.itoa x.1) ++ 32 :: Lib.itoa x.2.1) ++ 32 :: Lib.itoa x.2.2) ++ [93]
def Bl.linksL (ls : List (Int × Int × Int)) : List UInt8 := ls.flatMap Bl.linkL
/-- Numbers that machines have. -/
def Bl.I64 (x : Int) : Prop := -9223372036854775808 ≤ x ∧ x ≤ 9223372036854775807
theorem Bl.linkL_len (x : Int × Int × Int) (h1 : Bl.I64 x.1) (h2 : Bl.I64 x.2.1) (h3 : Bl.I64 x.2.2) : (Bl.linkL x).length ≤ 68 := by
  have a1 := Lib.itoa_length_le x.1 h1.1 h1.2
  have a2 := Lib.itoa_length_le x.2.1 h2.1 h2.2
  have a3 := Lib.itoa_length_le x.2.2 h3.1 h3.2
  simp [Bl.linkL]
  omega
theorem Bl.linksL_snoc (l : List (Int × Int × Int)) (x : Int × Int × Int) : Bl.linksL (l ++ [x]) = Bl.linksL l ++ Bl.linkL x := by simp [Bl.linksL]

set_option maxRecDepth 20000 in
set_option maxHeartbeats 8000000 in
theorem Tryz.writeLinks_any (ls : List (Int × Int × Int)) (al : Option Addr) (cl B : Nat) (out : List UInt8) (sv : Value) (w : World) (hB : B ≤ w.heap.size) (hL : Bl.Lk w B (.slice al ls.length cl) ls)
    (hT : Lib.TabBelow Tryz.prog B w "internal/strconv.uint64pow10" .u64 Lib.pow10Tab) (hown : w.ownsRow B 5 1 sv out.length (Lib.byteCells out)) (hr : ∀ x, x ∈ ls → Bl.I64 x.1 ∧ Bl.I64 x.2.1 ∧ Bl.I64 x.2.2) (hlen : out.length + ls.length * 68 ≤ 900000000) :
    Calls Tryz.prog 41 #[sv, .slice al ls.length cl] w fun e w' => ∃ v', e = .returned v' ∧ Hid (Bk.Out B (out ++ Bl.linksL ls) v' w w') := by
  obtain ⟨i0, hi, hz0, hz1, hz2⟩ := info_parts Tryz.infoByte
  obtain ⟨n, hn⟩ : ∃ n, ls.length = n := ⟨_, rfl⟩
  have HE : Hid (Bl.Lk w B (.slice al ls.length cl) ls ∧ ls.length = n ∧ B ≤ w.heap.size ∧ (∀ x, x ∈ ls → Bl.I64 x.1 ∧ Bl.I64 x.2.1 ∧ Bl.I64 x.2.2)) := ⟨hL, hn, hB, hr⟩
  have HT : Hid (Lib.TabBelow Tryz.prog B w "internal/strconv.uint64pow10" .u64 Lib.pow10Tab) := hT
  have HL : Hid (∀ k, k ≤ n → (out ++ Bl.linksL (ls.take k)).length ≤ out.length + k * 68) := fun k => by
    induction k with
    | zero => intro _; simp [Bl.linksL]
    | succ k ih =>
      intro hk
      have hkl : k < ls.length := by omega
      have h1 := ih (by omega)
      have h2 := hr ls[k] (List.getElem_mem hkl)
      have h3 := Bl.linkL_len ls[k] h2.1 h2.2.1 h2.2.2
      rw [Bl.take_snoc _ _ hkl, Bl.linksL_snoc, ← List.append_assoc, List.length_append]
      omega
  have HLN : Hid (out.length + n * 68 ≤ 900000000) := by show _ ≤ _; omega
  have O0 : Hid (Bk.Out B out sv w w) := ⟨hown, Below.refl _ _, Lib.OthersKept.refl _ _ _⟩
  obtain ⟨sa, sc, rfl⟩ := Tk.own_shape hown
  have hnb : n ≤ 900000000 := by omega
  rw [hn]
  clear hL hT hown hr hlen hn
  go_enter Tryz.func41, Tryz.ntmps41
  go_wp2
  go_loopg [0, 9] n (fun gk s0 s9 wr => ∃ (k : Nat) (o : List UInt8) (va : Option Addr) (vc : Nat), gk + k = n ∧ s9 = .int .i64 k ∧ s0 = .slice va o.length vc ∧ Hid (out ++ Bl.linksL (ls.take k) = o ∧ Bk.Out B o (.slice va o.length vc) w wr))
  case atStart => exact ⟨0, out, _, _, by omega, rfl, rfl, by simp [Bl.linksL], O0.out⟩
  case round =>
    obtain ⟨k, o, va, vc, hk, rfl, rfl, HI⟩ := hrel
    by_cases hlt : k < n
    · have hd : decide ((k : Int) < n) = true := decide_eq_true (by omega)
      have hkl : k < ls.length := by rw [HE.out.2.1]; exact hlt
      obtain ⟨a', c', hv, hat⟩ := HE.out.1
      simp only [Value.slice.injEq] at hv
      obtain ⟨rfl, -, rfl⟩ := hv
      obtain ⟨g, off, rfl, hg, q0, q1, q2⟩ := hat k hkl
      obtain ⟨x, hx⟩ : ∃ x, ls[k] = x := ⟨_, rfl⟩
      have hxr := HE.out.2.2.2 ls[k] (List.getElem_mem hkl)
      rw [hx] at q0 q1 q2 hxr
      obtain ⟨x0, x1, x2⟩ := x
      have hcc : ∀ p, wr.cell? ⟨g, p, none⟩ = w.cell? ⟨g, p, none⟩ := fun p => HI.out.2.below.cell (p := ⟨g, p, none⟩) hg
      have d0 := (hcc _).trans q0
      have d1 := (hcc _).trans q1
      have d2 := (hcc _).trans q2
      obtain ⟨W0, hW0⟩ : ∃ z, wr.alloc (.cells #[.int .i64 x0, .int .i64 x1, .int .i64 x2] 75) = z := ⟨_, rfl⟩
      have G0 : W0.heap[wr.heap.size]? = some (.cells #[.int .i64 x0, .int .i64 x1, .int .i64 x2] 75 (0, 0)) := by rw [← hW0]; exact heap_alloc_new wr _
      have Y0 : Hid (Bk.Out B o (.slice va o.length vc) w W0) := by show Bk.Out _ _ _ _ _; rw [← hW0]; exact HI.out.2.alloc HE.out.2.2.1 _
      have CF : Hid (∀ W, Lib.OthersKept 5 none W0 W → W.cell? ⟨wr.heap.size, 0, none⟩ = some (.int .i64 x0) ∧ W.cell? ⟨wr.heap.size, 1, none⟩ = some (.int .i64 x1) ∧ W.cell? ⟨wr.heap.size, 2, none⟩ = some (.int .i64 x2)) := fun W hb => by
        have e1 := hb _ _ G0 (by simp) (by intro c fz h; simp at h)
        exact ⟨by simp [World.cell?, e1], by simp [World.cell?, e1], by simp [World.cell?, e1]⟩
      have hol : o.length + 68 ≤ 900000000 := by
        have h1 := HL.out k (by omega)
        have h2 := HLN.out
        rw [HI.out.1] at h1
        have : (k + 1) * 68 ≤ n * 68 := Nat.mul_le_mul (by omega) (Nat.le_refl _)
        omega
      have HX : Hid (ls[k] = (x0, x1, x2) ∧ Bl.I64 x0 ∧ Bl.I64 x1 ∧ Bl.I64 x2) := ⟨hx, hxr.1, hxr.2.1, hxr.2.2⟩
      have HW0 : Hid (wr.alloc (.cells #[.int .i64 x0, .int .i64 x1, .int .i64 x2] 75) = W0) := hW0
      have KR : Hid (Lib.OthersKept 5 none W0 W0) := Lib.OthersKept.refl _ _ _
      have hu := Tryz.underlying75
      obtain ⟨b6, hb6⟩ : ∃ z, wr.heap.size = z := ⟨_, rfl⟩
      rw [hb6] at CF
      have BS : Hid (o.length + 2 ≤ maxLen ∧ o.length + 2 ≤ 140737488355328 ∧ B ≤ W0.heap.size ∧ o.length + 68 ≤ 900000000) := ⟨by unfold maxLen; omega, by omega, Y0.out.size HE.out.2.2.1, hol⟩
      clear hat q0 q1 q2 hcc hg hW0 G0 hx hxr
      go_upto_region 4 with fail
      rw [HW0.out]
      clear d0 d1 d2 HW0 hb6
      go_region_held3 (fun W => W.cell? ⟨b6, 0, none⟩ = some (.int .i64 x0) ∧ W.cell? ⟨b6, 1, none⟩ = some (.int .i64 x1) ∧ W.cell? ⟨b6, 2, none⟩ = some (.int .i64 x2))
        (first | exact CF.out _ K2.out | exact CF.out _ K1.out | exact CF.out _ KR.out.drew | exact CF.out _ KR.out)
        (first
          | (refine Tk.step_str rfl (.tmp 13) _ 66 9 rfl B 5 i0 Tryz.underlying66 Tryz.underlying9 hi hz0 hz1 hz2 (.slice va o.length vc) o.length (Lib.byteCells o) (by simp [Act.eval]) (by exact Y0.out.own) ⟨#[32, 91]⟩ rfl (by exact BS.out.1) (by exact BS.out.2.1) (by exact BS.out.2.2.1) ?_; intro v1 W1 q1 g1; have Y1 : Hid (Bk.Out B (o ++ [32, 91]) v1 w W1) := Y0.out.str HE.out.2.2.1 ⟨#[32, 91]⟩ q1 (Bk.undrew g1); have K1 : Hid (Lib.OthersKept 5 none W0 W1) := KR.out.grown (Bk.undrew g1) (Lib.ownsRow_kind Y0.out.own))
          | (go_simp; go_at_call 39; refine Calls.mono (Y1.out.num HE.out.2.2.1 x0 HX.out.2.1.1 HX.out.2.1.2 HT.out (by have := BS.out.2.2.2; simp; omega)) ?_; rintro e W2 ⟨a2, m2, c2, rfl, X2⟩; have K2 : Hid (Lib.OthersKept 5 none W0 W2) := K1.out.trans X2.out.2.2))
      obtain ⟨o2, ho2⟩ : ∃ z, (o ++ [32, 91]) ++ Lib.itoa x0 = z := ⟨_, rfl⟩
      rw [ho2] at X2
      obtain rfl := X2.out.1
      have HO2 : Hid ((o ++ [32, 91]) ++ Lib.itoa x0 = o2) := ho2
      have Y2 : Hid (Bk.Out B o2 (.slice a2 o2.length c2) w W2) := X2.out.2.1
      have HLO : Hid (o2.length ≤ o.length + 23 ∧ (o2 ++ 32 :: Lib.itoa x1).length ≤ o.length + 45 ∧ ((o2 ++ 32 :: Lib.itoa x1) ++ 32 :: Lib.itoa x2).length ≤ o.length + 67 ∧ o.length + 68 ≤ 900000000) := by
        have e0 := Lib.itoa_length_le x0 HX.out.2.1.1 HX.out.2.1.2
        have e1 := Lib.itoa_length_le x1 HX.out.2.2.1.1 HX.out.2.2.1.2
        have e2 := Lib.itoa_length_le x2 HX.out.2.2.2.1 HX.out.2.2.2.2
        have e3 : o2.length = o.length + 2 + (Lib.itoa x0).length := by rw [← ho2]; simp; omega
        refine ⟨by omega, by simp; omega, by simp; omega, BS.out.2.2.2⟩
      clear K1 g1 q1 ho2 X2 Y1
      have Z3 : Hid (Bk.Byte 32 x1 32 B o2 a2 c2 w W2) := Bk.byte_of 32 x1 HX.out.2.2.1.1 HX.out.2.2.1.2 B o2 a2 c2 w W2 Y2.out.below Y2.out.own HE.out.2.2.1 HT.out (by have := HLO.out.1; have := HLO.out.2.2.2; omega)
      have CF3 : Hid (∀ W, Lib.OthersKept 5 none W2 W → W.cell? ⟨b6, 0, none⟩ = some (.int .i64 x0) ∧ W.cell? ⟨b6, 1, none⟩ = some (.int .i64 x1) ∧ W.cell? ⟨b6, 2, none⟩ = some (.int .i64 x2)) := fun W h => CF.out W (K2.out.trans h)
      have KR3 : Hid (Lib.OthersKept 5 none W2 W2) := Lib.OthersKept.refl _ _ _
      go_upto_region 5 with fail
      go_region_held3 (fun W => W.cell? ⟨b6, 0, none⟩ = some (.int .i64 x0) ∧ W.cell? ⟨b6, 1, none⟩ = some (.int .i64 x1) ∧ W.cell? ⟨b6, 2, none⟩ = some (.int .i64 x2))
        (first | exact CF3.out _ H3.out.2.2 | exact CF3.out _ J3.out | exact CF3.out _ Z3.out.kept | exact CF3.out _ Z3.out.kept.drew | exact CF3.out _ KR3.out.drew | exact CF3.out _ KR3.out)
        (first
          | ((with_reducible refine Tk.at_op (Op.call { callee := Callee.builtin Builtin.append, args := #[.tmp 18, .tmp 19], argTypes := #[66, 66] }) ?hop ?_); (case hop => with_reducible rfl); refine Tk.step_own rfl (.tmp 18) (.tmp 19) 66 rfl B 5 i0 (.int .u8 0) 1 1 Tryz.underlying66 hi hz0 hz1 hz2 rfl (by decide) (.slice a2 o2.length c2) o2.length (Lib.byteCells o2) (by simp [Act.eval]) (by exact Z3.out.own) ⟨W2.heap.size, 0, none⟩ 1 1 [.int .u8 32] (by simp [Act.eval]) rfl (by exact Tk.one_cell W2 32 5) (Tk.one_one 32) (by exact Z3.out.bound.1) (by exact Z3.out.bound.2) (by exact Z3.out.le) ?_; intro v1 W1 q1 g1; have J3 : Hid (Lib.OthersKept 5 none W2 W1) := Z3.out.grown W1 g1)
          | (go_simp; go_at_call 39; refine Calls.mono (Z3.out.num _ _ (by exact q1) (by exact g1)) ?_; rintro e W3 ⟨v3, rfl, H3⟩))
      obtain ⟨o3, ho3⟩ : ∃ z, o2 ++ 32 :: Lib.itoa x1 = z := ⟨_, rfl⟩
      rw [ho3] at H3
      obtain ⟨a3, c3, rfl⟩ := Tk.own_shape H3.out.1
      have HO3 : Hid (o2 ++ 32 :: Lib.itoa x1 = o3) := ho3
      have K3 : Hid (Lib.OthersKept 5 none W0 W3) := K2.out.trans H3.out.2.2
      have Y3 : Hid (Bk.Out B o3 (.slice a3 o3.length c3) w W3) := ⟨H3.out.1, H3.out.2.1, Y2.out.kept.trans H3.out.2.2⟩
      clear J3 g1 q1 ho3 Z3 CF3 KR3 H3
      have Z4 : Hid (Bk.Byte 32 x2 32 B o3 a3 c3 w W3) := Bk.byte_of 32 x2 HX.out.2.2.2.1 HX.out.2.2.2.2 B o3 a3 c3 w W3 Y3.out.below Y3.out.own HE.out.2.2.1 HT.out (by have h1 := HLO.out.2.1; have h2 := HLO.out.2.2.2; rw [HO3.out] at h1; omega)
      have CF4 : Hid (∀ W, Lib.OthersKept 5 none W3 W → W.cell? ⟨b6, 0, none⟩ = some (.int .i64 x0) ∧ W.cell? ⟨b6, 1, none⟩ = some (.int .i64 x1) ∧ W.cell? ⟨b6, 2, none⟩ = some (.int .i64 x2)) := fun W h => CF.out W (K3.out.trans h)
      have KR4 : Hid (Lib.OthersKept 5 none W3 W3) := Lib.OthersKept.refl _ _ _
      go_upto_region 6 with fail
      go_region_held3 (fun W => W.cell? ⟨b6, 0, none⟩ = some (.int .i64 x0) ∧ W.cell? ⟨b6, 1, none⟩ = some (.int .i64 x1) ∧ W.cell? ⟨b6, 2, none⟩ = some (.int .i64 x2))
        (first | exact CF4.out _ H4.out.2.2 | exact CF4.out _ J4.out | exact CF4.out _ Z4.out.kept | exact CF4.out _ Z4.out.kept.drew | exact CF4.out _ KR4.out.drew | exact CF4.out _ KR4.out)
        (first
          | ((with_reducible refine Tk.at_op (Op.call { callee := Callee.builtin Builtin.append, args := #[.tmp 24, .tmp 25], argTypes := #[66, 66] }) ?hop ?_); (case hop => with_reducible rfl); refine Tk.step_own rfl (.tmp 24) (.tmp 25) 66 rfl B 5 i0 (.int .u8 0) 1 1 Tryz.underlying66 hi hz0 hz1 hz2 rfl (by decide) (.slice a3 o3.length c3) o3.length (Lib.byteCells o3) (by simp [Act.eval]) (by exact Z4.out.own) ⟨W3.heap.size, 0, none⟩ 1 1 [.int .u8 32] (by simp [Act.eval]) rfl (by exact Tk.one_cell W3 32 5) (Tk.one_one 32) (by exact Z4.out.bound.1) (by exact Z4.out.bound.2) (by exact Z4.out.le) ?_; intro v1 W1 q1 g1; have J4 : Hid (Lib.OthersKept 5 none W3 W1) := Z4.out.grown W1 g1)
          | (go_simp; go_at_call 39; refine Calls.mono (Z4.out.num _ _ (by exact q1) (by exact g1)) ?_; rintro e W4 ⟨v4, rfl, H4⟩))
      obtain ⟨o4, ho4⟩ : ∃ z, o3 ++ 32 :: Lib.itoa x2 = z := ⟨_, rfl⟩
      rw [ho4] at H4
      obtain ⟨a4, c4, rfl⟩ := Tk.own_shape H4.out.1
      have HO4 : Hid (o3 ++ 32 :: Lib.itoa x2 = o4) := ho4
      have K4 : Hid (Lib.OthersKept 5 none W0 W4) := K3.out.trans H4.out.2.2
      have Y4 : Hid (Bk.Out B o4 (.slice a4 o4.length c4) w W4) := ⟨H4.out.1, H4.out.2.1, Y3.out.kept.trans H4.out.2.2⟩
      clear J4 g1 q1 ho4 Z4 CF4 KR4 H4
      have BE : Hid (o4.length + 1 ≤ maxLen ∧ (o4.length + 1) * 1 ≤ 140737488355328 ∧ B ≤ (W4.alloc (.cells #[.int .u8 93] 5)).heap.size) := by
        have h1 := HLO.out.2.2.1
        have h2 := HLO.out.2.2.2
        rw [HO3.out, HO4.out] at h1
        exact ⟨by unfold maxLen; omega, by omega, (Y4.out.alloc HE.out.2.2.1 _).size HE.out.2.2.1⟩
      go_wp2_with (at_builtin; refine wpList_append_own _ rfl _ _ 66 rfl B 5 i0 (.int .u8 0) 1 1 Tryz.underlying66 hi hz0 hz1 hz2 rfl (by decide) (.slice a4 o4.length c4) o4.length (Lib.byteCells o4) rfl (Y4.out.own.alloc _) ⟨W4.heap.size, 0, none⟩ 1 1 [.int .u8 93] rfl rfl (Tk.one_cell W4 93 5) (Tk.one_one 93) BE.out.1 BE.out.2.1 BE.out.2.2 ?_)
      intro v5 W5 q5 g5 _
      have Y5 : Bk.Out B (o4 ++ [93]) v5 w W5 := Y4.out.byte HE.out.2.2.1 93 q5 g5
      obtain ⟨o5, ho5⟩ : ∃ z, o4 ++ [93] = z := ⟨_, rfl⟩
      rw [ho5] at Y5
      obtain ⟨a5, c5, rfl⟩ := Tk.own_shape Y5.own
      have HY5 : Hid (Bk.Out B o5 (.slice a5 o5.length c5) w W5) := Y5
      have HF : Hid (out ++ Bl.linksL (ls.take (k + 1)) = o5) := by
        show _ = _
        rw [Bl.take_snoc _ _ hkl, Bl.linksL_snoc, ← List.append_assoc, HI.out.1, HX.out.1, ← ho5, ← HO4.out, ← HO3.out, ← HO2.out]
        simp [Bl.linkL]
      clear q5 g5 Y5 ho5
      go_wp2
      go_roundg (gk - 1)
      case measure => omega
      case rel => exact ⟨k + 1, o5, _, _, by omega, by go_num, rfl, HF.out, HY5.out⟩
    · have hd : decide ((k : Int) < n) = false := decide_eq_false (by omega)
      have HF : Hid (Bk.Out B (out ++ Bl.linksL ls) (.slice va o.length vc) w wr) := by
        have := HI.out.1
        rw [List.take_of_length_le (by rw [HE.out.2.1]; omega)] at this
        rw [this]
        exact HI.out.2
      go_wp2
      go_ret
      exact ⟨_, rfl, HF.out⟩

end Go.Proofs

namespace Go.Proofs
open Go.RowKit Go.Shelf

/-- Is one of a link's numbers less than -1? -/
def Bl.lowL (l : Int × Int × Int) : Bool := decide (min (min l.1 l.2.1) l.2.2 < -1)
/-- Can a block be written, its kids aside? -/
def Bl.writB (k n r : Int) (ls : List (Int × Int × Int)) : Bool := decide (1 ≤ k ∧ k ≤ 10 ∧ 0 ≤ n ∧ 0 ≤ r) && !ls.any Bl.lowL

set_option maxRecDepth 20000 in
set_option maxHeartbeats 2000000 in
theorem Tryz.lowLink_any (x y z : Int) (w : World) : Calls Tryz.prog 38 #[.agg #[.int .i64 x, .int .i64 y, .int .i64 z]] w fun e w' => e = .returned (.bool (Bl.lowL (x, y, z))) ∧ Below w.heap.size w w' := by
  have B0 : Hid (Below w.heap.size w (w.alloc (.cells #[.int .i64 x, .int .i64 y, .int .i64 z] 75))) := (Below.refl _ w).alloc (Nat.le_refl _) _
  obtain ⟨b, hb⟩ : ∃ b, Bl.lowL (x, y, z) = b := ⟨_, rfl⟩
  rw [hb]
  have HB : Hid (Bl.lowL (x, y, z) = b) := hb
  clear hb
  go_enter Tryz.func38, Tryz.ntmps38
  go_wp2
  all_goals
    go_ret
    refine ⟨Tk.ret_bool ?_, B0.out⟩
    rw [← HB.out, Bl.lowL]
    refine decide_eq_decide.2 ?_
    first | omega | (simp only [*, if_true] at *; omega) | (split at * <;> omega)

set_option maxRecDepth 20000 in
set_option maxHeartbeats 2000000 in
theorem Tryz.lowIndex_any (a : Option Addr) (c B : Nat) (es : List (Int × Int × Int)) (w : World) (hE : Bl.Lk w B (.slice a es.length c) es) (hB : B ≤ w.heap.size) (hn : es.length ≤ 2147483647) :
    Calls Tryz.prog 53 #[.slice a es.length c, .func (.func 38) #[] #[]] w fun e w' => (∃ k : Int, e = .returned (.int .i64 k) ∧ decide (0 ≤ k) = es.any Bl.lowL) ∧ Below w.heap.size w w' := by
  obtain ⟨n, hnn⟩ : ∃ n, es.length = n := ⟨_, rfl⟩
  rw [hnn] at hn hE ⊢
  have HE : Hid (Bl.Lk w B (.slice a n c) es ∧ es.length = n ∧ B ≤ w.heap.size) := ⟨hE, hnn, hB⟩
  clear hE hnn hB
  go_enter Tryz.func53, Tryz.ntmps53
  go_wp2
  go_loopg [5, 8] n (fun gk _ s8 wr => ∃ k : Nat, gk + k = n ∧ s8 = .int .i64 k ∧ Hid (Below w.heap.size w wr ∧ (es.take k).any Bl.lowL = false))
  case atStart => exact ⟨0, by omega, rfl, Below.refl _ w, by simp⟩
  case round =>
    obtain ⟨k, hk, rfl, HB⟩ := hrel
    by_cases hlt : k < n
    · have hd : decide ((k : Int) < n) = true := decide_eq_true (by omega)
      have hkl : k < es.length := by rw [HE.out.2.1]; exact hlt
      obtain ⟨a', c', hv, hl⟩ := HE.out.1
      obtain ⟨rfl, -, -⟩ := Value.slice.inj hv
      obtain ⟨q, off, rfl, hq, h0, h1, h2⟩ := hl k hkl
      obtain ⟨x, hx⟩ : ∃ x, es[k] = x := ⟨_, rfl⟩
      obtain ⟨x0, x1, x2⟩ := x
      rw [hx] at h0 h1 h2
      have hqs : q < w.heap.size := by have := HE.out.2.2; omega
      have hc0 : wr.cell? ⟨q, off + k * 3, none⟩ = some (.int .i64 x0) := by rw [HB.out.1.cell (p := ⟨q, off + k * 3, none⟩) hqs]; exact h0
      have hc1 : wr.cell? ⟨q, off + k * 3 + 1, none⟩ = some (.int .i64 x1) := by rw [HB.out.1.cell (p := ⟨q, off + k * 3 + 1, none⟩) hqs]; exact h1
      have hc2 : wr.cell? ⟨q, off + k * 3 + 2, none⟩ = some (.int .i64 x2) := by rw [HB.out.1.cell (p := ⟨q, off + k * 3 + 2, none⟩) hqs]; exact h2
      have HX : Hid (es[k] = (x0, x1, x2)) := hx
      have hcall := Tryz.lowLink_any x0 x1 x2 wr
      have hu := Tryz.underlying75
      clear h0 h1 h2 hx hq hqs hl hv
      cases hq : Bl.lowL (x0, x1, x2) with
      | true =>
        rw [hq] at hcall
        have HQ : Hid (Bl.lowL (x0, x1, x2) = true) := hq
        have HC : Hid _ := hcall
        clear hq hcall
        go_wp2_with fail
        refine Calls.mono HC.out ?_
        rintro e w' ⟨rfl, hb'⟩
        have HW : Hid (Below w.heap.size w w') := HB.out.1.trans (hb'.mono HB.out.1.size)
        clear hb' HC
        go_wp2
        go_ret
        refine ⟨⟨k, rfl, ?_⟩, HW.out⟩
        rw [decide_eq_true (by omega)]
        exact (List.any_eq_true.2 ⟨es[k], List.getElem_mem hkl, by rw [HX.out]; exact HQ.out⟩).symm
      | false =>
        rw [hq] at hcall
        have HQ : Hid (Bl.lowL (x0, x1, x2) = false) := hq
        have HC : Hid _ := hcall
        clear hq hcall
        go_wp2_with fail
        refine Calls.mono HC.out ?_
        rintro e w' ⟨rfl, hb'⟩
        have HW : Hid (Below w.heap.size w w') := HB.out.1.trans (hb'.mono HB.out.1.size)
        clear hb' HC
        go_wp2
        go_roundg (gk - 1)
        case measure => omega
        case rel =>
          refine ⟨k + 1, by omega, by go_num, HW.out, ?_⟩
          rw [Tm.take_snoc _ _ hkl, List.any_append, HB.out.2, HX.out]
          simp [HQ.out]
    · have hd : decide ((k : Int) < n) = false := decide_eq_false (by omega)
      go_wp2
      go_ret
      refine ⟨⟨-1, rfl, ?_⟩, HB.out.1⟩
      have := HB.out.2
      rw [List.take_of_length_le (by rw [HE.out.2.1]; omega)] at this
      rw [this]
      rfl

set_option maxHeartbeats 2000000 in
theorem Tryz.lowContains_any (a : Option Addr) (c B : Nat) (es : List (Int × Int × Int)) (w : World) (hE : Bl.Lk w B (.slice a es.length c) es) (hB : B ≤ w.heap.size) (hn : es.length ≤ 2147483647) :
    Calls Tryz.prog 37 #[.slice a es.length c, .func (.func 38) #[] #[]] w fun e w' => e = .returned (.bool (es.any Bl.lowL)) ∧ Below w.heap.size w w' := by
  have HC : Hid _ := Tryz.lowIndex_any a c B es w hE hB hn
  obtain ⟨q, hq⟩ : ∃ q, es.any Bl.lowL = q := ⟨_, rfl⟩
  rw [hq] at HC ⊢
  clear hE hB hq
  go_enter Tryz.func37, Tryz.ntmps37
  go_wp2_with fail
  refine Calls.mono HC.out ?_
  rintro e W1 ⟨⟨k, rfl, hk⟩, hb⟩
  have HB : Hid (Below w.heap.size w W1) := hb
  have HK : Hid (decide (0 ≤ k) = q) := hk
  clear hb hk HC
  go_wp2
  go_ret
  exact ⟨Tk.ret_bool HK.out, HB.out⟩

set_option maxRecDepth 20000 in
set_option maxHeartbeats 2000000 in
theorem Tryz.writable_any (k n r : Int) (a : Option Addr) (len c : Nat) (al : Option Addr) (cl B : Nat) (ls : List (Int × Int × Int)) (w : World) (hE : Bl.Lk w B (.slice al ls.length cl) ls) (hB : B ≤ w.heap.size) (hn : ls.length ≤ 2147483647) :
    Calls Tryz.prog 20 #[.agg #[.int .i64 k, .int .i64 n, .int .i64 r, .slice a len c, .slice al ls.length cl]] w fun e w' => e = .returned (.bool (Bl.writB k n r ls)) ∧ Below w.heap.size w w' := by
  have A0 : Below w.heap.size w (w.alloc (.cells #[.int .i64 k, .int .i64 n, .int .i64 r, .slice a len c, .slice al ls.length cl] 29)) := (Below.refl _ w).alloc (Nat.le_refl _) _
  have hcall := Tryz.lowContains_any al cl B ls _ (hE.below (A0.mono hB)) (Nat.le_trans hB A0.size) hn
  obtain ⟨nl, hnl⟩ : ∃ n, ls.length = n := ⟨_, rfl⟩
  obtain ⟨q, hq⟩ : ∃ q, ls.any Bl.lowL = q := ⟨_, rfl⟩
  obtain ⟨b, hb⟩ : ∃ b, Bl.writB k n r ls = b := ⟨_, rfl⟩
  rw [hnl] at hcall A0 ⊢
  rw [hq] at hcall
  rw [hb]
  have HC : Hid _ := hcall
  have HA : Hid _ := A0
  have HB : Hid (Bl.writB k n r ls = b ∧ ls.any Bl.lowL = q) := ⟨hb, hq⟩
  clear hcall A0 hE hB hn hnl hq hb
  have hcase : (decide (k < 1) = false ∧ decide (10 < k) = false ∧ decide (n < 0) = false ∧ decide (r < 0) = false) ∨ decide (k < 1) = true ∨ (decide (k < 1) = false ∧ decide (10 < k) = true) ∨ (decide (k < 1) = false ∧ decide (10 < k) = false ∧ decide (n < 0) = true) ∨ (decide (k < 1) = false ∧ decide (10 < k) = false ∧ decide (n < 0) = false ∧ decide (r < 0) = true) := by
    simp; omega
  rcases hcase with ⟨e0, e1, e2, e3⟩ | e0 | ⟨e0, e1⟩ | ⟨e0, e1, e2⟩ | ⟨e0, e1, e2, e3⟩
  · have HD : Hid (b = !q) := by
      show b = !q
      have h := HB.out
      rw [← h.1, ← h.2, Bl.writB, decide_eq_true (by simp at e0 e1 e2 e3; omega), Bool.true_and]
    go_enter Tryz.func20, Tryz.ntmps20
    go_wp2_with fail
    refine Calls.mono HC.out ?_
    rintro e W1 ⟨rfl, hb'⟩
    have HW : Hid (Below w.heap.size w W1) := HA.out.trans (hb'.mono HA.out.size)
    clear hb' HC
    go_wp2
    go_ret
    exact ⟨Tk.ret_bool HD.out.symm, HW.out⟩
  all_goals
    have HD : Hid (b = false) := by
      show b = false
      rw [← HB.out.1, Bl.writB, decide_eq_false (by simp at *; omega), Bool.false_and]
    clear HC
    go_enter Tryz.func20, Tryz.ntmps20
    go_wp2
    go_ret
    exact ⟨Tk.ret_bool HD.out.symm, HA.out⟩

end Go.Proofs

namespace Go.Proofs
open Go.RowKit

/-- The names of kinds. -/
def Bl.nameL (k : Int) : List UInt8 := if k = 3 then [115, 101, 113] else if k = 4 then [112, 97, 114] else if k = 5 then [97, 108, 116] else if k = 6 then [112, 105, 99, 107] else if k = 7 then [108, 111, 111, 112] else if k = 9 then [119, 101, 98] else []
theorem Bl.nameL_le (k : Int) : (Bl.nameL k).length ≤ 4 := by unfold Bl.nameL; (repeat' split) <;> decide
/-- What the table's initialiser lays. -/
def Bk.names : Array Value := #[.string ⟨#[]⟩, .string ⟨#[]⟩, .string ⟨#[]⟩, .string ⟨#[115, 101, 113]⟩, .string ⟨#[112, 97, 114]⟩, .string ⟨#[97, 108, 116]⟩, .string ⟨#[112, 105, 99, 107]⟩, .string ⟨#[108, 111, 111, 112]⟩, .string ⟨#[]⟩, .string ⟨#[119, 101, 98]⟩, .string ⟨#[]⟩]
/-- The table lies in block 0 as its initialiser lays it. -/
def Bk.Names (w : World) : Prop := ∃ t fz, w.heap[0]? = some (.cells Bk.names t fz)
theorem Bk.Names.lt {w : World} (h : Bk.Names w) : 0 < w.heap.size := by
  obtain ⟨t, fz, h⟩ := h
  exact (Array.getElem?_eq_some_iff.1 h).1
theorem Bk.Names.keep {w w' : World} (h : Bk.Names w) (hk : w'.heap[0]? = w.heap[0]?) : Bk.Names w' := by
  obtain ⟨t, fz, h⟩ := h
  exact ⟨t, fz, by rw [hk]; exact h⟩
theorem Bk.Names.below {w w' : World} {B : Nat} (h : Bk.Names w) (hb : Below B w w') (hB : 0 < B) : Bk.Names w' := h.keep (hb.block 0 hB)
theorem Bk.Names.text {w : World} (h : Bk.Names w) (k : Nat) (hk : k ≤ 10) : w.cell? ⟨0, k, none⟩ = some (.string ⟨(Bl.nameL k).toArray⟩) := by
  obtain ⟨t, fz, h⟩ := h
  obtain rfl | rfl | rfl | rfl | rfl | rfl | rfl | rfl | rfl | rfl | rfl : k = 0 ∨ k = 1 ∨ k = 2 ∨ k = 3 ∨ k = 4 ∨ k = 5 ∨ k = 6 ∨ k = 7 ∨ k = 8 ∨ k = 9 ∨ k = 10 := by omega
  all_goals simp only [World.cell?, h]; rfl

mutual
/-- A block's text. -/
def Bl.textL : Bl → List UInt8
  | .mk k n r ks ls => if k = 1 then [45] else if k = 10 then [42] else if k = 8 then 103 :: Lib.itoa n else if k = 2 then Lib.itoa n
    else 40 :: (Bl.nameL k ++ (Bl.nodeL k n r ++ (Bl.textsL ks ++ ((if k = 9 then Bl.linksL ls else []) ++ [41]))))
def Bl.textsL : List Bl → List UInt8
  | [] => []
  | k :: r => 32 :: (Bl.textL k ++ Bl.textsL r)
end
mutual
/-- No text of it is longer. -/
def Bl.room : Bl → Nat | .mk _ _ _ ks ls => 100 + 68 * ls.length + Bl.rooms ks
def Bl.rooms : List Bl → Nat | [] => 0 | k :: r => Bl.room k + Bl.rooms r
end
theorem Bl.room_eq (T : Bl) : T.room = 100 + 68 * T.ls.length + Bl.rooms T.ks := by cases T; rfl
theorem Bl.textL_eq (T : Bl) : T.textL = if T.kind = 1 then [45] else if T.kind = 10 then [42] else if T.kind = 8 then 103 :: Lib.itoa T.node else if T.kind = 2 then Lib.itoa T.node
    else 40 :: (Bl.nameL T.kind ++ (Bl.nodeL T.kind T.node T.arg ++ (Bl.textsL T.ks ++ ((if T.kind = 9 then Bl.linksL T.ls else []) ++ [41])))) := by cases T; rw [Bl.textL]; rfl
theorem Bl.textsL_snoc (l : List Bl) (a : Bl) : Bl.textsL (l ++ [a]) = Bl.textsL l ++ 32 :: a.textL := by
  induction l with
  | nil => simp [Bl.textsL]
  | cons k r ih => simp only [List.cons_append, Bl.textsL, ih, List.append_assoc]
theorem Bl.textsL_take (l : List Bl) (k : Nat) (h : k < l.length) : Bl.textsL (l.take (k + 1)) = Bl.textsL (l.take k) ++ 32 :: l[k].textL := by rw [Bl.take_snoc l k h, Bl.textsL_snoc]
theorem Bl.rooms_snoc (l : List Bl) (a : Bl) : Bl.rooms (l ++ [a]) = Bl.rooms l + a.room := by
  induction l with
  | nil => simp [Bl.rooms]
  | cons k r ih => simp only [List.cons_append, Bl.rooms, ih]; omega
theorem Bl.rooms_le (l : List Bl) : ∀ k, Bl.rooms (l.take k) ≤ Bl.rooms l := by
  induction l with
  | nil => intro k; simp
  | cons x r ih =>
    intro k
    cases k with
    | zero => simp [Bl.rooms]
    | succ k => simp only [List.take_succ_cons, Bl.rooms]; have := ih k; omega
theorem Bl.rooms_take (l : List Bl) (k : Nat) (h : k < l.length) : Bl.rooms (l.take k) + l[k].room ≤ Bl.rooms l := by
  have := Bl.rooms_le l (k + 1)
  rw [Bl.take_snoc l k h, Bl.rooms_snoc] at this
  exact this
/-- What can be written, of numbers that machines have. -/
def Bl.okB (k n r : Int) (ls : List (Int × Int × Int)) : Bool := Bl.writB k n r ls && (decide (n ≤ 9223372036854775807 ∧ r ≤ 9223372036854775807) && ls.all fun x => decide ((-9223372036854775808 ≤ x.1 ∧ x.1 ≤ 9223372036854775807) ∧ (-9223372036854775808 ≤ x.2.1 ∧ x.2.1 ≤ 9223372036854775807) ∧ (-9223372036854775808 ≤ x.2.2 ∧ x.2.2 ≤ 9223372036854775807)))
theorem Bl.okB_iff {k n r : Int} {ls : List (Int × Int × Int)} (h : Bl.okB k n r ls = true) : (1 ≤ k ∧ k ≤ 10) ∧ (0 ≤ n ∧ n ≤ 9223372036854775807) ∧ (0 ≤ r ∧ r ≤ 9223372036854775807) ∧ ∀ x, x ∈ ls → Bl.I64 x.1 ∧ Bl.I64 x.2.1 ∧ Bl.I64 x.2.2 := by
  simp only [Bl.okB, Bl.writB, Bool.and_eq_true, decide_eq_true_eq, List.all_eq_true] at h
  obtain ⟨⟨⟨h1, h2, h3, h4⟩, -⟩, ⟨h5, h6⟩, h7⟩ := h
  exact ⟨⟨h1, h2⟩, ⟨h3, h5⟩, ⟨h4, h6⟩, h7⟩
theorem Bl.linksL_le (ls : List (Int × Int × Int)) (h : ∀ x, x ∈ ls → Bl.I64 x.1 ∧ Bl.I64 x.2.1 ∧ Bl.I64 x.2.2) : (Bl.linksL ls).length ≤ 68 * ls.length := by
  induction ls with
  | nil => simp [Bl.linksL]
  | cons x r ih =>
    have h1 := h x (by simp)
    have h2 := Bl.linkL_len x h1.1 h1.2.1 h1.2.2
    have h3 := ih fun y hy => h y (by simp [hy])
    simp only [Bl.linksL, List.flatMap_cons, List.length_append, List.length_cons] at h3 ⊢
    omega
theorem Bl.nodeL_le (k n r : Int) (h0 : 0 ≤ n ∧ n ≤ 9223372036854775807) (h1 : 0 ≤ r ∧ r ≤ 9223372036854775807) : (Bl.nodeL k n r).length ≤ 44 := by
  have a1 := Lib.itoa_length_le n (by omega) h0.2
  have a2 := Lib.itoa_length_le r (by omega) h1.2
  unfold Bl.nodeL
  (repeat' split) <;> simp <;> omega
mutual
theorem Bl.text_len : ∀ T : Bl, T.allP Bl.okB = true → T.textL.length + 1 ≤ T.room
  | .mk k n r ks ls, h => by
    rw [Bl.allP, Bool.and_eq_true] at h
    obtain ⟨h1, h2, h3, h4⟩ := Bl.okB_iff h.1
    have a1 := Lib.itoa_length_le n (by omega) h2.2
    have a2 := Bl.nodeL_le k n r h2 h3
    have a3 := Bl.nameL_le k
    have a4 := Bl.linksL_le ls h4
    have a5 := Bl.texts_len ks h.2
    rw [Bl.textL, Bl.room]
    (repeat' split) <;> simp <;> omega
theorem Bl.texts_len : ∀ l : List Bl, Bl.allPs Bl.okB l = true → (Bl.textsL l).length ≤ Bl.rooms l
  | [], _ => by simp [Bl.textsL]
  | k :: r, h => by
    rw [Bl.allPs, Bool.and_eq_true] at h
    have a1 := Bl.text_len k h.1
    have a2 := Bl.texts_len r h.2
    simp only [Bl.textsL, Bl.rooms, List.length_cons, List.length_append]
    omega
end
theorem Bl.allPs_takes (l : List Bl) (h : Bl.allPs Bl.okB l = true) : ∀ k, Bl.allPs Bl.okB (l.take k) = true := by
  induction l with
  | nil => intro k; simp [Bl.allPs]
  | cons x r ih =>
    intro k
    rw [Bl.allPs, Bool.and_eq_true] at h
    cases k with
    | zero => simp [Bl.allPs]
    | succ k => rw [List.take_succ_cons, Bl.allPs, Bool.and_eq_true]; exact ⟨h.1, ih h.2 k⟩

/-- writeNode of each kind with kids. -/
theorem Tryz.writeNode_all (k n r : Int) (hk : k = 3 ∨ k = 4 ∨ k = 5 ∨ k = 6 ∨ k = 7 ∨ k = 9) (h0 : 0 ≤ n ∧ n ≤ 9223372036854775807) (h1 : 0 ≤ r ∧ r ≤ 9223372036854775807) (a : Option Addr) (len c : Nat) (al : Option Addr) (nl cl : Nat) (B : Nat) (out : List UInt8) (sv : Value) (w W : World) (hB : B ≤ w.heap.size)
    (hT : Lib.TabBelow Tryz.prog B w "internal/strconv.uint64pow10" .u64 Lib.pow10Tab) (hX : Bk.Out B out sv w W) (hlen : out.length ≤ 800000000) :
    Calls Tryz.prog 40 #[sv, .agg #[.int .i64 k, .int .i64 n, .int .i64 r, .slice a len c, .slice al nl cl]] W fun e w' => ∃ a' m' c', e = .returned (.slice a' m' c') ∧ Hid (m' = (out ++ Bl.nodeL k n r).length ∧ Bk.Out B (out ++ Bl.nodeL k n r) (.slice a' m' c') w w' ∧ Lib.OthersKept 5 none W w') := by
  have hBW := hX.size hB
  have a1 := Lib.itoa_length_le n (by omega) h0.2
  by_cases h4 : k = 4 ∨ k = 5 ∨ k = 6
  · refine (Tryz.writeNode_one k n r h4 h0.1 h0.2 a len c al nl cl B out sv W hBW (hT.on hX.below) hX.own (by omega)).mono ?_
    rintro e w' ⟨v', he, q, b, o⟩
    have en : Bl.nodeL k n r = 58 :: Lib.itoa n := by unfold Bl.nodeL; rw [if_pos h4]
    rw [en]
    obtain ⟨a', c', rfl⟩ := Tk.own_shape q
    exact ⟨a', _, c', he, rfl, ⟨q, hX.below.trans b, hX.kept.trans o⟩, o⟩
  · by_cases h7 : k = 7
    · subst h7
      refine (Tryz.writeNode_two n r h0.1 h0.2 h1.1 h1.2 a len c al nl cl B out sv W hBW (hT.on hX.below) hX.own (by simp; omega)).mono ?_
      rintro e w' ⟨v', he, q, b, o⟩
      have en : out ++ Bl.nodeL 7 n r = (out ++ 58 :: Lib.itoa n) ++ 47 :: Lib.itoa r := by unfold Bl.nodeL; rw [if_neg h4, if_pos rfl]; simp
      rw [en]
      obtain ⟨a', c', rfl⟩ := Tk.own_shape q
      exact ⟨a', _, c', he, rfl, ⟨q, hX.below.trans b, hX.kept.trans o⟩, o⟩
    · have en : Bl.nodeL k n r = [] := by unfold Bl.nodeL; rw [if_neg h4, if_neg h7]
      rw [en, List.append_nil]
      obtain ⟨sa, sc, rfl⟩ := Tk.own_shape hX.own
      refine (Tryz.writeNode_none k n r (by omega) a len c al nl cl sa out.length sc W).mono ?_
      rintro e w' ⟨he, hw⟩
      have hw' : w' = _ := hw
      subst hw'
      exact ⟨sa, _, sc, he, rfl, hX.alloc hB _, (Lib.OthersKept.refl _ _ W).alloc _⟩

end Go.Proofs

namespace Go.Proofs
open Go.RowKit

set_option maxRecDepth 20000 in
set_option maxHeartbeats 8000000 in
theorem Tryz.bwrite_mark (k n r : Int) (hk : k = 1 ∨ k = 10) (a : Option Addr) (len c : Nat) (al : Option Addr) (nl cl : Nat) (B : Nat) (out : List UInt8) (sv : Value) (w : World) (hB : B ≤ w.heap.size)
    (hown : w.ownsRow B 5 1 sv out.length (Lib.byteCells out)) (hlen : out.length ≤ 900000000) :
    Calls Tryz.prog 21 #[sv, .agg #[.int .i64 k, .int .i64 n, .int .i64 r, .slice a len c, .slice al nl cl]] w fun e w' => ∃ v', e = .returned v' ∧ Hid (Bk.Out B (out ++ (if k = 1 then [45] else [42])) v' w w') := by
  obtain ⟨i0, hi, hz0, hz1, hz2⟩ := info_parts Tryz.infoByte
  obtain ⟨w0, hw0⟩ : ∃ x, w.alloc (.cells #[.int .i64 k, .int .i64 n, .int .i64 r, .slice a len c, .slice al nl cl] 29) = x := ⟨_, rfl⟩
  have Y0 : Hid (Bk.Out B out sv w w0) := by
    show Bk.Out _ _ _ _ _
    rw [← hw0]
    exact Bk.Out.alloc ⟨hown, Below.refl _ _, Lib.OthersKept.refl _ _ _⟩ hB _
  obtain ⟨sa, sc, rfl⟩ := Tk.own_shape hown
  have HB : Hid (B ≤ w.heap.size) := hB
  have HW0 : Hid (w.alloc (.cells #[.int .i64 k, .int .i64 n, .int .i64 r, .slice a len c, .slice al nl cl] 29) = w0) := hw0
  have BE : Hid (∀ z : Int, out.length + 1 ≤ maxLen ∧ (out.length + 1) * 1 ≤ 140737488355328 ∧ B ≤ (w0.alloc (.cells #[.int .u8 z] 5)).heap.size) := fun z => ⟨by unfold maxLen; omega, by omega, (Y0.out.alloc hB _).size hB⟩
  clear hown hw0 hB
  rcases hk with rfl | rfl
  · go_enter Tryz.func21, Tryz.ntmps21
    go_upto_region 3 with fail
    rw [HW0.out]
    clear HW0
    go_wp2_with (at_builtin; refine wpList_append_own _ rfl _ _ 66 rfl B 5 i0 (.int .u8 0) 1 1 Tryz.underlying66 hi hz0 hz1 hz2 rfl (by decide) (.slice sa out.length sc) out.length (Lib.byteCells out) rfl (Y0.out.own.alloc _) ⟨w0.heap.size, 0, none⟩ 1 1 [.int .u8 45] rfl rfl (Tk.one_cell w0 45 5) (Tk.one_one 45) (BE.out 45).1 (BE.out 45).2.1 (BE.out 45).2.2 ?_)
    intro v5 W5 q5 g5 _
    have Y5 : Hid (Bk.Out B (out ++ [45]) v5 w W5) := Y0.out.byte HB.out 45 q5 g5
    clear q5 g5
    go_wp2
    go_ret
    exact ⟨_, rfl, Y5.out⟩
  · go_enter Tryz.func21, Tryz.ntmps21
    go_upto_region 5 with fail
    rw [HW0.out]
    clear HW0
    go_wp2_with (at_builtin; refine wpList_append_own _ rfl _ _ 66 rfl B 5 i0 (.int .u8 0) 1 1 Tryz.underlying66 hi hz0 hz1 hz2 rfl (by decide) (.slice sa out.length sc) out.length (Lib.byteCells out) rfl (Y0.out.own.alloc _) ⟨w0.heap.size, 0, none⟩ 1 1 [.int .u8 42] rfl rfl (Tk.one_cell w0 42 5) (Tk.one_one 42) (BE.out 42).1 (BE.out 42).2.1 (BE.out 42).2.2 ?_)
    intro v5 W5 q5 g5 _
    have Y5 : Hid (Bk.Out B (out ++ [42]) v5 w W5) := Y0.out.byte HB.out 42 q5 g5
    clear q5 g5
    go_wp2
    go_ret
    exact ⟨_, rfl, Y5.out⟩

set_option maxRecDepth 20000 in
set_option maxHeartbeats 8000000 in
theorem Tryz.bwrite_leaf (n r : Int) (h0 : 0 ≤ n) (h1 : n ≤ 9223372036854775807) (a : Option Addr) (len c : Nat) (al : Option Addr) (nl cl : Nat) (B : Nat) (out : List UInt8) (sv : Value) (w : World) (hB : B ≤ w.heap.size)
    (hT : Lib.TabBelow Tryz.prog B w "internal/strconv.uint64pow10" .u64 Lib.pow10Tab) (hown : w.ownsRow B 5 1 sv out.length (Lib.byteCells out)) (hlen : out.length ≤ 900000000) :
    Calls Tryz.prog 21 #[sv, .agg #[.int .i64 2, .int .i64 n, .int .i64 r, .slice a len c, .slice al nl cl]] w fun e w' => ∃ v', e = .returned v' ∧ Hid (Bk.Out B (out ++ Lib.itoa n) v' w w') := by
  obtain ⟨w0, hw0⟩ : ∃ x, w.alloc (.cells #[.int .i64 2, .int .i64 n, .int .i64 r, .slice a len c, .slice al nl cl] 29) = x := ⟨_, rfl⟩
  have Y0 : Hid (Bk.Out B out sv w w0) := by
    show Bk.Out _ _ _ _ _
    rw [← hw0]
    exact Bk.Out.alloc ⟨hown, Below.refl _ _, Lib.OthersKept.refl _ _ _⟩ hB _
  have NC : Hid (Calls Tryz.prog 39 #[sv, .int .i64 n] w0 fun e w' => ∃ a m c, e = .returned (.slice a m c) ∧ Hid (m = (out ++ Lib.itoa n).length ∧ Bk.Out B (out ++ Lib.itoa n) (.slice a m c) w w' ∧ Lib.OthersKept 5 none w0 w')) := Y0.out.num hB n (by omega) h1 hT (by omega)
  obtain ⟨sa, sc, rfl⟩ := Tk.own_shape hown
  have HW0 : Hid (w.alloc (.cells #[.int .i64 2, .int .i64 n, .int .i64 r, .slice a len c, .slice al nl cl] 29) = w0) := hw0
  have C0 : w0.cell? ⟨w.heap.size, 1, none⟩ = some (.int .i64 n) := by
    have := heap_alloc_new w (.cells #[.int .i64 2, .int .i64 n, .int .i64 r, .slice a len c, .slice al nl cl] 29)
    rw [hw0] at this
    simp [World.cell?, this]
  clear hown hw0 hB hT hlen
  go_enter Tryz.func21, Tryz.ntmps21
  go_upto_region 9 with fail
  rw [HW0.out]
  clear HW0
  go_wp2_with (go_at_call 39; refine Calls.mono NC.out ?_; rintro e W2 ⟨a2, m2, c2, rfl, X2⟩)
  go_ret
  exact ⟨_, rfl, X2.out.2.1⟩

set_option maxRecDepth 20000 in
set_option maxHeartbeats 8000000 in
theorem Tryz.bwrite_gate (n r : Int) (h0 : 0 ≤ n) (h1 : n ≤ 9223372036854775807) (a : Option Addr) (len c : Nat) (al : Option Addr) (nl cl : Nat) (B : Nat) (out : List UInt8) (sv : Value) (w : World) (hB : B ≤ w.heap.size)
    (hT : Lib.TabBelow Tryz.prog B w "internal/strconv.uint64pow10" .u64 Lib.pow10Tab) (hown : w.ownsRow B 5 1 sv out.length (Lib.byteCells out)) (hlen : out.length ≤ 900000000) :
    Calls Tryz.prog 21 #[sv, .agg #[.int .i64 8, .int .i64 n, .int .i64 r, .slice a len c, .slice al nl cl]] w fun e w' => ∃ v', e = .returned v' ∧ Hid (Bk.Out B (out ++ 103 :: Lib.itoa n) v' w w') := by
  obtain ⟨i0, hi, hz0, hz1, hz2⟩ := info_parts Tryz.infoByte
  obtain ⟨w0, hw0⟩ : ∃ x, w.alloc (.cells #[.int .i64 8, .int .i64 n, .int .i64 r, .slice a len c, .slice al nl cl] 29) = x := ⟨_, rfl⟩
  have A0 : Below B w w0 := by rw [← hw0]; exact (Below.refl _ w).alloc hB _
  have O0 : Hid (Lib.OthersKept 5 none w w0) := by show Lib.OthersKept _ _ _ _; rw [← hw0]; exact (Lib.OthersKept.refl _ _ w).alloc _
  have C0 : w0.heap[w.heap.size]? = some (.cells #[.int .i64 8, .int .i64 n, .int .i64 r, .slice a len c, .slice al nl cl] 29 (0, 0)) := by rw [← hw0]; exact heap_alloc_new w _
  have OW : w0.ownsRow B 5 1 sv out.length (Lib.byteCells out) := by rw [← hw0]; exact hown.alloc _
  have CF : Hid (∀ W, Lib.OthersKept 5 none w0 W → W.cell? ⟨w.heap.size, 1, none⟩ = some (.int .i64 n)) := fun W hb => by
    have e1 := hb _ _ C0 (by simp) (by intro c fz h; simp at h)
    simp [World.cell?, e1]
  obtain ⟨sa, sc, rfl⟩ := Tk.own_shape hown
  have KR : Hid (Lib.OthersKept 5 none w0 w0) := Lib.OthersKept.refl _ _ _
  have Y : Hid (Bk.Byte 103 n 103 B out sa sc w w0) := Bk.byte_of 103 n (by omega) h1 B out sa sc w w0 A0 OW hB hT (by omega)
  have HW0 : Hid (w.alloc (.cells #[.int .i64 8, .int .i64 n, .int .i64 r, .slice a len c, .slice al nl cl] 29) = w0) := hw0
  clear hT hown hw0 A0 C0 OW hlen
  go_enter Tryz.func21, Tryz.ntmps21
  go_upto_region 7 with fail
  rw [HW0.out]
  go_region_held3 (fun W => W.cell? ⟨w.heap.size, 1, none⟩ = some (.int .i64 n))
    (first | exact CF.out _ H2.out.2.2 | exact CF.out _ K1.out | exact CF.out _ Y.out.kept | exact CF.out _ Y.out.kept.drew | exact CF.out _ KR.out.drew | exact CF.out _ KR.out)
    (first
    | ((with_reducible refine Tk.at_op (Op.call { callee := Callee.builtin Builtin.append, args := #[.tmp 21, .tmp 22], argTypes := #[66, 66] }) ?hop ?_); (case hop => with_reducible rfl); refine Tk.step_own rfl (.tmp 21) (.tmp 22) 66 rfl B 5 i0 (.int .u8 0) 1 1 Tryz.underlying66 hi hz0 hz1 hz2 rfl (by decide) (.slice sa out.length sc) out.length (Lib.byteCells out) (by simp [Act.eval]) (by exact Y.out.own) ⟨w0.heap.size, 0, none⟩ 1 1 [.int .u8 103] (by simp [Act.eval]) rfl (by exact Tk.one_cell w0 103 5) (Tk.one_one 103) (by exact Y.out.bound.1) (by exact Y.out.bound.2) (by exact Y.out.le) ?_; intro v1 W1 q1 g1; have K1 : Hid (Lib.OthersKept 5 none w0 W1) := Y.out.grown W1 g1)
    | (go_simp; go_at_call 39; refine Calls.mono (Y.out.num _ _ (by exact q1) (by exact g1)) ?_; rintro e W2 ⟨v2, rfl, H2⟩))
  clear CF KR Y
  go_simp
  go_wp2
  go_ret
  exact ⟨v2, rfl, H2.out.1, H2.out.2.1, O0.out.trans H2.out.2.2⟩

end Go.Proofs

namespace Go.Proofs
open Go.RowKit

theorem Bk.Out.trans {B : Nat} {o1 o2 : List UInt8} {v1 v2 : Value} {w W W2 : World} (h : Bk.Out B o1 v1 w W) (h2 : Bk.Out B o2 v2 W W2) : Bk.Out B o2 v2 w W2 := ⟨h2.own, h.below.trans h2.below, h.kept.trans h2.kept⟩
/-- A block in its box. -/
theorem Bk.box5 {W : World} {b : Nat} {k n r v lv : Value} (h : W.heap[b]? = some (.cells #[k, n, r, v, lv] 29 (0, 0))) : W.cell? ⟨b, 0, none⟩ = some k ∧ W.cell? ⟨b, 1, none⟩ = some n ∧ W.cell? ⟨b, 2, none⟩ = some r ∧ W.cell? ⟨b, 3, none⟩ = some v ∧ W.cell? ⟨b, 4, none⟩ = some lv :=
  ⟨by simp [World.cell?, h], by simp [World.cell?, h], by simp [World.cell?, h], by simp [World.cell?, h], by simp [World.cell?, h]⟩
theorem Bk.box_kept {W0 W : World} {b : Nat} {k n r v lv : Value} (h : W0.heap[b]? = some (.cells #[k, n, r, v, lv] 29 (0, 0))) (hk : Lib.OthersKept 5 none W0 W) : W.heap[b]? = some (.cells #[k, n, r, v, lv] 29 (0, 0)) :=
  hk _ _ h (by simp) (by intro c fz h; simp at h)

/-- write of blocks with so many levels. -/
def Bk.WriteC (d : Nat) : Prop := ∀ (T : Bl) (v lv : Value) (B : Nat) (out : List UInt8) (sv : Value) (w : World), Bl.Lies w B d v lv T → T.allP Bl.okB = true → B ≤ w.heap.size → Bk.Names w → 0 < B →
    Lib.TabBelow Tryz.prog B w "internal/strconv.uint64pow10" .u64 Lib.pow10Tab → w.ownsRow B 5 1 sv out.length (Lib.byteCells out) → out.length + T.room ≤ 800000000 →
    Calls Tryz.prog 21 #[sv, .agg #[.int .i64 T.kind, .int .i64 T.node, .int .i64 T.arg, v, lv]] w fun e w' => ∃ v', e = .returned v' ∧ Hid (Bk.Out B (out ++ T.textL) v' w w')

set_option maxRecDepth 20000 in
set_option maxHeartbeats 16000000 in
theorem Tryz.bwrite_tree (d : Nat) (ih : Bk.WriteC d) (T : Bl) (v lv : Value) (B : Nat) (out : List UInt8) (sv : Value) (w : World) (hL : Bl.Lies w B (d + 1) v lv T) (hF : T.allP Bl.okB = true) (hB : B ≤ w.heap.size) (hN : Bk.Names w) (h0 : 0 < B)
    (hT : Lib.TabBelow Tryz.prog B w "internal/strconv.uint64pow10" .u64 Lib.pow10Tab) (hown : w.ownsRow B 5 1 sv out.length (Lib.byteCells out)) (hlen : out.length + T.room ≤ 800000000)
    (hk : T.kind = 3 ∨ T.kind = 4 ∨ T.kind = 5 ∨ T.kind = 6 ∨ T.kind = 7 ∨ T.kind = 9) :
    Calls Tryz.prog 21 #[sv, .agg #[.int .i64 T.kind, .int .i64 T.node, .int .i64 T.arg, v, lv]] w fun e w' => ∃ v', e = .returned v' ∧ Hid (Bk.Out B (out ++ T.textL) v' w w') := by
  obtain ⟨i0, hi, hz0, hz1, hz2⟩ := info_parts Tryz.infoByte
  obtain ⟨a, cap, rfl⟩ := hL.shape
  obtain ⟨la, lc, rfl⟩ := hL.links.shape
  rw [Bl.allP_eq, Bool.and_eq_true] at hF
  obtain ⟨ok1, ok2, ok3, ok4⟩ := Bl.okB_iff hF.1
  obtain ⟨k, hkn⟩ : ∃ k : Nat, T.kind = k := ⟨T.kind.toNat, by omega⟩
  obtain ⟨nn, hnn⟩ : ∃ z, T.node = z := ⟨_, rfl⟩
  obtain ⟨rr, hrr⟩ : ∃ z, T.arg = z := ⟨_, rfl⟩
  obtain ⟨n, hn⟩ : ∃ n, T.ks.length = n := ⟨_, rfl⟩
  obtain ⟨nl, hnl⟩ : ∃ n, T.ls.length = n := ⟨_, rfl⟩
  obtain ⟨R, hR⟩ : ∃ z, out ++ T.textL = z := ⟨_, rfl⟩
  rw [hkn] at hk ok1
  rw [hnn] at ok2
  rw [hrr] at ok3
  have HKK : Hid ((k : Int) = 3 ∨ (k : Int) = 4 ∨ (k : Int) = 5 ∨ (k : Int) = 6 ∨ (k : Int) = 7 ∨ (k : Int) = 9) := hk
  have htx : T.textL = 40 :: (Bl.nameL k ++ (Bl.nodeL k nn rr ++ (Bl.textsL T.ks ++ ((if (k : Int) = 9 then Bl.linksL T.ls else []) ++ [41])))) := by
    rw [Bl.textL_eq, hkn, hnn, hrr, if_neg (by omega), if_neg (by omega), if_neg (by omega), if_neg (by omega)]
  obtain ⟨tx, htn⟩ : ∃ z, Bl.nameL k = z := ⟨_, rfl⟩
  have htl : tx.length ≤ 4 := by rw [← htn]; exact Bl.nameL_le _
  have HR : Hid (R = ((((out ++ [40]) ++ tx) ++ Bl.nodeL k nn rr) ++ Bl.textsL T.ks) ++ ((if (k : Int) = 9 then Bl.linksL T.ls else []) ++ [41])) := by
    show _ = _
    rw [← hR, htx, htn]
    simp
  have hroom : T.room = 100 + 68 * nl + Bl.rooms T.ks := by rw [Bl.room_eq, hnl]
  have hnn44 := Bl.nodeL_le k nn rr ok2 ok3
  have HLEN : Hid (out.length + 100 + 68 * nl + Bl.rooms T.ks ≤ 800000000 ∧ tx.length ≤ 4 ∧ (Bl.nodeL k nn rr).length ≤ 44) := ⟨by rw [hroom] at hlen; omega, htl, hnn44⟩
  obtain ⟨W0, hW0⟩ : ∃ x, w.alloc (.cells #[.int .i64 k, .int .i64 nn, .int .i64 rr, .slice a n cap, .slice la nl lc] 29) = x := ⟨_, rfl⟩
  obtain ⟨b0, hb0⟩ : ∃ x, w.heap.size = x := ⟨_, rfl⟩
  have Y0 : Hid (Bk.Out B out sv w W0) := by
    show Bk.Out _ _ _ _ _
    rw [← hW0]
    exact Bk.Out.alloc ⟨hown, Below.refl _ _, Lib.OthersKept.refl _ _ _⟩ hB _
  have G0 : Hid (W0.heap[b0]? = some (.cells #[.int .i64 k, .int .i64 nn, .int .i64 rr, .slice a n cap, .slice la nl lc] 29 (0, 0))) := by show _ = _; rw [← hW0, ← hb0]; exact heap_alloc_new w _
  have HN : Hid (Bk.Names w ∧ 0 < B ∧ B ≤ w.heap.size ∧ Lib.TabBelow Tryz.prog B w "internal/strconv.uint64pow10" .u64 Lib.pow10Tab) := ⟨hN, h0, hB, hT⟩
  have hk10 : k ≤ 10 := by omega
  have CF : Hid (∀ W, (Lib.OthersKept 5 none W0 W ∧ Below B w W) → W.cell? ⟨b0, 0, none⟩ = some (.int .i64 k) ∧ W.cell? ⟨0, k, none⟩ = some (.string ⟨tx.toArray⟩)) := fun W h => by
    refine ⟨(Bk.box5 (Bk.box_kept G0.out h.1)).1, ?_⟩
    have := (hN.below h.2 h0).text k hk10
    rw [htn] at this
    exact this
  have KR : Hid (Lib.OthersKept 5 none W0 W0 ∧ Below B w W0) := ⟨Lib.OthersKept.refl _ _ _, Y0.out.below⟩
  obtain ⟨sa, sc, rfl⟩ := Tk.own_shape hown
  obtain ⟨WA, hWA⟩ : ∃ x, W0.alloc (.cells #[.int .u8 40] 5) = x := ⟨_, rfl⟩
  have YA : Hid (Bk.Out B out (.slice sa out.length sc) w (W0.alloc (.cells #[.int .u8 40] 5))) := Y0.out.alloc hB _
  have KA : Hid (Lib.OthersKept 5 none W0 (W0.alloc (.cells #[.int .u8 40] 5)) ∧ Below B w (W0.alloc (.cells #[.int .u8 40] 5))) := ⟨(Lib.OthersKept.refl _ _ _).alloc _, YA.out.below⟩
  have BS : Hid ((out.length + 1 ≤ maxLen ∧ (out.length + 1) * 1 ≤ 140737488355328 ∧ B ≤ (W0.alloc (.cells #[.int .u8 40] 5)).heap.size) ∧ (out ++ [40]).length + (⟨tx.toArray⟩ : ByteArray).size ≤ maxLen ∧ (out ++ [40]).length + (⟨tx.toArray⟩ : ByteArray).size ≤ 140737488355328) := by
    have h1 := HLEN.out.1
    have h2 : (⟨tx.toArray⟩ : ByteArray).size = tx.length := by simp [ByteArray.size]
    refine ⟨⟨by unfold maxLen; omega, by omega, YA.out.size hB⟩, ?_, ?_⟩
    · rw [h2, List.length_append]; unfold maxLen; simp; omega
    · rw [h2, List.length_append]; simp; omega
  have e1 : ((k : Int) == 1) = false := by simp; omega
  have e2 : ((k : Int) == 10) = false := by simp; omega
  have e3 : ((k : Int) == 8) = false := by simp; omega
  have e4 : ((k : Int) == 2) = false := by simp; omega
  have ix : (k : Int) < 11 := by omega
  have HW0 : Hid (w.alloc (.cells #[.int .i64 k, .int .i64 nn, .int .i64 rr, .slice a n cap, .slice la nl lc] 29) = W0) := hW0
  have HK : Hid (Bl.Lies w B (d + 1) (.slice a n cap) (.slice la nl lc) T ∧ T.ks.length = n ∧ T.ls.length = nl ∧ Bl.allPs Bl.okB T.ks = true ∧ Bk.WriteC d) := ⟨by rw [hn, hnl] at hL; exact hL, hn, hnl, hF.2, ih⟩
  have HO : Hid ((0 ≤ nn ∧ nn ≤ 9223372036854775807) ∧ (0 ≤ rr ∧ rr ≤ 9223372036854775807) ∧ ∀ x, x ∈ T.ls → Bl.I64 x.1 ∧ Bl.I64 x.2.1 ∧ Bl.I64 x.2.2) := ⟨ok2, ok3, ok4⟩
  rw [hkn, hnn, hrr, hn, hnl, hR]
  clear hkn hnn hrr hn hnl hR htx htn htl hroom hnn44 hW0 hWA hL hF hN hT hown hlen ih hk ok1 ok2 ok3 ok4 hk10 h0 hB
  go_enter Tryz.func21, Tryz.ntmps21
  go_upto_region 10 with fail
  rw [HW0.out]
  clear HW0
  go_region_held3 (fun W => W.cell? ⟨b0, 0, none⟩ = some (.int .i64 k) ∧ W.cell? ⟨0, k, none⟩ = some (.string ⟨tx.toArray⟩))
    (first | exact CF.out _ K2.out | exact CF.out _ K1.out | exact CF.out _ KA.out | exact CF.out _ ⟨KA.out.1.drew, KA.out.2.drew⟩ | exact CF.out _ ⟨KR.out.1.drew, KR.out.2.drew⟩ | exact CF.out _ KR.out)
    (first
    | ((with_reducible refine Tk.at_op (Op.call { callee := Callee.builtin Builtin.append, args := #[.tmp 33, .tmp 34], argTypes := #[66, 66] }) ?hop ?_); (case hop => with_reducible rfl); refine Tk.step_own rfl (.tmp 33) (.tmp 34) 66 rfl B 5 i0 (.int .u8 0) 1 1 Tryz.underlying66 hi hz0 hz1 hz2 rfl (by decide) (.slice sa out.length sc) out.length (Lib.byteCells out) (by simp [Act.eval]) (by exact YA.out.own) ⟨W0.heap.size, 0, none⟩ 1 1 [.int .u8 40] (by simp [Act.eval]) rfl (by exact Tk.one_cell W0 40 5) (Tk.one_one 40) (by exact BS.out.1.1) (by exact BS.out.1.2.1) (by exact BS.out.1.2.2) ?_; intro v1 W1 q1 g1; have Y1 : Hid (Bk.Out B (out ++ [40]) v1 w W1) := Y0.out.byte HN.out.2.2.1 40 q1 (Bk.undrew g1); have K1 : Hid (Lib.OthersKept 5 none W0 W1 ∧ Below B w W1) := ⟨KA.out.1.grown (Bk.undrew g1) (Lib.ownsRow_kind YA.out.own), Y1.out.below⟩)
    | ((with_reducible refine Tk.at_op (Op.call { callee := Callee.builtin Builtin.append, args := #[.tmp 35, .tmp 39], argTypes := #[66, 9] }) ?hop ?_); (case hop => with_reducible rfl); refine Tk.step_str rfl (.tmp 35) (.tmp 39) 66 9 rfl B 5 i0 Tryz.underlying66 Tryz.underlying9 hi hz0 hz1 hz2 v1 (out ++ [40]).length (Lib.byteCells (out ++ [40])) (by simp [Act.eval]) (by exact Y1.out.own) ⟨tx.toArray⟩ (by simp [Act.eval]) (by exact BS.out.2.1) (by exact BS.out.2.2) (by exact Y1.out.size HN.out.2.2.1) ?_; intro v2 W2 q2 g2; have Y2 : Hid (Bk.Out B ((out ++ [40]) ++ tx) v2 w W2) := Y1.out.str HN.out.2.2.1 ⟨tx.toArray⟩ q2 (by first | exact g2 | exact Bk.undrew g2); have K2 : Hid (Lib.OthersKept 5 none W0 W2 ∧ Below B w W2) := ⟨K1.out.1.grown (by first | exact g2 | exact Bk.undrew g2) (Lib.ownsRow_kind Y1.out.own), Y2.out.below⟩))
  clear q1 g1 q2 g2 K1 Y1 YA KA KR
  obtain ⟨o2, ho2⟩ : ∃ z, (out ++ [40]) ++ tx = z := ⟨_, rfl⟩
  rw [ho2] at Y2 HR
  have HO2 : Hid (o2.length ≤ out.length + 5) := by show _ ≤ _; rw [← ho2]; have := HLEN.out.2.1; simp; omega
  clear ho2
  obtain ⟨a2, c2, rfl⟩ := Tk.own_shape Y2.out.own
  have CB : Hid (∀ W, Lib.OthersKept 5 none W0 W → W.cell? ⟨b0, 0, none⟩ = some (.int .i64 k) ∧ W.cell? ⟨b0, 1, none⟩ = some (.int .i64 nn) ∧ W.cell? ⟨b0, 2, none⟩ = some (.int .i64 rr) ∧ W.cell? ⟨b0, 3, none⟩ = some (.slice a n cap) ∧ W.cell? ⟨b0, 4, none⟩ = some (.slice la nl lc)) := fun W h => Bk.box5 (Bk.box_kept G0.out h)
  obtain ⟨p0, p1, p2, p3, p4⟩ := CB.out W2 K2.out.1
  have NC : Hid (Calls Tryz.prog 40 #[.slice a2 o2.length c2, .agg #[.int .i64 k, .int .i64 nn, .int .i64 rr, .slice a n cap, .slice la nl lc]] W2 fun e w' => ∃ a' m' c', e = .returned (.slice a' m' c') ∧ Hid (m' = (o2 ++ Bl.nodeL k nn rr).length ∧ Bk.Out B (o2 ++ Bl.nodeL k nn rr) (.slice a' m' c') w w' ∧ Lib.OthersKept 5 none W2 w')) :=
    Tryz.writeNode_all k nn rr HKK.out HO.out.1 HO.out.2.1 a n cap la nl lc B o2 _ w W2 HN.out.2.2.1 HN.out.2.2.2 Y2.out (by have := HLEN.out; have := HO2.out; omega)
  clear CF G0
  go_upto_region 11 with fail
  go_wp2_with (go_at_call 40; refine Calls.mono NC.out ?_; rintro e W3 ⟨a3, m3, c3, rfl, X3⟩; obtain ⟨z0, z1, z2, z3, z4⟩ := CB.out W3 (K2.out.1.trans X3.out.2.2))
  obtain ⟨o3, ho3⟩ : ∃ z, o2 ++ Bl.nodeL k nn rr = z := ⟨_, rfl⟩
  rw [ho3] at X3 HR
  have HO3 : Hid (o3.length ≤ out.length + 49) := by show _ ≤ _; rw [← ho3]; have := HLEN.out.2.2; have := HO2.out; simp; omega
  have K3 : Hid (Lib.OthersKept 5 none W0 W3) := K2.out.1.trans X3.out.2.2
  have X3' := X3.out
  obtain ⟨rfl, Y3', -⟩ := X3'
  have Y3 : Hid (Bk.Out B o3 (.slice a3 o3.length c3) w W3) := Y3'
  clear ho3 X3 Y3' NC Y2 K2 p0 p1 p2 p3 p4
  have hnb : n ≤ 800000000 := by
    have h1 := HLEN.out.1
    have h2 : ∀ l : List Bl, l.length ≤ Bl.rooms l := by
      intro l
      induction l with
      | nil => simp
      | cons x r ih => rw [List.length_cons, Bl.rooms, Bl.room_eq]; omega
    have h3 := h2 T.ks
    rw [HK.out.2.1] at h3
    omega
  go_loopg [0, 47] n (fun gk s0 s47 wr => ∃ (j : Nat) (o : List UInt8) (va : Option Addr) (vc : Nat), gk + j = n ∧ s47 = .int .i64 j ∧ s0 = .slice va o.length vc ∧ Hid (o3 ++ Bl.textsL (T.ks.take j) = o ∧ Bk.Out B o (.slice va o.length vc) w wr ∧ Lib.OthersKept 5 none W0 wr))
  case atStart => exact ⟨0, o3, _, _, by omega, rfl, rfl, by simp [Bl.textsL], Y3.out, K3.out⟩
  case round =>
    obtain ⟨j, o, va, vc, hj, rfl, rfl, HJ⟩ := hrel
    have HOL : Hid (o.length ≤ o3.length + Bl.rooms (T.ks.take j)) := by
      show _ ≤ _
      have h1 := Bl.texts_len (T.ks.take j) (Bl.allPs_takes T.ks HK.out.2.2.2.1 j)
      rw [← HJ.out.1, List.length_append]
      omega
    by_cases hjn : j < n
    · have hd : decide ((j : Int) < n) = true := decide_eq_true (by omega)
      have hjk : j < T.ks.length := by rw [HK.out.2.1]; exact hjn
      have hxF := Bl.allPs_get Bl.okB T.ks HK.out.2.2.2.1 j hjk
      have htk := Bl.textsL_take T.ks j hjk
      have hrm := Bl.rooms_take T.ks j hjk
      obtain ⟨g, off, u, lu, rfl, hg, q0, q1, q2, q3, q4, q5⟩ := HK.out.1.kid j hjk
      obtain ⟨x, hx⟩ : ∃ x, T.ks[j] = x := ⟨_, rfl⟩
      rw [hx] at q0 q1 q2 q5 hxF htk hrm
      obtain ⟨au, cu, rfl⟩ := q5.shape
      obtain ⟨bu, du, rfl⟩ := q5.links.shape
      obtain ⟨mx, hmx⟩ : ∃ n, x.ls.length = n := ⟨_, rfl⟩
      rw [hmx] at q4 q5
      obtain ⟨nx, hnx⟩ : ∃ n, x.ks.length = n := ⟨_, rfl⟩
      rw [hnx] at q3 q5
      obtain ⟨y0, hy0⟩ : ∃ y, x.kind = y := ⟨_, rfl⟩
      obtain ⟨y1, hy1⟩ : ∃ y, x.node = y := ⟨_, rfl⟩
      obtain ⟨y2, hy2⟩ : ∃ y, x.arg = y := ⟨_, rfl⟩
      rw [hy0] at q0
      rw [hy1] at q1
      rw [hy2] at q2
      have hcc : ∀ p, wr.cell? ⟨g, p, none⟩ = w.cell? ⟨g, p, none⟩ := fun p => HJ.out.2.1.below.cell (p := ⟨g, p, none⟩) hg
      have d0 := (hcc _).trans q0
      have d1 := (hcc _).trans q1
      have d2 := (hcc _).trans q2
      have d3 := (hcc _).trans q3
      have d4 := (hcc _).trans q4
      obtain ⟨V0, hV0⟩ : ∃ z, wr.alloc (.cells #[.int .i64 y0, .int .i64 y1, .int .i64 y2, .slice au nx cu, .slice bu mx du] 29) = z := ⟨_, rfl⟩
      obtain ⟨b6, hb6⟩ : ∃ z, wr.heap.size = z := ⟨_, rfl⟩
      have V1 : V0.heap[b6]? = some (.cells #[.int .i64 y0, .int .i64 y1, .int .i64 y2, .slice au nx cu, .slice bu mx du] 29 (0, 0)) := by rw [← hV0, ← hb6]; exact heap_alloc_new wr _
      have Y4 : Hid (Bk.Out B o (.slice va o.length vc) w V0) := by show Bk.Out _ _ _ _ _; rw [← hV0]; exact HJ.out.2.1.alloc HN.out.2.2.1 _
      have K4 : Hid (Lib.OthersKept 5 none W0 V0) := by show Lib.OthersKept _ _ _ _; rw [← hV0]; exact HJ.out.2.2.alloc _
      have CX : Hid (∀ W, Lib.OthersKept 5 none V0 W → W.cell? ⟨b6, 0, none⟩ = some (.int .i64 y0) ∧ W.cell? ⟨b6, 1, none⟩ = some (.int .i64 y1) ∧ W.cell? ⟨b6, 2, none⟩ = some (.int .i64 y2) ∧ W.cell? ⟨b6, 3, none⟩ = some (.slice au nx cu) ∧ W.cell? ⟨b6, 4, none⟩ = some (.slice bu mx du)) := fun W h => Bk.box5 (Bk.box_kept V1 h)
      have YB : Hid (Bk.Out B o (.slice va o.length vc) w (V0.alloc (.cells #[.int .u8 32] 5))) := Y4.out.alloc HN.out.2.2.1 _
      have KX : Hid (Lib.OthersKept 5 none V0 V0) := Lib.OthersKept.refl _ _ _
      have KB : Hid (Lib.OthersKept 5 none V0 (V0.alloc (.cells #[.int .u8 32] 5))) := KX.out.alloc _
      have BB : Hid (o.length + 1 ≤ maxLen ∧ (o.length + 1) * 1 ≤ 140737488355328 ∧ B ≤ (V0.alloc (.cells #[.int .u8 32] 5)).heap.size) := by
        have h1 := HLEN.out.1
        have h2 := HO3.out
        have h3 := HOL.out
        exact ⟨by unfold maxLen; omega, by omega, YB.out.size HN.out.2.2.1⟩
      have WC : Hid (∀ v1 W1, Bk.Out B (o ++ [32]) v1 w W1 → Calls Tryz.prog 21 #[v1, .agg #[.int .i64 y0, .int .i64 y1, .int .i64 y2, .slice au nx cu, .slice bu mx du]] W1 fun e w' => ∃ v', e = .returned v' ∧ Hid (Bk.Out B ((o ++ [32]) ++ x.textL) v' W1 w')) := fun v1 W1 h => by
        have h1 := HLEN.out.1
        have h2 := HO3.out
        have h3 := HOL.out
        have := HK.out.2.2.2.2 x (.slice au nx cu) (.slice bu mx du) B (o ++ [32]) v1 W1 (q5.below h.below) hxF (h.size HN.out.2.2.1) (HN.out.1.below h.below HN.out.2.1) HN.out.2.1 (HN.out.2.2.2.on h.below) h.own (by simp; omega)
        rw [hy0, hy1, hy2] at this
        exact this
      have HTK : Hid (Bl.textsL (T.ks.take (j + 1)) = Bl.textsL (T.ks.take j) ++ 32 :: x.textL) := htk
      have HV0 : Hid (wr.alloc (.cells #[.int .i64 y0, .int .i64 y1, .int .i64 y2, .slice au nx cu, .slice bu mx du] 29) = V0) := hV0
      clear hcc q0 q1 q2 q3 q4 q5 hx hxF htk hrm hmx hnx hy0 hy1 hy2 hV0 V1 hjk
      go_upto_region 15 with fail
      rw [HV0.out]
      clear d0 d1 d2 d3 d4 HV0 hb6
      go_region_held3 (fun W => W.cell? ⟨b6, 0, none⟩ = some (.int .i64 y0) ∧ W.cell? ⟨b6, 1, none⟩ = some (.int .i64 y1) ∧ W.cell? ⟨b6, 2, none⟩ = some (.int .i64 y2) ∧ W.cell? ⟨b6, 3, none⟩ = some (.slice au nx cu) ∧ W.cell? ⟨b6, 4, none⟩ = some (.slice bu mx du))
        (first | exact CX.out _ K6.out | exact CX.out _ K5.out | exact CX.out _ KB.out | exact CX.out _ KB.out.drew | exact CX.out _ KX.out.drew | exact CX.out _ KX.out)
        (first
        | ((with_reducible refine Tk.at_op (Op.call { callee := Callee.builtin Builtin.append, args := #[.tmp 51, .tmp 52], argTypes := #[66, 66] }) ?hop ?_); (case hop => with_reducible rfl); refine Tk.step_own rfl (.tmp 51) (.tmp 52) 66 rfl B 5 i0 (.int .u8 0) 1 1 Tryz.underlying66 hi hz0 hz1 hz2 rfl (by decide) (.slice va o.length vc) o.length (Lib.byteCells o) (by simp [Act.eval]) (by exact YB.out.own) ⟨V0.heap.size, 0, none⟩ 1 1 [.int .u8 32] (by simp [Act.eval]) rfl (by exact Tk.one_cell V0 32 5) (Tk.one_one 32) (by exact BB.out.1) (by exact BB.out.2.1) (by exact BB.out.2.2) ?_; intro v1 W1 q1 g1; have Y5 : Hid (Bk.Out B (o ++ [32]) v1 w W1) := Y4.out.byte HN.out.2.2.1 32 q1 (Bk.undrew g1); have K5 : Hid (Lib.OthersKept 5 none V0 W1) := KB.out.grown (Bk.undrew g1) (Lib.ownsRow_kind YB.out.own))
        | (go_simp; go_at_call 21; refine Calls.mono (WC.out _ _ Y5.out) ?_; rintro e W6 ⟨v6, rfl, X6⟩; have K6 : Hid (Lib.OthersKept 5 none V0 W6) := K5.out.trans X6.out.kept))
      have Y6' := Y5.out.trans X6.out
      obtain ⟨o6, ho6⟩ : ∃ z, (o ++ [32]) ++ x.textL = z := ⟨_, rfl⟩
      rw [ho6] at Y6'
      have HF : Hid (o3 ++ Bl.textsL (T.ks.take (j + 1)) = o6) := by
        show _ = _
        rw [HTK.out, ← ho6, ← HJ.out.1]
        simp
      have K7 : Hid (Lib.OthersKept 5 none W0 W6) := K4.out.trans K6.out
      obtain ⟨a6, c6, rfl⟩ := Tk.own_shape Y6'.own
      have Y6 : Hid (Bk.Out B o6 (.slice a6 o6.length c6) w W6) := Y6'
      clear Y6' ho6 X6 Y5 K5 K6 q1 g1 CX WC KB KX YB
      go_wp2
      go_roundg (gk - 1)
      case measure => omega
      case rel => exact ⟨j + 1, o6, _, _, by omega, by go_num, rfl, HF.out, Y6.out, K7.out⟩
    · have hd : decide ((j : Int) < n) = false := decide_eq_false (by omega)
      have HJE : Hid (o3 ++ Bl.textsL T.ks = o) := by
        have := HJ.out.1
        rw [List.take_of_length_le (by rw [HK.out.2.1]; omega)] at this
        exact this
      have HJR : Hid (o.length ≤ o3.length + Bl.rooms T.ks) := by
        show _ ≤ _
        have h1 := HOL.out
        rw [List.take_of_length_le (by rw [HK.out.2.1]; omega)] at h1
        exact h1
      obtain ⟨x0, x1, x2, x3, x4⟩ := CB.out wr HJ.out.2.2
      by_cases h9 : (k : Int) = 9
      · have e9 : ((k : Int) == 9) = true := by simp [h9]
        have hLL := HK.out.1.links.below HJ.out.2.1.below
        have LC : Hid (Calls Tryz.prog 41 #[.slice va o.length vc, .slice la nl lc] wr fun e w' => ∃ v', e = .returned v' ∧ Hid (Bk.Out B (o ++ Bl.linksL T.ls) v' wr w')) := by
          have h1 := HLEN.out.1
          have h2 := HO3.out
          have h3 := HJR.out
          have := Tryz.writeLinks_any T.ls la lc B o (.slice va o.length vc) wr (HJ.out.2.1.size HN.out.2.2.1) (by rw [HK.out.2.2.1]; exact hLL) (HN.out.2.2.2.on HJ.out.2.1.below) HJ.out.2.1.own HO.out.2.2 (by rw [HK.out.2.2.1]; omega)
          rw [HK.out.2.2.1] at this
          exact this
        have HL9 : Hid ((Bl.linksL T.ls).length ≤ 68 * nl) := by
          show _ ≤ _
          have := Bl.linksL_le T.ls HO.out.2.2
          rw [HK.out.2.2.1] at this
          exact this
        have HR9 : Hid (R = (o ++ Bl.linksL T.ls) ++ [41]) := by
          show _ = _
          rw [HR.out, if_pos h9, HJE.out]
          simp
        clear hLL h9
        go_upto_region 18 with fail
        go_wp2_with fail
        refine Calls.mono LC.out ?_
        rintro e W7 ⟨v7, rfl, X7⟩
        have X7' := HJ.out.2.1.trans X7.out
        obtain ⟨o7, ho7⟩ : ∃ z, o ++ Bl.linksL T.ls = z := ⟨_, rfl⟩
        rw [ho7] at X7' HR9
        have L7 : Hid (o7.length ≤ 800000000) := by
          show _ ≤ _
          rw [← ho7, List.length_append]
          have h1 := HLEN.out.1
          have h2 := HO3.out
          have h3 := HJR.out
          have h4 := HL9.out
          omega
        obtain ⟨a7, c7, rfl⟩ := Tk.own_shape X7'.own
        have Y7 : Hid (Bk.Out B o7 (.slice a7 o7.length c7) w W7) := X7'
        have E7 : Hid (o7 ++ [41] = R) := HR9.out.symm
        clear X7' X7 ho7
        go_upto_region 19 with fail
        have BE : Hid (o7.length + 1 ≤ maxLen ∧ (o7.length + 1) * 1 ≤ 140737488355328 ∧ B ≤ (W7.alloc (.cells #[.int .u8 41] 5)).heap.size) := ⟨by unfold maxLen; have := L7.out; omega, by have := L7.out; omega, (Y7.out.alloc HN.out.2.2.1 _).size HN.out.2.2.1⟩
        go_wp2_with (at_builtin; refine wpList_append_own _ rfl _ _ 66 rfl B 5 i0 (.int .u8 0) 1 1 Tryz.underlying66 hi hz0 hz1 hz2 rfl (by decide) (.slice a7 o7.length c7) o7.length (Lib.byteCells o7) rfl (Y7.out.own.alloc _) ⟨W7.heap.size, 0, none⟩ 1 1 [.int .u8 41] rfl rfl (Tk.one_cell W7 41 5) (Tk.one_one 41) BE.out.1 BE.out.2.1 BE.out.2.2 ?_)
        intro v5 W5 q5 g5 _
        have Y5 : Hid (Bk.Out B (o7 ++ [41]) v5 w W5) := Y7.out.byte HN.out.2.2.1 41 q5 g5
        clear q5 g5
        go_wp2
        go_ret
        refine ⟨_, rfl, ?_⟩
        have := Y5.out
        rw [E7.out] at this
        exact this
      · have e9 : ((k : Int) == 9) = false := by simp [h9]
        have L7 : Hid (o.length ≤ 800000000) := by show _ ≤ _; have h1 := HLEN.out.1; have h2 := HO3.out; have h3 := HJR.out; omega
        have E7 : Hid (o ++ [41] = R) := by
          show _ = _
          rw [HR.out, if_neg h9, HJE.out]
          simp
        have Y7 : Hid (Bk.Out B o (.slice va o.length vc) w wr) := HJ.out.2.1
        clear h9
        go_upto_region 19 with fail
        have BE : Hid (o.length + 1 ≤ maxLen ∧ (o.length + 1) * 1 ≤ 140737488355328 ∧ B ≤ (wr.alloc (.cells #[.int .u8 41] 5)).heap.size) := ⟨by unfold maxLen; have := L7.out; omega, by have := L7.out; omega, (Y7.out.alloc HN.out.2.2.1 _).size HN.out.2.2.1⟩
        go_wp2_with (at_builtin; refine wpList_append_own _ rfl _ _ 66 rfl B 5 i0 (.int .u8 0) 1 1 Tryz.underlying66 hi hz0 hz1 hz2 rfl (by decide) (.slice va o.length vc) o.length (Lib.byteCells o) rfl (Y7.out.own.alloc _) ⟨wr.heap.size, 0, none⟩ 1 1 [.int .u8 41] rfl rfl (Tk.one_cell wr 41 5) (Tk.one_one 41) BE.out.1 BE.out.2.1 BE.out.2.2 ?_)
        intro v5 W5 q5 g5 _
        have Y5 : Hid (Bk.Out B (o ++ [41]) v5 w W5) := Y7.out.byte HN.out.2.2.1 41 q5 g5
        clear q5 g5
        go_wp2
        go_ret
        refine ⟨_, rfl, ?_⟩
        have := Y5.out
        rw [E7.out] at this
        exact this

theorem Tryz.bwrite_any : ∀ d, Bk.WriteC d := by
  intro d
  induction d with
  | zero => intro T v lv B out sv w h; exact h.elim
  | succ d ih =>
    intro T v lv B out sv w hL hF hB hN h0 hT hown hlen
    have hF' := hF
    rw [Bl.allP_eq, Bool.and_eq_true] at hF'
    obtain ⟨ok1, ok2, ok3, ok4⟩ := Bl.okB_iff hF'.1
    have hroom := T.room_eq
    by_cases hk : T.kind = 3 ∨ T.kind = 4 ∨ T.kind = 5 ∨ T.kind = 6 ∨ T.kind = 7 ∨ T.kind = 9
    · exact Tryz.bwrite_tree d ih T v lv B out sv w hL hF hB hN h0 hT hown hlen hk
    · obtain ⟨a, cap, rfl⟩ := hL.shape
      obtain ⟨la, lc, rfl⟩ := hL.links.shape
      rw [Bl.textL_eq]
      by_cases h8 : T.kind = 8
      · rw [h8, if_neg (by decide), if_neg (by decide), if_pos rfl]
        exact Tryz.bwrite_gate T.node T.arg ok2.1 ok2.2 a _ cap la _ lc B out sv w hB hT hown (by omega)
      · by_cases h2 : T.kind = 2
        · rw [h2, if_neg (by decide), if_neg (by decide), if_neg (by decide), if_pos rfl]
          exact Tryz.bwrite_leaf T.node T.arg ok2.1 ok2.2 a _ cap la _ lc B out sv w hB hT hown (by omega)
        · by_cases h1 : T.kind = 1
          · have := Tryz.bwrite_mark T.kind T.node T.arg (.inl h1) a T.ks.length cap la T.ls.length lc B out sv w hB hown (by omega)
            rw [if_pos h1] at this ⊢
            exact this
          · have h10 : T.kind = 10 := by omega
            have := Tryz.bwrite_mark T.kind T.node T.arg (.inr h10) a T.ks.length cap la T.ls.length lc B out sv w hB hown (by omega)
            rw [if_neg h1] at this ⊢
            rw [if_pos h10]
            exact this

end Go.Proofs

namespace Go.Proofs
open Go.RowKit

theorem Bk.shown_writ (B bw : Nat) : Bk.Shown Bl.writB 20 #[] (fun _ _ => True) (fun _ => False) B bw where
  enters := enters_of Tryz.func20 (by kernel_rfl) rfl
  calls := fun s W k n r a len c al cl ls _ _ hB hL hn => (Tryz.writable_any k n r a len c al cl B ls W hL hB hn).mono fun _ _ q => ⟨q.1, trivial, Tk.But.of_below q.2⟩
  keeps := fun _ _ _ _ _ => trivial
  above := fun k hk => hk.elim
  not_bw := fun h => h

/-- Numbers that machines have, and no more links than they count. -/
def Bl.intB (_ n r : Int) (ls : List (Int × Int × Int)) : Bool := (decide (n ≤ 9223372036854775807 ∧ r ≤ 9223372036854775807) && ls.all fun x => decide ((-9223372036854775808 ≤ x.1 ∧ x.1 ≤ 9223372036854775807) ∧ (-9223372036854775808 ≤ x.2.1 ∧ x.2.1 ≤ 9223372036854775807) ∧ (-9223372036854775808 ≤ x.2.2 ∧ x.2.2 ≤ 9223372036854775807)))
mutual
theorem Bl.ok_of : ∀ T : Bl, T.allP Bl.writB = true → T.allP Bl.intB = true → T.allP Bl.okB = true
  | .mk k n r ks ls, h1, h2 => by
    rw [Bl.allP, Bool.and_eq_true] at h1 h2 ⊢
    refine ⟨?_, Bl.oks_of ks h1.2 h2.2⟩
    rw [Bl.okB, Bool.and_eq_true]
    exact ⟨h1.1, h2.1⟩
theorem Bl.oks_of : ∀ l : List Bl, Bl.allPs Bl.writB l = true → Bl.allPs Bl.intB l = true → Bl.allPs Bl.okB l = true
  | [], _, _ => by rw [Bl.allPs]
  | k :: r, h1, h2 => by
    rw [Bl.allPs, Bool.and_eq_true] at h1 h2 ⊢
    exact ⟨Bl.ok_of k h1.1 h2.1, Bl.oks_of r h1.2 h2.2⟩
end
theorem Bl.dec_pos (u : Nat) : 1 ≤ (Lib.decDigits u).length := by
  unfold Lib.decDigits
  split <;> simp
theorem Bl.text_pos (T : Bl) : 1 ≤ T.textL.length := by
  have h1 : 1 ≤ (Lib.itoa T.node).length := by
    unfold Lib.itoa
    split
    · simp
    · exact Bl.dec_pos _
  rw [Bl.textL_eq]
  (repeat' split) <;> first | exact h1 | simp

/-- Text's answer. -/
def Bl.textR (T : Bl) : List UInt8 × Int := if T.tooB = true then ([], 2) else if T.allP Bl.writB = true then (T.textL, 0) else ([], 4)

set_option maxRecDepth 20000 in
set_option maxHeartbeats 4000000 in
theorem Tryz.btext_any (d : Nat) (T : Bl) (v lv : Value) (w : World) (hT : Bl.Lies w w.heap.size d v lv T) (hO : Bk.Names w) (hTab : Lib.TabIs Tryz.prog w "internal/strconv.uint64pow10" .u64 Lib.pow10Tab) (hsz : T.size ≤ 2147483647) (hdp : T.depth ≤ 1000) (hlk : T.allP (fun _ _ _ ls => decide (ls.length ≤ 2147483647)) = true) (hin : T.allP Bl.intB = true) (hrm : T.room ≤ 800000000) :
    Calls Tryz.prog 9 #[.agg #[.int .i64 T.kind, .int .i64 T.node, .int .i64 T.arg, v, lv]] w fun e w' => e = .returned (.tuple #[.string ⟨T.textR.1.toArray⟩, .int .i64 T.textR.2]) ∧ Below w.heap.size w w' := by
  obtain ⟨a, cap, rfl⟩ := hT.shape
  obtain ⟨al, cl, rfl⟩ := hT.links.shape
  obtain ⟨o, ho⟩ : ∃ o, T.kind = o := ⟨_, rfl⟩
  obtain ⟨m, hm⟩ : ∃ m, T.node = m := ⟨_, rfl⟩
  obtain ⟨r, hr⟩ : ∃ m, T.arg = m := ⟨_, rfl⟩
  obtain ⟨n, hn⟩ : ∃ n, T.ks.length = n := ⟨_, rfl⟩
  obtain ⟨nl, hnl⟩ : ∃ n, T.ls.length = n := ⟨_, rfl⟩
  rw [ho, hm, hr, hn, hnl]
  rw [hn, hnl] at hT
  obtain ⟨w0, hw0⟩ : ∃ x, w.alloc (.cells #[.int .i64 o, .int .i64 m, .int .i64 r, .slice a n cap, .slice al nl cl] 29) = x := ⟨_, rfl⟩
  obtain ⟨B, hBB⟩ : ∃ x, w.heap.size = x := ⟨_, rfl⟩
  have A0 : Below B w w0 := by rw [← hw0, ← hBB]; exact (Below.refl _ w).alloc (Nat.le_refl _) _
  have C0 : w0.heap[B]? = some (.cells #[.int .i64 o, .int .i64 m, .int .i64 r, .slice a n cap, .slice al nl cl] 29 (0, 0)) := by rw [← hw0, ← hBB]; exact heap_alloc_new w _
  have hs0 : B + 1 ≤ w0.heap.size := by rw [← hw0, ← hBB]; simp
  rw [hBB] at hT
  have h1 := Tryz.tooLarge_any d T (.slice a n cap) (.slice al nl cl) w0 ((hT.below A0).wider (by omega)) (by omega) hsz hlk
  rw [ho, hm, hr] at h1
  obtain ⟨tb, htb⟩ : ∃ b, T.tooB = b := ⟨_, rfl⟩
  rw [htb] at h1
  have H1 : Hid (Calls Tryz.prog 18 #[.agg #[.int .i64 o, .int .i64 m, .int .i64 r, .slice a n cap, .slice al nl cl]] w0 fun e w' => e = .returned (.bool tb) ∧ Hid (Below B w w' ∧ w'.heap[B]? = some (.cells #[.int .i64 o, .int .i64 m, .int .i64 r, .slice a n cap, .slice al nl cl] 29 (0, 0)))) := h1.mono fun _ w' h => ⟨h.1, A0.trans (h.2.mono (by omega)), (h.2.block B (by omega)).trans C0⟩
  have HM : Hid (Bl.Lies w B d (.slice a n cap) (.slice al nl cl) T ∧ T.kind = o ∧ T.node = m ∧ T.arg = r ∧ T.tooB = tb) := ⟨hT, ho, hm, hr, htb⟩
  have HB : Hid (w.heap.size = B ∧ 0 < B ∧ T.size ≤ 2147483647 ∧ T.depth ≤ 1000 ∧ T.allP (fun _ _ _ ls => decide (ls.length ≤ 2147483647)) = true ∧ T.allP Bl.intB = true ∧ T.room ≤ 800000000) := ⟨hBB, by rw [← hBB]; exact hO.lt, hsz, hdp, hlk, hin, hrm⟩
  have HO : Hid (Bk.Names w ∧ Lib.TabBelow Tryz.prog B w "internal/strconv.uint64pow10" .u64 Lib.pow10Tab) := ⟨hO, by rw [← hBB]; exact Lib.tabBelow_of_tabIs hTab⟩
  have HW0 : Hid (w.alloc (.cells #[.int .i64 o, .int .i64 m, .int .i64 r, .slice a n cap, .slice al nl cl] 29) = w0) := hw0
  have hu := Tryz.underlying29
  obtain ⟨tx, htx⟩ : ∃ z, T.textR = z := ⟨_, rfl⟩
  rw [htx]
  have HTX : Hid (T.textR = tx) := htx
  have C0c := Bk.box5 C0
  obtain ⟨k0, k1, k2, k3, k4⟩ := C0c
  clear hw0 h1 hT ho hm hr hn hnl A0 C0 hO hTab hsz hdp hlk hin hrm htb hs0 htx
  rw [hBB]
  go_enter Tryz.func9, Tryz.ntmps9
  go_wp2_with fail
  rw [HW0.out]
  refine Calls.mono H1.out ?_
  rintro e W1 ⟨rfl, B1⟩
  clear H1 HW0 k0 k1 k2 k3 k4
  cases tb with
  | true =>
    have HX : Hid (tx = ([], 2)) := by show _ = _; rw [← HTX.out]; unfold Bl.textR; rw [if_pos HM.out.2.2.2.2]
    go_wp2
    go_ret2
    exact ⟨by rw [HX.out]; rfl, B1.out.1⟩
  | false =>
    obtain ⟨k0, k1, k2, k3, k4⟩ := Bk.box5 B1.out.2
    have h2 := Tryz.bthrough_any (B := B) d T (.slice a n cap) (.slice al nl cl) W1 (fun bw _ => Bk.shown_writ B bw) (HM.out.1.below B1.out.1) HB.out.2.1 (by have h := B1.out.1.size; rw [HB.out.1] at h; exact h) trivial (fun k hk => hk.elim) HB.out.2.2.1 HB.out.2.2.2.2.1
    rw [HM.out.2.1, HM.out.2.2.1, HM.out.2.2.2.1] at h2
    obtain ⟨q, hq⟩ : ∃ q, T.allP Bl.writB = q := ⟨_, rfl⟩
    have hBW : B ≤ W1.heap.size := by have h := B1.out.1.size; rw [HB.out.1] at h; exact h
    have hB1 : B < W1.heap.size := (Array.getElem?_eq_some_iff.1 B1.out.2).1
    have H2 : Hid (Calls Tryz.prog 19 #[.agg #[.int .i64 o, .int .i64 m, .int .i64 r, .slice a n cap, .slice al nl cl], .func (.func 20) #[] #[]] W1 fun e w' => e = .returned (.bool q) ∧ Hid (Below B w w' ∧ w'.heap[B]? = some (.cells #[.int .i64 o, .int .i64 m, .int .i64 r, .slice a n cap, .slice al nl cl] 29 (0, 0)))) := by
      refine h2.mono ?_
      rintro e w' ⟨hbt, hend⟩
      have hb := hbt.below (Nat.le_refl _) (fun k _ h => h)
      refine ⟨?_, B1.out.1.trans (hb.mono hBW), (hb.block B hB1).trans B1.out.2⟩
      rcases hend with ⟨x1, x2, x3, rfl, x4⟩ | ⟨x1, rfl⟩
      · rw [← hq, x3]
      · have hqf : q = false := by
          cases q with
          | false => rfl
          | true => exact (x1 ⟨HB.out.2.2.2.1, HB.out.2.2.1, hq⟩).elim
        rw [hqf]
    have HQ : Hid (T.allP Bl.writB = q) := hq
    clear h2 hq hBW hB1
    go_wp2_with fail
    refine Calls.mono H2.out ?_
    rintro e W2 ⟨rfl, B2⟩
    clear H2 k0 k1 k2 k3 k4
    cases q with
    | false =>
      have HX : Hid (tx = ([], 4)) := by show _ = _; rw [← HTX.out]; unfold Bl.textR; rw [if_neg (by rw [HM.out.2.2.2.2]; simp), if_neg (by rw [HQ.out]; simp)]
      go_wp2
      go_ret2
      exact ⟨by rw [HX.out]; rfl, B2.out.1⟩
    | true =>
      have HX : Hid (tx = (T.textL, 0)) := by show _ = _; rw [← HTX.out]; unfold Bl.textR; rw [if_neg (by rw [HM.out.2.2.2.2]; simp), if_pos HQ.out]
      obtain ⟨k0, k1, k2, k3, k4⟩ := Bk.box5 B2.out.2
      have hBW : B ≤ W2.heap.size := by have h := B2.out.1.size; rw [HB.out.1] at h; exact h
      have h3 := Tryz.bwrite_any d T (.slice a n cap) (.slice al nl cl) B [] (.slice none 0 0) W2 (HM.out.1.below B2.out.1) (Bl.ok_of T HQ.out HB.out.2.2.2.2.2.1) hBW (HO.out.1.below B2.out.1 HB.out.2.1) HB.out.2.1 (HO.out.2.on B2.out.1) (World.ownsRow_nil _ _ _ _) (by simp only [List.length_nil]; have := HB.out.2.2.2.2.2.2; omega)
      rw [HM.out.2.1, HM.out.2.2.1, HM.out.2.2.2.1, List.nil_append] at h3
      have hpos := T.text_pos
      obtain ⟨bs, hbs⟩ : ∃ z, T.textL = z := ⟨_, rfl⟩
      rw [hbs] at h3 hpos HX
      have H3 : Hid _ := h3
      have HP : Hid (1 ≤ bs.length) := hpos
      clear h3 hpos hbs hBW
      go_wp2_with fail
      refine Calls.mono H3.out ?_
      rintro e W3 ⟨v3, rfl, X3⟩
      have B3 : Hid (Below B w W3) := B2.out.1.trans X3.out.below
      obtain ⟨ca, cc, rfl⟩ := Tk.own_shape X3.out.own
      have p2 := X3.out.own
      rcases p2.2 with ⟨_, hz⟩ | ⟨g, cap2, cur, hv, _⟩
      · have := HP.out; omega
      · simp only [Value.slice.injEq] at hv
        obtain ⟨rfl, -, rfl⟩ := hv
        have hcv := run_convert_bytes_back (P := Tryz.prog) W3 66 9 5 ⟨g, 0, none⟩ cc bs Tryz.underlying66 Tryz.underlying5 Tryz.underlying9 (fun j hj => p2.cells (g := g) rfl j _ (by simp [Lib.byteCells, hj]))
        clear H3 p2 X3 k0 k1 k2 k3 k4
        go_wp2
        go_ret2
        exact ⟨by rw [HX.out]; rfl, B3.out⟩

end Go.Proofs
