/-
  The walk of MarkBack: what was written is read, mark by mark.
-/
import Derived.Test.YtjijfbcmhjcfaaaDoorMBackArg
import Derived.Test.YtjijfbcmhjcfaaaDoorLawLarge
import Derived.Test.YtjijfbcmhjcfaaaDoorLawSame
import Derived.Test.YtjijfbcmhjcfaaaDoorOpens
import Derived.Deep.DeepCutAuto
namespace Go.Proofs
open Go.RowKit
open Go.Proofs.Mk

theorem Mk.wr_le (c : Int) : (wrL c).length ≤ 6 := by
  unfold wrL
  split
  · simp
  · unfold signL
    repeat' split
    all_goals simp
theorem Mk.esc_le (l : List UInt8) : (Mk.escF l).length ≤ 6 * l.length := by
  induction l with
  | nil => simp [Mk.escF]
  | cons c r ih =>
    have h1 := Mk.wr_le (c.toNat : Int)
    have h2 : Mk.escF (c :: r) = wrL (c.toNat : Int) ++ Mk.escF r := by simp [Mk.escF]
    rw [h2, List.length_append, List.length_cons]
    omega
theorem Mk.attrs_le : ∀ xs : List (ByteArray × ByteArray), (∀ x ∈ xs, x.1.size ≤ 3000 ∧ x.2.size ≤ 3000) → (Mk.attrsW xs).length ≤ 22000 * xs.length
  | [], _ => by simp [Mk.attrsW]
  | a :: r, h => by
    have h1 := Mk.attrs_le r (fun x hx => h x (by simp [hx]))
    have h2 : Mk.attrsW (a :: r) = Mk.attrW a ++ Mk.attrsW r := by simp [Mk.attrsW]
    have h3 := h a (by simp)
    have h4 := Mk.esc_le a.2.data.toList
    rw [Mk.size_list] at h4
    have h5 : (Mk.attrW a).length = a.1.size + (Mk.escF a.2.data.toList).length + 4 := by
      simp only [Mk.attrW, List.length_cons, List.length_append, Mk.size_list, List.length_nil]
      omega
    rw [h2, List.length_append, List.length_cons]
    omega
/-- How many bytes a mark that is gone through has. -/
theorem Mk.wMark_le (kd : Int) (nm tx : ByteArray) (xs : List (ByteArray × ByteArray)) (h : Mk.Small tx xs) : (Mk.wMark kd nm tx xs).1.size ≤ 3000000 := by
  have hname : nameL nm.data.toList = true → nm.size ≤ 24 := fun hn => by
    have := ((nameL_iff _).1 hn).1.2
    rw [Mk.size_list] at this
    exact this
  unfold Mk.wMark
  split
  · unfold Mk.wOpen
    split
    · rename_i hc
      have h1 := hname hc.1
      have h2 := Mk.attrs_le xs (fun x hx => by obtain ⟨j, hj, rfl⟩ := List.getElem_of_mem hx; exact h.2.2 j hj)
      have h3 := h.1
      show (Mk.openW nm xs ++ [62]).length ≤ _
      simp only [Mk.openW, List.length_append, List.length_cons, List.length_nil, Mk.size_list]
      omega
    · show (0 : Nat) ≤ _; omega
  · split
    · unfold Mk.wClose
      split
      · rename_i hc
        have h1 := hname hc.1
        simp only [ByteArray.size_append]
        show 2 + nm.size + 1 ≤ _
        omega
      · show (0 : Nat) ≤ _; omega
    · split
      · unfold Mk.wText
        split
        · show (0 : Nat) ≤ _; omega
        · unfold Mk.escText
          split
          · have := Mk.esc_le tx.data.toList
            rw [Mk.size_list] at this
            have h2 := h.2.1
            show (Mk.escF tx.data.toList).length ≤ _
            omega
          · show (0 : Nat) ≤ _; omega
      · show (0 : Nat) ≤ _; omega

/-- What the first loop goes on with. -/
structure Mk.BackR (w : World) (S : ByteArray) (u : Value) (l : List Mk.Wq) (W : World) : Prop where
  bytes : S.data.toList = (l.map fun q => q.m.q).flatMap Mk.wQ
  sep : Mk.Sep (l.map fun q => q.m.q)
  ok : ∀ q ∈ l, Mk.okQ q.m.q
  len : ∀ q ∈ l, q.m.xs.length ≤ 100
  want : Mk.Wants W w.heap.size u l
  below : Below w.heap.size w W
theorem Mk.BackR.step {w : World} {S : ByteArray} {u : Value} {l : List Mk.Wq} {W W' : World} (h : Mk.BackR w S u l W) (hb : Below W.heap.size W W') : Mk.BackR w S u l W' :=
  ⟨h.bytes, h.sep, h.ok, h.len, ⟨Mk.own_below h.want.row hb, fun q hq => Mk.own_below (h.want.attrs q hq) hb⟩, h.below.trans (hb.mono h.below.size)⟩

theorem Mk.mc_get : ∀ (qs : List (Mk.MarkV × Value)) (j : Nat) (h : j < qs.length) (i : Nat), i < 5 → (Mk.markCells qs)[j * 5 + i]? = (Mk.cellsOf qs[j])[i]?
  | [], j, h, i, hi => by simp at h
  | a :: r, 0, h, i, hi => by
    simp only [Mk.markCells, List.flatMap_cons, Nat.zero_mul, Nat.zero_add, List.getElem_cons_zero]
    rw [List.getElem?_append_left (by simpa [Mk.cellsOf] using hi)]
  | a :: r, j + 1, h, i, hi => by
    have := Mk.mc_get r j (by simpa using h) i hi
    have e1 : (j + 1) * 5 + i = (j * 5 + i) + 5 := by omega
    simp only [Mk.markCells, List.flatMap_cons, List.getElem_cons_succ] at *
    rw [e1, List.getElem?_append_right (by simp [Mk.cellsOf])]
    simpa [Mk.cellsOf] using this
theorem Mk.own_cell2 {w : World} {B : Nat} {e : TypeId} {size : Nat} {g m n cap : Nat} {cs : List Value} (h : w.ownsRow B e size (.slice (some ⟨g, 0, none⟩) m cap) n cs) (j : Nat) (u : Value) (hj : cs[j]? = some u) : w.cell? ⟨g, j, none⟩ = some u := by
  have h1 := h.cells rfl j u hj
  have ea : (⟨g, 0, none⟩ : Addr).add j = ⟨g, j, none⟩ := by unfold Addr.add; split <;> simp_all
  rw [ea] at h1
  exact h1

end Go.Proofs
namespace Go.Proofs.YtjijfbcmhjcfaaaDoor.MarkBack
open Go.RowKit
open Go.Proofs.Mk

set_option maxRecDepth 100000 in
set_option maxHeartbeats 16000000 in
theorem walk (l0 : List Mk.AM) (v : Value) (w : World) (hE : Mk.Esc w) (hA : Mk.ArgMarks w v l0) :
    Calls Tryd.prog 3 #[v] w fun e w' => e = .returned (.bool true) ∧ Below w.heap.size w w' := by
  obtain ⟨a0, cap0, rfl, hml, hA⟩ := hA
  obtain ⟨n, hn⟩ : ∃ n, l0.length = n := ⟨_, rfl⟩
  have HE : Hid (Mk.Esc w) := hE
  have HA : Hid _ := hA
  have HN : Hid (l0.length = n) := hn
  rw [hn] at hml ⊢
  unfold maxLen at hml
  have HOP : Hid (∀ W, Below w.heap.size w W → Calls Tryd.prog 9 #[] W fun e w' => e = .returned (.bool true) ∧ Below w.heap.size w w') := fun W hW => (Tryd.opens_true W (HE.out.kept (Mk.grown_of_below hW none) (by simp))).mono fun e w' ⟨he, hb⟩ => ⟨he, hW.trans (hb.mono hW.size)⟩
  clear hA hE hn
  by_cases h40 : 40 < n
  · have d40 : decide ((40 : Int) < n) = true := decide_eq_true (by omega)
    go_enter Tryd.func3, Tryd.ntmps3
    go_wp2_with fail
    refine Calls.mono (HOP.out _ (Below.refl _ _)) ?_
    rintro e W9 ⟨rfl, b9⟩
    go_wp2
    go_ret
    exact ⟨rfl, b9⟩
  have d40 : decide ((40 : Int) < n) = false := decide_eq_false (by omega)
  obtain ⟨i0, hi, hz0, hz1, hz2⟩ := info_parts Tryd.infoRMark
  have hu38 := Tryd.underlying27
  go_enter Tryd.func3, Tryd.ntmps3
  go_wp2
  go_loopg [3, 4, 19] n (fun g s u i wr => ∃ (j : Nat) (l : List Mk.Wq) (S : ByteArray) (ua : Option Addr) (ln uc : Nat), g + j = n ∧ i = .int .i64 j ∧ s = .string S ∧ u = .slice ua ln uc ∧ S.size ≤ 20000 ∧ ln ≤ j ∧ Hid (l.length = ln) ∧ Hid (Mk.BackR w S (.slice ua ln uc) l wr))
  case atStart =>
    exact ⟨0, [], ⟨#[]⟩, none, 0, 0, by omega, rfl, rfl, rfl, by show (0 : Nat) ≤ _; omega, by simp, rfl, (⟨rfl, trivial, (fun q hq => by cases hq), (fun q hq => by cases hq), ⟨World.ownsRow_nil _ _ _ _, (fun q hq => by cases hq)⟩, Below.refl _ _⟩ : Mk.BackR w ⟨#[]⟩ (.slice none 0 0) [] w)⟩
  case round =>
    obtain ⟨j, l, S, ua, ln, uc, hj, rfl, rfl, rfl, hS, hlj, HLN, HB⟩ := hrel
    by_cases hjn : j < n
    · have hd : decide ((j : Int) < n) = true := decide_eq_true (by omega)
      have hjk : j < l0.length := by rw [HN.out]; exact hjn
      obtain ⟨g, off, rfl, hg, q0, q1, q2, q3, q4, hok⟩ : ∃ g off, a0 = some ⟨g, off, none⟩ ∧ g < w.heap.size ∧ w.cell? ⟨g, off + j * 5, none⟩ = some (.int .i64 l0[j].kd) ∧ w.cell? ⟨g, off + j * 5 + 1, none⟩ = some (.int .i64 l0[j].at_) ∧
          w.cell? ⟨g, off + j * 5 + 2, none⟩ = some (.string l0[j].nm) ∧ w.cell? ⟨g, off + j * 5 + 3, none⟩ = some (.slice l0[j].a l0[j].xs.length l0[j].c) ∧ w.cell? ⟨g, off + j * 5 + 4, none⟩ = some (.string l0[j].tx) ∧ Mk.AMOk w l0[j] := by
        rcases HA.out with h | ⟨g, off, ha, hg, hr⟩
        · rw [h] at hjk; simp at hjk
        · obtain ⟨r0, r1, r2, r3, r4, r5⟩ := hr j hjk
          exact ⟨g, off, ha, hg, r0, r1, r2, r3, r4, r5⟩
      obtain ⟨m, hm⟩ : ∃ m, l0[j] = m := ⟨_, rfl⟩
      rw [hm] at q0 q1 q2 q3 q4 hok
      obtain ⟨kd, at_, nm, tx, pa, pc, xs⟩ := m
      simp only at q0 q1 q2 q3 q4
      obtain ⟨nx, hnx⟩ : ∃ k, xs.length = k := ⟨_, rfl⟩
      have HK : Hid (Mk.AMOk w ⟨kd, at_, nm, tx, pa, pc, xs⟩) := hok
      rw [hnx] at q3
      have HX : Hid (xs.length = nx) := hnx
      have hc : ∀ p, wr.cell? ⟨g, p, none⟩ = w.cell? ⟨g, p, none⟩ := fun p => HB.out.below.cell (p := ⟨g, p, none⟩) hg
      have c0 : wr.cell? ⟨g, off + j * 5, none⟩ = some (.int .i64 kd) := by rw [hc]; exact q0
      have c1 : wr.cell? ⟨g, off + j * 5 + 1, none⟩ = some (.int .i64 at_) := by rw [hc]; exact q1
      have c2 : wr.cell? ⟨g, off + j * 5 + 2, none⟩ = some (.string nm) := by rw [hc]; exact q2
      have c3 : wr.cell? ⟨g, off + j * 5 + 3, none⟩ = some (.slice pa nx pc) := by rw [hc]; exact q3
      have c4 : wr.cell? ⟨g, off + j * 5 + 4, none⟩ = some (.string tx) := by rw [hc]; exact q4
      obtain ⟨w0, hw0⟩ : ∃ x, wr.alloc (.cells #[.int .i64 kd, .int .i64 at_, .string nm, .slice pa nx pc, .string tx] 27) = x := ⟨_, rfl⟩
      have B0 : Hid (Below wr.heap.size wr w0) := by show Below _ _ _; rw [← hw0]; exact (Below.refl _ wr).alloc (Nat.le_refl _) _
      have D0 : Hid (Below w.heap.size w w0) := HB.out.below.trans (B0.out.mono HB.out.below.size)
      have X0 : w0.heap[wr.heap.size]? = some (.cells #[.int .i64 kd, .int .i64 at_, .string nm, .slice pa nx pc, .string tx] 27 (0, 0)) := by rw [← hw0]; exact heap_alloc_new wr _
      have HX0 : Hid _ := X0
      have hX : (wr.alloc (.cells #[.int .i64 kd, .int .i64 at_, .string nm, .slice pa nx pc, .string tx] 27)).heap[wr.heap.size]? = some (.cells #[.int .i64 kd, .int .i64 at_, .string nm, .slice pa nx pc, .string tx] 27 (0, 0)) := heap_alloc_new wr _
      have h1 := Tryd.large_any kd at_ nm tx pa pc xs w0 (HK.out.row.below D0.out) HK.out.xs.1 HK.out.tx HK.out.xs.2
      rw [hnx] at h1
      have H1 : Hid _ := h1
      have HW0 : Hid (wr.alloc (.cells #[.int .i64 kd, .int .i64 at_, .string nm, .slice pa nx pc, .string tx] 27) = w0) := hw0
      clear hc q0 q1 q2 q3 q4 hm hok h1 hw0 hnx X0
      go_wp2_with (refine wpList_load_row rfl 27 _ rfl _ rfl 27 _ (0, 0) _ hX hu38 rfl (by kernel_rfl) ?_)
      go_wp2_with fail
      rw [HW0.out]
      refine Calls.mono H1.out ?_
      rintro e W1 ⟨⟨b, rfl, hSm⟩, b1⟩
      have B1 : Hid (Below wr.heap.size wr W1) := B0.out.trans (b1.mono B0.out.size)
      have D1 : Hid (Below w.heap.size w W1) := HB.out.below.trans (B1.out.mono HB.out.below.size)
      have X1 : W1.heap[wr.heap.size]? = some (.cells #[.int .i64 kd, .int .i64 at_, .string nm, .slice pa nx pc, .string tx] 27 (0, 0)) := by rw [b1.block _ (Array.getElem?_eq_some_iff.1 HX0.out).1]; exact HX0.out
      have HX1 : Hid _ := X1
      have HSM : Hid (b = false → Mk.Small tx xs) := hSm
      clear b1 hSm H1 hX HW0 c0 c1 c2 c3 c4 HX0 B0 D0
      cases b
      rotate_left
      · clear X1
        go_wp2_with fail
        refine Calls.mono (HOP.out _ D1.out) ?_
        rintro e W9 ⟨rfl, b9⟩
        have B9 : Hid (Below w.heap.size w W9) := b9
        clear b9
        go_wp2
        go_ret
        exact ⟨rfl, B9.out⟩
      have hSmall := HSM.out rfl
      have HS3 : Hid (xs.length ≤ 100) := hSmall.1
      have h2 := Tryd.write_any kd at_ nm tx pa pc xs W1 (HE.out.kept (Mk.grown_of_below D1.out none) (by simp)) (HK.out.row.below D1.out) HK.out.nm (fun i hi => ⟨by have := (hSmall.2.2 i hi).1; omega, by have := (hSmall.2.2 i hi).2; omega⟩) (by have := hSmall.2.1; omega)
      obtain ⟨⟨r1, r2⟩, hr⟩ : ∃ r, Mk.wMark kd nm tx xs = r := ⟨_, rfl⟩
      have hr1 : r1.size ≤ 3000000 := by have := Mk.wMark_le kd nm tx xs hSmall; rw [hr] at this; exact this
      rw [hr, HX.out] at h2
      have H2 : Hid _ := h2
      have HR : Hid (Mk.wMark kd nm tx xs = (r1, r2)) := hr
      clear h2 hr hSmall HSM
      go_wp2_with (refine wpList_load_row rfl 27 _ rfl _ rfl 27 _ (0, 0) _ X1 hu38 rfl (by kernel_rfl) ?_)
      go_wp2_with fail
      refine Calls.mono H2.out ?_
      rintro e W2 ⟨rfl, b2⟩
      have B2 : Hid (Below wr.heap.size wr W2) := B1.out.trans (b2.mono B1.out.size)
      have D2 : Hid (Below w.heap.size w W2) := HB.out.below.trans (B2.out.mono HB.out.below.size)
      have HB2 : Hid (Mk.BackR w S (.slice ua ln uc) l W2) := HB.out.step B2.out
      have X2 : W2.heap[wr.heap.size]? = some (.cells #[.int .i64 kd, .int .i64 at_, .string nm, .slice pa nx pc, .string tx] 27 (0, 0)) := by rw [b2.block _ (Array.getElem?_eq_some_iff.1 HX1.out).1]; exact HX1.out
      have HX2 : Hid _ := X2
      have x0 : W2.cell? ⟨wr.heap.size, 0, none⟩ = some (.int .i64 kd) := by simp [World.cell?, X2]
      clear b2 H2 X1 X2 HX1 B1 D1
      obtain ⟨lk, hlk⟩ : ∃ b : Bool, b = (match l.getLast? with | some z => z.m.kd == 3 | none => false) := ⟨_, rfl⟩
      have HLK : Hid (lk = (match l.getLast? with | some z => z.m.kd == 3 | none => false)) := hlk
      obtain ⟨sk, hsk⟩ : ∃ b : Bool, b = ((r2 != 0) || (decide (0 < ln) && (kd == 3) && lk)) := ⟨_, rfl⟩
      have HSK : Hid (sk = ((r2 != 0) || (decide (0 < ln) && (kd == 3) && lk))) := hsk
      clear hlk hsk
      go_upto_region 11 with fail
      go_cut [4, 52] (fun u c wx => u = .slice ua ln uc ∧ c = .bool sk ∧ wx = W2)
      case first =>
        by_cases hr2 : r2 = 0
        · have e0 : (r2 != 0) = false := by simpa using hr2
          cases ln with
          | zero =>
            have HF : Hid (sk = false) := by show _ = _; rw [HSK.out, hr2]; simp
            clear hr2
            go_wp2
            go_meet
            exact ⟨rfl, by rw [HF.out], rfl⟩
          | succ k =>
            by_cases h3 : kd = 3
            · have e3 : (kd == 3) = true := by simpa using h3
              obtain ⟨gw, hgw, hcell⟩ : ∃ gw, ua = some ⟨gw, 0, none⟩ ∧ W2.cell? ⟨gw, k * 5, none⟩ = some (.int .i64 (l[k]'(by have := HLN.out; omega)).m.kd) := by
                have hrow := HB2.out.want.row
                obtain ⟨gw, hgw⟩ : ∃ gw, ua = some ⟨gw, 0, none⟩ := by
                  rcases hrow.2 with ⟨_, h0⟩ | ⟨g', cap, cur, hv, _⟩
                  · have := HLN.out; omega
                  · simp only [Value.slice.injEq] at hv
                    exact ⟨g', hv.1⟩
                subst hgw
                refine ⟨gw, rfl, ?_⟩
                rw [HLN.out] at hrow
                have := Mk.own_cell hrow (k * 5 + 0) _ ((Mk.wqsCells_get l k (by have := HLN.out; omega) 0 (by omega)).trans rfl)
                simpa using this
              obtain ⟨zk, hzk⟩ : ∃ z, (l[k]'(by have := HLN.out; omega)).m.kd = z := ⟨_, rfl⟩
              have HF : Hid (sk = (zk == 3)) := by
                show _ = _
                have hlast : l.getLast? = some (l[k]'(by have := HLN.out; omega)) := by
                  rw [List.getLast?_eq_getElem?, show l.length - 1 = k by have := HLN.out; omega]
                  exact List.getElem?_eq_getElem _
                rw [HSK.out, HLK.out, hlast, hr2, h3]
                simp [hzk]
              rw [hzk] at hcell
              subst hgw
              have hb1 : (k : Int) + 1 - 1 = k := by omega
              clear hr2 h3 hzk
              cases hz3 : (zk == 3)
              all_goals
                have HF' : Hid _ := HF.out.trans hz3
                go_wp2
                go_meet
                exact ⟨rfl, by rw [HF'.out], rfl⟩
            · have e3 : (kd == 3) = false := by simpa using h3
              have HF : Hid (sk = false) := by show _ = _; rw [HSK.out, hr2, e3]; simp
              clear hr2 h3
              go_wp2
              go_meet
              exact ⟨rfl, by rw [HF.out], rfl⟩
        · have e0 : (r2 != 0) = true := by simpa using hr2
          have HF : Hid (sk = true) := by show _ = _; rw [HSK.out, e0]; simp
          clear hr2
          go_wp2
          go_meet
          exact ⟨rfl, by rw [HF.out], rfl⟩
      case rest =>
      obtain ⟨rfl, rfl, hwc⟩ := hcut
      subst hwc
      cases sk
      rotate_left
      · go_wp2
        go_roundg (gk - 1)
        case measure => omega
        case rel => exact ⟨j + 1, l, S, ua, ln, uc, by omega, by go_num, rfl, rfl, hS, by omega, HLN.out, HB2.out⟩
      have X2 := HX2.out
      have hr2 : r2 = 0 := by
        have := HSK.out
        cases hb : (r2 != 0)
        · simpa using hb
        · rw [hb] at this; simp at this
      have HSEP : Hid (∀ x, (l.map fun q => q.m.q).getLast? = some x → ¬ (x.1 = 3 ∧ kd = 3)) := by
        intro x hx ⟨hx3, hk3⟩
        have h1 := HSK.out
        rw [List.getLast?_map] at hx
        cases hl : l.getLast? with
        | none => rw [hl] at hx; simp at hx
        | some z =>
          rw [hl] at hx
          simp only [Option.map_some, Option.some.injEq] at hx
          have h2 := HLK.out
          rw [hl] at h2
          have h3 : z.m.kd = 3 := by rw [← hx] at hx3; exact hx3
          have h4 : 0 < ln := by
            rw [← HLN.out]
            cases l with
            | nil => simp at hl
            | cons _ _ => simp
          rw [h2, hk3] at h1
          simp [h3, h4] at h1
      have HOKQ : Hid (Mk.okQ (kd, nm, tx, xs) ∧ Mk.wQ (kd, nm, tx, xs) = r1.data.toList) := by
        constructor
        · show (Mk.wMark kd nm tx xs).2 = 0; rw [HR.out]; exact hr2
        · show (Mk.wMark kd nm tx xs).1.data.toList = _; rw [HR.out]
      have h3 := Tryd.lawref_any kd at_ nm tx (.slice pa nx pc) xs _ (by have := HK.out.row.below D2.out; rw [HX.out] at this; exact this) (by have := HS3.out; omega)
      rw [HX.out] at h3
      have H3 : Hid _ := h3
      clear h3 hr2 HR HLK HSK
      go_wp2_with (refine wpList_load_row rfl 27 _ rfl _ rfl 27 _ (0, 0) _ X2 hu38 rfl (by kernel_rfl) ?_)
      go_wp2_with fail
      refine Calls.mono H3.out ?_
      rintro e W3 ⟨b3, vb, rfl, o3⟩
      obtain ⟨av, cv, rfl⟩ := Mk.own_shape o3
      have D3 : Hid (Below w.heap.size w W3) := D2.out.trans (b3.mono D2.out.size)
      have HB3 : Hid (Mk.BackR w S (.slice ua ln uc) l W3) := HB2.out.step b3
      have O3 : Hid (W3.ownsRow w.heap.size 72 2 (.slice av nx cv) nx (Mk.attrCells xs)) := Mk.own_base o3 D2.out.size
      have hrow := HB3.out.want.row
      rw [HLN.out] at hrow
      clear b3 o3 H3 X2 x0
      go_wp2_with (at_builtin; refine wpList_append_own _ rfl _ _ 24 rfl w.heap.size 34 i0 _ 5 72 Tryd.underlying24 hi hz0 hz1 hz2 rfl (by decide) _ _ _ rfl (hrow.alloc _) ⟨W3.heap.size, 0, none⟩ 1 1 [.int .i64 kd, .int .i64 at_, .string nm, .slice av nx cv, .string tx] rfl rfl ?c1 ?c2 ?c3 ?c4 ?c5 ?_)
      case c1 =>
        intro j u hj
        match j, hj with
        | 0, hj => simp at hj; subst hj; simp [Addr.add]
        | 1, hj => simp at hj; subst hj; simp [Addr.add]
        | 2, hj => simp at hj; subst hj; simp [Addr.add]
        | 3, hj => simp at hj; subst hj; simp [Addr.add]
        | 4, hj => simp at hj; subst hj; simp [Addr.add]
      case c2 => intro u hu; simp at hu; rcases hu with rfl | rfl | rfl | rfl | rfl <;> rfl
      case c3 => unfold maxLen; omega
      case c4 => omega
      case c5 => have := D3.out.size; simp; omega
      intro v6 W6 O6 g6 _
      obtain ⟨a6, c6, rfl⟩ := Mk.own_shape O6
      have HB6 : Hid (Mk.BackR w (S ++ r1) (.slice a6 (ln + 1) c6) (l ++ [⟨⟨kd, at_, nm, tx, pa, pc, xs⟩, .slice av nx cv⟩]) W6) := by
        have hlt := (hrow.alloc (Obj.cells #[.int .i64 kd, .int .i64 at_, .string nm, .slice av nx cv, .string tx] 34)).lt
        have D4 : Below w.heap.size w (W3.alloc (.cells #[.int .i64 kd, .int .i64 at_, .string nm, .slice av nx cv, .string tx] 34)) := D3.out.alloc D3.out.size _
        refine ⟨?_, ?_, ?_, ?_, ⟨?_, ?_⟩, ?_⟩
        · rw [List.map_append, List.flatMap_append, ← HB3.out.bytes, ByteArray.data_append, Array.toList_append]
          simp only [List.map_cons, List.map_nil, List.flatMap_cons, List.flatMap_nil, List.append_nil, Mk.AM.q, HOKQ.out.2]
        · rw [List.map_append]
          exact Mk.Sep_snoc _ _ HB3.out.sep HSEP.out
        · intro q hq
          rcases List.mem_append.1 hq with hq | hq
          · exact HB3.out.ok q hq
          · simp only [List.mem_singleton] at hq
            subst hq
            exact HOKQ.out.1
        · intro q hq
          rcases List.mem_append.1 hq with hq | hq
          · exact HB3.out.len q hq
          · simp only [List.mem_singleton] at hq
            subst hq
            exact HS3.out
        · rw [Mk.wqsCells_append, List.length_append, HLN.out]; exact O6
        · intro q hq
          rcases List.mem_append.1 hq with hq | hq
          · exact Mk.own_other ((HB3.out.want.attrs q hq).alloc _) (hrow.alloc _) (by decide) g6
          · simp only [List.mem_singleton] at hq
            subst hq
            have := Mk.own_other (O3.out.alloc _) (hrow.alloc _) (by decide) g6
            rw [← HX.out] at this
            rw [← HX.out]
            exact this
        · exact D4.trans ⟨g6.os, g6.tape, g6.output, g6.size, fun k hk => g6.block k (by have := D4.size; omega) (by intro e; have := (hlt _ e.symm).1; omega)⟩
      have HLE : Hid ((l ++ [(⟨⟨kd, at_, nm, tx, pa, pc, xs⟩, .slice av nx cv⟩ : Mk.Wq)]).length = ln + 1) := by show _ = _; rw [List.length_append, HLN.out]; rfl
      have hsz : (S ++ r1).size = S.size + r1.size := ByteArray.size_append
      clear O6 g6 hrow HB3 O3
      by_cases hlong : 20000 < S.size + r1.size
      · have dl : decide ((20000 : Int) < (S.size : Int) + r1.size) = true := decide_eq_true (by omega)
        have dl' : decide ((20000 : Int) < ((S ++ r1).size : Int)) = true := decide_eq_true (by omega)
        go_wp2_with fail
        refine Calls.mono (HOP.out _ HB6.out.below) ?_
        rintro e W9 ⟨rfl, b9⟩
        have B9 : Hid (Below w.heap.size w W9) := b9
        clear b9
        go_wp2
        go_ret
        exact ⟨rfl, B9.out⟩
      · have dl : decide ((20000 : Int) < (S.size : Int) + r1.size) = false := decide_eq_false (by omega)
        have dl' : decide ((20000 : Int) < ((S ++ r1).size : Int)) = false := decide_eq_false (by omega)
        go_wp2
        go_roundg (gk - 1)
        case measure => omega
        case rel => exact ⟨j + 1, _, S ++ r1, a6, ln + 1, c6, by omega, by go_num, rfl, rfl, by omega, by omega, HLE.out, HB6.out⟩
    · have hd : decide ((j : Int) < n) = false := decide_eq_false (by omega)
      obtain ⟨rs, hrs, hrl, hlike⟩ := Mk.read_back (l.map fun q => q.m.q) (by intro q hq; obtain ⟨z, hz, rfl⟩ := List.mem_map.1 hq; exact HB.out.ok z hz) HB.out.sep 0
      have h1 := Tryd.read_any S wr (HE.out.kept (Mk.grown_of_below HB.out.below none) (by simp)) hS
      simp only [Mk.ReadEnd, HB.out.bytes, hrs] at h1
      have H1 : Hid _ := h1
      have hrl' : rs.length = ln := by rw [hrl, List.length_map]; exact HLN.out
      have HRL : Hid (rs.length = ln) := hrl'
      have HLI : Hid (∀ i (h1 : i < rs.length) (h2 : i < l.length), Mk.Like rs[i] (l[i].m.q)) := fun i h1 h2 => by
        have := hlike i h1 (by simpa using h2)
        simpa using this
      have hln : ln ≤ 40 := by omega
      clear h1 hrs hrl hlike hrl'
      go_wp2_with fail
      refine Calls.mono H1.out ?_
      rintro e W1 ⟨b1, v1, qs, rfl, hqs, o1⟩
      obtain ⟨av, cv, rfl⟩ := Mk.own_shape o1.row
      have hql : qs.length = ln := by rw [← HRL.out, ← hqs, List.length_map]
      have hme : ∀ k (h : k < qs.length) (h' : k < rs.length), qs[k].1 = rs[k] := by
        intro k h h'
        have h1 : (qs.map (·.1))[k]? = rs[k]? := by rw [hqs]
        rw [List.getElem?_map, List.getElem?_eq_getElem h, List.getElem?_eq_getElem h'] at h1
        exact Option.some.inj h1
      have HB1 : Hid (Mk.BackR w S (.slice ua ln uc) l W1) := HB.out.step b1
      have O1 : Hid (Mk.MarksOwn W1 wr.heap.size (.slice av qs.length cv) qs) := o1
      have HQL : Hid (qs.length = ln) := hql
      have HME : Hid (∀ k (h : k < qs.length) (h' : k < rs.length), qs[k].1 = rs[k]) := hme
      rw [hql]
      have hnn : ((ln : Int) != ln) = false := by simp
      clear b1 o1 hqs hql hme H1
      go_wp2
      go_loopg [83] ln (fun g i wx => ∃ k : Nat, g + k = ln ∧ i = .int .i64 k ∧ Hid (Below W1.heap.size W1 wx))
      case atStart => exact ⟨0, by omega, rfl, Below.refl _ _⟩
      case round =>
        rename World => wy
        obtain ⟨k, hk, rfl, HY⟩ := hrel
        by_cases hkl : k < ln
        · have hd2 : decide ((k : Int) < ln) = true := decide_eq_true (by omega)
          have k1 : k < qs.length := by rw [HQL.out]; exact hkl
          have k2 : k < rs.length := by rw [HRL.out]; exact hkl
          have k3 : k < l.length := by rw [HLN.out]; exact hkl
          obtain ⟨g, rfl⟩ : ∃ g, av = some ⟨g, 0, none⟩ := by
            rcases O1.out.row.2 with ⟨_, h0⟩ | ⟨g', cap, cur, hv, _⟩
            · omega
            · simp only [Value.slice.injEq] at hv
              exact ⟨g', hv.1⟩
          obtain ⟨gw, rfl⟩ : ∃ g, ua = some ⟨g, 0, none⟩ := by
            rcases HB1.out.want.row.2 with ⟨_, h0⟩ | ⟨g', cap, cur, hv, _⟩
            · omega
            · simp only [Value.slice.injEq] at hv
              exact ⟨g', hv.1⟩
          have hlike := HLI.out k k2 k3
          have hq := HME.out k k1 k2
          have hlen := HB1.out.len _ (List.getElem_mem k3)
          have o1 := O1.out.attrs _ (List.getElem_mem k1)
          have o2 := HB1.out.want.attrs _ (List.getElem_mem k3)
          have r1 := fun i (hi : i < 5) => Mk.mc_get qs k k1 i hi
          have r2 := fun i (hi : i < 5) => Mk.wqsCells_get l k k3 i hi
          obtain ⟨⟨mk, va⟩, hqk⟩ : ∃ q, qs[k] = q := ⟨_, rfl⟩
          obtain ⟨⟨⟨kd, at_, nm, tx, pa, pc, xs⟩, vb⟩, hlk⟩ : ∃ q, l[k] = q := ⟨_, rfl⟩
          rw [hqk] at hq o1 r1
          rw [hlk] at hlike hlen o2 r2
          simp only at hq o1 o2 hlen
          rw [← hq] at hlike
          obtain ⟨mkd, mat, mnm, mat', mtx⟩ := mk
          obtain ⟨e1, e2, e3, e4⟩ := hlike
          simp only [Mk.AM.q] at e1 e2 e3 e4
          subst e2 e3 e4
          obtain ⟨pv, cv1, rfl⟩ := Mk.own_shape o1
          obtain ⟨pw, cw1, rfl⟩ := Mk.own_shape o2
          have hgl : g < W1.heap.size := (O1.out.row.lt g rfl).2
          have hgw : gw < W1.heap.size := (HB1.out.want.row.lt gw rfl).2
          have R1 : ∀ i (hi : i < 5) u, (Mk.cellsOf (⟨mkd, mat, mnm, mat', mtx⟩, .slice pv mat'.length cv1))[i]? = some u → wy.cell? ⟨g, k * 5 + i, none⟩ = some u := by
            intro i hi u hu
            rw [HY.out.cell (p := ⟨g, k * 5 + i, none⟩) hgl]
            exact Mk.own_cell2 O1.out.row _ _ (by rw [r1 i hi]; exact hu)
          have R2 : ∀ i (hi : i < 5) u, (Mk.wqCells ⟨⟨kd, at_, mnm, mtx, pa, pc, mat'⟩, .slice pw mat'.length cw1⟩)[i]? = some u → wy.cell? ⟨gw, k * 5 + i, none⟩ = some u := by
            intro i hi u hu
            rw [HY.out.cell (p := ⟨gw, k * 5 + i, none⟩) hgw]
            exact Mk.own_cell2 HB1.out.want.row _ _ (by rw [r2 i hi]; exact hu)
          have x0 := R1 0 (by omega) _ rfl
          have x1 := R1 1 (by omega) _ rfl
          have x2 := R1 2 (by omega) _ rfl
          have x3 := R1 3 (by omega) _ rfl
          have x4 := R1 4 (by omega) _ rfl
          have y0 := R2 0 (by omega) _ rfl
          have y1 := R2 1 (by omega) _ rfl
          have y2 := R2 2 (by omega) _ rfl
          have y3 := R2 3 (by omega) _ rfl
          have y4 := R2 4 (by omega) _ rfl
          simp only [Nat.add_zero] at x0 y0
          simp only [e1] at x0
          have A1 : Hid (Mk.AttrsAt wy (.slice pv mat'.length cv1) mat') := Mk.attrsAt_own (Mk.own_below o1 HY.out)
          have A2 : Hid (Mk.AttrsAt wy (.slice pw mat'.length cw1) mat') := Mk.attrsAt_own (Mk.own_below o2 HY.out)
          have lt1 : g < wy.heap.size := Nat.lt_of_lt_of_le hgl HY.out.size
          have lt2 : gw < wy.heap.size := Nat.lt_of_lt_of_le hgw HY.out.size
          have hla : mat'.length ≤ 1000000 := by omega
          clear R1 R2 r1 r2 o1 o2 hqk hlk hq hgl hgw
          go_wp2
          go_region_with (first | (go_at_call 12; refine (Tryd.lawref_any _ _ _ _ _ _ _ (by exact A1.out) hla).mono ?_; rintro e W4 ⟨b4, vc, rfl, oc⟩; have kk : ∀ b o, b < wy.heap.size → W4.cell? ⟨b, o, none⟩ = wy.cell? ⟨b, o, none⟩ := fun b o h => b4.cell (p := ⟨b, o, none⟩) h) | (go_at_call 14; refine (Tryd.same_any _ _ _ _ _ _ _ _ mat' _ (.inl rfl) (by exact Mk.attrsAt_own oc) (by exact (Mk.AttrsAt.below (w := wy.drew) A2.out b4)) hla).mono ?_; rintro e W5 ⟨rfl, b5⟩))
          all_goals go_wp2
          all_goals
            go_roundg (gk - 1)
            case measure => omega
            case rel =>
              have z4 : wy.heap.size ≤ W4.heap.size := b4.size
              have z5 := HY.out.size
              exact ⟨k + 1, by omega, by go_num, (HY.out.drew.trans (b4.mono (by show _ ≤ wy.heap.size; omega))).trans (b5.mono (by omega))⟩
        · have hd2 : decide ((k : Int) < ln) = false := decide_eq_false (by omega)
          have BW : Hid (Below w.heap.size w wy) := HB1.out.below.trans (HY.out.mono HB1.out.below.size)
          go_wp2_with fail
          refine Calls.mono (HOP.out _ BW.out) ?_
          rintro e W9 ⟨rfl, b9⟩
          have B9 : Hid (Below w.heap.size w W9) := b9
          clear b9
          go_wp2
          go_ret
          exact ⟨rfl, B9.out⟩

end Go.Proofs.YtjijfbcmhjcfaaaDoor.MarkBack
