/-
  The contract of writeOpen: an opening mark's bytes, or that it has none.
-/
import Derived.Test.YtbcafacolohgbaaDoorWrite
namespace Go.Proofs
open Go.RowKit
open Go.Proofs.Mk

/-- Has an attribute bytes? And which. -/
def Mk.okA (a : ByteArray × ByteArray) : Bool := a.2.data.toList.all bplain && nameL a.1.data.toList
def Mk.attrW (a : ByteArray × ByteArray) : List UInt8 := 32 :: (a.1.data.toList ++ (61 :: 34 :: (Mk.escF a.2.data.toList ++ [34])))
def Mk.attrsW (xs : List (ByteArray × ByteArray)) : List UInt8 := xs.flatMap Mk.attrW
def Mk.openW (nm : ByteArray) (xs : List (ByteArray × ByteArray)) : List UInt8 := 60 :: nm.data.toList ++ Mk.attrsW xs
/-- An opening mark's bytes and its error's number. -/
def Mk.wOpen (nm tx : ByteArray) (xs : List (ByteArray × ByteArray)) : ByteArray × Int :=
  if nameL nm.data.toList = true ∧ tx = ⟨#[]⟩ ∧ Mk.unlikeB xs = true ∧ xs.all Mk.okA = true then (⟨(Mk.openW nm xs ++ [62]).toArray⟩, 0) else (⟨#[]⟩, 4)

theorem Mk.openW_snoc (nm : ByteArray) (xs : List (ByteArray × ByteArray)) (k : Nat) (h : k < xs.length) : Mk.openW nm (xs.take (k + 1)) = Mk.openW nm (xs.take k) ++ Mk.attrW xs[k] := by
  rw [List.take_succ_eq_append_getElem h]
  simp only [Mk.openW, Mk.attrsW, List.flatMap_append, List.flatMap_cons, List.flatMap_nil, List.append_nil, List.append_assoc]
theorem Mk.okA_snoc {xs : List (ByteArray × ByteArray)} {k : Nat} (h : k < xs.length) (h1 : (xs.take k).all Mk.okA = true) (h2 : Mk.okA xs[k] = true) : (xs.take (k + 1)).all Mk.okA = true := by
  rw [List.take_succ_eq_append_getElem h, List.all_append, h1]
  simp [h2]
theorem Mk.okA_no {xs : List (ByteArray × ByteArray)} {k : Nat} (h : k < xs.length) (h2 : Mk.okA xs[k] = false) : xs.all Mk.okA = false := by
  cases hc : xs.all Mk.okA
  · rfl
  · rw [List.all_eq_true] at hc
    rw [hc _ (List.getElem_mem h)] at h2
    cases h2
theorem Mk.strCells_eq (s : ByteArray) (l : List UInt8) (h : s.data.toList = l) : Lib.strCells s = Lib.byteCells l := by
  rw [← h]; rfl
theorem Mk.size_append (a c : ByteArray) : (a ++ c).size = a.size + c.size := ByteArray.size_append

set_option maxHeartbeats 4000000 in
theorem Tryd.writeOpen_any (kd at_ : Int) (nm tx : ByteArray) (a : Option Addr) (c : Nat) (xs : List (ByteArray × ByteArray)) (w : World) (hE : Mk.Esc w) (hA : Mk.AttrsAt w (.slice a xs.length c) xs) (hs : nm.size ≤ maxLen)
    (hv : ∀ j (h : j < xs.length), xs[j].1.size ≤ 1000000 ∧ xs[j].2.size ≤ 1000000) :
    Calls Tryd.prog 54 #[.agg #[.int .i64 kd, .int .i64 at_, .string nm, .slice a xs.length c, .string tx]] w fun e w' =>
      e = .returned (.tuple #[.string (Mk.wOpen nm tx xs).1, .int .i64 (Mk.wOpen nm tx xs).2]) ∧ Below w.heap.size w w' := by
  obtain ⟨r, hr⟩ : ∃ r, Mk.wOpen nm tx xs = r := ⟨_, rfl⟩
  have HR : Hid (Mk.wOpen nm tx xs = r) := hr
  rw [hr]
  clear hr
  have B0 : Below w.heap.size w (w.alloc (.cells #[.int .i64 kd, .int .i64 at_, .string nm, .slice a xs.length c, .string tx] 78)) := (Below.refl _ w).alloc (Nat.le_refl _) _
  have X0 := Mk.Box.new kd at_ nm tx (.slice a xs.length c) w
  have HV : Hid (∀ j (h : j < xs.length), xs[j].1.size ≤ 1000000 ∧ xs[j].2.size ≤ 1000000) := hv
  have HA : Hid (Mk.AttrsAt w (.slice a xs.length c) xs) := hA
  have HE : Hid (Mk.Esc w) := hE
  have h0 : 0 < w.heap.size := by obtain ⟨t, fz, h⟩ := hE; exact (Array.getElem?_eq_some_iff.1 h).1
  clear hv hA hE
  go_enter Tryd.func54, Tryd.ntmps54
  go_wp2_with fail
  refine (Tryd.name_any nm _ hs).mono ?_
  rintro e W1 ⟨rfl, b1⟩
  have X1 := X0.kept b1 (by simp)
  have B1 := B0.trans (b1.mono (by simp))
  have hz1 := X1.lt
  obtain ⟨-, c2, c3, c4⟩ := X1.cells
  clear X0 B0 b1
  cases hn : nameL nm.data.toList
  · have HQ : Hid (r = (⟨#[]⟩, 4)) := by show _ = _; rw [← HR.out, Mk.wOpen, if_neg (by rw [hn]; simp)]
    go_wp2
    go_ret2
    exact ⟨by rw [HQ.out]; rfl, B1⟩
  · have hnm : nm.size ≤ 24 := ((nameL_iff _).1 hn).1.2
    by_cases ht : tx = ⟨#[]⟩
    · have hb : tx.toList.isEmpty = true := Mk.empty_yes ht
      have HT : Hid (tx = ⟨#[]⟩) := ht
      clear ht
      have A1 : Hid (Mk.AttrsAt W1 (.slice a xs.length c) xs) := HA.out.below B1
      go_wp2_with fail
      refine (Tryd.unlike_any _ xs _ (by exact A1.out)).mono ?_
      rintro e W2 ⟨rfl, b2⟩
      have X2 := X1.kept b2 hz1
      have B2 := B1.trans (b2.mono B1.size)
      have hz2 := X2.lt
      clear c2 c3 c4 X1
      obtain ⟨-, c2, c3, c4⟩ := X2.cells
      clear b2
      cases hu : Mk.unlikeB xs
      · have HQ : Hid (r = (⟨#[]⟩, 4)) := by show _ = _; rw [← HR.out, Mk.wOpen, if_neg (by rw [hu]; simp)]
        go_wp2
        go_ret2
        exact ⟨by rw [HQ.out]; rfl, B2⟩
      · have h64 : xs.length ≤ 64 := by
          simp only [Mk.unlikeB, Bool.and_eq_true, decide_eq_true_eq] at hu
          exact hu.1
        go_wp2_with fail
        have I2 : Hid (Lib.IsBuilderF 63 5 W2.heap.size W2.heap.size [] (W2.alloc (.cells #[.pointer none, .slice none 0 0] 63))) := Lib.IsBuilderF.of (Lib.fresh_isBuilder _ _ W2)
        refine (Tryd.Builder_WriteString_k W2.heap.size W2.heap.size [] _ _ (by exact I2.out) ?_ (by simp)).mono ?_
        · simp only [List.length_nil, Mk.size_append]
          have : (⟨#[60]⟩ : ByteArray).size = 1 := rfl
          omega
        · rintro e W3 ⟨rfl, u3, b3, k3⟩
          have hzB : w.heap.size ≤ W2.heap.size := B2.size
          have I3 : Lib.IsBuilderF 63 5 W2.heap.size W2.heap.size (Lib.byteCells (Mk.openW nm (xs.take 0))) W3 := by
            have e : Lib.strCells (⟨#[60]⟩ ++ nm) = Lib.byteCells (Mk.openW nm (xs.take 0)) := Mk.strCells_eq _ _ (by simp [Mk.openW, Mk.attrsW, ByteArray.data_append])
            rw [← e]
            exact Or.inr u3
          have B3 : Below W2.heap.size W2 W3 := ((Below.refl _ W2).alloc (Nat.le_refl _) _).trans b3
          have c33 : W3.cell? ⟨w.heap.size, 3, none⟩ = some (.slice a xs.length c) := by rw [B3.cell (p := ⟨w.heap.size, 3, none⟩) hz2]; exact c3
          have hz3 : w.heap.size < W3.heap.size := Nat.lt_of_lt_of_le hz2 B3.size
          have HI3 : Hid (Lib.IsBuilderF 63 5 W2.heap.size W2.heap.size (Lib.byteCells (Mk.openW nm (xs.take 0))) W3) := I3
          have HB2 : Hid (Below w.heap.size w W2) := B2
          clear u3 b3 k3 I3 I2 c2 c3 c4
          go_wp2
          go_loopg [31] xs.length (fun n i wr => ∃ k : Nat, n + k = xs.length ∧ i = .int .i64 k ∧ Lib.IsBuilderF 63 5 W2.heap.size W2.heap.size (Lib.byteCells (Mk.openW nm (xs.take k))) wr ∧ Below W2.heap.size W2 wr ∧ (xs.take k).all Mk.okA = true ∧ (Mk.openW nm (xs.take k)).length ≤ 25 + k * 7000100)
          case atStart =>
            refine ⟨0, by omega, rfl, HI3.out, B3, by simp, ?_⟩
            simp only [Mk.openW, Mk.attrsW, List.take_zero, List.flatMap_nil, List.append_nil, List.length_cons]
            have : nm.data.toList.length = nm.size := rfl
            omega
          case round =>
            obtain ⟨k, hk, rfl, hI, hb, hok, hlen⟩ := hrel
            have HI : Hid (Lib.IsBuilderF 63 5 W2.heap.size W2.heap.size (Lib.byteCells (Mk.openW nm (xs.take k))) wr) := hI
            have HO : Hid ((xs.take k).all Mk.okA = true) := hok
            have HL : Hid ((Mk.openW nm (xs.take k)).length ≤ 25 + k * 7000100) := hlen
            have hBw : W2.heap.size ≤ wr.heap.size := hb.size
            have hbw : Below w.heap.size w wr := HB2.out.trans (hb.mono hzB)
            clear hI hok hlen HI3 B3 c33 hz3
            by_cases hkl : k < xs.length
            · have hd : decide ((k : Int) < xs.length) = true := decide_eq_true (by omega)
              obtain ⟨x1, hx1⟩ : ∃ x, xs[k].1 = x := ⟨_, rfl⟩
              obtain ⟨x2, hx2⟩ : ∃ x, xs[k].2 = x := ⟨_, rfl⟩
              obtain ⟨hs1, hs2⟩ := HV.out k hkl
              rw [hx1] at hs1
              rw [hx2] at hs2
              have HX1 : Hid (xs[k].1 = x1) := hx1
              have HX2 : Hid (xs[k].2 = x2) := hx2
              obtain ⟨g, off, rfl, hg, hq⟩ : ∃ g off, a = some ⟨g, off, none⟩ ∧ g < w.heap.size ∧ w.cell? ⟨g, off + k * 2, none⟩ = some (.string x1) ∧ w.cell? ⟨g, off + k * 2 + 1, none⟩ = some (.string x2) := by
                rcases HA.out with ⟨_, _, _, h2⟩ | ⟨g, off, cap, hv, _, hg, hr⟩
                · rw [h2] at hkl; simp at hkl
                · have := hr k hkl
                  rw [hx1, hx2] at this
                  exact ⟨g, off, (Value.slice.inj hv).1, hg, this⟩
              have hc0 : wr.cell? ⟨g, off + k * 2, none⟩ = some (.string x1) := by rw [hbw.cell (p := ⟨g, off + k * 2, none⟩) hg]; exact hq.1
              have hc1 : wr.cell? ⟨g, off + k * 2 + 1, none⟩ = some (.string x2) := by rw [hbw.cell (p := ⟨g, off + k * 2 + 1, none⟩) hg]; exact hq.2
              clear hq hx1 hx2
              have ba : Below w.heap.size w (wr.alloc (.cells #[.string x1, .string x2] 54)) := hbw.alloc hbw.size _
              have EA : Hid (Mk.Esc (wr.alloc (.cells #[.string x1, .string x2] 54))) := HE.out.kept (Mk.grown_of_below ba none) (by simp)
              have hca : (wr.alloc (.cells #[.string x1, .string x2] 54)).cell? ⟨wr.heap.size, 0, none⟩ = some (.string x1) := by simp
              have HCA : Hid ((wr.alloc (.cells #[.string x1, .string x2] 54)).cell? ⟨wr.heap.size, 0, none⟩ = some (.string x1)) := hca
              have IA : Hid (Lib.IsBuilderF 63 5 W2.heap.size W2.heap.size (Lib.byteCells (Mk.openW nm (xs.take k))) (wr.alloc (.cells #[.string x1, .string x2] 54))) := HI.out.alloc _
              have BA : Below W2.heap.size W2 (wr.alloc (.cells #[.string x1, .string x2] 54)) := hb.alloc hBw _
              clear hca HI hb
              go_wp2_with fail
              refine (Tryd.escape_any x2 _ (by exact EA.out) (by omega)).mono ?_
              rintro e W4 ⟨he, b4⟩
              have h4 : wr.heap.size < W4.heap.size := by have := b4.size; simp at this; omega
              have hca : W4.cell? ⟨wr.heap.size, 0, none⟩ = some (.string x1) := by rw [b4.cell (p := ⟨wr.heap.size, 0, none⟩) (by simp)]; exact HCA.out
              have I4 : Hid (Lib.IsBuilderF 63 5 W2.heap.size W2.heap.size (Lib.byteCells (Mk.openW nm (xs.take k))) W4) := Mk.builder_below IA.out b4
              have B4 : Below W2.heap.size W2 W4 := BA.trans (b4.mono (by simp; omega))
              have B4w : Below w.heap.size w W4 := HB2.out.trans (B4.mono hzB)
              clear b4 BA ba IA EA HCA
              cases hp : x2.data.toList.all bplain
              · rw [show Mk.escText x2.data.toList = [] by simp [Mk.escText, hp], show Mk.escErr x2.data.toList = 4 by simp [Mk.escErr, hp]] at he
                subst he
                have HQ : Hid (r = (⟨#[]⟩, 4)) := by
                  show _ = _
                  have := Mk.okA_no hkl (by simp [Mk.okA, HX2.out, hp])
                  rw [← HR.out, Mk.wOpen, if_neg (by rw [this]; simp)]
                go_wp2
                go_ret2
                exact ⟨by rw [HQ.out]; rfl, B4w⟩
              · have hl6 := Mk.escF_len x2.data.toList
                have hl6' : (Mk.escF x2.data.toList).length ≤ 6000000 := by
                  have : x2.data.toList.length = x2.size := rfl
                  omega
                obtain ⟨vv, hvv⟩ : ∃ vv : ByteArray, vv = ⟨(Mk.escF x2.data.toList).toArray⟩ := ⟨_, rfl⟩
                have hvs : vv.size ≤ 6000000 := by rw [hvv]; exact hl6'
                have HVV : Hid (vv.data.toList = Mk.escF x2.data.toList) := by show _ = _; rw [hvv]
                rw [show Mk.escText x2.data.toList = Mk.escF x2.data.toList by simp [Mk.escText, hp], show Mk.escErr x2.data.toList = 0 by simp [Mk.escErr, hp], ← hvv] at he
                subst he
                clear hvv hl6 hl6'
                go_wp2_with fail
                refine (Tryd.name_any x1 _ (by unfold maxLen; omega)).mono ?_
                rintro e W5 ⟨rfl, b5⟩
                have hca5 : W5.cell? ⟨wr.heap.size, 0, none⟩ = some (.string x1) := by rw [b5.cell (p := ⟨wr.heap.size, 0, none⟩) h4]; exact hca
                have I5 : Hid (Lib.IsBuilderF 63 5 W2.heap.size W2.heap.size (Lib.byteCells (Mk.openW nm (xs.take k))) W5) := Mk.builder_below I4.out b5
                have B5 : Below W2.heap.size W2 W5 := B4.trans (b5.mono (by omega))
                have B5w : Below w.heap.size w W5 := HB2.out.trans (B5.mono hzB)
                have h5 : wr.heap.size < W5.heap.size := Nat.lt_of_lt_of_le h4 b5.size
                clear b5 B4 B4w I4 hca
                cases hn1 : nameL x1.data.toList
                · have HQ : Hid (r = (⟨#[]⟩, 4)) := by
                    show _ = _
                    have := Mk.okA_no hkl (by simp [Mk.okA, HX1.out, hn1])
                    rw [← HR.out, Mk.wOpen, if_neg (by rw [this]; simp)]
                  go_wp2
                  go_ret2
                  exact ⟨by rw [HQ.out]; rfl, B5w⟩
                · have hn24 : x1.size ≤ 24 := ((nameL_iff _).1 hn1).1.2
                  have HS : Hid (Mk.openW nm (xs.take (k + 1)) = Mk.openW nm (xs.take k) ++ Mk.attrW (x1, x2)) := by
                    show _ = _
                    rw [Mk.openW_snoc nm xs k hkl, ← HX1.out, ← HX2.out]
                  have HO2 : Hid ((xs.take (k + 1)).all Mk.okA = true) := Mk.okA_snoc hkl HO.out (by simp [Mk.okA, HX1.out, HX2.out, hp, hn1])
                  have HL2 : Hid ((Mk.attrW (x1, x2)).length ≤ 7000000) := by
                    show _ ≤ _
                    simp only [Mk.attrW, List.length_cons, List.length_append, List.length_nil]
                    have e1 : x1.data.toList.length = x1.size := rfl
                    have e2 : (Mk.escF x2.data.toList).length = vv.size := by rw [← HVV.out]; rfl
                    omega
                  clear HX1 HX2 HO HV HA hs1 hs2
                  go_wp2_with fail
                  have ha24 := HL2.out
                  have hlk := HL.out
                  refine (Tryd.Builder_WriteString_k W2.heap.size W2.heap.size _ _ _ (by exact I5.out) ?_ (by omega)).mono ?_
                  · rw [Lib.byteCells_length]
                    simp only [Mk.size_append]
                    have e1 : (⟨#[32]⟩ : ByteArray).size = 1 := rfl
                    have e2 : (⟨#[61, 34]⟩ : ByteArray).size = 2 := rfl
                    have e3 : (⟨#[34]⟩ : ByteArray).size = 1 := rfl
                    omega
                  · rintro e W6 ⟨rfl, u6, b6, k6⟩
                    have I6 : Hid (Lib.IsBuilderF 63 5 W2.heap.size W2.heap.size (Lib.byteCells (Mk.openW nm (xs.take (k + 1)))) W6) := by
                      have e : Lib.strCells (⟨#[32]⟩ ++ x1 ++ ⟨#[61, 34]⟩ ++ vv ++ ⟨#[34]⟩) = Lib.byteCells (Mk.attrW (x1, x2)) := Mk.strCells_eq _ _ (by simp [Mk.attrW, ByteArray.data_append, HVV.out])
                      rw [HS.out, Lib.byteCells_append, ← e]
                      exact Or.inr u6
                    have HL6 : Hid ((Mk.openW nm (xs.take (k + 1))).length ≤ 25 + (k + 1) * 7000100) := by
                      show _ ≤ _
                      rw [HS.out, List.length_append]
                      omega
                    clear u6 k6 HS
                    go_wp2
                    go_roundg (gk - 1)
                    case measure => omega
                    case rel => exact ⟨k + 1, by omega, by go_num, I6.out, B5.trans b6, HO2.out, HL6.out⟩
            · have hd : decide ((k : Int) < xs.length) = false := decide_eq_false (by omega)
              have htk : xs.take k = xs := List.take_of_length_le (by omega)
              have HQ : Hid (r = (⟨(Mk.openW nm xs ++ [62]).toArray⟩, 0)) := by
                show _ = _
                have h4 := HO.out
                rw [htk] at h4
                rw [← HR.out, Mk.wOpen, if_pos ⟨hn, HT.out, hu, h4⟩]
              have HI' : Hid (Lib.IsBuilderF 63 5 W2.heap.size W2.heap.size (Lib.byteCells (Mk.openW nm xs)) wr) := by
                have := HI.out
                rw [htk] at this
                exact this
              have hl := HL.out
              rw [htk] at hl
              clear htk HI HO HL
              go_wp2_with fail
              refine (Tryd.Builder_WriteString_k W2.heap.size W2.heap.size _ _ _ (by exact HI'.out) ?_ hBw).mono ?_
              · rw [Lib.byteCells_length]
                have : (⟨#[62]⟩ : ByteArray).size = 1 := rfl
                omega
              · rintro e W4 ⟨rfl, u4, b4, k4⟩
                have I4 : Hid (Lib.IsBuilderF 63 5 W2.heap.size W2.heap.size (Lib.byteCells (Mk.openW nm xs ++ [62])) W4) := by
                  rw [Lib.byteCells_append]
                  exact Or.inr u4
                clear u4 k4
                have z4 := b4.size
                go_wp2_with fail
                refine (Tryd.Builder_String_any_k W2.heap.size W2.heap.size _ _ (by exact I4.out) (by omega)).mono ?_
                rintro e W5 ⟨rfl, _, b5, _⟩
                go_wp2
                go_ret2
                exact ⟨by rw [HQ.out]; rfl, hbw.trans ((b4.trans b5).mono hzB)⟩
    · have HQ : Hid (r = (⟨#[]⟩, 4)) := by show _ = _; rw [← HR.out, Mk.wOpen, if_neg (by intro h; exact ht h.2.1)]
      have hb : tx.toList.isEmpty = false := Mk.empty_no ht
      clear ht
      go_wp2
      go_ret2
      exact ⟨by rw [HQ.out]; rfl, B1⟩

end Go.Proofs
