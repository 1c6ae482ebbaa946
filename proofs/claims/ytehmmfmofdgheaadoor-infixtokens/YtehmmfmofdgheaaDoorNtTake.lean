/-
  Steps of a drawn region taken one by one, the frame written out behind each.
-/
import Derived.Deep.RegionHeld3
namespace Go.Proofs
open Go

theorem Nt.put_some (ts : List Value) (ds : List Deferred) (d : Tmp) (v : Value) : Act.put ⟨ts.toArray, ds⟩ (some d) v = ⟨(ts.set d v).toArray, ds⟩ := by
  simp [Act.put]
theorem Nt.takeS {P : Program} {md : Region.Mode} {ops : Array Oper} {Q : Exit → Act → World → Prop} {S : World → Prop} (i : Nat) {oi : Oper} {v : Value} {fuel : Nat} {listed : Array Bool} {ts : List Value} {ds : List Deferred} {w : World} (d : Tmp) (hi : ops[i]? = some oi) (hd : oi.dst = some d)
    (hs : Region.noSelect ops = true) (hf : Region.free md ops listed i = true) (hr : (Region.ready md ops listed).contains i = true)
    (hQ : ∀ c a w, Q (.panic c) (a.put oi.dst v) w → Q (.panic c) a w) (hy : YieldsIf P ops S oi v ⟨ts.toArray, ds⟩) (hS : S w)
    (h : wpAnyH P md ops Q S fuel (listed.setIfInBounds i true) ⟨(ts.set d v).toArray, ds⟩ w) : wpAnyH P md ops Q S (fuel + 1) listed ⟨ts.toArray, ds⟩ w :=
  wpAnyH_take hi hs hf hr hQ hy hS (by rw [hd, Nt.put_some]; exact h)
theorem Nt.normS {P : Program} {md : Region.Mode} {ops : Array Oper} {Q : Exit → Act → World → Prop} {S : World → Prop} {fuel : Nat} {listed : Array Bool} {ts : List Value} {ds : List Deferred} {w : World} {o : Oper} {v : Value} (d : Tmp) (hd : o.dst = some d)
    (h : wpAnyH P md ops Q S fuel listed ⟨(ts.set d v).toArray, ds⟩ w) : wpAnyH P md ops Q S fuel listed (Act.put ⟨ts.toArray, ds⟩ o.dst v) w := by
  rw [hd, Nt.put_some]
  exact h

end Go.Proofs
