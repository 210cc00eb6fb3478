/- Steps of a region that draws its order, taken one by one in the text's order. -/
import Derived.WalkKit
import Derived.OrdersHeld
import Derived.Deep.RegionHeld
namespace Go.Proofs.YtohbnchfjphaeaaGreatDoor
namespace Tk
open Go.RowKit
variable {P : Program} {md : Region.Mode} {ops : Array Oper} {Q : Exit → Act → World → Prop} {S : World → Prop}

def nx : List Bool → Nat
 | [] => 0
 | false :: _ => 0
 | true :: l => nx l + 1
theorem tk {oi : Oper} {v : Value} {fuel : Nat} {listed : List Bool} {a : Act} {w : World} (hi : ops[nx listed]? = some oi) (hc : (Region.noSelect ops && Region.free md ops listed.toArray (nx listed) && (Region.ready md ops listed.toArray).contains (nx listed)) = true)
  (hQ : ∀ c a w, Q (.panic c) (a.put oi.dst v) w → Q (.panic c) a w) (hy : YieldsIf P ops S oi v a) (hS : S w)
  (h : wpAnyH P md ops Q S fuel (listed.set (nx listed) true).toArray (a.put oi.dst v) w) : wpAnyH P md ops Q S (fuel + 1) listed.toArray a w := by
 have h1 := hc
 simp only [Bool.and_eq_true] at h1
 have e : listed.toArray.setIfInBounds (nx listed) true = (listed.set (nx listed) true).toArray := by simp
 exact wpAnyH_take hi h1.1.1 h1.1.2 h1.2 hQ hy hS (by rw [e]; exact h)
theorem st (n : Nat) (l : List Bool) {id : Nat} {a : Act} {w : World} (hl : (ops.size == n && List.replicate n false == l) = true) (hm : P.follows .mixedOrders = true) (hS : S w.drew)
  (h : S w.drew → wpAnyH P .any ops Q S n l.toArray a w.drew) : (Code.region id ops true).wp P Q a w := by
 simp only [Bool.and_eq_true, beq_iff_eq] at hl
 obtain ⟨h1, h2⟩ := hl
 refine wp_region_held_drew hm hS (fun hh => ?_)
 have e : Array.replicate ops.size false = l.toArray := by rw [h1, ← h2]; simp
 rw [e, h1]
 exact h hh
end Tk
end Go.Proofs.YtohbnchfjphaeaaGreatDoor
