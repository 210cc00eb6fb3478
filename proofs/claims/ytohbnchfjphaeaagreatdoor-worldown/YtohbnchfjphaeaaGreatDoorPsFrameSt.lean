/- How many bytes a slice may have that a struct holds which is an argument of a law. -/
import Derived.Test.YtohbnchfjphaeaaGreatDoorPsFrame
import Derived.SizedLaws
namespace Go.Proofs.YtohbnchfjphaeaaGreatDoor
namespace Frm
open Go.ChangeShapes Go.WideShapes Go.Deep Go.RowKit
variable {H : Type} {enc : TypeId × Value → H} {P : Program} {w : World} {base : Nat} {spare : Nat → Bool} {held : Bool}

theorem sized_field {t e : TypeId} {fs : Array Field} {f : Field} {bytes i : Nat} {ts : List TypeId} {ds : List (DataW H)} {v : Value} {a : Option Addr} {len cap : Nat} {d : DataW H} {p : List MemPlace} (ht : P.underlying t = some (.struct fs)) (hf : fs[i]? = some f) (hs : P.underlying f.type = some (.slice e)) (hb : P.bytesOf e = bytes)
  (h : (DataW.weightsEach P ts ds).all (· ≤ reachBytes) = true) {j : Nat} (hj : ts[j]? = some t) (hd : ds[j]? = some d) (k : DataW.Trod enc P w base spare held t v d p) (hc : (v.cells.toList.drop f.offset).take (P.cellsOf f.type) = [.slice a len cap]) : len * bytes ≤ 140737488355328 := by
 obtain ⟨fuel, hk⟩ := k
 obtain ⟨xs, n, rfl, hx, _, hlen, hall⟩ := DataW.trod_struct ht hk
 obtain ⟨rfl, rfl⟩ := Prod.mk.inj hx
 have hi := hall i f hf
 rw [hc] at hi
 have hlt : i < xs.length := by rw [hlen]; exact (Array.getElem?_eq_some_iff.1 hf).1
 rw [List.getElem?_eq_getElem hlt] at hi
 have hft : (fs.toList.map (·.type))[i]? = some f.type := by rw [List.getElem?_map, Array.getElem?_toList, hf]; rfl
 have hxt : (xs.map (·.1))[i]? = some xs[i].1 := by rw [List.getElem?_map, List.getElem?_eq_getElem hlt]; rfl
 rcases open_slice hs hi with ⟨hcs, _⟩ | ⟨a', len', cap', m, n', D, Pl, hcs, _, _, _, _, hx2, _⟩
 ·cases hcs; simp
 ·cases hcs
  rw [hx2] at hxt
  have hw : (len + (m - len)) * P.bytesOf e ∈ DataW.weightsEach P (fs.toList.map (·.type)) (xs.map (·.1)) := DataW.weights_mem_each hft hxt _ (by simp [DataW.weights, hs])
  have hw2 := DataW.weights_mem_each hj hd _ (show _ ∈ DataW.weights P t (.agg (xs.map (·.1))) by simpa [DataW.weights, ht] using hw)
  have h1 := List.all_eq_true.1 h _ hw2
  simp only [decide_eq_true_eq, hb] at h1
  have h2 := reachBytes_lt
  have h3 : len * bytes ≤ (len + (m - len)) * bytes := Nat.mul_le_mul_right _ (Nat.le_add_right _ _)
  omega
end Frm
end Go.Proofs.YtohbnchfjphaeaaGreatDoor
