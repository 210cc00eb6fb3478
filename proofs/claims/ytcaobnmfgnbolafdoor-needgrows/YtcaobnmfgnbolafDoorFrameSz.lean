
/- How many bytes an argument of a law that is a slice may have. -/
import Derived.Test.YtcaobnmfgnbolafDoorFrameSl
import Derived.SizedLaws
namespace Go.Proofs.YtcaobnmfgnbolafDoor
namespace Frm
open Go.ChangeShapes Go.WideShapes Go.Deep Go.RowKit
variable {H : Type} {enc : TypeId × Value → H} {P : Program} {w : World} {base : Nat} {spare : Nat → Bool} {held : Bool}

theorem sized_len {t e : TypeId} {bytes : Nat} {ts : List TypeId} {ds : List (DataW H)} {a : Option Addr} {len cap : Nat} {d : DataW H} {p : List MemPlace} (ht : P.underlying t = some (.slice e)) (hb : P.bytesOf e = bytes)
    (h : (DataW.weightsEach P ts ds).all (· ≤ reachBytes) = true) {j : Nat} (hj : ts[j]? = some t) (hd : ds[j]? = some d) (k : DataW.Trod enc P w base spare held t (.slice a len cap) d p) : len * bytes ≤ 140737488355328 := by
  obtain ⟨fuel, hf⟩ := k
  rcases open_slice ht hf with ⟨hcs, _⟩ | ⟨a', len', cap', m, n, D, Pl, hcs, _, hl, hm, hmm, hx, _⟩
  · simp [Value.cells] at hcs
    obtain ⟨_, rfl, _⟩ := hcs
    simp
  · simp [Value.cells] at hcs
    obtain ⟨rfl, rfl, rfl⟩ := hcs
    obtain ⟨rfl, _⟩ := Prod.mk.inj hx
    have h1 := sized_slice h hj hd ht
    rw [hb] at h1
    simp only [List.length_map, List.length_range] at h1
    have h2 := reachBytes_lt
    have h3 : len * bytes ≤ (len + (m - len)) * bytes := Nat.mul_le_mul_right _ (Nat.le_add_right _ _)
    omega
end Frm
end Go.Proofs.YtcaobnmfgnbolafDoor
