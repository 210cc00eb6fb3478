/- A part. -/
import Derived.Test.YtaekecgbdegemaaGreatDoorPtAr
import Derived.ProofKit
import Derived.Deep.Slices
set_option linter.all false
open Go.Proofs.Tryz
namespace Go.Proofs.YtaekecgbdegemaaGreatDoor
namespace Frm
section
variable {P : Program} {w : World} {r : Reach} {base : Nat} {t : TypeId} {v : Value}

theorem cell_string (ht:P.underlying t=some .string) (h:Cell.okWide P w r base t v): ∃s:ByteArray,v=.string s∧(s.size:Int)≤9223372036854775807:=by
 simp only [ht,Cell.okWide]at h;cases v<;>simp_all [Cell.ok]

theorem val_string (ht:P.underlying t=some .string) (h:Value.okWide P w r base t v): ∃s:ByteArray,v=.string s∧(s.size:Int)≤9223372036854775807:=by
 simp only [Value.okWide,ht]at h;exact cell_string ht h

end
end Frm
namespace Frm
open Go.ChangeShapes Go.WideShapes Go.Deep Go.RowKit

inductive Leaf where
 |i64|u64|bool|str
def Leaf.ok:Leaf→Value→Prop
 | .i64,v=> ∃z:Int,v=.int .i64 z∧ -9223372036854775808≤z∧z≤9223372036854775807
 | .u64,v=> ∃z:Int,v=.int .u64 z∧0≤z∧z≤18446744073709551615
 | .bool,v=> ∃b:Bool,v=.bool b
 | .str,v=> ∃s:ByteArray,v=.string s∧s.size≤maxLen

def CellsIn (W:World) (a:Option Addr) (len s:Nat) (X:Nat→Nat→Value):Prop:=
 ∀i,i<len→ ∃b off,a=some ⟨b,off,none⟩∧b<W.heap.size∧ ∀j,j<s→W.cell? ⟨b,off+(i*s+j),none⟩=some (X i j)
theorem cell_lt {w:World} {p:Addr} {v:Value} (h:w.cell? p=some v):p.block<w.heap.size:=by
 by_cases g:p.block<w.heap.size
 ·exact g
 ·exfalso;simp only [World.cell?]at h;rw [Array.getElem?_eq_none (by omega)]at h;simp at h
theorem CellsIn.below {W W':World} {a:Option Addr} {len s n:Nat} {X:Nat→Nat→Value} (h:CellsIn W a len s X) (hb:Below n W W') (hn:W.heap.size≤n):CellsIn W' a len s X:=by
 intro i hi;obtain⟨b,off,rfl,hlt,hc⟩:=h i hi;refine⟨b,off,rfl,Xb hlt hb.size,fun j hj=> ?_⟩;rw [←hc j hj];exact hb.cell (Xb hlt hn)

section
variable {H : Type} (enc : TypeId × Value → H) (P : Program) (w : World) (base : Nat) (spare : Nat → Bool) (held : Bool)
end
section
variable {H : Type} {enc : TypeId × Value → H} {P : Program} {w : World} {base : Nat} {spare : Nat → Bool} {held : Bool} {e : TypeId}
end
