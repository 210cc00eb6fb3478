/- A part. -/
import Derived.Lib.SplitLaws
import Derived.Test.YthiapcajheepbaaGreatDoorPwCronPlain
import Derived.Lib.Join
import Derived.Lib.ItoaNum
set_option linter.all false
open Go.Proofs.Tryz
namespace Go.Proofs.YthiapcajheepbaaGreatDoor
namespace Pie

end Pie
namespace Pie
open Crn

def dg (x:UInt8):Bool:=decide (48≤x.toNat∧x.toNat≤57)
end Pie
namespace Crn
open Go.RowKit

section
variable {s : Int} (hs : 0 ≤ s ∧ s ≤ 18446744073709551615) (h60 : ∀ n, inS s n = true → n ≤ 59)
include hs h60
end
end Crn
namespace Pln
open Crn Pie

def valD (l:List UInt8):Int:=l.foldl (fun n d=>10*n+((d.toNat:Int)-48)) 0
def okD (l:List UInt8):Bool:=decide (1≤l.length∧l.length≤7)&&l.all dg
def num7 (t:List UInt8):Option Int:=
 if t.head? =some 45 then(if okD t.tail=true∧t.tail.head?≠some 48 then some (-(valD t.tail))else none)
 else(if okD t=true∧ ¬(t.head? =some 48∧1<t.length)then some (valD t)else none)


def two (ws:List (List UInt8)):Option (Int×Int):=match ws with
 | [a,b]=>match num7 a,num7 b with
  |some x,some y=>some (x,y)
  |_,_=>none
 |_=>none
def both (x y:Option K):Option (K×K):=match x,y with
 |some a,some b=>some (a,b)
 |_,_=>none
def k0:K:=⟨0,0,0,0,0,false,false⟩
def p0:Pd:=⟨[],0,0,0,0,0,0,0,0,0,0,0,0,0,0,0,0⟩
section
variable (rd : List UInt8 → Option K)
end

/-! ### A text that is cut at ` / ` -/
section
variable {rd : List UInt8 → Option K}
end

section
variable (kT : K → List UInt8)
end
section
variable {rd : List UInt8 → Option K} {kT : K → List UInt8}
end
end Pln
namespace Pie
open Crn

section
variable {s : Int} (hs : 0 ≤ s ∧ s ≤ 18446744073709551615) (h60 : ∀ n, inS s n = true → n ≤ 59)
include hs h60
end

section
variable {s lo hi : Int} (hs : 0 ≤ s ∧ s ≤ 18446744073709551615) (hsub : ∀ n, inS s n = true → lo ≤ n ∧ n ≤ hi) (h59 : hi ≤ 59)
include hs hsub h59
end
def taken:List (Int×Int)→Int
 | []=>0
 |p::r=>(p.2-p.1+2)+taken r
