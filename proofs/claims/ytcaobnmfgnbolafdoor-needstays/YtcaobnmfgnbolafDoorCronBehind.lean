
/- What cron.dayBehind answers. -/
import Derived.Test.YtcaobnmfgnbolafDoorCronDays
import Derived.Test.YtcaobnmfgnbolafDoorCronPlain
import Derived.Deep.QuietTactic
import Derived.BigQuiet
namespace Go.Proofs.YtcaobnmfgnbolafDoor
namespace Crn
open Go.RowKit Lai Civ Cal
set_option maxRecDepth 8000

theorem dset_u {da we : Int} {ad aw : Bool} {y m v : Int} (h : DaySet da we ad aw y m v) : U v := h.1

theorem next_month {da mn we : Int} {ad aw : Bool} {y m D : Int} (h : Seen da mn we ad aw D (beg y m + dim y m) ∧ D < beg y m + dim y m) (hm : 1 ≤ m ∧ m ≤ 11) :
    Seen da mn we ad aw D (beg y (m + 1) + 1 - 1) ∧ D < beg y (m + 1) + 1 - 1 ∧ D < beg y (m + 1) + dim y (m + 1) := by
  have db := dim_bd y (m + 1)
  rw [beg_next y m hm, show beg y m + dim y m + 1 - 1 = beg y m + dim y m by omega]
  exact ⟨h.1, h.2, by omega⟩
theorem next_year {da mn we : Int} {ad aw : Bool} {y D : Int} (h : Seen da mn we ad aw D (beg y 12 + dim y 12) ∧ D < beg y 12 + dim y 12) :
    Seen da mn we ad aw D (beg (y + 1) 1 + 1 - 1) ∧ D < beg (y + 1) 1 + 1 - 1 ∧ D < beg (y + 1) 1 + dim (y + 1) 1 := by
  have db := dim_bd (y + 1) 1
  rw [beg_year y, show beg y 12 + dim y 12 + 1 - 1 = beg y 12 + dim y 12 by omega]
  exact ⟨h.1, h.2, by omega⟩

end Crn
end Go.Proofs.YtcaobnmfgnbolafDoor
