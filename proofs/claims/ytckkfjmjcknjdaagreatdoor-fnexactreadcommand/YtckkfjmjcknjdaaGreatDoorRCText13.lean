/-
  Walks and mathematics of Text13.
-/
import Derived.Test.YtckkfjmjcknjdaaGreatDoorRCText10
import Derived.Test.YtckkfjmjcknjdaaGreatDoorRCText11
import Derived.Test.YtckkfjmjcknjdaaGreatDoorRCText12
namespace Go.Proofs.YtckkfjmjcknjdaaGreatDoor.P3
end Go.Proofs.YtckkfjmjcknjdaaGreatDoor.P3
namespace Go.Proofs.YtckkfjmjcknjdaaGreatDoor
open Go.RowKit P1 P3 P9 P11 P12 P18 K
set_option linter.unusedVariables false
set_option linter.unusedSimpArgs false
attribute [local go_sem ↓] Go.wp_at_zero Go.wp_at_succ

theorem specReadCommand_any (s : ByteArray) (hs : s.size ≤ 1048576) (w : World) :
    Calls Tryz.prog 13 #[.string s] w fun e w' => RcrPost (rcR (bl s)) w e w' := by
  obtain ⟨op, r1, h1⟩ : ∃ i q, byteL (some (bl s)) = (i, q) := ⟨_, _, rfl⟩
  obtain ⟨tk, r2, h2⟩ : ∃ i q, numL r1 = (i, q) := ⟨_, _, rfl⟩
  obtain ⟨sq, r3, h3⟩ : ∃ i q, numL r2 = (i, q) := ⟨_, _, rfl⟩
  by_cases o2 : op = 2
  · exact specReadCommand_2 s hs w h1 h2 h3 o2
  by_cases o3 : op = 3
  · exact specReadCommand_3 s hs w h1 h2 h3 o3
  by_cases o4 : op = 4
  · exact specReadCommand_4 s hs w h1 h2 h3 o4
  exact specReadCommand_o s hs w h1 h2 h3 o2 o3 o4

end Go.Proofs.YtckkfjmjcknjdaaGreatDoor
