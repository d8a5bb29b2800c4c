/-
  Events and commands as they are drawn for entries: bare ones (no levels, no text, nothing ahead): what the specification says of them.
-/
import Derived.Test.YteilmhlhddihpaaBox
import Derived.Test.YteilmhlhddihpaaWalk5a
import Derived.Test.YteilmhlhddihpaaBase
namespace Go.Proofs.Yteilmhlhddihpaa
open Go.RowKit P1 P9 K
set_option linter.unusedVariables false
set_option linter.unusedSimpArgs false

/-- A bare event. -/
def evV (id kd sd : Int) (op : Option Addr) (cp : Nat) : Value := .agg #[.int .i64 id, .int .i64 kd, .int .i64 sd, .int .i64 0, .int .i64 0, .slice none 0 0, .string ⟨#[]⟩, .slice op 0 cp, .int .i64 0]
/-- A command with a bare event. -/
def cmdV (o t s id kd sd : Int) (op : Option Addr) (cp : Nat) (d u : Int) : Value :=
  .agg #[.int .i64 o, .int .i64 t, .int .i64 s, .int .i64 id, .int .i64 kd, .int .i64 sd, .int .i64 0, .int .i64 0, .slice none 0 0, .string ⟨#[]⟩, .slice op 0 cp, .int .i64 0, .int .i64 d, .int .i64 u]

theorem l05SameInts_none (oa ob : Option Addr) (ca cb : Nat) (w : World) :
    Calls Try.prog 63 #[.slice oa 0 ca, .slice ob 0 cb] w fun e w' => e = .returned (.bool true) ∧ w = w' := by
  go_enter Try.func63, Try.ntmps63
  go_wp2_with fail
  go_loop [5] (fun i => i = .int .i64 0) (fun _ => 0)
  case atStart => rfl
  case round =>
    subst hrel
    go_wp2_with fail
    go_ret
    exact ⟨rfl, rfl⟩

set_option maxHeartbeats 1000000 in
theorem l09Same_bare (id kd sd : Int) (op oq : Option Addr) (cp cq : Nat) (w : World) :
    Calls Try.prog 56 #[evV id kd sd op cp, evV id kd sd oq cq] w fun e w' => e = .returned (.bool true) ∧ Below w.heap.size w w' := by
  unfold evV
  have HB := hide ((((Below.refl w.heap.size w).alloc (Nat.le_refl _) (.cells #[.int .i64 id, .int .i64 kd, .int .i64 sd, .int .i64 0, .int .i64 0, .slice none 0 0, .string ⟨#[]⟩, .slice op 0 cp, .int .i64 0] 73)).alloc (by simp) (.cells #[.int .i64 id, .int .i64 kd, .int .i64 sd, .int .i64 0, .int .i64 0, .slice none 0 0, .string ⟨#[]⟩, .slice oq 0 cq, .int .i64 0] 73)))
  go_enter Try.func56, Try.ntmps56
  go_wp2_with (go_at_call 63; refine (l05SameInts_none _ _ _ _ _).mono ?_; rintro e w' ⟨rfl, rfl⟩)
  go_ret
  exact ⟨rfl, HB.out⟩

theorem l13Blank_zero (w : World) :
    Calls Try.prog 52 #[evV 0 0 0 none 0] w fun e w' => e = .returned (.bool true) ∧ Below w.heap.size w w' := by
  unfold evV
  have HB := hide ((Below.refl w.heap.size w).alloc (Nat.le_refl _) (.cells #[.int .i64 0, .int .i64 0, .int .i64 0, .int .i64 0, .int .i64 0, .slice none 0 0, .string ⟨#[]⟩, .slice none 0 0, .int .i64 0] 73))
  go_enter Try.func52, Try.ntmps52
  go_wp2_with fail
  refine (l09Same_bare 0 0 0 none none 0 0 _).mono ?_
  rintro e w1 ⟨rfl, hb1⟩
  go_wp2_with fail
  go_ret
  exact ⟨rfl, HB.out.trans (hb1.mono (by simp))⟩

set_option maxHeartbeats 1000000 in
theorem l09Body_create (id : Int) (op : Option Addr) (cp : Nat) (w : World) :
    Calls Try.prog 53 #[evV id 1 1 op cp] w fun e w' => e = .returned (.bool true) ∧ Below w.heap.size w w' := by
  unfold evV
  have HB := hide ((Below.refl w.heap.size w).alloc (Nat.le_refl _) (.cells #[.int .i64 id, .int .i64 1, .int .i64 1, .int .i64 0, .int .i64 0, .slice none 0 0, .string ⟨#[]⟩, .slice op 0 cp, .int .i64 0] 73))
  go_enter Try.func53, Try.ntmps53
  go_wp2_with (go_at_call 25; refine (l01In_yes _ _ _ (by omega) (by omega) _).mono ?_; rintro e w' ⟨rfl, rfl⟩)
  go_ret
  exact ⟨rfl, HB.out⟩

set_option maxHeartbeats 1000000 in
theorem eventOk_create (id : Int) (h1 : 1 ≤ id) (h2 : id ≤ 1000000) (op : Option Addr) (cp : Nat) (w : World) :
    Calls Try.prog 54 #[evV id 1 1 op cp] w fun e w' => e = .returned (.bool true) ∧ Below w.heap.size w w' := by
  have hX := BoxS.new w #[.int .i64 id, .int .i64 1, .int .i64 1, .int .i64 0, .int .i64 0, .slice none 0 0, .string ⟨#[]⟩, .slice op 0 cp, .int .i64 0] 73
  have HX := hide hX
  clear hX
  unfold evV
  go_enter Try.func54, Try.ntmps54
  go_wp2_with fail
  refine (l09Body_create id op cp _).mono ?_
  rintro e w1 ⟨rfl, hb1⟩
  have HX1 := hide (HX.out.call hb1)
  have c0 := HX1.out.cell 0 rfl
  have c1 := HX1.out.cell 1 rfl
  have c7 := HX1.out.cell 7 rfl
  have c8 := HX1.out.cell 8 rfl
  clear hb1
  go_wp2_with (go_at_call 25; refine (l01In_yes _ _ _ (by omega) (by omega) _).mono ?_; rintro e w' ⟨rfl, rfl⟩)
  go_loop [3] (fun i => i = .int .i64 0) (fun _ => 0)
  case atStart => rfl
  case round =>
    subst hrel
    go_wp2_with fail
    go_ret
    exact ⟨rfl, HX1.out.1⟩

theorem l09Byte_any (n : Nat) (hn : n < 256) (w : World) :
    Calls Try.prog 46 #[.int .i64 (n : Int)] w fun e w' => e = .returned (.string ⟨#[UInt8.ofNat n]⟩) ∧ Below w.heap.size w w' := by
  have hw : IntKind.u8.wrap (n : Int) = (n : Int) := by rw [IntKind.wrap_u8]; omega
  have hconv : (convert 22 9 (.slice (some ⟨w.heap.size, 0, none⟩) 1 1)).run Try.prog (w.alloc (.cells #[.int .u8 (n : Int)] 5)) = .ok (.string ⟨#[UInt8.ofNat n]⟩) (w.alloc (.cells #[.int .u8 (n : Int)] 5)) := by
    have := run_string_one (P := Try.prog) w Try.underlying22 Try.underlying5 Try.underlying9 (UInt8.ofNat n)
    rw [toNat_ofNat_small _ hn] at this
    exact this
  go_enter Try.func46, Try.ntmps46
  go_wp2_with fail
  go_ret
  exact ⟨rfl, (Below.refl _ _).alloc (Nat.le_refl _) _⟩

theorem l05Short_any (s : ByteArray) (hs : s.size ≤ 100000) (w : World) :
    Calls Try.prog 49 #[.string s] w fun e w' => e = .returned (.string (⟨(varB s.size).toArray⟩ ++ s)) ∧ Below w.heap.size w w' := by
  have hl := varB_length s.size
  go_enter Try.func49, Try.ntmps49
  go_wp2_with (go_at_call 26; refine (l01Var_any s.size (by omega) _).mono ?_; rintro e w1 ⟨rfl, hb1⟩)
  go_ret
  exact ⟨rfl, hb1⟩

end Go.Proofs.Yteilmhlhddihpaa
