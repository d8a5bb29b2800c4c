/-
  Walks of chapter 8: a text in pieces, of the program.
-/
import Derived.Test.YtpenpbopehbncaaDoorWalk8k
import Derived.Test.YtpenpbopehbncaaDoorWalk8c
namespace Go.Proofs.YtpenpbopehbncaaDoor
open Go.RowKit P1 P3 P5 P9 P11 K
attribute [local go_sem ↓] Go.wp_at_zero Go.wp_at_succ
set_option linter.unusedVariables false
set_option linter.unusedSimpArgs false

def addA (c : List UInt8) : ActV := ⟨1, nmSnap, c, []⟩
theorem addsA_step {l : List UInt8} (h : l ≠ []) : addsA l = addA (l.take 60) :: addsA (l.drop 60) := addsA_cons h
theorem addsA_room (l : List UInt8) : (addsA l).length ≤ l.length := by
  unfold addsA
  rw [List.length_map]
  exact chunksL_length l

theorem piece_hi (l : List UInt8) (a : Nat) (h : a + 60 ≤ l.length) : (⟨l.toArray⟩ : ByteArray).extract a (a + 60) = ⟨((l.drop a).take 60).toArray⟩ := extract_list ⟨l.toArray⟩ a 60 h
theorem piece_end (l : List UInt8) (a : Nat) (h : a ≤ l.length) (h2 : l.length ≤ a + 60) : (⟨l.toArray⟩ : ByteArray).extract a l.length = ⟨((l.drop a).take 60).toArray⟩ := by
  have e := extract_list ⟨l.toArray⟩ a (l.length - a) (by rw [size_mk8]; omega)
  rw [show a + (l.length - a) = l.length by omega, bl_mk8] at e
  rw [e, List.take_of_length_le (by rw [List.length_drop]; omega), List.take_of_length_le (by rw [List.length_drop]; omega)]

theorem add_own {w : World} {base : Nat} {v : Value} {X : List ActV} {c : List UInt8} (ho : w.ownsRow base 79 4 v (X.length + 1) (X.flatMap akc ++ [.int .i64 1, .string ⟨#[115, 43]⟩, .string ⟨c.toArray⟩, .string ⟨#[]⟩])) : w.ownsRow base 79 4 v (X ++ [addA c]).length ((X ++ [addA c]).flatMap akc) := by
  rw [List.length_append, List.flatMap_append]
  exact ho

set_option maxHeartbeats 4000000 in
theorem chunkActs_any (l : List UInt8) (hl : l.length ≤ 20000) (w : World) :
    Calls Tryd.prog 63 #[.string ⟨l.toArray⟩] w fun e w' => ActR w (addsA l) e w' := by
  have hal := addsA_room l
  go_enter Tryd.func63, Tryd.ntmps63
  go_wp2_with fail
  go_loopw [3, 4] (fun v i wr => ∃ (a : Nat) (X : List ActV), i = .int .i64 (a : Int) ∧ a ≤ l.length + 60 ∧ X ++ addsA (l.drop a) = addsA l ∧ wr.ownsRow w.heap.size 79 4 v X.length (X.flatMap akc) ∧ Below w.heap.size w wr) (fun _ i _ => l.length + 60 - (intOf i).toNat)
  case atStart => exact ⟨0, [], rfl, by omega, rfl, World.ownsRow_nil _ _ _ _, Below.refl _ _⟩
  case round =>
    obtain ⟨a, X, rfl, ha, hX, hown, hbel⟩ := hrel
    have hxl : X.length ≤ 20000 := by have := congrArg List.length hX; rw [List.length_append] at this; omega
    have HX := hide hX
    have HOW := hide hown
    have HBL := hide hbel
    clear hX hown hbel
    obtain ⟨ov, cv, hv⟩ := own_slice HOW.out
    subst hv
    have hsz := HBL.out.size
    by_cases hlt : a < l.length
    · have k0 : (a : Int) < (l.length : Int) := by omega
      have HST := hide (addsA_step (l := l.drop a) (by rw [Ne, List.drop_eq_nil_iff]; omega))
      rw [List.drop_drop] at HST
      obtain ⟨C, hC⟩ : ∃ C, (l.drop a).take 60 = C := ⟨_, rfl⟩
      rw [hC] at HST
      have HNX := hide (show (X ++ [addA C]) ++ addsA (l.drop (a + 60)) = addsA l by rw [← HX.out, HST.out, List.append_assoc]; rfl)
      clear HST HX
      by_cases hhi : a + 60 ≤ l.length
      · have hmin : min ((a : Int) + 60) (l.length : Int) = (a : Int) + 60 := by omega
        have g1 : (a : Int) + 60 ≤ (l.length : Int) := by omega
        have hsl : ∀ wx, (Instr.slice 9 (.string ⟨l.toArray⟩) (some (.int .i64 (a : Int))) (some (.int .i64 ((a : Int) + 60))) none).run Tryd.prog wx = .ok (.string ⟨C.toArray⟩) wx := fun wx => by
          rw [run_slice_string (P := Tryd.prog) (w := wx) 9 ⟨l.toArray⟩ .i64 .i64 (a : Int) ((a : Int) + 60) Tryd.underlying9 (by omega) (by omega) (by rw [size_mk8]; omega)]
          rw [← hC, ← piece_hi l a hhi]
          rfl
        clear hC
        go_wp2_with (at_builtin; refine wpList_pushK (cs := #[.int .i64 1, .string ⟨#[115, 43]⟩, .string ⟨C.toArray⟩, .string ⟨#[]⟩]) rfl _ _ 42 rfl (by decide) Tryd.underlying42 infoKAz rfl rfl HOW.out rfl rfl (akc_one (addA C)) HBL.out HBL.out.size (by unfold maxLen; omega) (by omega) ?_)
        intro v' w3 ho3 hb3 _
        have HO4 := hide ho3
        have HB4 := hide hb3
        clear ho3 hb3
        go_wp2_with fail
        go_roundw
        case rel => exact ⟨a + 60, _, by go_num, by omega, HNX.out, add_own HO4.out, HB4.out⟩
        case measure => simp [intOf]; omega
      · have hmin : min ((a : Int) + 60) (l.length : Int) = (l.length : Int) := by omega
        have g1 : ¬ (a : Int) + 60 ≤ (l.length : Int) := by omega
        have hsl : ∀ wx, (Instr.slice 9 (.string ⟨l.toArray⟩) (some (.int .i64 (a : Int))) (some (.int .i64 (l.length : Int))) none).run Tryd.prog wx = .ok (.string ⟨C.toArray⟩) wx := fun wx => by
          rw [run_slice_string (P := Tryd.prog) (w := wx) 9 ⟨l.toArray⟩ .i64 .i64 (a : Int) (l.length : Int) Tryd.underlying9 (by omega) (by omega) (by rw [size_mk8]; omega)]
          rw [← hC, ← piece_end l a (by omega) (by omega)]
          rfl
        clear hC
        go_wp2_with (at_builtin; refine wpList_pushK (cs := #[.int .i64 1, .string ⟨#[115, 43]⟩, .string ⟨C.toArray⟩, .string ⟨#[]⟩]) rfl _ _ 42 rfl (by decide) Tryd.underlying42 infoKAz rfl rfl HOW.out rfl rfl (akc_one (addA C)) HBL.out HBL.out.size (by unfold maxLen; omega) (by omega) ?_)
        intro v' w3 ho3 hb3 _
        have HO4 := hide ho3
        have HB4 := hide hb3
        clear ho3 hb3
        go_wp2_with fail
        go_roundw
        case rel => exact ⟨a + 60, _, by go_num, by omega, HNX.out, add_own HO4.out, HB4.out⟩
        case measure => simp [intOf]; omega
    · have k0 : ¬ (a : Int) < (l.length : Int) := by omega
      have RD := hide (show addsA l = X by rw [← HX.out, List.drop_eq_nil_of_le (by omega), addsA_nil, List.append_nil])
      go_wp2_with fail
      refine bodyPost_ret (v := .slice ov X.length cv) (by simp [results, Tryd.results63, go_sem]) rfl ?_
      exact ⟨_, rfl, by rw [RD.out]; exact HOW.out, HBL.out⟩

end Go.Proofs.YtpenpbopehbncaaDoor
