/-
  Walks of chapter 8: the index that a name tells; NewestSnap of the program.
-/
import Derived.Test.YtpenpbopehbncaaDoorPack9
import Derived.Test.YtpenpbopehbncaaDoorPack15
import Derived.Test.YtpenpbopehbncaaDoorWalk8f
import Derived.Test.YtpenpbopehbncaaDoorPack25
import Derived.Test.YtpenpbopehbncaaDoorWalk3c
namespace Go.Proofs.YtpenpbopehbncaaDoor
open Go.RowKit P1 P3 P5 P9 P11 K
attribute [local go_sem ↓] Go.wp_at_zero Go.wp_at_succ
set_option linter.unusedVariables false
set_option linter.unusedSimpArgs false

/-- strconv's table of powers of ten lies in its variable. -/
abbrev Pow8 (w : World) : Prop := Lib.TabIs Tryd.prog w "internal/strconv.uint64pow10" .u64 Lib.pow10Tab

theorem infoIF8 : (Tryd.prog.info? 89).map (·.size) = some 3 := by kernel_rfl

/-- The results of indexOf. -/
def IxPost (l : List UInt8) (w : World) (e : Ending) (w' : World) : Prop :=
  ∃ x : Nat, x ≤ 1000000000 ∧ e = .returned (.tuple #[.int .i64 (x : Int), .bool (decide (0 ≤ snNumber l))]) ∧ (0 ≤ snNumber l → (x : Int) = snNumber l) ∧ Below w.heap.size w w'

set_option maxHeartbeats 1000000 in
theorem indexOf_any (l : List UInt8) (hl : l.length ≤ 1048576) (w : World) (ht : Pow8 w) :
    Calls Tryd.prog 70 #[.string ⟨l.toArray⟩] w fun e w' => IxPost l w e w' := by
  have htl := trimS_len l
  have HRD := hide (implReadDecimal_any ⟨(Lib.trimPrefix l [115]).toArray⟩ (by rw [size_mk8]; omega) w ht)
  rw [bl_mk8] at HRD
  have HT := hide ht
  clear ht
  cases hr : rdDec (Lib.trimPrefix l [115]) with
  | none =>
    have hn := trimS_none hr
    have HN := hide hn
    rw [hr, show rdVal none = .tuple #[.int .i64 0, .bool false] from rfl] at HRD
    clear hr hn
    go_enter Tryd.func70, Tryd.ntmps70
    go_wp2_with fail
    refine (Tryd.strings_TrimPrefix _ _ _).mono ?_
    rw [show Lib.trimPrefix (⟨l.toArray⟩ : ByteArray).data.toList (⟨#[115]⟩ : ByteArray).data.toList = Lib.trimPrefix l [115] from rfl]
    rintro e w1 ⟨rfl, rfl⟩
    go_wp2_with fail
    refine HRD.out.mono ?_
    rintro e w2 ⟨rfl, hb2⟩
    go_wp2_with fail
    refine bodyPost_ret (v := .tuple #[.int .i64 0, .bool false]) (by simp [results, Tryd.results70, go_sem]) rfl ?_
    exact ⟨0, by omega, by rw [HN.out]; rfl, fun h => by rw [HN.out] at h; omega, hb2⟩
  | some n =>
    have hn := rdDec_some hr
    have HN := hide (trimS_some hr)
    rw [hr, show rdVal (some n) = .tuple #[.int .i64 (n : Int), .bool true] from rfl] at HRD
    have HSN := hide (fun w ht => implSnapName_any (n : Int) (by omega) (by omega) w ht)
    clear hr
    by_cases he : snName n = l
    · rw [if_pos he] at HN
      rw [he] at HSN
      clear he
      have q1 : ((⟨l.toArray⟩ : ByteArray).toList == (⟨l.toArray⟩ : ByteArray).toList) = true := by simp
      go_enter Tryd.func70, Tryd.ntmps70
      go_wp2_with fail
      refine (Tryd.strings_TrimPrefix _ _ _).mono ?_
      rw [show Lib.trimPrefix (⟨l.toArray⟩ : ByteArray).data.toList (⟨#[115]⟩ : ByteArray).data.toList = Lib.trimPrefix l [115] from rfl]
      rintro e w1 ⟨rfl, rfl⟩
      go_wp2_with fail
      refine HRD.out.mono ?_
      rintro e w2 ⟨rfl, hb2⟩
      go_wp2_with fail
      refine (HSN.out _ (tab_below HT.out hb2)).mono ?_
      rintro e w3 ⟨rfl, hb3⟩
      go_wp2_with fail
      refine bodyPost_ret (v := .tuple #[.int .i64 (n : Int), .bool true]) (by simp [results, Tryd.results70, go_sem]) rfl ?_
      exact ⟨n, hn, by rw [HN.out, decide_eq_true (by omega)], fun _ => HN.out.symm, hb2.trans (hb3.mono hb2.size)⟩
    · rw [if_neg he] at HN
      have q1 : ((⟨(snName n).toArray⟩ : ByteArray).toList == (⟨l.toArray⟩ : ByteArray).toList) = false := by
        rw [Lib.toList_data, Lib.toList_data, beq_eq_false_iff_ne]; exact he
      have q2 : (snName n == l) = false := by rw [beq_eq_false_iff_ne]; exact he
      go_enter Tryd.func70, Tryd.ntmps70
      go_wp2_with fail
      refine (Tryd.strings_TrimPrefix _ _ _).mono ?_
      rw [show Lib.trimPrefix (⟨l.toArray⟩ : ByteArray).data.toList (⟨#[115]⟩ : ByteArray).data.toList = Lib.trimPrefix l [115] from rfl]
      rintro e w1 ⟨rfl, rfl⟩
      go_wp2_with fail
      refine HRD.out.mono ?_
      rintro e w2 ⟨rfl, hb2⟩
      go_wp2_with fail
      refine (HSN.out _ (tab_below HT.out hb2)).mono ?_
      rintro e w3 ⟨rfl, hb3⟩
      go_wp2_with fail
      refine bodyPost_ret (v := .tuple #[.int .i64 (n : Int), .bool false]) (by simp [results, Tryd.results70, go_sem]) rfl ?_
      exact ⟨n, hn, by rw [HN.out]; rfl, fun h => by rw [HN.out] at h; omega, hb2.trans (hb3.mono hb2.size)⟩

end Go.Proofs.YtpenpbopehbncaaDoor
