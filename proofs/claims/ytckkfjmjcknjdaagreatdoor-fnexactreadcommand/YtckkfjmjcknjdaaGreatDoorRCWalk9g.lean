/-
  Walks and mathematics of Walk9g, Walk9h, Walk9i.
-/
import Derived.Test.YtckkfjmjcknjdaaGreatDoorRCPlain1
import Derived.Test.YtckkfjmjcknjdaaGreatDoorRCWalk1a
import Derived.Test.YtckkfjmjcknjdaaGreatDoorRCWalk1b
import Derived.Test.YtckkfjmjcknjdaaGreatDoorRCInts
import Derived.Test.YtckkfjmjcknjdaaGreatDoorRCShelf
import Derived.Test.YtckkfjmjcknjdaaGreatDoorRCKit
import Derived.Test.YtckkfjmjcknjdaaGreatDoorRCBox
import Derived.Test.YtckkfjmjcknjdaaGreatDoorRCWalk9e
import Derived.Test.YtckkfjmjcknjdaaGreatDoorRCShort1
import Derived.Test.YtckkfjmjcknjdaaGreatDoorRCQuietIn
namespace Go.Proofs.YtckkfjmjcknjdaaGreatDoor.P3
end Go.Proofs.YtckkfjmjcknjdaaGreatDoor.P3
namespace Go.Proofs.YtckkfjmjcknjdaaGreatDoor
open Go.RowKit P1 P3 P9 P11 P12 K
set_option linter.unusedVariables false
set_option linter.unusedSimpArgs false

theorem varZ_len (z : Int) : (varZ z).length ≤ 10 := varB_length _

theorem vars_len : ∀ (zs : List Int), (zs.flatMap varZ).length ≤ 10 * zs.length
  | [] => by simp
  | z :: r => by
    have h1 := varZ_len z
    have h2 := vars_len r
    simp only [List.flatMap_cons, List.length_append, List.length_cons]
    omega

theorem vars_next {zs : List Int} {j : Nat} {z : Int} (h : zs[j]? = some z) : (zs.take (j + 1)).flatMap varZ = (zs.take j).flatMap varZ ++ varZ z := by
  rw [List.take_add_one, h]
  simp

theorem bytes_next {zs : List Int} {j : Nat} {z : Int} (h : zs[j]? = some z) : (zs.map byB).take (j + 1) = (zs.map byB).take j ++ [byB z] := by
  rw [List.take_add_one, List.getElem?_map, h]
  simp

theorem byB_nat {z : Int} (h : 0 ≤ z ∧ z ≤ 255) : z = ((byB z).toNat : Int) := (bz_byB h).symm

set_option maxHeartbeats 1000000 in
theorem l09Byte_any (z : Int) (hz : 0 ≤ z ∧ z ≤ 255) (w : World) :
    Calls Tryz.prog 26 #[.int .i64 z] w fun e w' => e = .returned (.string ⟨[byB z].toArray⟩) ∧ Below w.heap.size w w' := by
  obtain ⟨h0, h1⟩ := hz
  have hconv := run_string_one (P := Tryz.prog) w (src := 55) (dst := 9) Tryz.underlying55 Tryz.underlying5 Tryz.underlying9 (byB z)
  rw [← byB_nat ⟨h0, h1⟩] at hconv
  go_enter Tryz.func26, Tryz.ntmps26
  go_wp2_with fail
  go_ret
  exact ⟨rfl, (Below.refl _ _).alloc (Nat.le_refl _) _⟩

end Go.Proofs.YtckkfjmjcknjdaaGreatDoor

namespace Go.Proofs.YtckkfjmjcknjdaaGreatDoor
open Go.RowKit P1 P3 P9 P11 P12 K
set_option linter.unusedVariables false
set_option linter.unusedSimpArgs false
attribute [local go_sem ↓] Go.wp_at_zero Go.wp_at_succ

theorem inw_more8 {w2 : World} (m : InW (fun w' => Below w2.heap.size w2 w')) {w3 : World} (h : Below m.w.heap.size m.w w3) : Below w2.heap.size w2 w3 := m.h.trans (h.mono m.h.size)

theorem inw_from8 {w w2 : World} (hb : Below w.heap.size w w2) (m : InW (fun w' => Below w2.heap.size w2 w')) : Below w.heap.size w m.w := hb.trans (m.h.mono hb.size)

theorem add_fact (P : Program) (a b : List UInt8) (h : a.length + b.length ≤ 1048576) (wx : World) : (Op.stringOp .add ⟨a.toArray⟩ ⟨b.toArray⟩).run P wx = .ok (.string ⟨(a ++ b).toArray⟩) wx := by
  rw [← cat_two8]
  exact run_string_add_sum _ _ _ (by rw [size_mk8, size_mk8]; omega)

theorem lv_next {zs : List Int} {pre : List UInt8} {j : Nat} {z : Int} (h : zs[j]? = some z) : pre ++ (zs.map byB).take (j + 1) = (pre ++ (zs.map byB).take j) ++ [byB z] := by
  rw [bytes_next h, List.append_assoc]

def evHead (kd sn us mb : Int) (n : Nat) : List UInt8 := (((([byB kd] ++ [byB sn]) ++ [byB us]) ++ [byB mb]) ++ varB n)

theorem evHead_body (id kd sn us mb dp : Int) (zl zp : List Int) (tx : List UInt8) : evHead kd sn us mb zl.length ++ zl.map byB ++ shortB tx = evBody (⟨id, kd, sn, us, mb, zl, tx, zp, dp⟩ : EvV) := by
  simp [evHead, evBody]

theorem evHead_len (kd sn us mb : Int) (n : Nat) : (evHead kd sn us mb n).length ≤ 14 := by
  have := varB_length n
  simp [evHead]
  omega

set_option maxHeartbeats 4000000 in
theorem l09BodyText_any (id kd sn us mb dp : Int) (oa : Option Addr) (n cl : Nat) (tx : List UInt8) (ob : Option Addr) (m cp : Nat) (zl zp : List Int) {id' dp' : Int} {zp' : List Int} (he : EvIn (⟨id', kd, sn, us, mb, zl, tx, zp', dp'⟩ : EvV)) (w : World) (hat : IntsAt w oa n cl zl) :
    Calls Tryz.prog 28 #[evval id kd sn us mb dp (.slice oa n cl) (.slice ob m cp) tx] w fun e w' => e = .returned (.string ⟨(evBody (⟨id, kd, sn, us, mb, zl, tx, zp, dp⟩ : EvV)).toArray⟩) ∧ Below w.heap.size w w' := by
  have hn := hat.len
  have hkd := he.kind
  have hsn := he.sender
  have hus := he.user
  have hmb := he.member
  have hmany := he.many
  have htx := he.text
  have HLV := hide he.levels
  simp only at hkd hsn hus hmb hmany htx HLV
  rw [hn] at hmany
  rw [← evHead_body id kd sn us mb dp zl zp tx, hn]
  have hhl := evHead_len kd sn us mb n
  have hvl := varB_length n
  have f1 := add_fact Tryz.prog [byB kd] [byB sn] (by simp)
  have f2 := add_fact Tryz.prog ([byB kd] ++ [byB sn]) [byB us] (by simp)
  have f3 := add_fact Tryz.prog (([byB kd] ++ [byB sn]) ++ [byB us]) [byB mb] (by simp)
  have f4 : ∀ wx, (Op.stringOp .add ⟨((([byB kd] ++ [byB sn]) ++ [byB us]) ++ [byB mb]).toArray⟩ ⟨(varB n).toArray⟩).run Tryz.prog wx = .ok (.string ⟨(evHead kd sn us mb n).toArray⟩) wx := add_fact Tryz.prog _ (varB n) (by simp; omega)
  have HY1 := hide (l09Byte_any kd (by omega))
  have HY2 := hide (l09Byte_any sn (by omega))
  have HY3 := hide (l09Byte_any us (by omega))
  have HY4 := hide (l09Byte_any mb (by omega))
  have HV := hide (l01Var_any n (by omega))
  generalize (⟨((([byB kd] ++ [byB sn]) ++ [byB us]) ++ [byB mb]).toArray⟩ : ByteArray) = Y3 at f3 f4
  generalize (⟨(([byB kd] ++ [byB sn]) ++ [byB us]).toArray⟩ : ByteArray) = Y2 at f2 f3
  generalize (⟨([byB kd] ++ [byB sn]).toArray⟩ : ByteArray) = Y1 at f1 f2
  generalize (⟨[byB kd].toArray⟩ : ByteArray) = X1 at f1 HY1
  generalize (⟨[byB sn].toArray⟩ : ByteArray) = X2 at f1 HY2
  generalize (⟨[byB us].toArray⟩ : ByteArray) = X3 at f2 HY3
  generalize (⟨[byB mb].toArray⟩ : ByteArray) = X4 at f3 HY4
  generalize (⟨(varB n).toArray⟩ : ByteArray) = X5 at f4 HV
  generalize evHead kd sn us mb n = H0 at f4 hhl ⊢
  have HE0 := hide (EB.new w id kd sn us mb dp (.slice oa n cl) (.slice ob m cp) tx)
  have HB0 := hide ((Below.refl w.heap.size w).alloc (Nat.le_refl _) (.cells #[.int .i64 id, .int .i64 kd, .int .i64 sn, .int .i64 us, .int .i64 mb, .slice oa n cl, .string ⟨tx.toArray⟩, .slice ob m cp, .int .i64 dp] 29))
  have HAT := hide hat
  have HSH := hide (l05Short_any tx (by omega))
  have HSL := hide (shortB_length tx)
  have HN := hide hn
  clear hat hn he
  go_enter Tryz.func28, Tryz.ntmps28
  go_wp2_with fail
  generalize (w.alloc (.cells #[.int .i64 id, .int .i64 kd, .int .i64 sn, .int .i64 us, .int .i64 mb, .slice oa n cl, .string ⟨tx.toArray⟩, .slice ob m cp, .int .i64 dp] 29)) = w0 at HE0 HB0 ⊢
  refine wp_region_in (F := fun w' => Below w0.heap.size w0 w') (by kernel_rfl) (by kernel_rfl) (Below.refl _ _).drew ?_
  have hne : Nonempty (InW (fun w' => Below w0.heap.size w0 w')) := ⟨⟨_, Below.refl _ _⟩⟩
  have hev := fun m : InW (fun w' => Below w0.heap.size w0 w') => (HE0.out.on m.h HE0.out.lt).ev
  have k0 := fun m => (hev m).c0
  have k1 := fun m => (hev m).c1
  have k2 := fun m => (hev m).c2
  have k3 := fun m => (hev m).c3
  have k4 := fun m => (hev m).c4
  have k5 := fun m => (hev m).c5
  have k6 := fun m => (hev m).c6
  have k7 := fun m => (hev m).c7
  have k8 := fun m => (hev m).c8
  clear hev
  repeat (go_big_quiet_step (first
    | (go_at_call 26; (with_reducible refine (HY1.out _).mono ?_); rintro e w3 ⟨rfl, hb3⟩; exact ⟨rfl, ⟨w3, inw_more8 _ hb3⟩, rfl⟩)
    | (go_at_call 26; (with_reducible refine (HY2.out _).mono ?_); rintro e w3 ⟨rfl, hb3⟩; exact ⟨rfl, ⟨w3, inw_more8 _ hb3⟩, rfl⟩)
    | (go_at_call 26; (with_reducible refine (HY3.out _).mono ?_); rintro e w3 ⟨rfl, hb3⟩; exact ⟨rfl, ⟨w3, inw_more8 _ hb3⟩, rfl⟩)
    | (go_at_call 26; (with_reducible refine (HY4.out _).mono ?_); rintro e w3 ⟨rfl, hb3⟩; exact ⟨rfl, ⟨w3, inw_more8 _ hb3⟩, rfl⟩)
    | (go_at_call 27; (with_reducible refine (HV.out _).mono ?_); rintro e w3 ⟨rfl, hb3⟩; exact ⟨rfl, ⟨w3, inw_more8 _ hb3⟩, rfl⟩)))
  refine wpQuiet_nil ?_
  intro _ hw'
  obtain ⟨nq, hw''⟩ := hw'
  subst hw''
  have HB1 := hide nq.h
  clear hne k0 k1 k2 k3 k4 k5 k6 k7 k8
  generalize nq.w = w1 at HB1 ⊢
  go_wp2_with fail
  go_loopw [3, 4] (fun s i wr => ∃ (j : Nat) (S : ByteArray), i = .int .i64 (j : Int) ∧ j ≤ n ∧ s = .string S ∧ S = ⟨(H0 ++ (zl.map byB).take j).toArray⟩ ∧ Below w0.heap.size w0 wr) (fun _ i _ => n - (intOf i).toNat)
  case atStart => exact ⟨0, _, rfl, Nat.zero_le _, rfl, by simp, HB1.out⟩
  case round =>
    obtain ⟨j, S, rfl, hj, rfl, hS, hbel⟩ := hrel
    have HS := hide hS
    have HBL := hide hbel
    have HBW := hide (HB0.out.trans (hbel.mono HB0.out.size))
    have HEV := hide (HE0.out.on hbel HE0.out.lt)
    clear hS hbel
    obtain ⟨c0, c1, c2, c3, c4, c5, c6, c7, c8⟩ := HEV.out.ev
    by_cases hlt : j < n
    · have j0 : (j : Int) < (n : Int) := by omega
      obtain ⟨z, b, q, hz, hidx, hb, cz, hwf⟩ := (HAT.out.below HBW.out).get Tryz.underlying22 infoI j hlt
      obtain ⟨hz1, hz4⟩ := HLV.out z (List.mem_of_getElem? hz)
      have HBY := hide (l09Byte_any z (by omega))
      have hadd := add_fact Tryz.prog (H0 ++ (zl.map byB).take j) [byB z] (by rw [List.length_append, List.length_take]; simp; omega)
      rw [← lv_next hz, ← HS.out] at hadd
      obtain ⟨S', hS'⟩ : ∃ S' : ByteArray, (⟨(H0 ++ (zl.map byB).take (j + 1)).toArray⟩ : ByteArray) = S' := ⟨_, rfl⟩
      rw [hS'] at hadd
      have HS' := hide hS'
      generalize (⟨[byB z].toArray⟩ : ByteArray) = X at HBY hadd
      clear hz hS'
      go_wp2_with fail
      refine (HBY.out _).mono ?_
      rintro e w2 ⟨rfl, hb2⟩
      have HB2 := hide (HBL.out.trans (hb2.mono HBL.out.size))
      clear hb2
      go_wp2_with fail
      go_roundw
      case rel => exact ⟨j + 1, S', by go_num, by omega, rfl, HS'.out.symm, HB2.out⟩
      case measure => simp [intOf]; omega
    · have hjn : j = n := by omega
      have hadd := add_fact Tryz.prog (H0 ++ zl.map byB) (shortB tx) (by have := HSL.out; rw [List.length_append, List.length_map, HN.out]; omega)
      have e1 : (⟨(H0 ++ zl.map byB).toArray⟩ : ByteArray) = S := by
        rw [HS.out, hjn, List.take_of_length_le (by rw [List.length_map, HN.out]; exact Nat.le_refl _)]
      rw [e1] at hadd
      clear e1
      generalize (⟨(shortB tx).toArray⟩ : ByteArray) = X at HSH hadd
      go_wp2_with fail
      refine (HSH.out _).mono ?_
      rintro e w2 ⟨rfl, hb2⟩
      have HB2 := hide (HBW.out.trans (hb2.mono HBW.out.size))
      clear hb2
      go_wp2_with fail
      go_ret
      exact ⟨by simp, HB2.out⟩

end Go.Proofs.YtckkfjmjcknjdaaGreatDoor

namespace Go.Proofs.YtckkfjmjcknjdaaGreatDoor
open Go.RowKit P1 P3 P9 P11 P12 K
set_option linter.unusedVariables false
set_option linter.unusedSimpArgs false
attribute [local go_sem ↓] Go.wp_at_zero Go.wp_at_succ

def etV (r : Option (List UInt8)) : Value := match r with | some x => .tuple #[.string ⟨x.toArray⟩, .bool true] | none => .tuple #[.string ⟨#[]⟩, .bool false]

theorem etV_no {e : EvV} (h : evOk e = false) : etV (evText e) = .tuple #[.string ⟨#[]⟩, .bool false] := by simp [etV, evText, h]

theorem etV_yes {e : EvV} (h : evOk e = true) : etV (evText e) = .tuple #[.string ⟨(evB e).toArray⟩, .bool true] := by simp [etV, evText, h]

theorem evB_parts (e : EvV) : ((varZ e.id ++ evBody e) ++ varB e.prev.length) ++ e.prev.flatMap varZ ++ varZ e.depth = evB e := by simp [evB]

theorem evBody_len {e : EvV} (h : EvIn e) : (evBody e).length ≤ 60 := by
  have h1 := varB_length e.levels.length
  have h2 := (shortB_length e.text).1
  have h3 := h.many
  have h4 := h.text
  simp [evBody]
  omega

set_option maxHeartbeats 4000000 in
theorem specEventText_any (id kd sn us mb dp : Int) (oa : Option Addr) (n cl : Nat) (tx : List UInt8) (ob : Option Addr) (m cp : Nat) (zl zp : List Int) (hx : tx.length ≤ 1048576) (w : World) (hat : IntsAt w oa n cl zl) (hbt : IntsAt w ob m cp zp) :
    Calls Tryz.prog 29 #[evval id kd sn us mb dp (.slice oa n cl) (.slice ob m cp) tx] w fun e w' => e = .returned (etV (evText (⟨id, kd, sn, us, mb, zl, tx, zp, dp⟩ : EvV))) ∧ Below w.heap.size w w' := by
  have hm := hbt.len
  have HOK := hide (fun w hat hbt => specEventOk_any id kd sn us mb dp oa n cl tx ob m cp zl zp hx w hat hbt)
  have HE0 := hide (EB.new w id kd sn us mb dp (.slice oa n cl) (.slice ob m cp) tx)
  have hb0 := (Below.refl w.heap.size w).alloc (Nat.le_refl _) (.cells #[.int .i64 id, .int .i64 kd, .int .i64 sn, .int .i64 us, .int .i64 mb, .slice oa n cl, .string ⟨tx.toArray⟩, .slice ob m cp, .int .i64 dp] 29)
  have HB0 := hide hb0
  have HA0 := hide (hat.below hb0)
  have HC0 := hide (hbt.below hb0)
  have HAT := hide hat
  have HBT := hide hbt
  clear hat hbt hb0
  cases cok : evOk (⟨id, kd, sn, us, mb, zl, tx, zp, dp⟩ : EvV) with
  | false =>
    rw [etV_no cok]
    rw [cok] at HOK
    clear cok
    go_enter Tryz.func29, Tryz.ntmps29
    go_wp2_with fail
    refine (HOK.out _ HA0.out HC0.out).mono ?_
    rintro e w1 ⟨rfl, hb1⟩
    go_wp2_with fail
    go_ret2
    exact ⟨rfl, HB0.out.trans (hb1.mono HB0.out.size)⟩
  | true =>
    rw [etV_yes cok]
    have hin := evOk_in cok
    rw [cok] at HOK
    clear cok
    have hid := hin.id
    have hdp := hin.depth
    have hpm := hin.prevs
    have HPV := hide hin.prev
    have hbl := evBody_len hin
    have HBO := hide (fun w hat => l09BodyText_any id kd sn us mb dp oa n cl tx ob m cp zl zp hin w hat)
    simp only at hid hdp hpm HPV
    rw [← evB_parts]
    simp only
    rw [hm] at hpm ⊢
    generalize evBody (⟨id, kd, sn, us, mb, zl, tx, zp, dp⟩ : EvV) = BO at hbl HBO ⊢
    clear hin
    have hv1 := varZ_len id
    have hv2 := varB_length m
    have f1 := add_fact Tryz.prog (varZ id) BO (by omega)
    have f2 := add_fact Tryz.prog (varZ id ++ BO) (varB m) (by simp; omega)
    have H1 := hide (l01Var_int id (by omega) (by omega))
    rw [show varB id.toNat = varZ id from rfl] at H1
    have H2 := hide (l01Var_any m (by omega))
    have hhl : ((varZ id ++ BO) ++ varB m).length ≤ 100 := by simp; omega
    generalize (varZ id ++ BO) ++ varB m = H0 at f2 hhl ⊢
    generalize (⟨(varZ id ++ BO).toArray⟩ : ByteArray) = Y1 at f1 f2
    generalize (⟨(varZ id).toArray⟩ : ByteArray) = X1 at f1 H1
    generalize (⟨BO.toArray⟩ : ByteArray) = X2 at f1 HBO
    generalize (⟨(varB m).toArray⟩ : ByteArray) = X3 at f2 H2
    have H3 := hide (l01Var_int dp (by omega) (by omega))
    rw [show varB dp.toNat = varZ dp from rfl] at H3
    have hv3 := varZ_len dp
    have HN := hide hm
    clear hm
    go_enter Tryz.func29, Tryz.ntmps29
    go_wp2_with fail
    refine (HOK.out _ HA0.out HC0.out).mono ?_
    rintro e w0 ⟨rfl, hb1⟩
    have HE1 := hide (HE0.out.on hb1 HE0.out.lt)
    have HB1 := hide (HB0.out.trans (hb1.mono HB0.out.size))
    clear hb1 HE0 HB0 HA0 HC0
    go_wp2_with fail
    refine wp_region_in (F := fun w' => Below w0.heap.size w0 w') (by kernel_rfl) (by kernel_rfl) (Below.refl _ _).drew ?_
    have hne : Nonempty (InW (fun w' => Below w0.heap.size w0 w')) := ⟨⟨_, Below.refl _ _⟩⟩
    have hev := fun m : InW (fun w' => Below w0.heap.size w0 w') => (HE1.out.on m.h HE1.out.lt).ev
    have k0 := fun m => (hev m).c0
    have k1 := fun m => (hev m).c1
    have k2 := fun m => (hev m).c2
    have k3 := fun m => (hev m).c3
    have k4 := fun m => (hev m).c4
    have k5 := fun m => (hev m).c5
    have k6 := fun m => (hev m).c6
    have k7 := fun m => (hev m).c7
    have k8 := fun m => (hev m).c8
    clear hev
    repeat (go_big_quiet_step (first
      | (go_at_call 27; with_reducible refine (H1.out _).mono ?_; rintro e w3 ⟨rfl, hb3⟩; exact ⟨rfl, ⟨w3, inw_more8 _ hb3⟩, rfl⟩)
      | (go_at_call 27; with_reducible refine (H2.out _).mono ?_; rintro e w3 ⟨rfl, hb3⟩; exact ⟨rfl, ⟨w3, inw_more8 _ hb3⟩, rfl⟩)
      | (go_at_call 28; refine (HBO.out _ (HAT.out.below (inw_from8 HB1.out _))).mono ?_; rintro e w3 ⟨rfl, hb3⟩; exact ⟨rfl, ⟨w3, inw_more8 _ hb3⟩, rfl⟩)))
    refine wpQuiet_nil ?_
    intro _ hw'
    obtain ⟨nq, hw''⟩ := hw'
    subst hw''
    have HB2 := hide nq.h
    clear hne k0 k1 k2 k3 k4 k5 k6 k7 k8
    generalize nq.w = w1 at HB2 ⊢
    go_wp2_with fail
    go_loopw [4, 5] (fun s i wr => ∃ (j : Nat) (S : ByteArray), i = .int .i64 (j : Int) ∧ j ≤ m ∧ s = .string S ∧ S = ⟨(H0 ++ (zp.take j).flatMap varZ).toArray⟩ ∧ Below w0.heap.size w0 wr) (fun _ i _ => m - (intOf i).toNat)
    case atStart => exact ⟨0, _, rfl, Nat.zero_le _, rfl, by simp, HB2.out⟩
    case round =>
      obtain ⟨j, S, rfl, hj, rfl, hS, hbel⟩ := hrel
      have HS := hide hS
      have HBL := hide hbel
      have HBW := hide (HB1.out.trans (hbel.mono HB1.out.size))
      have HEV := hide (HE1.out.on hbel HE1.out.lt)
      have hvs := vars_len (zp.take j)
      rw [List.length_take] at hvs
      clear hS hbel
      obtain ⟨c0, c1, c2, c3, c4, c5, c6, c7, c8⟩ := HEV.out.ev
      by_cases hlt : j < m
      · have j0 : (j : Int) < (m : Int) := by omega
        obtain ⟨z, b, q, hz, hidx, hb, cz, hwf⟩ := (HBT.out.below HBW.out).get Tryz.underlying22 infoI j hlt
        obtain ⟨hz1, hz4⟩ := HPV.out z (List.mem_of_getElem? hz)
        have HBY := hide (l01Var_int z (by omega) (by omega))
        rw [show varB z.toNat = varZ z from rfl] at HBY
        have hvz := varZ_len z
        have hadd := add_fact Tryz.prog (H0 ++ (zp.take j).flatMap varZ) (varZ z) (by rw [List.length_append]; omega)
        rw [List.append_assoc, ← vars_next hz, ← HS.out] at hadd
        obtain ⟨S', hS'⟩ : ∃ S' : ByteArray, (⟨(H0 ++ (zp.take (j + 1)).flatMap varZ).toArray⟩ : ByteArray) = S' := ⟨_, rfl⟩
        rw [hS'] at hadd
        have HS' := hide hS'
        generalize (⟨(varZ z).toArray⟩ : ByteArray) = X at HBY hadd
        clear hz hS' hvs hvz
        go_wp2_with fail
        refine (HBY.out _).mono ?_
        rintro e w2 ⟨rfl, hb2⟩
        have HB3 := hide (HBL.out.trans (hb2.mono HBL.out.size))
        clear hb2
        go_wp2_with fail
        go_roundw
        case rel => exact ⟨j + 1, S', by go_num, by omega, rfl, HS'.out.symm, HB3.out⟩
        case measure => simp [intOf]; omega
      · have hjn : j = m := by omega
        have hadd := add_fact Tryz.prog (H0 ++ zp.flatMap varZ) (varZ dp) (by have := vars_len zp; have := HN.out; rw [List.length_append]; omega)
        have e1 : (⟨(H0 ++ zp.flatMap varZ).toArray⟩ : ByteArray) = S := by
          rw [HS.out, hjn, List.take_of_length_le (by rw [HN.out]; exact Nat.le_refl _)]
        rw [e1] at hadd
        clear e1 hvs
        generalize (⟨(varZ dp).toArray⟩ : ByteArray) = X at H3 hadd
        go_wp2_with fail
        refine (H3.out _).mono ?_
        rintro e w2 ⟨rfl, hb2⟩
        have HB3 := hide (HBW.out.trans (hb2.mono HBW.out.size))
        clear hb2
        go_wp2_with fail
        go_ret2
        exact ⟨by simp, HB3.out⟩

end Go.Proofs.YtckkfjmjcknjdaaGreatDoor
