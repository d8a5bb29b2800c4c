/-
  Walks of chapter 8: the program's reader of a snapshot: what it must, a number, a short text, a conf; each hands back what it reads, or panics with the reader's own value.
-/
import Derived.Test.YtpenpbopehbncaaDoorSnap2
import Derived.Test.YtpenpbopehbncaaDoorPack18
import Derived.Test.YtpenpbopehbncaaDoorPack20
import Derived.Test.YtpenpbopehbncaaDoorWalk5b
import Derived.Test.YtpenpbopehbncaaDoorPack15
import Derived.Deep.RegionHeld3
import Derived.Deep.QuietTactic
import Derived.BigQuiet
import Derived.WalkSmall
namespace Go.Proofs.YtpenpbopehbncaaDoor
open Go.RowKit P1 P3 P9 P11 K
set_option linter.unusedVariables false
set_option linter.unusedSimpArgs false

/-- The value that the reader panics with. -/
def noS : List PanicEntry := [{ v := .iface 105 (.agg #[]), recovered := false }]

/-- The reader at block g: its text, and its place in it. -/
def SR (w : World) (g : Nat) (s : ByteArray) (a : Nat) : Prop :=
  a ≤ s.size ∧ w.heap[g]? = some (.cells #[.string s, .int .i64 (a : Int)] 74 (0, 0))
theorem SR.lt {w : World} {g : Nat} {s : ByteArray} {a : Nat} (h : SR w g s a) : g < w.heap.size := blk_lt h.2
theorem SR.kept {w w' : World} {g : Nat} {s : ByteArray} {a : Nat} (h : SR w g s a) (hb : w'.heap[g]? = w.heap[g]?) : SR w' g s a := ⟨h.1, hb.trans h.2⟩
theorem SR.cells {w : World} {g : Nat} {s : ByteArray} {a : Nat} (h : SR w g s a) : w.cell? ⟨g, 0, none⟩ = some (.string s) ∧ w.cell? ⟨g, 1, none⟩ = some (.int .i64 (a : Int)) ∧ w.frozen? ⟨g, 0, none⟩ = false ∧ w.frozen? ⟨g, 1, none⟩ = false :=
  ⟨blk_cell h.2 0 rfl, blk_cell h.2 1 rfl, blk_free h.2 0, blk_free h.2 1⟩
theorem SR.on {w w' : World} {g B : Nat} {s : ByteArray} {a : Nat} (h : SR w g s a) (hb : Below B w w') (hlt : g < B) : SR w' g s a := h.kept (hb.block g hlt)
theorem SR.to {w : World} {g : Nat} {s : ByteArray} {a : Nat} (h : SR w g s a) (c : Nat) (hc : c ≤ s.size) : SR (w.setCell ⟨g, 1, none⟩ (.int .i64 (c : Int))) g s c := ⟨hc, blk_set (k := 1) _ h.2⟩
theorem SR.text {w : World} {g : Nat} {s : ByteArray} (h : SR w g s 0) (s' : ByteArray) : SR (w.setCell ⟨g, 0, none⟩ (.string s')) g s' 0 := ⟨Nat.zero_le _, blk_set (k := 0) _ h.2⟩

theorem must_yes (g : Nat) (w : World) :
    Calls Tryd.prog 101 #[.pointer (some ⟨g, 0, none⟩), .bool true] w fun e w' => e = .returned (.tuple #[]) ∧ w = w' := by
  go_enter Tryd.func101, Tryd.ntmps101
  go_wp2_with fail
  refine bodyPost_end (results_none rfl _ _ _) rfl ?_
  exact ⟨rfl, rfl⟩

theorem must_no (g : Nat) (w : World) :
    Calls Tryd.prog 101 #[.pointer (some ⟨g, 0, none⟩), .bool false] w fun e w' => e = .panicked noS ∧ w = w' := by
  go_enter Tryd.func101, Tryd.ntmps101
  go_wp2_with fail
  exact ⟨rfl, rfl, rfl⟩

/-- The reader with what is left of its text. -/
def SL (w : World) (g : Nat) (s : ByteArray) (l : List UInt8) : Prop := ∃ a, SR w g s a ∧ (bl s).drop a = l

theorem SL.kept {w w' : World} {g : Nat} {s : ByteArray} {l : List UInt8} (h : SL w g s l) (hb : w'.heap[g]? = w.heap[g]?) : SL w' g s l := by
  obtain ⟨a, h1, h2⟩ := h
  exact ⟨a, h1.kept hb, h2⟩

theorem drop_add8 (s : ByteArray) (a c : Nat) : ((bl s).drop a).drop c = (bl s).drop (a + c) := by rw [List.drop_drop]

set_option maxHeartbeats 2000000 in
theorem number_yes (g : Nat) (s : ByteArray) (hs : s.size ≤ 1048576) (l r : List UInt8) (n : Nat) (most : Int) (w : World) (hc : SL w g s l) (h : rdV l = some (n, r)) (hm : (n : Int) ≤ most) :
    Calls Tryd.prog 98 #[.pointer (some ⟨g, 0, none⟩), .int .i64 most] w fun e w' => e = .returned (.int .i64 (n : Int)) ∧ SL w' g s r ∧ w.grownBy w' (some g) := by
  obtain ⟨a, hR, rfl⟩ := hc
  have ha := hR.1
  have hgl := hR.lt
  obtain ⟨c0, c1, z0, z1⟩ := hR.cells
  have HSR := hide hR
  clear hR
  unfold rdV at h
  cases hrd : rdGo 5 [] ((bl s).drop a) with
  | none => rw [hrd] at h; cases h
  | some q =>
    obtain ⟨v, c⟩ := q
    rw [hrd] at h
    simp only [Option.some.injEq, Prod.mk.injEq] at h
    obtain ⟨rfl, rfl⟩ := h
    have hbd := rdGo_some 5 [] _ v c hrd
    have hlen : ((bl s).drop a).length = s.size - a := by rw [List.length_drop, bl_length]
    rw [hlen] at hbd
    simp only [List.length_nil] at hbd
    obtain ⟨d1, d2, d3, d4⟩ := hbd
    clear hlen
    have HRD := hide hrd
    clear hrd
    go_enter Tryd.func98, Tryd.ntmps98
    go_wp2_with fail
    go_region_held3 (fun w' => w'.cell? ⟨g, 0, none⟩ = some (.string s) ∧ w'.cell? ⟨g, 1, none⟩ = some (.int .i64 (a : Int))) (first | go_keep | exact ⟨c0, c1⟩)
      (first | (go_at_call 108; refine (implReadVar_any s hs a ha _).mono ?_; rw [HRD.out]; unfold rvVal; rintro e w1 ⟨rfl, rfl⟩))
    go_wp2_with (go_at_call 101; refine (must_yes g _).mono ?_; rintro e w1 ⟨rfl, rfl⟩)
    go_ret
    refine ⟨rfl, ⟨a + c, ?_, (drop_add8 s a c).symm⟩, ?_⟩
    · have h1 := HSR.out.to (a + c) (by omega)
      have := h1.on (Below.refl _ _).drew h1.lt
      simpa using this
    · exact grown_trans (blk_grown _ g 1 _) (grown_below ((Below.refl _ _).drew))

set_option maxHeartbeats 2000000 in
theorem number_no (g : Nat) (s : ByteArray) (hs : s.size ≤ 1048576) (l : List UInt8) (most : Int) (w : World) (hc : SL w g s l) (h : ∀ n r, rdV l = some (n, r) → most < (n : Int)) :
    Calls Tryd.prog 98 #[.pointer (some ⟨g, 0, none⟩), .int .i64 most] w fun e w' => e = .panicked noS ∧ w.grownBy w' (some g) := by
  obtain ⟨a, hR, rfl⟩ := hc
  have ha := hR.1
  have hgl := hR.lt
  obtain ⟨c0, c1, z0, z1⟩ := hR.cells
  clear hR
  unfold rdV at h
  cases hrd : rdGo 5 [] ((bl s).drop a) with
  | none =>
    have HRD := hide hrd
    clear hrd h
    go_enter Tryd.func98, Tryd.ntmps98
    go_wp2_with fail
    go_region_held3 (fun w' => w'.cell? ⟨g, 0, none⟩ = some (.string s) ∧ w'.cell? ⟨g, 1, none⟩ = some (.int .i64 (a : Int))) (first | go_keep | exact ⟨c0, c1⟩)
      (first | (go_at_call 108; refine (implReadVar_any s hs a ha _).mono ?_; rw [HRD.out]; unfold rvVal; rintro e w1 ⟨rfl, rfl⟩))
    go_wp2_with (go_at_call 101; refine (must_no g _).mono ?_; rintro e w1 ⟨rfl, rfl⟩)
    exact ⟨rfl, rfl, grown_below ((Below.refl w.heap.size w).drew)⟩
  | some q =>
    obtain ⟨v, c⟩ := q
    rw [hrd] at h
    have hv := h v _ rfl
    have hbd := rdGo_some 5 [] _ v c hrd
    have hlen : ((bl s).drop a).length = s.size - a := by rw [List.length_drop, bl_length]
    rw [hlen] at hbd
    simp only [List.length_nil] at hbd
    obtain ⟨d1, d2, d3, d4⟩ := hbd
    clear hlen h
    have HRD := hide hrd
    have hv' : ¬ (v : Int) ≤ most := by omega
    have hv2 : decide ((v : Int) ≤ most) = false := by simp only [decide_eq_false_iff_not]; exact hv'
    clear hrd hv hv'
    go_enter Tryd.func98, Tryd.ntmps98
    go_wp2_with fail
    go_region_held3 (fun w' => w'.cell? ⟨g, 0, none⟩ = some (.string s) ∧ w'.cell? ⟨g, 1, none⟩ = some (.int .i64 (a : Int))) (first | go_keep | exact ⟨c0, c1⟩)
      (first | (go_at_call 108; refine (implReadVar_any s hs a ha _).mono ?_; rw [HRD.out]; unfold rvVal; rintro e w1 ⟨rfl, rfl⟩))
    go_wp2_with (go_at_call 101; refine (must_no g _).mono ?_; rintro e w1 ⟨rfl, rfl⟩)
    exact ⟨rfl, rfl, grown_below ((Below.refl w.heap.size w).drew)⟩

theorem extract_list (s : ByteArray) (a n : Nat) (h : a + n ≤ s.size) : s.extract a (a + n) = ⟨(((bl s).drop a).take n).toArray⟩ := by
  apply ByteArray.ext
  rw [ByteArray.data_extract]
  apply Array.ext'
  rw [Array.toList_extract, List.extract_eq_take_drop]
  show List.take (a + n - a) ((bl s).drop a) = _
  rw [show a + n - a = n by omega]

set_option maxHeartbeats 2000000 in
theorem short_yes (g : Nat) (s : ByteArray) (hs : s.size ≤ 20000) (l x r : List UInt8) (w : World) (hc : SL w g s l) (h : rdS l = some (x, r)) :
    Calls Tryd.prog 100 #[.pointer (some ⟨g, 0, none⟩)] w fun e w' => e = .returned (.string ⟨x.toArray⟩) ∧ SL w' g s r ∧ w.grownBy w' (some g) := by
  obtain ⟨a, hR, rfl⟩ := hc
  have ha := hR.1
  have hgl := hR.lt
  obtain ⟨c0, c1, z0, z1⟩ := hR.cells
  have HSR := hide hR
  clear hR
  unfold rdS rdV at h
  cases hrd : rdGo 5 [] ((bl s).drop a) with
  | none => rw [hrd] at h; cases h
  | some q =>
    obtain ⟨v, c⟩ := q
    rw [hrd] at h
    simp only at h
    split at h
    · rename_i hv
      simp only [Option.some.injEq, Prod.mk.injEq] at h
      obtain ⟨rfl, rfl⟩ := h
      rw [drop_add8] at hv ⊢
      rw [List.length_drop, bl_length] at hv
      have hbd := rdGo_some 5 [] _ v c hrd
      have hlen : ((bl s).drop a).length = s.size - a := by rw [List.length_drop, bl_length]
      rw [hlen] at hbd
      simp only [List.length_nil] at hbd
      obtain ⟨d1, d2, d3, d4⟩ := hbd
      clear hlen
      have HRS := hide (fun w => implReadShort_any s (by omega) a ha w)
      have e1 : rsVal s a (rdGo 5 [] ((bl s).drop a)) = .tuple #[.string ⟨(((bl s).drop (a + c)).take v).toArray⟩, .int .i64 (a + c + v : Nat), .bool true] := by
        rw [hrd]; unfold rsVal; simp only; rw [if_pos ⟨by omega, by omega⟩, extract_list s (a + c) v (by omega)]
      rw [e1] at HRS
      rw [drop_add8]
      clear hrd e1
      generalize (⟨(((bl s).drop (a + c)).take v).toArray⟩ : ByteArray) = X at HRS ⊢
      go_enter Tryd.func100, Tryd.ntmps100
      go_wp2_with fail
      go_region_held3 (fun w' => w'.cell? ⟨g, 0, none⟩ = some (.string s) ∧ w'.cell? ⟨g, 1, none⟩ = some (.int .i64 (a : Int))) (first | go_keep | exact ⟨(hb1.cell (by simpa using hgl)).trans c0, (hb1.cell (by simpa using hgl)).trans c1⟩)
        (first | (go_at_call 110; refine (HRS.out _).mono ?_; rintro e w1 ⟨rfl, hb1⟩))
      have hk1 := HSR.out.on ((Below.refl w.heap.size w).drew.trans (hb1.mono (by simp))) hgl
      have HG1 := hide (grown_below (row := some g) ((Below.refl w.heap.size w).drew.trans (hb1.mono (by simp))))
      clear c0 c1 z0 z1
      obtain ⟨c0, c1, z0, z1⟩ := hk1.cells
      have HK1 := hide hk1
      clear hk1 hb1
      go_wp2_with (go_at_call 101; refine (must_yes g _).mono ?_; rintro e w1 ⟨rfl, rfl⟩)
      go_ret
      refine ⟨rfl, ⟨a + c + v, ?_, rfl⟩, ?_⟩
      · have := HK1.out.to (a + c + v) (by omega)
        simpa using this
      · exact grown_trans HG1.out (blk_grown _ g 1 _)
    · cases h

set_option maxHeartbeats 2000000 in
theorem short_no (g : Nat) (s : ByteArray) (hs : s.size ≤ 20000) (l : List UInt8) (w : World) (hc : SL w g s l) (h : rdS l = none) :
    Calls Tryd.prog 100 #[.pointer (some ⟨g, 0, none⟩)] w fun e w' => e = .panicked noS ∧ w.grownBy w' (some g) := by
  obtain ⟨a, hR, rfl⟩ := hc
  have ha := hR.1
  have hgl := hR.lt
  obtain ⟨c0, c1, z0, z1⟩ := hR.cells
  clear hR
  have HRS := hide (fun w => implReadShort_any s (by omega) a ha w)
  have e1 : rsVal s a (rdGo 5 [] ((bl s).drop a)) = .tuple #[.string ⟨#[]⟩, .int .i64 0, .bool false] := by
    unfold rdS rdV at h
    cases hrd : rdGo 5 [] ((bl s).drop a) with
    | none => rfl
    | some q =>
      obtain ⟨v, c⟩ := q
      rw [hrd] at h
      simp only at h
      split at h
      · cases h
      · rename_i hv
        rw [drop_add8, List.length_drop, bl_length] at hv
        have hbd := rdGo_some 5 [] _ v c hrd
        have hlen : ((bl s).drop a).length = s.size - a := by rw [List.length_drop, bl_length]
        rw [hlen] at hbd
        unfold rsVal; simp only; rw [if_neg (by omega)]
  rw [e1] at HRS
  clear e1 h
  go_enter Tryd.func100, Tryd.ntmps100
  go_wp2_with fail
  go_region_held3 (fun w' => w'.cell? ⟨g, 0, none⟩ = some (.string s) ∧ w'.cell? ⟨g, 1, none⟩ = some (.int .i64 (a : Int))) (first | go_keep | exact ⟨(hb1.cell (by simpa using hgl)).trans c0, (hb1.cell (by simpa using hgl)).trans c1⟩)
    (first | (go_at_call 110; refine (HRS.out _).mono ?_; rintro e w1 ⟨rfl, hb1⟩))
  have HG1 := hide (grown_below (row := some g) ((Below.refl w.heap.size w).drew.trans (hb1.mono (by simp))))
  go_wp2_with (go_at_call 101; refine (must_no g _).mono ?_; rintro e w1 ⟨rfl, rfl⟩)
  exact ⟨rfl, rfl, HG1.out⟩

/-- What the reader's conf hands back: a new row. -/
def CfPost (w : World) (g : Nat) (s : ByteArray) (r : List UInt8) (z : List Int) (e : Ending) (w' : World) : Prop :=
  ∃ v, e = .returned v ∧ w'.ownsRow w.heap.size 3 1 v z.length (z.map icell) ∧ SL w' g s r ∧ w.grownBy w' (some g)

theorem rdS_len {l x r : List UInt8} (h : rdS l = some (x, r)) : x.length ≤ l.length := by
  have := (rdS_some h).1
  rw [this]
  simp only [shortB, List.length_append]
  omega

theorem SL.size {w : World} {g : Nat} {s : ByteArray} {l : List UInt8} (h : SL w g s l) : l.length ≤ s.size := by
  obtain ⟨a, -, rfl⟩ := h
  rw [List.length_drop, bl_length]
  omega

set_option maxHeartbeats 2000000 in
theorem conf_yes (g : Nat) (s : ByteArray) (hs : s.size ≤ 20000) (l x r : List UInt8) (w : World) (hg : g < w.heap.size) (hc : SL w g s l) (h : rdS l = some (x, r)) (hz : confOk (confZ x) = true) :
    Calls Tryd.prog 99 #[.pointer (some ⟨g, 0, none⟩)] w fun e w' => CfPost w g s r (confZ x) e w' := by
  have hxl := rdS_len h
  have hsz := hc.size
  have HS := hide (fun w hc => short_yes g s hs l x r w hc h)
  have HC := hide hc
  have HRC := hide (implReadConf_any ⟨x.toArray⟩ (by rw [size_mk8]; omega))
  rw [bl_mk8, rdConf_yes hz] at HRC
  clear h hc hz
  go_enter Tryd.func99, Tryd.ntmps99
  go_wp2_with fail
  refine (HS.out _ HC.out).mono ?_
  rintro e w1 ⟨rfl, hc1, hg1⟩
  have HC1 := hide hc1
  have HG1 := hide hg1
  have hs1 := hg1.size
  clear hc1 hg1
  go_wp2_with fail
  refine (HRC.out _).mono ?_
  rintro e w2 ⟨gb, cap, rfl, ho2, hb2⟩
  have HO2 := hide (own_base ho2 hs1)
  have HC2 := hide (HC1.out.kept (hb2.block g (by omega)))
  have HG2 := hide (grown_trans HG1.out (grown_below hb2))
  clear ho2 hb2
  go_wp2_with (go_at_call 101; refine (must_yes g _).mono ?_; rintro e w1 ⟨rfl, rfl⟩)
  refine bodyPost_ret (v := .slice (some ⟨gb, 0, none⟩) (confZ x).length cap) (by simp [results, Tryd.results99, go_sem]) rfl ?_
  exact ⟨_, rfl, HO2.out, HC2.out, HG2.out⟩

set_option maxHeartbeats 2000000 in
theorem conf_no1 (g : Nat) (s : ByteArray) (hs : s.size ≤ 20000) (l : List UInt8) (w : World) (hc : SL w g s l) (h : rdS l = none) :
    Calls Tryd.prog 99 #[.pointer (some ⟨g, 0, none⟩)] w fun e w' => e = .panicked noS ∧ w.grownBy w' (some g) := by
  have HS := hide (short_no g s hs l w hc h)
  clear hc h
  go_enter Tryd.func99, Tryd.ntmps99
  go_wp2_with fail
  refine HS.out.mono ?_
  rintro e w1 ⟨rfl, hg1⟩
  go_wp2_with fail
  exact ⟨rfl, rfl, hg1⟩

set_option maxHeartbeats 2000000 in
theorem conf_no2 (g : Nat) (s : ByteArray) (hs : s.size ≤ 20000) (l x r : List UInt8) (w : World) (hc : SL w g s l) (h : rdS l = some (x, r)) (hz : confOk (confZ x) = false) :
    Calls Tryd.prog 99 #[.pointer (some ⟨g, 0, none⟩)] w fun e w' => e = .panicked noS ∧ w.grownBy w' (some g) := by
  have hxl := rdS_len h
  have hsz := hc.size
  have HS := hide (short_yes g s hs l x r w hc h)
  have HRC := hide (implReadConf_any ⟨x.toArray⟩ (by rw [size_mk8]; omega))
  rw [bl_mk8, rdConf_no hz] at HRC
  clear h hc hz
  go_enter Tryd.func99, Tryd.ntmps99
  go_wp2_with fail
  refine HS.out.mono ?_
  rintro e w1 ⟨rfl, hc1, hg1⟩
  have HG1 := hide hg1
  clear hc1 hg1
  go_wp2_with fail
  refine (HRC.out _).mono ?_
  rintro e w2 ⟨gb, cap, rfl, ho2, hb2⟩
  have HG2 := hide (grown_trans HG1.out (grown_below hb2))
  clear ho2 hb2
  go_wp2_with (go_at_call 101; refine (must_no g _).mono ?_; rintro e w1 ⟨rfl, rfl⟩)
  exact ⟨rfl, rfl, HG2.out⟩

set_option maxHeartbeats 2000000 in
theorem unseal_yes (g : Nat) (s : ByteArray) (hs : s.size ≤ 20000) (l : List UInt8) (w : World) (hc : SR w g s 0) (htab : SumTabIs w) (h : unsealL (bl s) = some l) :
    Calls Tryd.prog 97 #[.pointer (some ⟨g, 0, none⟩)] w fun e w' => e = .returned (.tuple #[]) ∧ SR w' g ⟨l.toArray⟩ 0 ∧ w.grownBy w' (some g) := by
  have hgl := hc.lt
  have HU := hide (implUnsealed_any s (by omega) w htab)
  rw [h, show unsealVal (some l) = .tuple #[.string ⟨l.toArray⟩, .bool true] from rfl] at HU
  obtain ⟨c0, c1, z0, z1⟩ := hc.cells
  have HC := hide hc
  have g0 : (s.size : Int) ≤ 20000 := by omega
  clear hc h htab
  go_enter Tryd.func97, Tryd.ntmps97
  go_wp2_with (go_at_call 101; refine (must_yes g _).mono ?_; rintro e w1 ⟨rfl, rfl⟩)
  refine HU.out.mono ?_
  rintro e w1 ⟨rfl, hb1⟩
  have HC1 := hide (HC.out.on hb1 hgl)
  clear c0 c1 z0 z1
  obtain ⟨c0, c1, z0, z1⟩ := HC1.out.cells
  go_wp2_with (go_at_call 101; refine (must_yes g _).mono ?_; rintro e w1 ⟨rfl, rfl⟩)
  refine bodyPost_end (results_none rfl _ _ _) rfl ?_
  exact ⟨rfl, HC1.out.text _, grown_trans (grown_below hb1) (blk_grown _ g 0 _)⟩

set_option maxHeartbeats 2000000 in
theorem unseal_no (g : Nat) (s : ByteArray) (hs : s.size ≤ 1048576) (w : World) (hc : SR w g s 0) (htab : SumTabIs w) (h : 20000 < s.size ∨ unsealL (bl s) = none) :
    Calls Tryd.prog 97 #[.pointer (some ⟨g, 0, none⟩)] w fun e w' => e = .panicked noS ∧ w.grownBy w' (some g) := by
  have hgl := hc.lt
  obtain ⟨c0, c1, z0, z1⟩ := hc.cells
  by_cases hbig : 20000 < s.size
  · have g0 : ¬ (s.size : Int) ≤ 20000 := by omega
    clear hc h htab
    go_enter Tryd.func97, Tryd.ntmps97
    go_wp2_with (go_at_call 101; refine (must_no g _).mono ?_; rintro e w1 ⟨rfl, rfl⟩)
    exact ⟨rfl, rfl, World.grownBy.refl _ _⟩
  · have h' := h.resolve_left hbig
    have HU := hide (implUnsealed_any s (by omega) w htab)
    rw [h', show unsealVal none = .tuple #[.string ⟨#[]⟩, .bool false] from rfl] at HU
    have g0 : (s.size : Int) ≤ 20000 := by omega
    clear hc h htab h'
    go_enter Tryd.func97, Tryd.ntmps97
    go_wp2_with (go_at_call 101; refine (must_yes g _).mono ?_; rintro e w1 ⟨rfl, rfl⟩)
    refine HU.out.mono ?_
    rintro e w1 ⟨rfl, hb1⟩
    go_wp2_with (go_at_call 101; refine (must_no g _).mono ?_; rintro e w1 ⟨rfl, rfl⟩)
    exact ⟨rfl, rfl, grown_below hb1⟩

end Go.Proofs.YtpenpbopehbncaaDoor
