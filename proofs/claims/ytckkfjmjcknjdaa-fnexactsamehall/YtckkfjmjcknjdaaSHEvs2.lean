/-
  Walks and mathematics of Evs2.
-/
import Derived.Test.YtckkfjmjcknjdaaSHEvs1
namespace Go.Proofs.Ytckkfjmjcknjdaa.P1
end Go.Proofs.Ytckkfjmjcknjdaa.P1
namespace Go.Proofs.Ytckkfjmjcknjdaa.P11
end Go.Proofs.Ytckkfjmjcknjdaa.P11
namespace Go.Proofs.Ytckkfjmjcknjdaa.P14
end Go.Proofs.Ytckkfjmjcknjdaa.P14
namespace Go.Proofs.Ytckkfjmjcknjdaa.P3
end Go.Proofs.Ytckkfjmjcknjdaa.P3
namespace Go.Proofs.Ytckkfjmjcknjdaa.P5
end Go.Proofs.Ytckkfjmjcknjdaa.P5
namespace Go.Proofs.Ytckkfjmjcknjdaa
open Go.RowKit P1 P3 P5 P9 P11 P12 P14 K
set_option linter.unusedVariables false
set_option linter.unusedSimpArgs false

theorem szV_yes {n k m : Nat} {left : Int} (h : left < (n : Int) + k + m) : szV n k m left = -1 := if_pos h

theorem szV_no {n k m : Nat} {left : Int} (h : ¬ left < (n : Int) + k + m) : szV n k m left = left - n - k - m := if_neg h

def SzPost (w : World) (es : List EvV) (left : Int) (e : Ending) (w' : World) : Prop := ∃ z : Int, e = .returned (.int .i64 z) ∧ z ≤ left ∧ (0 ≤ z → z + (evW es : Int) + (es.length : Int) = left) ∧ Below w.heap.size w w'

set_option maxHeartbeats 2000000 in
theorem szEventS_any (oa : Option Addr) (n cap : Nat) (es : List EvV) (left : Int) (h0 : 0 ≤ left) (h1 : left ≤ 1048576) (w : World) (hat : EvsAt w oa n cap es) :
    Calls Try.prog 50 #[.slice oa n cap, .int .i64 left] w (SzPost w es left) := by
  have hn := hat.len
  have hmx := Nat.le_trans hat.room hat.most
  unfold maxLen at hmx
  by_cases c1 : left - n < 0
  · go_enter Try.func50, Try.ntmps50
    go_wp2_with fail
    go_ret
    exact ⟨-1, rfl, by omega, fun h => by omega, Below.refl _ _⟩
  · have HN := hide hn
    have HAT := hide hat
    clear hn hat
    go_enter Try.func50, Try.ntmps50
    go_wp2_with fail
    go_loopw [5, 1] (fun i l wr => ∃ (j : Nat) (x : Int), i = .int .i64 (j : Int) ∧ l = .int .i64 x ∧ j ≤ n ∧ 0 ≤ x ∧ x ≤ left ∧ x + (evW (es.take j) : Int) + (n : Int) = left ∧ Below w.heap.size w wr) (fun i _ _ => n - (intOf i).toNat)
    case atStart => exact ⟨0, left - n, rfl, rfl, Nat.zero_le _, by omega, by omega, by simp [evW], Below.refl _ _⟩
    case round =>
      obtain ⟨j, x, rfl, rfl, hj, hx0, hx1, hsum, hbel⟩ := hrel
      have HSUM := hide hsum
      clear hsum
      by_cases hlt : j < n
      · have j0 : (j : Int) < (n : Int) := by omega
        obtain ⟨e, b, q, xa, xc, ya, yc, he, hidx, hev⟩ := (HAT.out.below hbel).get Try.underlying36 infoLV j hlt
        obtain ⟨c0, c1', c2, c3, c4, c5, c6, c7, c8⟩ := hev.cs
        have HC := hide (szEvent_any e.id e.kind e.sender e.user e.member e.depth xa e.levels.length xc e.text ya e.prev.length yc (Nat.le_trans hev.lev.room hev.lev.most) hev.txt (Nat.le_trans hev.prv.room hev.prv.most) x hx0 (by omega))
        have HT := hide (evW_take he)
        clear hev he
        by_cases c2' : x < (e.levels.length : Int) + (e.text.length : Int) + (e.prev.length : Int)
        · rw [szV_yes c2'] at HC
          clear HT c2'
          go_wp2_with (go_at_call 72; refine (HC.out _).mono ?_; rintro e' w2 ⟨rfl, hb2⟩)
          go_ret
          exact ⟨-1, rfl, by omega, fun h => by omega, hbel.trans (hb2.mono hbel.size)⟩
        · rw [szV_no c2'] at HC
          have hx2 : 0 ≤ x - (e.levels.length : Int) - (e.text.length : Int) - (e.prev.length : Int) := by omega
          have hx3 : x - (e.levels.length : Int) - (e.text.length : Int) - (e.prev.length : Int) ≤ left := by omega
          have HS2 := hide (show x - (e.levels.length : Int) - (e.text.length : Int) - (e.prev.length : Int) + (evW (es.take (j + 1)) : Int) + (n : Int) = left by
            have := HSUM.out
            rw [HT.out]
            unfold evw
            omega)
          generalize x - (e.levels.length : Int) - (e.text.length : Int) - (e.prev.length : Int) = y at HC HS2 hx2 hx3
          have g2 : ¬ y < 0 := by omega
          clear HT c2'
          go_wp2_with (go_at_call 72; refine (HC.out _).mono ?_; rintro e' w2 ⟨rfl, hb2⟩)
          go_roundw
          case rel => exact ⟨j + 1, y, by go_num, rfl, by omega, hx2, hx3, HS2.out, hbel.trans (hb2.mono hbel.size)⟩
          case measure => simp [intOf]; omega
      · have HE := hide (show es.take j = es from List.take_of_length_le (by rw [HN.out]; omega))
        go_wp2_with fail
        go_ret
        refine ⟨x, rfl, hx1, fun _ => ?_, hbel⟩
        have := HSUM.out
        rw [HE.out] at this
        rw [HN.out]
        exact this

def ToEvs (w : World) (n : Nat) (es : List EvV) (e : Ending) (w' : World) : Prop :=
  ∃ g, e = .returned (.slice (some ⟨g, 0, none⟩) n n) ∧ EvsAt w' (some ⟨g, 0, none⟩) n n es ∧ EvSh w' w.heap.size w'.heap.size g es ∧ Below w.heap.size w w'

set_option maxHeartbeats 8000000 in
theorem toEventS_any (oa : Option Addr) (n cap : Nat) (es : List EvV) (hfine : FineE es) (w : World) (hat : EvsAt w oa n cap es) :
    Calls Try.prog 57 #[.slice oa n cap] w (ToEvs w n es) := by
  have hn := hat.len
  have hn20 : n ≤ 1048576 := by rw [← hn]; exact hfine.len
  obtain ⟨i0, hi, hz0, hz1, hz2⟩ := info_parts infoIVz
  obtain ⟨W0, hmk, hown0, hgr0⟩ := run_make_full (P := Try.prog) w w.heap.size 23 83 i0 _ 9 Try.underlying23 hi hz0 hz1 .i64 .i64 n (by rw [hz2]; omega) (by unfold maxLen; omega) (Nat.le_refl _)
  have hin0 : EvsIn W0 w.heap.size w.heap.size n es 0 := by
    rcases hown0.2 with ⟨h1, -⟩ | ⟨g, c, cur, h1, -, hb, -, -, hcs, -⟩
    · cases h1
    · cases h1
      exact ⟨cur, hb, hcs, fun i e hi => absurd hi (Nat.not_lt_zero _)⟩
  have hfit : ∀ e ∈ es, (∀ z ∈ e.levels, (Lit.int .i64 z).wf = true) ∧ (∀ z ∈ e.prev, (Lit.int .i64 z).wf = true) ∧ e.text.length ≤ maxLen := by
    intro e he
    obtain ⟨i, hi⟩ := List.getElem?_of_mem he
    obtain ⟨b, o, xa, xc, ya, yc, _, hev⟩ := hat.at_ i e hi
    exact ⟨hev.lev.fits, hev.prv.fits, hev.txt⟩
  have HIN := hide hin0
  have HGR := hide hgr0
  have HN := hide hn
  have HAT := hide hat
  have HFI := hide hfine
  have HFT := hide hfit
  clear hown0 hgr0 hn hat hi hz0 hz1 hz2 hin0 hfine hfit
  go_enter Try.func57, Try.ntmps57
  go_wp2_with fail
  go_loopw [4] (fun i wr => ∃ (j : Nat), i = .int .i64 (j : Int) ∧ j ≤ n ∧ EvsIn wr w.heap.size w.heap.size n es j ∧ Below w.heap.size w wr) (fun i _ => n - (intOf i).toNat)
  case atStart => exact ⟨0, rfl, Nat.zero_le _, HIN.out, (Below.refl _ _).grown HGR.out (Nat.le_refl _) (fun k hk => by cases hk)⟩
  case round =>
    obtain ⟨j, rfl, hj, hin, hbel⟩ := hrel
    have hsz := hbel.size
    by_cases hlt : j < n
    · have j0 : (j : Int) < (n : Int) := by omega
      obtain ⟨e, b, q, xa, xc, ya, yc, he, hidx, hev⟩ := (HAT.out.below hbel).get Try.underlying36 infoLV j hlt
      obtain ⟨c0, c1, c2, c3, c4, c5, c6, c7, c8⟩ := hev.cs
      obtain ⟨l1, l2, l3⟩ := HFI.out.one (List.mem_of_getElem? he)
      have HC := hide (toEvent_any e.id e.kind e.sender e.user e.member e.depth xa e.levels.length xc e.levels e.text ya e.prev.length yc e.prev l1 l3 wr hev.lev hev.prv)
      have hidx2 : ∀ wx, (Instr.indexAt 23 (.slice (some ⟨w.heap.size, 0, none⟩) n n) (.int .i64 (j : Int))).run Try.prog wx = .ok (.pointer (some ⟨w.heap.size, j * 9, none⟩)) wx := fun wx => by
        have := run_indexAt_slice wx 23 83 9 Try.underlying23 infoIV w.heap.size 0 n n j hlt
        rwa [Nat.zero_add] at this
      obtain ⟨cs, hblk, hcs, hall⟩ := hin
      have HBK := hide hblk
      have HCS := hide hcs
      have HALL := hide hall
      have HE := hide he
      clear hev he hblk hcs hall l1 l2 l3
      go_wp2_with (go_at_call 75; refine HC.out.mono ?_; rintro e' w2 ⟨g1, g2, rfl, hl2, hp2, hlt2, hb2⟩; have hbk2 := (hb2.block w.heap.size (blk_lt HBK.out)).trans HBK.out; have hos := HCS.out; obtain ⟨y0, y1, y2, y3, y4, y5, y6, y7, y8, d0, d1, d2, d3, d4, d5, d6, d7, d8⟩ := blk_nine (o := j * 9) hbk2 (by omega); have f0 := blk_free hbk2 (j * 9); have f1 := blk_free hbk2 (j * 9 + 1); have f2 := blk_free hbk2 (j * 9 + 2); have f3 := blk_free hbk2 (j * 9 + 3); have f4 := blk_free hbk2 (j * 9 + 4); have f5 := blk_free hbk2 (j * 9 + 5); have f6 := blk_free hbk2 (j * 9 + 6); have f7 := blk_free hbk2 (j * 9 + 7); have f8 := blk_free hbk2 (j * 9 + 8); have HBK2 := hide hbk2; have HL2 := hide hl2; have HP2 := hide hp2; clear hbk2 hl2 hp2 hos)
      obtain ⟨w5, hw5, ⟨cs5, hb5, hs5, ho5, hn5⟩, hg5⟩ := blk_all9 (o := j * 9) HBK2.out (by have := HCS.out; omega) (.int .i64 e.id) (.int .i64 e.kind) (.int .i64 e.sender) (.int .i64 e.user) (.int .i64 e.member) (.slice (some ⟨g1, 0, none⟩) e.levels.length e.levels.length) (.string ⟨e.text.toArray⟩) (.slice (some ⟨g2, 0, none⟩) e.prev.length e.prev.length) (.int .i64 e.depth)
      rw [hw5]
      have hin5 : EvsIn w5 w.heap.size w.heap.size n es (j + 1) := by
        refine ⟨cs5, hb5, by rw [hs5, HCS.out], fun i e2 hi he2 => ?_⟩
        by_cases hij : i = j
        · subst hij
          have hee : e = e2 := by have := HE.out; rw [he2] at this; exact (Option.some.inj this).symm
          subst hee
          have hne : ∀ {v : Value} {m : Nat} {xs : List Value}, w2.ownsRow wr.heap.size 3 1 v m xs → v.ownBlock ≠ some w.heap.size := by
            intro v m xs ho qq
            have := (ho.lt _ qq).1
            have := blk_lt HBK.out
            omega
          exact ⟨g1, g2, fun jj u hu => hn5 jj u hu, own_base (HL2.out.kept hg5 (Or.inr (hne HL2.out))) hsz, own_base (HP2.out.kept hg5 (Or.inr (hne HP2.out))) hsz⟩
        · exact ((HALL.out i e2 (by omega) he2).on hb2).set HBK2.out hg5 (fun jj hjj => ho5 _ (by omega))
      have hB5 : Below w.heap.size w w5 := (hbel.trans (hb2.mono hsz)).grown hg5 (Nat.le_trans hsz hb2.size) (fun k hk => by cases hk; exact Nat.le_refl _)
      have HI5 := hide hin5
      clear hin5 hw5 hb5 hs5 ho5 hn5 hg5
      go_roundw
      case rel => exact ⟨j + 1, by go_num, by omega, HI5.out, hB5⟩
      case measure => simp [intOf]; omega
    · have hjn : j = n := by omega
      subst hjn
      have HI := hide hin
      clear hin
      go_wp2_with fail
      go_ret
      exact ⟨w.heap.size, rfl, HI.out.at_ HN.out (by unfold maxLen; omega) HFT.out, HI.out.sh HN.out (Nat.le_refl _), hbel⟩

end Go.Proofs.Ytckkfjmjcknjdaa
