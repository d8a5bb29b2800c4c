/-
  Walks and mathematics of Plain1.
-/
namespace Go.Proofs.Ythieilmjbefamaa.P1

def figB (n : Nat) : UInt8 := if n < 10 then UInt8.ofNat (48 + n) else UInt8.ofNat (87 + n)

theorem figB_lo (n : Nat) (h : n < 10) : (figB n).toNat = 48 + n := by
  unfold figB; rw [if_pos h]; simp [UInt8.toNat_ofNat']; omega
theorem figB_hi (n : Nat) (h : 10 ≤ n) (h' : n < 16) : (figB n).toNat = 87 + n := by
  unfold figB; rw [if_neg (by omega)]; simp [UInt8.toNat_ofNat']; omega

end Go.Proofs.Ythieilmjbefamaa.P1
