import Derived.Test.YtnkeofobhlafkaaTownG
import Derived.Laws.Bits64b
import Derived.Laws.Bits128
/- How many bits are set: what the six steps of OnesCount64 compute. -/
namespace Go.Proofs.Ytnkeofobhlafkaa
open Go.RowKit

/-- how many of the first bits of a number are set -/
def D.ones : Nat → Nat → Nat
  | 0, _ => 0
  | k + 1, x => x % 2 + D.ones k (x / 2)
/-- each of the first bytes of a number by a function -/
def D.map8 (F : Nat → Nat) : Nat → Nat → Nat
  | 0, _ => 0
  | k + 1, x => F (x % 256) + 256 * D.map8 F k (x / 256)
/-- a byte, so often -/
def D.rep (b : Nat) : Nat → Nat
  | 0 => 0
  | k + 1 => b + 256 * D.rep b k

theorem D.and_split (h l M n : Nat) (hl : l < 256) (hn : n < 256) : (l + 256 * h) &&& (n + 256 * M) = (l &&& n) + 256 * (h &&& M) := by
  have d : ((l + 256 * h) &&& (n + 256 * M)) / 2 ^ 8 = h &&& M := by
    rw [Nat.and_div_two_pow]
    have e1 : (l + 256 * h) / 2 ^ 8 = h := by omega
    have e2 : (n + 256 * M) / 2 ^ 8 = M := by omega
    rw [e1, e2]
  have r : ((l + 256 * h) &&& (n + 256 * M)) % 2 ^ 8 = l &&& n := by
    rw [Nat.and_mod_two_pow]
    have e1 : (l + 256 * h) % 2 ^ 8 = l := by omega
    have e2 : (n + 256 * M) % 2 ^ 8 = n := by omega
    rw [e1, e2]
  have := Nat.div_add_mod ((l + 256 * h) &&& (n + 256 * M)) (2 ^ 8)
  rw [d, r] at this
  omega
theorem D.and_low (y n : Nat) (s : Nat) (hn : n < 2 ^ s) : y &&& n = (y % 2 ^ s) &&& n := by
  have h1 : (y &&& n) < 2 ^ s := Nat.lt_of_le_of_lt Nat.and_le_right hn
  have h2 := Nat.and_mod_two_pow (a := y) (b := n) (n := s)
  rw [Nat.mod_eq_of_lt h1, Nat.mod_eq_of_lt hn] at h2
  exact h2
/-- a stage by bytes: shifted right by one -/
theorem D.shift1 (h l M n : Nat) (hl : l < 256) (hn : n < 128) : (l + 256 * h) / 2 &&& (n + 256 * M) = (l / 2 &&& n) + 256 * (h / 2 &&& M) := by
  have e : (l + 256 * h) / 2 = (l / 2 + 128 * (h % 2)) + 256 * (h / 2) := by omega
  rw [e, D.and_split _ _ _ _ (by omega) (by omega), D.and_low (l / 2 + 128 * (h % 2)) n 7 (by omega)]
  have e2 : (l / 2 + 128 * (h % 2)) % 2 ^ 7 = l / 2 := by omega
  rw [e2]
theorem D.shift2 (h l M n : Nat) (hl : l < 256) (hn : n < 64) : (l + 256 * h) / 4 &&& (n + 256 * M) = (l / 4 &&& n) + 256 * (h / 4 &&& M) := by
  have e : (l + 256 * h) / 4 = (l / 4 + 64 * (h % 4)) + 256 * (h / 4) := by omega
  rw [e, D.and_split _ _ _ _ (by omega) (by omega), D.and_low (l / 4 + 64 * (h % 4)) n 6 (by omega)]
  have e2 : (l / 4 + 64 * (h % 4)) % 2 ^ 6 = l / 4 := by omega
  rw [e2]
theorem D.byte_is (x : Nat) : x = x % 256 + 256 * (x / 256) := by omega

def D.P1 (y : Nat) : Nat := (y / 2 &&& 85) + (y &&& 85)
def D.P2 (y : Nat) : Nat := (y / 4 &&& 51) + (y &&& 51)
def D.P3 (y : Nat) : Nat := y / 16 + y % 16
theorem D.P_all : ∀ n : Fin 256, D.P1 n.val < 256 ∧ D.P2 (D.P1 n.val) < 256 ∧ D.P2 (D.P1 n.val) / 16 ≤ 4 ∧ D.P2 (D.P1 n.val) % 16 ≤ 4 ∧ D.P3 (D.P2 (D.P1 n.val)) = D.ones 8 n.val ∧ D.ones 8 n.val ≤ 8 := by decide +kernel

theorem D.stage1 (k : Nat) : ∀ x, x < 256 ^ k → (x / 2 &&& D.rep 85 k) + (x &&& D.rep 85 k) = D.map8 D.P1 k x := by
  induction k with
  | zero => intro x hx; simp [D.rep, D.map8]
  | succ k ih =>
    intro x hx
    have hq : x / 256 < 256 ^ k := by rw [Nat.div_lt_iff_lt_mul (by omega)]; rw [Nat.pow_succ] at hx; exact hx
    rw [D.rep, D.map8, ← ih _ hq]
    conv => lhs; rw [D.byte_is x]
    rw [D.shift1 _ _ _ _ (by omega) (by omega), D.and_split _ _ _ _ (by omega) (by omega)]
    unfold D.P1
    omega
theorem D.stage2 (k : Nat) : ∀ x, x < 256 ^ k → (x / 4 &&& D.rep 51 k) + (x &&& D.rep 51 k) = D.map8 D.P2 k x := by
  induction k with
  | zero => intro x hx; simp [D.rep, D.map8]
  | succ k ih =>
    intro x hx
    have hq : x / 256 < 256 ^ k := by rw [Nat.div_lt_iff_lt_mul (by omega)]; rw [Nat.pow_succ] at hx; exact hx
    rw [D.rep, D.map8, ← ih _ hq]
    conv => lhs; rw [D.byte_is x]
    rw [D.shift2 _ _ _ _ (by omega) (by omega), D.and_split _ _ _ _ (by omega) (by omega)]
    unfold D.P2
    omega
theorem D.map8_lt (F : Nat → Nat) (hF : ∀ y, y < 256 → F y < 256) (k : Nat) : ∀ x, D.map8 F k x < 256 ^ k := by
  induction k with
  | zero => intro x; simp [D.map8]
  | succ k ih =>
    intro x
    have a := ih (x / 256)
    have b := hF (x % 256) (by omega)
    rw [D.map8, Nat.pow_succ]
    omega
theorem D.map8_map8 (F G : Nat → Nat) (hF : ∀ y, y < 256 → F y < 256) (k : Nat) : ∀ x, D.map8 G k (D.map8 F k x) = D.map8 (fun y => G (F y)) k x := by
  induction k with
  | zero => intro x; rfl
  | succ k ih =>
    intro x
    have b := hF (x % 256) (by omega)
    have e1 : D.map8 F (k + 1) x % 256 = F (x % 256) := by rw [D.map8]; omega
    have e2 : D.map8 F (k + 1) x / 256 = D.map8 F k (x / 256) := by rw [D.map8]; omega
    rw [D.map8, e1, e2, ih]
    rfl
theorem D.stage3 (F : Nat → Nat) (hF : ∀ y, y < 256 → F y < 256 ∧ F y / 16 ≤ 4 ∧ F y % 16 ≤ 4) (k : Nat) : ∀ x, (D.map8 F k x / 16 + D.map8 F k x) &&& D.rep 15 k = D.map8 (fun y => D.P3 (F y)) k x := by
  induction k with
  | zero => intro x; simp [D.rep, D.map8]
  | succ k ih =>
    intro x
    obtain ⟨b1, b2, b3⟩ := hF (x % 256) (by omega)
    have hm : D.map8 F k (x / 256) % 16 ≤ 4 := by
      cases k with
      | zero => simp [D.map8]
      | succ k =>
        obtain ⟨c1, c2, c3⟩ := hF (x / 256 % 256) (by omega)
        rw [D.map8]; omega
    rw [D.rep]
    conv => rhs; rw [D.map8, ← ih]
    rw [D.map8]
    have e : (F (x % 256) + 256 * D.map8 F k (x / 256)) / 16 + (F (x % 256) + 256 * D.map8 F k (x / 256)) = (F (x % 256) / 16 + 16 * (D.map8 F k (x / 256) % 16) + F (x % 256)) + 256 * (D.map8 F k (x / 256) / 16 + D.map8 F k (x / 256)) := by omega
    rw [e, D.and_split _ _ _ _ (by omega) (by omega), D.and_low _ 15 4 (by omega)]
    have e2 : (F (x % 256) / 16 + 16 * (D.map8 F k (x / 256) % 16) + F (x % 256)) % 2 ^ 4 = D.P3 (F (x % 256)) := by unfold D.P3; omega
    have e3 : D.P3 (F (x % 256)) &&& 15 = D.P3 (F (x % 256)) := by
      have := D.and_low (D.P3 (F (x % 256))) 15 4 (by omega)
      have h8 : D.P3 (F (x % 256)) < 16 := by unfold D.P3; omega
      have := Nat.and_two_pow_sub_one_eq_mod (D.P3 (F (x % 256))) 4
      simp only [show 2 ^ 4 - 1 = 15 from rfl] at this
      rw [this]
      exact Nat.mod_eq_of_lt h8
    rw [e2, e3]
theorem D.ones_byte (k x : Nat) : D.ones (k + 8) x = D.ones 8 (x % 256) + D.ones k (x / 256) := by
  simp only [D.ones]
  have e : x / 2 / 2 / 2 / 2 / 2 / 2 / 2 / 2 = x / 256 := by omega
  rw [e]
  omega

theorem D.map8_congr (F G : Nat → Nat) (h : ∀ y, y < 256 → F y = G y) (k : Nat) : ∀ x, D.map8 F k x = D.map8 G k x := by
  induction k with
  | zero => intro x; rfl
  | succ k ih => intro x; rw [D.map8, D.map8, h _ (by omega), ih]
theorem D.and127 (f : Nat) (hf : f < 9223372036854775808) : bits .and .i64 (wrap64 (f : Int)) 127 = ((f % 128 : Nat) : Int) := by
  have e : wrap64 (f : Int) = f := by unfold wrap64; omega
  rw [e, i64_and127]
  omega
theorem D.map8_le (F : Nat → Nat) (v : Nat) (hF : ∀ y, y < 256 → F y ≤ v) (k : Nat) : ∀ x, D.map8 F k x ≤ v * D.rep 1 k := by
  induction k with
  | zero => intro x; simp [D.map8, D.rep]
  | succ k ih =>
    intro x
    have a := ih (x / 256)
    have b := hF (x % 256) (by omega)
    rw [D.map8, D.rep, Nat.mul_add, Nat.mul_one, Nat.mul_left_comm]
    omega
set_option maxHeartbeats 2000000 in
theorem D.pop_is (x : Nat) (hx : x < 18446744073709551616) : D.pop x = (D.ones 64 x : Int) := by
  have P := fun y (hy : y < 256) => D.P_all ⟨y, hy⟩
  have s1 := D.stage1 8 x (by omega)
  have l1 := D.map8_lt D.P1 (fun y hy => (P y hy).1) 8 x
  have s2 := D.stage2 8 (D.map8 D.P1 8 x) l1
  rw [D.map8_map8 D.P1 D.P2 (fun y hy => (P y hy).1)] at s2
  have l2 := D.map8_lt (fun y => D.P2 (D.P1 y)) (fun y hy => (P y hy).2.1) 8 x
  have s3 := D.stage3 (fun y => D.P2 (D.P1 y)) (fun y hy => ⟨(P y hy).2.1, (P y hy).2.2.1, (P y hy).2.2.2.1⟩) 8 x
  have l3 := D.map8_le (fun y => D.P2 (D.P1 y)) 68 (fun y hy => by have := P y hy; simp only at this ⊢; omega) 8 x
  have r0 : D.rep 1 8 = 72340172838076673 := rfl
  rw [r0] at l3
  have r1 : D.rep 85 8 = 6148914691236517205 := rfl
  have r2 : D.rep 51 8 = 3689348814741910323 := rfl
  have r3 : D.rep 15 8 = 1085102592571150095 := rfl
  rw [r1] at s1
  rw [r2] at s2
  rw [r3] at s3
  have e64 : 256 ^ 8 = 18446744073709551616 := rfl
  rw [e64] at l1 l2
  have s4 : D.map8 (fun y => D.P3 (D.P2 (D.P1 y))) 8 x = D.map8 (D.ones 8) 8 x := D.map8_congr _ _ (fun y hy => (P y hy).2.2.2.2.1) 8 x
  have oo : ∀ y, D.ones 8 (y % 256) ≤ 8 := fun y => (P (y % 256) (by omega)).2.2.2.2.2
  have o64 : D.ones 64 x = D.ones 8 (x % 256) + (D.ones 8 (x / 256 % 256) + (D.ones 8 (x / 256 / 256 % 256) + (D.ones 8 (x / 256 / 256 / 256 % 256) + (D.ones 8 (x / 256 / 256 / 256 / 256 % 256) + (D.ones 8 (x / 256 / 256 / 256 / 256 / 256 % 256) + (D.ones 8 (x / 256 / 256 / 256 / 256 / 256 / 256 % 256) + (D.ones 8 (x / 256 / 256 / 256 / 256 / 256 / 256 / 256 % 256) + 0))))))) := by
    have b7 : D.ones 64 x = D.ones 8 (x % 256) + D.ones 56 (x / 256) := D.ones_byte 56 x
    have b6 : D.ones 56 (x / 256) = D.ones 8 (x / 256 % 256) + D.ones 48 (x / 256 / 256) := D.ones_byte 48 _
    have b5 : D.ones 48 (x / 256 / 256) = D.ones 8 (x / 256 / 256 % 256) + D.ones 40 (x / 256 / 256 / 256) := D.ones_byte 40 _
    have b4 : D.ones 40 (x / 256 / 256 / 256) = D.ones 8 (x / 256 / 256 / 256 % 256) + D.ones 32 (x / 256 / 256 / 256 / 256) := D.ones_byte 32 _
    have b3 : D.ones 32 (x / 256 / 256 / 256 / 256) = D.ones 8 (x / 256 / 256 / 256 / 256 % 256) + D.ones 24 (x / 256 / 256 / 256 / 256 / 256) := D.ones_byte 24 _
    have b2 : D.ones 24 (x / 256 / 256 / 256 / 256 / 256) = D.ones 8 (x / 256 / 256 / 256 / 256 / 256 % 256) + D.ones 16 (x / 256 / 256 / 256 / 256 / 256 / 256) := D.ones_byte 16 _
    have b1 : D.ones 16 (x / 256 / 256 / 256 / 256 / 256 / 256) = D.ones 8 (x / 256 / 256 / 256 / 256 / 256 / 256 % 256) + D.ones 8 (x / 256 / 256 / 256 / 256 / 256 / 256 / 256) := D.ones_byte 8 _
    have b0 : D.ones 8 (x / 256 / 256 / 256 / 256 / 256 / 256 / 256) = D.ones 8 (x / 256 / 256 / 256 / 256 / 256 / 256 / 256 % 256) + 0 := D.ones_byte 0 _
    rw [b7, b6, b5, b4, b3, b2, b1, b0]
  have hc : D.map8 (D.ones 8) 8 x = D.ones 8 (x % 256) + 256 * (D.ones 8 (x / 256 % 256) + 256 * (D.ones 8 (x / 256 / 256 % 256) + 256 * (D.ones 8 (x / 256 / 256 / 256 % 256) + 256 * (D.ones 8 (x / 256 / 256 / 256 / 256 % 256) + 256 * (D.ones 8 (x / 256 / 256 / 256 / 256 / 256 % 256) + 256 * (D.ones 8 (x / 256 / 256 / 256 / 256 / 256 / 256 % 256) + 256 * (D.ones 8 (x / 256 / 256 / 256 / 256 / 256 / 256 / 256 % 256) + 256 * 0))))))) := rfl
  have w0 := oo x
  have w1 := oo (x / 256)
  have w2 := oo (x / 256 / 256)
  have w3 := oo (x / 256 / 256 / 256)
  have w4 := oo (x / 256 / 256 / 256 / 256)
  have w5 := oo (x / 256 / 256 / 256 / 256 / 256)
  have w6 := oo (x / 256 / 256 / 256 / 256 / 256 / 256)
  have w7 := oo (x / 256 / 256 / 256 / 256 / 256 / 256 / 256)
  rw [s4, hc] at s3
  rw [o64]
  generalize D.ones 8 (x % 256) = o0 at *
  generalize D.ones 8 (x / 256 % 256) = o1 at *
  generalize D.ones 8 (x / 256 / 256 % 256) = o2 at *
  generalize D.ones 8 (x / 256 / 256 / 256 % 256) = o3 at *
  generalize D.ones 8 (x / 256 / 256 / 256 / 256 % 256) = o4 at *
  generalize D.ones 8 (x / 256 / 256 / 256 / 256 / 256 % 256) = o5 at *
  generalize D.ones 8 (x / 256 / 256 / 256 / 256 / 256 / 256 % 256) = o6 at *
  generalize D.ones 8 (x / 256 / 256 / 256 / 256 / 256 / 256 / 256 % 256) = o7 at *
  generalize D.map8 D.P1 8 x = a at *
  generalize D.map8 (fun y => D.P2 (D.P1 y)) 8 x = b at *
  clear P oo o64 hc s4 r1 r2 r3
  have wu : ∀ n : Nat, n < 18446744073709551616 → IntKind.u64.wrap (n : Int) = n := fun n hn => by
    rw [IntKind.wrap_u64]
    omega
  have A : IntKind.u64.wrap (bits .and .u64 ((x : Int) / 2) 6148914691236517205 + bits .and .u64 (x : Int) 6148914691236517205) = (a : Nat) := by
    have e1 := bits_and_u64_nat (x / 2) 6148914691236517205 (by omega) (by omega)
    have e2 := bits_and_u64_nat x 6148914691236517205 hx (by omega)
    have e3 : ((x / 2 : Nat) : Int) = (x : Int) / 2 := by omega
    rw [e3] at e1
    have e4 : ((6148914691236517205 : Nat) : Int) = 6148914691236517205 := rfl
    rw [e4] at e1 e2
    rw [e1, e2, ← Int.natCast_add, s1]
    exact wu a l1
  have B : IntKind.u64.wrap (bits .and .u64 ((a : Int) / 4) 3689348814741910323 + bits .and .u64 (a : Int) 3689348814741910323) = (b : Nat) := by
    have e1 := bits_and_u64_nat (a / 4) 3689348814741910323 (by omega) (by omega)
    have e2 := bits_and_u64_nat a 3689348814741910323 l1 (by omega)
    have e3 : ((a / 4 : Nat) : Int) = (a : Int) / 4 := by omega
    rw [e3] at e1
    have e4 : ((3689348814741910323 : Nat) : Int) = 3689348814741910323 := rfl
    rw [e4] at e1 e2
    rw [e1, e2, ← Int.natCast_add, s2]
    exact wu b l2
  obtain ⟨c, hc⟩ : ∃ c : Nat, c = o0 + 256 * (o1 + 256 * (o2 + 256 * (o3 + 256 * (o4 + 256 * (o5 + 256 * (o6 + 256 * (o7 + 256 * 0))))))) := ⟨_, rfl⟩
  rw [← hc] at s3
  have hb16 : b / 16 + b < 18446744073709551616 := by omega
  have C : bits .and .u64 (IntKind.u64.wrap ((b : Int) / 16 + (b : Int))) 1085102592571150095 = (c : Nat) := by
    have e3 : (b : Int) / 16 + (b : Int) = ((b / 16 + b : Nat) : Int) := by omega
    have e4 : ((1085102592571150095 : Nat) : Int) = 1085102592571150095 := rfl
    rw [e3, wu _ hb16, ← e4, bits_and_u64_nat _ _ hb16 (by omega), s3]
  unfold D.pop
  simp only [A, B, C]
  have D1 : IntKind.u64.wrap ((c : Int) + (c : Int) / 256) = ((c + c / 256 : Nat) : Int) := by
    rw [show (c : Int) + (c : Int) / 256 = ((c + c / 256 : Nat) : Int) by omega]
    exact wu _ (by omega)
  rw [D1]
  obtain ⟨d, hd⟩ : ∃ d : Nat, d = c + c / 256 := ⟨_, rfl⟩
  rw [← hd]
  have E1 : IntKind.u64.wrap ((d : Int) + (d : Int) / 65536) = ((d + d / 65536 : Nat) : Int) := by
    rw [show (d : Int) + (d : Int) / 65536 = ((d + d / 65536 : Nat) : Int) by omega]
    exact wu _ (by omega)
  rw [E1]
  obtain ⟨e, he⟩ : ∃ e : Nat, e = d + d / 65536 := ⟨_, rfl⟩
  rw [← he]
  have F1 : IntKind.u64.wrap ((e : Int) + (e : Int) / 4294967296) = ((e + e / 4294967296 : Nat) : Int) := by
    rw [show (e : Int) + (e : Int) / 4294967296 = ((e + e / 4294967296 : Nat) : Int) by omega]
    exact wu _ (by omega)
  rw [F1, D.and127 _ (by omega)]
  have c1 : c / 256 = o1 + 256 * (o2 + 256 * (o3 + 256 * (o4 + 256 * (o5 + 256 * (o6 + 256 * o7))))) := by omega
  have d1 : d = (o0 + o1) + 256 * ((o1 + o2) + 256 * ((o2 + o3) + 256 * ((o3 + o4) + 256 * ((o4 + o5) + 256 * ((o5 + o6) + 256 * ((o6 + o7) + 256 * o7)))))) := by omega
  have d2 : d / 65536 = (o2 + o3) + 256 * ((o3 + o4) + 256 * ((o4 + o5) + 256 * ((o5 + o6) + 256 * ((o6 + o7) + 256 * o7)))) := by clear hc hd c1; omega
  have x1 : e = (o0 + o1 + o2 + o3) + 256 * ((o1 + o2 + o3 + o4) + 256 * ((o2 + o3 + o4 + o5) + 256 * ((o3 + o4 + o5 + o6) + 256 * ((o4 + o5 + o6 + o7) + 256 * ((o5 + o6 + o7) + 256 * ((o6 + o7) + 256 * o7)))))) := by rw [he, d2, d1]; omega
  have x2 : e / 4294967296 = (o4 + o5 + o6 + o7) + 256 * ((o5 + o6 + o7) + 256 * ((o6 + o7) + 256 * o7)) := by clear hc hd he c1 d1 d2; omega
  have : (e + e / 4294967296) % 128 = o0 + (o1 + (o2 + (o3 + (o4 + (o5 + (o6 + (o7 + 0))))))) := by rw [x2, x1]; clear hc hd he c1 d1 d2 x1 x2; omega
  rw [this]

end Go.Proofs.Ytnkeofobhlafkaa
