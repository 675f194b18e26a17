/-
  Plain mathematics of hash.Mac: the two pads of a key.
  No condition.
-/
import Derived.Test.YtgonidjajmjniaaDoorOf
namespace Go.Proofs.YtgonidjajmjniaaDoor
open Go.RowKit Wr Sh
set_option linter.unusedVariables false
set_option maxRecDepth 100000
namespace Sh
/-- The key, hashed if it is too long. -/
def hkey (k : List UInt8) : List UInt8 := if 64 < k.length then sha k else k
/-- The key extended to 64 bytes. -/
def ext64 (k : List UInt8) : List UInt8 := k ++ List.replicate (64 - k.length) 0
def padk (k : List UInt8) (c : UInt8) : List UInt8 := (ext64 k).map (· ^^^ c)
def mac (key text : List UInt8) : List UInt8 := sha (padk (hkey key) 0x5c ++ sha (padk (hkey key) 0x36 ++ text))
/-- Where the first i bytes have been combined. -/
def mixk (b : List UInt8) (c : UInt8) (i : Nat) : List UInt8 := (b.take i).map (· ^^^ c) ++ b.drop i
end Sh
theorem hkey_le (k : List UInt8) : (hkey k).length ≤ 64 := by
  unfold hkey; split
  · rw [sha_len]; omega
  · omega
theorem ext64_len (k : List UInt8) (h : k.length ≤ 64) : (ext64 k).length = 64 := by simp [ext64]; omega
theorem padk_len (k : List UInt8) (c : UInt8) (h : k.length ≤ 64) : (padk k c).length = 64 := by simp [padk, ext64_len k h]
theorem mixk_zero (b : List UInt8) (c : UInt8) : mixk b c 0 = b := by simp [mixk]
theorem mixk_all (b : List UInt8) (c : UInt8) (h : b.length = 64) : mixk b c 64 = b.map (· ^^^ c) := by
  unfold mixk; rw [List.take_of_length_le (by omega), List.drop_eq_nil_of_le (by omega), List.append_nil]
theorem mixk_at (b : List UInt8) (c : UInt8) (i : Nat) (h : i < b.length) : (B8 (mixk b c i))[i]? = some (.int .u8 (b[i].toNat : Int)) := by
  unfold mixk B8
  rw [List.getElem?_map, List.getElem?_append_right (by simp; omega)]
  simp [Nat.min_eq_left (Nat.le_of_lt h), h]
theorem mixk_set (b : List UInt8) (c : UInt8) (i : Nat) (h : i < b.length) : (B8 (mixk b c i)).set i (.int .u8 ((b[i] ^^^ c).toNat : Int)) = B8 (mixk b c (i + 1)) := by
  unfold mixk B8
  have e : i - (List.map (fun c : UInt8 => Value.int .u8 (c.toNat : Int)) (List.map (fun x => x ^^^ c) (List.take i b))).length = 0 := by simp; omega
  rw [List.map_append, List.set_append_right _ _ (by simp; omega), e, List.drop_eq_getElem_cons h, List.map_cons, List.set_cons_zero, List.take_succ_eq_append_getElem h]
  simp only [List.map_append, List.map_cons, List.map_nil, List.append_assoc, List.singleton_append]
theorem copy_n (k : List UInt8) (n : Nat) (h : k.length ≤ n) : splice (B8 (List.replicate n 0)) 0 (B8 k) = B8 (k ++ List.replicate (n - k.length) 0) := by
  unfold splice B8
  simp
theorem copy_ext (k : List UInt8) (h : k.length ≤ 64) : splice (B8 (List.replicate 64 0)) 0 (B8 k) = B8 (ext64 k) := copy_n k 64 h
theorem xor_c (x : UInt8) (c : UInt8) (n : Nat) (h : n = c.toNat) : bits .xor .u8 (x.toNat : Int) (n : Int) = ((x ^^^ c).toNat : Int) := by
  subst h; rw [u8_xor_nat _ _ x.toNat_lt c.toNat_lt, ← UInt8.toNat_xor]
end Go.Proofs.YtgonidjajmjniaaDoor
