/-
  Words for leaves in memory; the contract of the closure of merkle's digestOf.
  Conditions: keys and values of at most 2^30 bytes; the table of the round constants is as the text lays it.
-/
import Derived.Test.YtofccgkgjcnfbaaDoorOf
import Derived.Test.YtofccgkgjcnfbaaDoorHalf
import Derived.Deep.RegionHeld
namespace Go.Proofs.YtofccgkgjcnfbaaDoor
open Go.RowKit Wr Sh
set_option linter.unusedVariables false
set_option maxRecDepth 100000

def dof (t : UInt8) (l : List ByteArray) : List UInt8 := (sha (inp t l)).take 16
theorem dof_len (t : UInt8) (l : List ByteArray) : (dof t l).length = 16 := by unfold dof; rw [List.length_take, sha_len]; rfl
def bs (l : List UInt8) : ByteArray := ⟨l.toArray⟩
theorem bs_size (l : List UInt8) : (bs l).size = l.length := by simp [bs, ByteArray.size]
theorem bs_list (l : List UInt8) : (bs l).data.toList = l := by simp [bs]
def node (l r : List UInt8) : List UInt8 := dof 4 [bs l, bs r]
def lf (x : Lf) : List UInt8 := dof 3 [x.1, x.2]
def Z16 : List Value := List.replicate 16 (.int .u8 0)
/-- The cells of leaves. -/
def LC (L : List Lf) : List Value := L.flatMap fun x => [.string x.1, .string x.2]
theorem LC_len (L : List Lf) : (LC L).length = 2 * L.length := by
  induction L with
  | nil => rfl
  | cons x L ih => unfold LC at *; rw [List.flatMap_cons, List.length_append, ih]; simp; omega
theorem LC_cons (x : Lf) (L : List Lf) : LC (x :: L) = .string x.1 :: .string x.2 :: LC L := rfl
theorem LC_append (A B : List Lf) : LC (A ++ B) = LC A ++ LC B := by unfold LC; rw [List.flatMap_append]
theorem LC_at : ∀ (L : List Lf) (i : Nat) (h : i < L.length), (LC L)[i * 2]? = some (.string L[i].1) ∧ (LC L)[i * 2 + 1]? = some (.string L[i].2)
  | x :: L, 0, _ => ⟨rfl, rfl⟩
  | x :: L, i + 1, h => by
    have := LC_at L i (by simpa using h)
    rw [LC_cons, show (i + 1) * 2 = i * 2 + 1 + 1 by omega]
    exact this
theorem LC_one (L : List Lf) : ∀ u ∈ LC L, u.oneCell' = true := by
  intro u hu
  unfold LC at hu
  rw [List.mem_flatMap] at hu
  obtain ⟨x, _, hx⟩ := hu
  simp at hx
  rcases hx with rfl | rfl <;> rfl
theorem inp_cons (t : UInt8) (s : ByteArray) (l : List ByteArray) : (inp t (s :: l)).length ≤ (inp t l).length + s.size + 9 := by
  unfold inp
  rw [List.map_cons, List.flatten_cons, List.length_cons, List.length_cons, List.length_append]
  unfold encStr
  rw [List.length_append, size_l]
  have := (enc_le (s.data.toList.length : Int)).2
  rw [size_l] at this
  omega
theorem inp_nil (t : UInt8) : (inp t []).length = 1 := rfl
/-- hash.Of of a list of parts just built. -/
theorem of_new (tag : Int) (t8 : UInt8) (htag : IntKind.u8.wrap tag = (t8.toNat : Int)) (l : List ByteArray) (n : Nat) (hn : n = l.length) (hs : (inp t8 l).length ≤ 274877906944) (W0 : World) (g : Nat) (hg : g = W0.heap.size) (W1 : World) (hW1 : W1 = W0.alloc (.cells (St l).toArray 9)) (ht : Tab 1 W1) (D : List UInt8) (hD : Hid (D = dof t8 l)) :
    Calls Tryd.prog 76 #[.int .i64 tag, .slice (some ⟨g, 0, none⟩) n n] W1 fun e w' => e = .returned (.agg (B8 D).toArray) ∧ Below W1.heap.size W1 w' := by
  subst hg hn hW1
  rw [hD.out]
  exact of_go tag (some ⟨W0.heap.size, 0, none⟩) l l.length _ (rd_new W0 (St l) 9) (Nat.le_refl _) t8 htag hs ht _ (Lib.hid rfl)
theorem inp_2 (t : UInt8) (a b : ByteArray) (ha : a.size ≤ 1073741824) (hb : b.size ≤ 1073741824) : (inp t [a, b]).length ≤ 274877906944 := by
  have h1 := inp_cons t a [b]
  have h2 := inp_cons t b []
  have h3 := inp_nil t
  omega
theorem conv_at (g o c : Nat) (T : List UInt8) (W : World) (hc : ∀ (j : Nat) u, (B8 T)[j]? = some u → W.cell? ⟨g, o + j, none⟩ = some u) :
    (convert 39 9 (.slice (some ⟨g, o, none⟩) T.length c)).run Tryd.prog W = .ok (.string ⟨T.toArray⟩) W :=
  run_convert_bytes_back (P := Tryd.prog) W 39 9 5 ⟨g, o, none⟩ c T Tryd.underlying39 Tryd.underlying5 Tryd.underlying9 (fun j hj => by rw [Addr.add_lit]; exact hc j _ (B8_get _ _ hj))
theorem size29 (l : List UInt8) (h : l.length = 16) : (Tryd.prog.info? 29).map (·.size) = some (B8 l).length := by rw [B8_len, h]; kernel_rfl
theorem size29' (l : List UInt8) (h : l.length = 16) : (Tryd.prog.info? 29).map (·.size) = some (B8 l).toArray.size := by rw [List.size_toArray, B8_len, h]; kernel_rfl
theorem Z16_size (l : List UInt8) (h : l.length = 16) : Z16.toArray.size = (B8 l).toArray.size := by rw [List.size_toArray, List.size_toArray, B8_len, h]; rfl
theorem hZ16 : (#[.int .u8 0, .int .u8 0, .int .u8 0, .int .u8 0, .int .u8 0, .int .u8 0, .int .u8 0, .int .u8 0, .int .u8 0, .int .u8 0, .int .u8 0, .int .u8 0, .int .u8 0, .int .u8 0, .int .u8 0, .int .u8 0] : Array Value) = Z16.toArray := by rfl
theorem Z16_B8 : Z16 = B8 (List.replicate 16 0) := rfl
end Go.Proofs.YtofccgkgjcnfbaaDoor
