/-
  The law HashMacMatchesSpec returns true, whatever the key and the text.
  Condition: both tables of the round constants are as the text lays them; the strings are no longer than a machine's.
-/
import Derived.Test.YtfagpeacilfaaaaDoorSane
import Derived.Test.YtfagpeacilfaaaaDoorRMac
import Derived.Outline
namespace Go.Proofs.YtfagpeacilfaaaaDoor
open Go.RowKit Wr Sh
set_option linter.unusedVariables false

set_option maxRecDepth 100000 in
set_option maxHeartbeats 4000000 in
theorem macs_walk (a b : ByteArray) (w : World) (ha : a.size ≤ 281474976710656) (hb : b.size ≤ 281474976710656) (ht : Tab 1 w) (ht0 : Tab 0 w) :
    Calls Tryd.prog 5 #[.string a, .string b] w fun e w' => e = .returned (.bool true) ∧ Below w.heap.size w w' := by
  have HT := Lib.hid ht
  have HT1 : ∀ W, Below w.heap.size w W → Tab 1 W := fun W hW => HT.out.below hW HT.out.1
  have HU := Lib.hid ht0
  have HT0 : ∀ W, Below w.heap.size w W → Tab 0 W := fun W hW => HU.out.below hW HU.out.1
  clear ht ht0
  by_cases h1 : 400 < a.size
  · go_enter Tryd.func5, Tryd.ntmps5
    go_wp2_with (go_at_call 10; refine (sanity_any _ HT.out).mono ?_; rintro e w1 ⟨rfl, hb1⟩)
    go_ret
    exact ⟨rfl, hb1⟩
  by_cases h2 : 400 < b.size
  · go_enter Tryd.func5, Tryd.ntmps5
    go_wp2_with (go_at_call 10; refine (sanity_any _ HT.out).mono ?_; rintro e w1 ⟨rfl, hb1⟩)
    go_ret
    exact ⟨rfl, hb1⟩
  obtain ⟨R, hR⟩ : ∃ R, R = mac a.data.toList b.data.toList := ⟨_, rfl⟩
  have HR : Hid (R = mac a.data.toList b.data.toList) := Lib.hid hR
  clear hR
  go_enter Tryd.func5, Tryd.ntmps5
  go_wp2_with (first
    | (go_at_call 10; refine (sanity_any _ HT.out).mono ?_; rintro e w1 ⟨rfl, hb1⟩)
    | (go_at_call 18; (with_reducible refine (mac_go a b _ (by omega) (by omega) (HT1 _ hb1) R HR).mono ?_); rintro e w2 ⟨rfl, hb2⟩; replace hb2 : Below w.heap.size w w2 := hb1.trans (hb2.mono hb1.size); clear hb1)
    | (go_at_call 19; (with_reducible refine (rmac_go a b _ (by omega) (by omega) (HT0 _ hb2) R HR).mono ?_); rintro e w3 ⟨rfl, hb3⟩; replace hb3 : Below w.heap.size w w3 := hb2.trans (hb3.mono hb2.size); clear hb2))
  go_ret
  exact ⟨rfl, hb3⟩
end Go.Proofs.YtfagpeacilfaaaaDoor
