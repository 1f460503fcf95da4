/-
  Chapter 11 of package impl: what RatePath returns.
-/
import Derived.Test.YtbpfabicampdkaaGreatDoorRateFindI2
import Derived.Test.YtbpfabicampdkaaGreatDoorRatePathW
import Derived.Test.YtbpfabicampdkaaGreatDoorRatePathP
namespace Go.Proofs.YtbpfabicampdkaaGreatDoor
open Go.RowKit

set_option maxHeartbeats 2000000 in
set_option maxRecDepth 100000 in
theorem implRatePath_any (v : Value) (t : TI) (p q : ByteArray) (w : World) (hl : t.2.length ≤ 1099511627776) (hx : ∀ x ∈ t.2, x.2.2.1.2.length ≤ 1048576) (h : OwnTR w v t) (ht : CurTab w) (hsen : Sen w) :
    Calls Tryz.prog 12 #[v, .string p, .string q] w (NewStr (pathT t p q) w) := by
  obtain ⟨A, c, rfl, hr⟩ := ownTR_form h
  have HR := Lib.hid (show ∀ W, Below w.heap.size w W → OwnER W (.slice A t.2.length c) t.2 from fun W h => hr.below h)
  have HTR := Lib.hid (show ∀ W, Below w.heap.size w W → OwnTR W (.agg #[.string t.1, .slice A t.2.length c]) t from fun W h => ⟨_, rfl, hr.below h⟩)
  clear h hr
  have HT := Lib.hid ht
  clear ht
  have HS := Lib.hid hsen
  clear hsen
  have bb0 : Below w.heap.size w (w.alloc (.cells #[.string t.1, .slice A t.2.length c] 25)) := below_al (Below.refl _ _) _
  have kt := (box_new w #[.string t.1, .slice A t.2.length c] 25)
  go_enter Tryz.func12, Tryz.ntmps12
  have kt_c0 := kt.here.cell 0 _ rfl
  have kt_c1 := kt.here.cell 1 _ rfl
  go_wp2_with fail
  clear kt_c0 kt_c1
  refine (implRateHow_any _ t p q _ hl hx (HTR.out _ bb0) (HT.out.below bb0) (HS.out.below bb0)).mono ?_
  rintro e w1 ⟨rfl, b1⟩
  have bb1 := Below.next bb0 b1
  replace kt := kt.below b1
  have HE := Lib.hid (pathT_of t p q)
  clear hx
  generalize howT t p q = z at *
  by_cases z1 : z = 1
  · subst z1
    have HV := Lib.hid (show pathT t p q = [p] from HE.out)
    clear kt HE
    go_wp2
    go_ret
    exact newStr_eq HV.out (newStr_lit [p] (by simp) bb1)
  · have y1 : (z == (1 : Int)) = false := by simpa using z1
    by_cases z2 : z = 2
    · subst z2
      have HV := Lib.hid (show pathT t p q = [p, q] from HE.out)
      clear kt HE
      go_wp2
      go_ret
      exact newStr_eq HV.out (newStr_lit [p, q] (by simp) bb1)
    · have y2 : (z == (2 : Int)) = false := by simpa using z2
      by_cases z3 : z = 3
      · subst z3
        have HV := Lib.hid (show pathT t p q = [p, q] from HE.out)
        clear kt HE
        go_wp2
        go_ret
        exact newStr_eq HV.out (newStr_lit [p, q] (by simp) bb1)
      · have y3 : (z == (3 : Int)) = false := by simpa using z3
        by_cases z4 : z = 4
        · subst z4
          have HV := Lib.hid (show pathT t p q = [p, t.1, q] from HE.out)
          have kt_c0 := kt.here.cell 0 _ rfl
          have kt_c1 := kt.here.cell 1 _ rfl
          clear kt HE
          go_wp2
          go_ret
          exact newStr_eq HV.out (newStr_lit [p, t.1, q] (by simp) bb1)
        · have y4 : (z == (4 : Int)) = false := by simpa using z4
          have HV := Lib.hid (show pathT t p q = [] by rw [HE.out, if_neg z1, if_neg (by omega), if_neg z4])
          clear kt HE z1 z2 z3 z4
          go_wp2
          go_ret
          exact newStr_eq HV.out (newStr_nil bb1)
end Go.Proofs.YtbpfabicampdkaaGreatDoor
