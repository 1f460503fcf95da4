import Derived.Deep.RegionHeld3
import Derived.Deep.DeepCutAuto
import Derived.Lib.Builder
import Derived.Lib.SliceRun
import Derived.Deep.LoopGhost
import Derived.Deep.RegionWith
import Derived.Lib.ItoaNum
import Derived.IntWalk
import Derived.Laws.OwnMore
import Derived.Test.YtipbdpdmefcofabGreatDoorJC5
set_option maxRecDepth 100000
namespace Go.Proofs.YtipbdpdmefcofabGreatDoor
open Go.RowKit
def RdML (w:World) (v:Value) (l:List MI):Prop :=
 ∃ A c,v = .slice A l.length c∧∀ (j:Nat) x,l[j]? = some x→∃ a u,A = some a∧a.block < w.heap.size∧w.cell? (a.add (j * 3)) = some (.string x.1)∧w.cell? ⟨(a.add (j * 3)).block,(a.add (j * 3)).off+1,none⟩ = some (.bool x.2.1)∧w.cell? ⟨(a.add (j * 3)).block,(a.add (j * 3)).off+2,none⟩ = some u∧Row w 0 w.heap.size u (intsV x.2.2)
theorem cell_keep3 {w w':World} {a:Addr} (hb:Below w.heap.size w w') (h:a.block < w.heap.size) (j i:Nat):w'.cell? ⟨(a.add (j * 3)).block,(a.add (j * 3)).off+i,none⟩ = w.cell? ⟨(a.add (j * 3)).block,(a.add (j * 3)).off+i,none⟩ :=
 hb.cell (by show (a.add (j * 3)).block < _;rw [block_add];exact h)
theorem cell_keep3' {w w':World} {a:Addr} (hb:Below w.heap.size w w') (h:a.block < w.heap.size) (j:Nat):w'.cell? (a.add (j * 3)) = w.cell? (a.add (j * 3)):=hb.cell (by rw [block_add];exact h)
theorem RdML.below {w w':World} {v:Value} {l:List MI} (h:RdML w v l) (hb:Below w.heap.size w w'):RdML w' v l:=by
 obtain ⟨A,c,rfl,h⟩:=h
 refine ⟨A,c,rfl,fun j x hj=>?_⟩
 obtain ⟨a,u,rfl,h1,h2,h3,h4,h5⟩:=h j x hj
 exact ⟨a,u,rfl,Nat.lt_of_lt_of_le h1 hb.size,(cell_keep3' hb h1 j).trans h2,(cell_keep3 hb h1 j 1).trans h3,(cell_keep3 hb h1 j 2).trans h4,(h5.below hb (Nat.le_refl _)).wide (Nat.le_refl _) hb.size⟩
theorem add_ownM (g m:Nat):(⟨g,0,none⟩:Addr).add m = ⟨g,m,none⟩:=by
 unfold Addr.add
 split
 ·rename_i h;rw [h]
 ·simp
def flatM:List (ByteArray × Bool × Value)→List Value
 | []=>[]
 | p :: r=>.string p.1 :: .bool p.2.1 :: p.2.2 :: flatM r
theorem flatM_get {e:List (ByteArray × Bool × Value)} {j:Nat} {p:ByteArray × Bool × Value} (h:e[j]? = some p):(flatM e)[j * 3]? = some (.string p.1)∧(flatM e)[j * 3+1]? = some (.bool p.2.1)∧(flatM e)[j * 3+2]? = some p.2.2:=by
 induction e generalizing j with
 | nil=>simp at h
 | cons q r ih =>
   cases j with
   | zero =>
     have:q = p:=by simpa using h
     subst this
     exact ⟨rfl,rfl,rfl⟩
   | succ j =>
     have:=ih (j:=j) (by simpa using h)
     rw [show (j+1) * 3 = j * 3+1+1+1 by omega]
     exact this
def OwnMs (w:World):Nat→List MI→List (ByteArray × Bool × Value)→Nat→Prop
 | lo,[],[],hi=>lo ≤ hi
 | lo,x :: l,p :: e,hi=>∃ mid,lo ≤ mid∧p.1 = x.1∧p.2.1 = x.2.1∧w.ownsRow lo 3 1 p.2.2 x.2.2.length (intsV x.2.2)∧(∀ b,p.2.2.ownBlock = some b→b < mid)∧OwnMs w mid l e hi
 | _,_,_,_=>False
theorem OwnMs.le {w:World} {lo hi:Nat} {l:List MI} {e:List (ByteArray × Bool × Value)} (h:OwnMs w lo l e hi):lo ≤ hi:=by
 induction l generalizing lo e with
 | nil=>cases e with | nil=>exact h | cons _ _=>exact h.elim
 | cons x l ih=>cases e with | nil=>exact h.elim | cons p e=>obtain ⟨mid,h1,_,_,_,_,h2⟩:=h;exact Nat.le_trans h1 (ih h2)
theorem OwnMs.length {w:World} {lo hi:Nat} {l:List MI} {e:List (ByteArray × Bool × Value)} (h:OwnMs w lo l e hi):e.length = l.length:=by
 induction l generalizing lo e with
 | nil=>cases e with | nil=>rfl | cons _ _=>exact h.elim
 | cons x l ih=>cases e with | nil=>exact h.elim | cons p e=>obtain ⟨mid,_,_,_,_,_,h2⟩:=h;simp [ih h2]
theorem OwnMs.stays {w w':World} {lo hi:Nat} {l:List MI} {e:List (ByteArray × Bool × Value)} (h:OwnMs w lo l e hi) (hk:∀ i,lo ≤ i→i < hi→w'.heap[i]? = w.heap[i]?):OwnMs w' lo l e hi:=by
 induction l generalizing lo e with
 | nil=>cases e with | nil=>exact h | cons _ _=>exact h.elim
 | cons x l ih =>
   cases e with
   | nil=>exact h.elim
   | cons p e =>
     obtain ⟨mid,h1,h2,h2',h3,h4,h5⟩:=h
     have hle:=h5.le
     exact ⟨mid,h1,h2,h2',own_stays h3 fun i hi=>hk i (own_lt h3 hi).1 (Nat.lt_of_lt_of_le (h4 i hi) hle),h4,ih h5 fun i hi hi2=>hk i (by omega) hi2⟩
theorem OwnMs.wide {w:World} {lo hi hi':Nat} {l:List MI} {e:List (ByteArray × Bool × Value)} (h:OwnMs w lo l e hi) (hh:hi ≤ hi'):OwnMs w lo l e hi':=by
 induction l generalizing lo e with
 | nil=>cases e with | nil=>exact Nat.le_trans h hh | cons _ _=>exact h.elim
 | cons x l ih=>cases e with | nil=>exact h.elim | cons p e=>obtain ⟨mid,h1,h2,h2',h3,h4,h5⟩:=h;exact ⟨mid,h1,h2,h2',h3,h4,ih h5⟩
theorem OwnMs.snoc {w:World} {lo mid hi:Nat} {l:List MI} {e:List (ByteArray × Bool × Value)} {x:MI} {u:Value} (h:OwnMs w lo l e mid) (o:w.ownsRow mid 3 1 u x.2.2.length (intsV x.2.2)) (hu:∀ b,u.ownBlock = some b→b < hi) (hh:mid ≤ hi):OwnMs w lo (l ++ [x]) (e ++ [(x.1,x.2.1,u)]) hi:=by
 induction l generalizing lo e with
 | nil =>
   cases e with
   | nil =>
     have hm:lo ≤ mid:=h
     exact ⟨hi,Nat.le_trans hm hh,rfl,rfl,own_low o hm,hu,Nat.le_refl _⟩
   | cons _ _=>exact h.elim
 | cons y l ih=>cases e with | nil=>exact h.elim | cons p e=>obtain ⟨m,h1,h2,h2',h3,h4,h5⟩:=h;exact ⟨m,h1,h2,h2',h3,h4,ih h5⟩
theorem OwnMs.at_ {w:World} {lo hi:Nat} {l:List MI} {e:List (ByteArray × Bool × Value)} (h:OwnMs w lo l e hi) {j:Nat} {x:MI} (hx:l[j]? = some x):∃ u,e[j]? = some (x.1,x.2.1,u)∧OwnI u x.2.2 w:=by
 induction l generalizing lo e j with
 | nil=>simp at hx
 | cons y l ih =>
   cases e with
   | nil=>exact h.elim
   | cons p e =>
     obtain ⟨m,h1,h2,h2',h3,h4,h5⟩:=h
     cases j with
     | zero =>
       have:y = x:=by simpa using hx
       subst this
       exact ⟨p.2.2,by rw [← h2,← h2'];rfl,own_zero h3⟩
     | succ j=>exact ih h5 (by simpa using hx)
def OwnML (v:Value) (l:List MI) (lo hi:Nat) (w:World):Prop :=
 ∃ g e,v = .slice (some ⟨g,0,none⟩) l.length l.length∧lo ≤ g∧g < hi∧hi ≤ w.heap.size∧w.ownsRow lo 34 3 v l.length (flatM e)∧OwnMs w (g+1) l e hi
theorem OwnML.stays {v:Value} {l:List MI} {lo hi:Nat} {w w':World} (h:OwnML v l lo hi w) (hk:∀ i,lo ≤ i→i < hi→w'.heap[i]? = w.heap[i]?) (hz:w.heap.size ≤ w'.heap.size):OwnML v l lo hi w':=by
 obtain ⟨g,e,rfl,h1,h2,h3,h4,h5⟩:=h
 exact ⟨g,e,rfl,h1,h2,Nat.le_trans h3 hz,own_stays h4 fun i hi=>by cases hi;exact hk g h1 h2,h5.stays fun i hi hi2=>hk i (by omega) hi2⟩
theorem OwnML.below {v:Value} {l:List MI} {lo hi:Nat} {w w':World} (h:OwnML v l lo hi w) (hb:Below w.heap.size w w'):OwnML v l lo hi w':=by
 have hh:=h
 obtain ⟨_,_,_,_,_,h3,_,_⟩:=hh
 exact h.stays (fun i _ hi=>hb.block i (by omega)) hb.size
theorem OwnML.rd {v:Value} {l:List MI} {lo hi:Nat} {w:World} (h:OwnML v l lo hi w):RdML w v l:=by
 obtain ⟨g,e,rfl,h1,h2,h3,h4,h5⟩:=h
 refine ⟨_,_,rfl,fun j x hj=>?_⟩
 have hjl:=(List.getElem?_eq_some_iff.1 hj).1
 obtain ⟨u,he,ho⟩:=h5.at_ hj
 have hf:=flatM_get he
 refine ⟨⟨g,0,none⟩,u,rfl,by show g < _;omega,?_,?_,?_,ho.row⟩
 ·have:=h4.cellAt (j * 3) (by omega)
  rw [hf.1] at this
  rw [add_ownM]
  exact this
 ·have:=h4.cellAt (j * 3+1) (by omega)
  rw [hf.2.1] at this
  rw [add_ownM]
  exact this
 ·have:=h4.cellAt (j * 3+2) (by omega)
  rw [hf.2.2] at this
  rw [add_ownM]
  exact this
def OwnMR (w:World) (v:Value) (l:List MI):Prop :=
 ∃ A c,v = .slice A l.length c∧∀ (j:Nat) x,l[j]? = some x→∃ a u,A = some a∧a.block < w.heap.size∧w.cell? (a.add (j * 3)) = some (.string x.1)∧w.cell? ⟨(a.add (j * 3)).block,(a.add (j * 3)).off+1,none⟩ = some (.bool x.2.1)∧w.cell? ⟨(a.add (j * 3)).block,(a.add (j * 3)).off+2,none⟩ = some u∧OwnI u x.2.2 w
theorem OwnML.ownR {v:Value} {l:List MI} {lo hi:Nat} {w:World} (h:OwnML v l lo hi w):OwnMR w v l:=by
 obtain ⟨g,e,rfl,h1,h2,h3,h4,h5⟩:=h
 refine ⟨_,_,rfl,fun j x hj=>?_⟩
 have hjl:=(List.getElem?_eq_some_iff.1 hj).1
 obtain ⟨u,he,ho⟩:=h5.at_ hj
 have hf:=flatM_get he
 refine ⟨⟨g,0,none⟩,u,rfl,by show g < _;omega,?_,?_,?_,ho⟩
 ·have:=h4.cellAt (j * 3) (by omega)
  rw [hf.1] at this
  rw [add_ownM]
  exact this
 ·have:=h4.cellAt (j * 3+1) (by omega)
  rw [hf.2.1] at this
  rw [add_ownM]
  exact this
 ·have:=h4.cellAt (j * 3+2) (by omega)
  rw [hf.2.2] at this
  rw [add_ownM]
  exact this
theorem take_snocM {l:List MI} {k:Nat} {x:MI} (h:l[k]? = some x):l.take (k+1) = l.take k ++ [x]:=by
 have hj:=(List.getElem?_eq_some_iff.1 h).1
 rw [List.take_succ_eq_append_getElem hj,(List.getElem?_eq_some_iff.1 h).2]
def PostMQe (R0:MI) (R1:QI) (n:Int) (w:World) (e:Ending) (w':World):Prop :=
 ∃ (v u:Value) (S T:List Nat),e = .returned (.tuple #[v,u,errV n])∧At S (OwnM v R0) w'∧At T (OwnQ u R1) w'∧(∀ g ∈ S,g ∉ T)∧Within S w.heap.size w'.heap.size∧Within T w.heap.size w'.heap.size∧Below w.heap.size w w'
theorem postE_nil {n:Int} (h:n = 0) {w w':World} {e:Ending} (k:PostE n w e w'):e = .returned .nilIface∧Below w.heap.size w w':=by subst h;exact k
theorem postE_err {n m:Int} (h:n = m) (hm:¬ m = 0) {w w':World} {e:Ending} (k:PostE n w e w'):e = .returned (.iface 97 (.agg #[.int .i64 m]))∧Below w.heap.size w w':=by
 subst h
 obtain ⟨h1,h2⟩:=k
 rw [errV_pos hm] at h1
 exact ⟨h1,h2⟩
theorem postMQb_is3 {c:ByteArray} {Y:QI} {k:Int} {R:MI} {Q:QI} {r:Bool} (e1:rmM c Y k = R) (e2:rmQ c Y k = Q) (e3:rmB c Y k = r) {w w':World} {n:Ending} (h:PostMQb (rmM c Y k) (rmQ c Y k) (rmB c Y k) w n w'):PostMQb R Q r w n w':=by subst e1 e2 e3;exact h
theorem newMQe_chg {R0:MI} {R1:QI} {R2:Int} {ev:Value} {S D T:List Nat} {v u:Value} {w W:World} (he:errV R2 = ev) (o:At S (OwnM v R0) W) (q:At D (OwnQ u R1) W) (hap:∀ g ∈ S,g ∉ D) (hd:∀ i ∈ S,i ∉ T) (hd2:∀ i ∈ D,i ∉ T) (hT:∀ i ∈ T,w.heap.size ≤ i) (l:∀ i ∈ S,w.heap.size ≤ i) (l2:∀ i ∈ D,w.heap.size ≤ i) (hW:Below w.heap.size w W) :
 ∀ W',Chg T W W'→PostMQe R0 R1 R2 w (.returned (.tuple #[v,u,ev])) W' :=
 fun _ hc=>⟨v,u,S,D,by rw [he],o.chg hc hd,q.chg hc hd2,hap,fun i hi=>⟨l i hi,Nat.lt_of_lt_of_le (o.lt i hi) hc.size⟩,fun i hi=>⟨l2 i hi,Nat.lt_of_lt_of_le (q.lt i hi) hc.size⟩,below_chg hW hc hW.size hT⟩
theorem newMQe_zero {n:Int} {ev:Value} {T:List Nat} {w W:World} (he:errV n = ev) (hT:∀ i ∈ T,w.heap.size ≤ i) (hW:Below w.heap.size w W):∀ W',Chg T W W'→PostMQe zeroM zeroQ n w (.returned (.tuple #[.agg #[.string ⟨#[]⟩,.bool false,.slice none 0 0],.agg #[.bool false,.slice none 0 0,.slice none 0 0],ev])) W' :=
 fun _ hc=>⟨_,_,[],[],by rw [he],atM_zero _,⟨ownQ_zero _,fun _ hg=>absurd hg List.not_mem_nil,fun _ _=>ownQ_zero _⟩,fun _ hg=>absurd hg List.not_mem_nil,fun _ hg=>absurd hg List.not_mem_nil,fun _ hg=>absurd hg List.not_mem_nil,below_chg hW hc hW.size hT⟩
theorem as_store {n:Int} {b:Nat} {old:Value} {w:World} (hg:ErrTy w) (kb:At [b] (BoxAt b #[old] 97) w) :
 Calls Tryz.prog 51 #[.iface 97 (.agg #[.int .i64 n]),.iface 99 (.pointer (some ⟨b,0,none⟩))] w fun e w'=>e = .returned (.bool true)∧At [b] (BoxAt b #[.int .i64 n] 97) w'∧Chg [b] w w'∧w.heap.size+1 ≤ w'.heap.size:=by
 refine (as_hit n ⟨b,0,none⟩ old w hg (kb.here.cell 0 _ rfl) (Lib.frozen_of_heap kb.here 0)).mono ?_
 rintro e w' ⟨rfl,rfl⟩
 have al:Below w.heap.size w ((((w.alloc (.cells #[.pointer (some ⟨b,0,none⟩)] 99)).alloc (.cells #[.pointer (some ⟨5,99,none⟩),.pointer (some ⟨w.heap.size,0,none⟩),.int .u64 150] 123)).alloc (.cells #[.pointer (some ⟨5,99,none⟩),.pointer (some ⟨w.heap.size,0,none⟩),.int .u64 150] 123)).alloc (.cells #[.int .i64 n] 97)):=Below.next (Below.next (Below.next (below_al (Below.refl _ _) _) (below_al (Below.refl _ _) _)) (below_al (Below.refl _ _) _)) (below_al (Below.refl _ _) _)
 have kb2:=kb.below al
 have hz:((((w.alloc (.cells #[.pointer (some ⟨b,0,none⟩)] 99)).alloc (.cells #[.pointer (some ⟨5,99,none⟩),.pointer (some ⟨w.heap.size,0,none⟩),.int .u64 150] 123)).alloc (.cells #[.pointer (some ⟨5,99,none⟩),.pointer (some ⟨w.heap.size,0,none⟩),.int .u64 150] 123)).alloc (.cells #[.int .i64 n] 97)).heap.size = w.heap.size+1+1+1+1:=by simp
 generalize ((((w.alloc (.cells #[.pointer (some ⟨b,0,none⟩)] 99)).alloc (.cells #[.pointer (some ⟨5,99,none⟩),.pointer (some ⟨w.heap.size,0,none⟩),.int .u64 150] 123)).alloc (.cells #[.pointer (some ⟨5,99,none⟩),.pointer (some ⟨w.heap.size,0,none⟩),.int .u64 150] 123)).alloc (.cells #[.int .i64 n] 97)) = X at *
 have hb':X.heap[b]? = some (.cells #[old] 97 (0,0)):=kb2.here
 refine ⟨rfl,box_at (by simp [BoxAt,World.setCell,Array.getElem?_modify,hb']),(Chg.of_below al).trans ((Chg.refl _ _).setCell (by simp) _),by simp;omega⟩
theorem as_nilB (t:Value) (w:World):Calls Tryz.prog 51 #[.nilIface,t] w fun e w'=>e = .returned (.bool false)∧Below w.heap.size w w' :=
 (as_nil t w).mono fun _ _ h=>⟨h.1,by rw [h.2];exact Below.refl _ _⟩
theorem cv_zero {t:TI} {l:List MI} {c:ByteArray} {k:Int} (h:¬ cvN t l c k = 0):cvM t l c k = zeroM∧cvQ t l c k = zeroQ:=by
 unfold cvM cvQ
 rw [if_neg h,if_neg h]
 exact ⟨rfl,rfl⟩
theorem ownMR_one {b:Nat} {m:MI} {u:Value} {T:TypeId} {W:World} (h:At [b] (BoxAt b #[.string m.1,.bool m.2.1,u] T) W) (o:OwnI u m.2.2 W):OwnMR W (.slice (some ⟨b,0,none⟩) 1 1) [m] :=
 ⟨_,_,rfl,fun j x hj=>by
  have e:j = 0∧m = x:=by
   rcases j with _ | j
   ·exact ⟨rfl,by simpa using hj⟩
   ·simp at hj
  obtain ⟨rfl,rfl⟩:=e
  exact ⟨_,u,rfl,h.lt b (by simp),h.here.cell 0 _ rfl,h.here.cell 1 _ rfl,h.here.cell 2 _ rfl,o⟩⟩
set_option maxHeartbeats 2000000 in
theorem specRateOk_any (vr:Value) (r:EI) (w:World) (hl:r.2.2.1.2.length ≤ 1048576) (hr:OwnE vr r w) :
 Calls Tryz.prog 57 #[vr] w (Postb (okE r) w):=by
 have Hr:=Lib.hid hr
 obtain ⟨Ar,cr,rfl⟩:=ownE_form hr
 have OEr:=Lib.hid (show ∀ W,Below w.heap.size w W→OwnE (.agg #[.string r.1,.string r.2.1,.bool r.2.2.1.1,.slice Ar r.2.2.1.2.length cr,.int .i64 r.2.2.2]) r W from fun W hb=>OwnE.below Hr.out hb)
 have OIr:=Lib.hid (show ∀ W,Below w.heap.size w W→OwnI (.slice Ar r.2.2.1.2.length cr) r.2.2.1.2 W from fun W hb=>ownE_open (OEr.out W hb))
 have ODr:=Lib.hid (show ∀ W,Below w.heap.size w W→OwnD (.agg #[.bool r.2.2.1.1,.slice Ar r.2.2.1.2.length cr,.int .i64 r.2.2.2]) r.2.2 W from fun W hb=>OwnD.mk (OIr.out W hb))
 have OSr:=Lib.hid (show ∀ W,Below w.heap.size w W→OwnS (.agg #[.bool r.2.2.1.1,.slice Ar r.2.2.1.2.length cr]) r.2.2.1 W from fun W hb=>OwnS.mk (OIr.out W hb))
 clear hr
 have bb0:Below w.heap.size w (w.alloc (.cells #[.string r.1,.string r.2.1,.bool r.2.2.1.1,.slice Ar r.2.2.1.2.length cr,.int .i64 r.2.2.2] 89)):=below_al (Below.refl _ _) _
 have kr:=(box_new w #[.string r.1,.string r.2.1,.bool r.2.2.1.1,.slice Ar r.2.2.1.2.length cr,.int .i64 r.2.2.2] 89)
 go_enter Tryz.func57,Tryz.ntmps57
 have kr_c0:=kr.here.cell 0 _ rfl
 have kr_c1:=kr.here.cell 1 _ rfl
 have kr_c2:=kr.here.cell 2 _ rfl
 have kr_c3:=kr.here.cell 3 _ rfl
 have kr_c4:=kr.here.cell 4 _ rfl
 go_wp2_with fail
 clear kr_c0 kr_c1 kr_c2 kr_c3 kr_c4
 refine (specCurKnown_any r.1 _).mono ?_
 rintro e w1 ⟨rfl,b1⟩
 have bb1:=Below.next bb0 b1
 replace kr:=kr.below b1
 by_cases ok0:knownC r.1 = true
 ·rw [ok0]
  have HOok0:=Lib.hid ok0
  clear ok0
  have kr_c0:=kr.here.cell 0 _ rfl
  have kr_c1:=kr.here.cell 1 _ rfl
  have kr_c2:=kr.here.cell 2 _ rfl
  have kr_c3:=kr.here.cell 3 _ rfl
  have kr_c4:=kr.here.cell 4 _ rfl
  go_wp2_with fail
  clear kr_c0 kr_c1 kr_c2 kr_c3 kr_c4
  refine (specCurKnown_any r.2.1 _).mono ?_
  rintro e w2 ⟨rfl,b2⟩
  have bb2:=Below.next bb1 b2
  replace kr:=kr.below b2
  by_cases ok1:knownC r.2.1 = true
  ·rw [ok1]
   have HOok1:=Lib.hid ok1
   clear ok1
   by_cases ne:r.1 = r.2.1
   ·have HV:=Lib.hid (show okE r = false by unfold okE;rw [HOok0.out,HOok1.out,decide_eq_false (fun h=>h ne:¬ ¬ r.1 = r.2.1)] <;> rfl)
    have kr_c0:=kr.here.cell 0 _ rfl
    have kr_c1:=kr.here.cell 1 _ rfl
    have kr_c2:=kr.here.cell 2 _ rfl
    have kr_c3:=kr.here.cell 3 _ rfl
    have kr_c4:=kr.here.cell 4 _ rfl
    rw [← ne] at kr_c1
    clear ne hl kr
    have hne1:(r.1.toList == r.1.toList) = true:=beq_self_eq_true _
    have hne2:(r.1.toList != r.1.toList) = false:=by rw [bne,hne1];rfl
    go_wp2
    go_ret
    exact ⟨ret_bool HV.out.symm,bb2⟩
   ·have hne1:=bytes_neC ne
    have hne2:(r.1.toList != r.2.1.toList) = true:=by rw [bne,hne1];rfl
    have HNE:=Lib.hid ne
    clear ne
    have kr_c0:=kr.here.cell 0 _ rfl
    have kr_c1:=kr.here.cell 1 _ rfl
    have kr_c2:=kr.here.cell 2 _ rfl
    have kr_c3:=kr.here.cell 3 _ rfl
    have kr_c4:=kr.here.cell 4 _ rfl
    go_wp2_with fail
    clear kr_c0 kr_c1 kr_c2 kr_c3 kr_c4
    refine (specDecOk_any _ r.2.2 _ hl (ODr.out _ bb2)).mono ?_
    rintro e w3 ⟨rfl,b3⟩
    have bb3:=Below.next bb2 b3
    replace kr:=kr.below b3
    clear hne1 hne2
    by_cases ok2:okD r.2.2 = true
    ·rw [ok2]
     have HOok2:=Lib.hid ok2
     clear ok2
     have kr_c0:=kr.here.cell 0 _ rfl
     have kr_c1:=kr.here.cell 1 _ rfl
     have kr_c2:=kr.here.cell 2 _ rfl
     have kr_c3:=kr.here.cell 3 _ rfl
     have kr_c4:=kr.here.cell 4 _ rfl
     go_wp2_with fail
     clear kr_c0 kr_c1 kr_c2 kr_c3 kr_c4
     refine (specIntSign_any _ r.2.2.1 _ hl (OSr.out _ bb3)).mono ?_
     rintro e w4 ⟨rfl,b4⟩
     have bb4:=Below.next bb3 b4
     replace kr:=kr.below b4
     have HZ:Hid (okE r = (decide (0 < cmpS r.2.2.1 zeroS) && decide (r.2.2.1.2.length ≤ 2))):=Lib.hid (by unfold okE;rw [HOok0.out,HOok1.out,HOok2.out,decide_eq_true HNE.out] <;> rfl)
     generalize cmpS r.2.2.1 zeroS = z at *
     by_cases ps:0 < z
     ·have HV:=Lib.hid (show okE r = decide ((r.2.2.1.2.length:Int) ≤ 2) by rw [HZ.out,decide_eq_true ps,Bool.true_and,decide_eq_decide];omega)
      have ps1:decide (0 < z) = true:=decide_eq_true ps
      have kr_c0:=kr.here.cell 0 _ rfl
      have kr_c1:=kr.here.cell 1 _ rfl
      have kr_c2:=kr.here.cell 2 _ rfl
      have kr_c3:=kr.here.cell 3 _ rfl
      have kr_c4:=kr.here.cell 4 _ rfl
      clear hl
      go_wp2
      go_ret
      exact ⟨ret_bool HV.out.symm,bb4⟩
     ·have HV:=Lib.hid (show okE r = false by rw [HZ.out,decide_eq_false ps,Bool.false_and])
      have ps1:decide (0 < z) = false:=decide_eq_false ps
      clear hl kr
      go_wp2
      go_ret
      exact ⟨ret_bool HV.out.symm,bb4⟩
    ·have ok2':okD r.2.2 = false:=by simpa using ok2
     have HV:=Lib.hid (show okE r = false by unfold okE;rw [HOok0.out,HOok1.out,decide_eq_true HNE.out,ok2'] <;> rfl)
     rw [ok2']
     clear ok2 ok2'
     go_wp2
     go_ret
     exact ⟨ret_bool HV.out.symm,bb3⟩
  ·have ok1':knownC r.2.1 = false:=by simpa using ok1
   have HV:=Lib.hid (show okE r = false by unfold okE;rw [HOok0.out,ok1'] <;> rfl)
   rw [ok1']
   clear ok1 ok1'
   go_wp2
   go_ret
   exact ⟨ret_bool HV.out.symm,bb2⟩
 ·have ok0':knownC r.1 = false:=by simpa using ok0
  have HV:=Lib.hid (show okE r = false by unfold okE;rw [ok0'] <;> rfl)
  rw [ok0']
  clear ok0 ok0'
  go_wp2
  go_ret
  exact ⟨ret_bool HV.out.symm,bb1⟩
set_option maxHeartbeats 2000000 in
theorem l10At_any (v:Value) (l:List EI) (p q:ByteArray) (w:World) (hl:l.length ≤ 140737488355328) (h:OwnER w v l) :
 Calls Tryz.prog 58 #[v,.string p,.string q] w (Postn (posE l p q) w):=by
 obtain ⟨A,c,rfl,hc⟩:=h
 have HC:=Lib.hid hc
 clear hc
 go_enter Tryz.func58,Tryz.ntmps58
 go_wp2
 go_loopw [11] (fun i wr=>∃ k:Nat,k ≤ l.length∧i = .int .i64 k∧Hid (k ≤ atE l p q)∧Below w.heap.size w wr) (fun i _=>l.length - (intOf i).toNat)
 case atStart=>exact ⟨0,Nat.zero_le _,rfl,Lib.hid (Nat.zero_le _),Below.refl _ _⟩
 case round =>
  obtain ⟨k,hk,rfl,HK,hb⟩:=hrel
  by_cases hlt:k < l.length
  ·obtain ⟨x,hxk⟩:∃ x,l[k]? = some x:=⟨_,List.getElem?_eq_getElem hlt⟩
   obtain ⟨a,u,rfl,ha,hc0,hc1,hc2,hc3,hc4,hr⟩:=HC.out k x hxk
   obtain ⟨A1,c1,rfl⟩:=own_len hr
   have k0:=(cell_keep5' hb ha k).trans hc0
   have k1:=(cell_keep5 hb ha k 1).trans hc1
   have k2:=(cell_keep5 hb ha k 2).trans hc2
   have k3:=(cell_keep5 hb ha k 3).trans hc3
   have k4:=(cell_keep5 hb ha k 4).trans hc4
   have hbx:=below_al (Below.refl wr.heap.size wr) (.cells #[.string x.1,.string x.2.1,.bool x.2.2.1.1,.slice A1 x.2.2.1.2.length c1,.int .i64 x.2.2.2] 89)
   have kx:=box_new wr #[.string x.1,.string x.2.1,.bool x.2.2.1.1,.slice A1 x.2.2.1.2.length c1,.int .i64 x.2.2.2] 89
   have cx0:=kx.here.cell 0 _ rfl
   have cx1:=kx.here.cell 1 _ rfl
   have HB:=Lib.hid (Below.next hb hbx)
   clear kx hbx hb hc0 hc1 hc2 hc3 hc4 hr
   by_cases h1:x.1 = p
   ·by_cases h2:x.2.1 = q
    ·have HV:=Lib.hid (posE_hit HK.out hxk ⟨h1,h2⟩)
     have e1:(x.1.toList == p.toList) = true:=by rw [h1];exact beq_self_eq_true _
     have e2:(x.2.1.toList == q.toList) = true:=by rw [h2];exact beq_self_eq_true _
     clear h1 h2 hxk
     go_wp2
     go_ret
     exact ⟨ret_int HV.out.symm,HB.out⟩
    ·have HN:=Lib.hid (atE_next HK.out hxk (fun e=>h2 e.2))
     have e1:(x.1.toList == p.toList) = true:=by rw [h1];exact beq_self_eq_true _
     have e2:=bytes_neC h2
     clear h1 h2 hxk
     go_wp2
     go_roundw
     case rel=>exact ⟨k+1,by omega,by go_num,HN,HB.out⟩
     case measure=>simp [intOf];omega
   ·have HN:=Lib.hid (atE_next HK.out hxk (fun e=>h1 e.1))
    have e1:=bytes_neC h1
    clear h1 hxk
    go_wp2
    go_roundw
    case rel=>exact ⟨k+1,by omega,by go_num,HN,HB.out⟩
    case measure=>simp [intOf];omega
  ·obtain rfl:k = l.length:=by omega
   have HV:=Lib.hid (posE_none HK.out)
   go_wp2
   go_ret
   exact ⟨ret_int HV.out.symm,hb⟩
def OwnTR (w:World) (v:Value) (t:TI):Prop:=∃ u,v = .agg #[.string t.1,u]∧OwnER w u t.2
theorem OwnT.ownR {v:Value} {t:TI} {w:World} (h:OwnT v t w):OwnTR w v t:=by
 obtain ⟨u,rfl,o⟩:=h
 exact ⟨u,rfl,o.ownR⟩
theorem OwnTR.below {w w':World} {v:Value} {t:TI} (h:OwnTR w v t) (hb:Below w.heap.size w w'):OwnTR w' v t:=by
 obtain ⟨u,rfl,o⟩:=h
 exact ⟨u,rfl,o.below hb⟩
theorem ownTR_form {v:Value} {t:TI} {w:World} (h:OwnTR w v t):∃ A c,v = .agg #[.string t.1,.slice A t.2.length c]∧OwnER w (.slice A t.2.length c) t.2:=by
 obtain ⟨u,rfl,o⟩:=h
 obtain ⟨A,c,rfl,hc⟩:=o
 exact ⟨A,c,rfl,A,c,rfl,hc⟩
set_option maxHeartbeats 4000000 in
theorem specRatesOk_any (v:Value) (t:TI) (w:World) (hl:t.2.length ≤ 1099511627776) (hx:∀ x ∈ t.2,x.2.2.1.2.length ≤ 1048576) (h:OwnTR w v t) :
 Calls Tryz.prog 40 #[v] w (Postb (okT t) w):=by
 obtain ⟨A,c,rfl,hr⟩:=ownTR_form h
 have HR:=Lib.hid hr
 clear h hr
 have bb0:Below w.heap.size w (w.alloc (.cells #[.string t.1,.slice A t.2.length c] 41)):=below_al (Below.refl _ _) _
 have kt:=box_new w #[.string t.1,.slice A t.2.length c] 41
 go_enter Tryz.func40,Tryz.ntmps40
 have kt_c0:=kt.here.cell 0 _ rfl
 have kt_c1:=kt.here.cell 1 _ rfl
 go_wp2_with fail
 clear kt_c0 kt_c1
 refine (specCurKnown_any t.1 _).mono ?_
 rintro e w1 ⟨rfl,b1⟩
 have bb1:=Below.next bb0 b1
 replace kt:=kt.below b1
 by_cases ok0:knownC t.1 = true
 ·rw [ok0]
  have HO0:=Lib.hid ok0
  clear ok0
  by_cases hn:t.2.length ≤ 12
  ·have hn1:¬ (12:Int) < (t.2.length:Int):=by omega
   have HN:=Lib.hid hn
   have HREL:=Lib.hid (show ∃ k:Nat,k ≤ t.2.length∧Value.int .i64 0 = .int .i64 k∧Hid ((List.range k).all (rowT t.2) = true)∧At [w.heap.size] (BoxAt w.heap.size #[.string t.1,.slice A t.2.length c] 41) w1∧Below w.heap.size w w1 from ⟨0,Nat.zero_le _,rfl,Lib.hid rfl,kt,bb1⟩)
   have kt_c0:=kt.here.cell 0 _ rfl
   have kt_c1:=kt.here.cell 1 _ rfl
   clear kt bb0 bb1 b1 hn
   go_wp2
   clear kt_c0 kt_c1
   go_loopw [18] (fun i wr=>∃ k:Nat,k ≤ t.2.length∧i = .int .i64 k∧Hid ((List.range k).all (rowT t.2) = true)∧At [w.heap.size] (BoxAt w.heap.size #[.string t.1,.slice A t.2.length c] 41) wr∧Below w.heap.size w wr) (fun i _=>t.2.length - (intOf i).toNat)
   case atStart=>exact HREL.out
   case round =>
    clear HREL
    obtain ⟨k,hk,rfl,HK,kt,hb⟩:=hrel
    by_cases hlt:k < t.2.length
    ·obtain ⟨x,hxk⟩:∃ x,t.2[k]? = some x:=⟨_,List.getElem?_eq_getElem hlt⟩
     have hrb:=HR.out.below hb
     obtain ⟨A',c',e',hc'⟩:=hrb
     obtain ⟨a,u,ea,ha,hc0,hc1,hc2,hc3,hc4,hr⟩:=hc' k x hxk
     have e0:A = A':=by injection e' with e1 e2 e3
     subst e0
     subst ea
     obtain ⟨A1,c1,rfl⟩:=own_len hr
     have hxl:=hx x (List.mem_of_getElem? hxk)
     have HRX:=Lib.hid (rowT_at hxk)
     have hbx:=below_al (Below.refl wr.heap.size wr) (.cells #[.string x.1,.string x.2.1,.bool x.2.2.1.1,.slice A1 x.2.2.1.2.length c1,.int .i64 x.2.2.2] 89)
     have kx:=box_new wr #[.string x.1,.string x.2.1,.bool x.2.2.1.1,.slice A1 x.2.2.1.2.length c1,.int .i64 x.2.2.2] 89
     have OX:=Lib.hid (show ∀ W,Below (wr.alloc (.cells #[.string x.1,.string x.2.1,.bool x.2.2.1.1,.slice A1 x.2.2.1.2.length c1,.int .i64 x.2.2.2] 89)).heap.size (wr.alloc (.cells #[.string x.1,.string x.2.1,.bool x.2.2.1.1,.slice A1 x.2.2.1.2.length c1,.int .i64 x.2.2.2] 89)) W→OwnE (.agg #[.string x.1,.string x.2.1,.bool x.2.2.1.1,.slice A1 x.2.2.1.2.length c1,.int .i64 x.2.2.2]) x W from fun W h=>OwnE.mk (own_below (own_below hr hbx) h))
     have bb:=Below.next hb hbx
     have HRB:=Lib.hid (show ∀ W,Below w.heap.size w W→OwnER W (.slice (some a) t.2.length c) t.2 from fun W h=>HR.out.below h)
     replace kt:=kt.below hbx
     have cx0:=kx.here.cell 0 _ rfl
     have cx1:=kx.here.cell 1 _ rfl
     have cx2:=kx.here.cell 2 _ rfl
     have cx3:=kx.here.cell 3 _ rfl
     have cx4:=kx.here.cell 4 _ rfl
     clear hb hbx hr hc' e' ha
     have hlt':=hlt
     go_wp2_with fail
     clear cx0 cx1 cx2 cx3 cx4 hc0 hc1 hc2 hc3 hc4
     refine (specRateOk_any _ x _ hxl (OX.out _ (Below.refl _ _))).mono ?_
     rintro e w2 ⟨rfl,b2⟩
     have bb2:=Below.next bb b2
     replace kx:=kx.below b2
     replace kt:=kt.below b2
     by_cases okx:okE x = true
     ·rw [okx]
      have HOX:=Lib.hid okx
      have cx0:=kx.here.cell 0 _ rfl
      have cx1:=kx.here.cell 1 _ rfl
      have kt_c0:=kt.here.cell 0 _ rfl
      have kt_c1:=kt.here.cell 1 _ rfl
      have HB2:=Lib.hid bb2
      clear okx b2 bb bb2 kx
      go_wp2_with fail
      clear cx0 cx1 kt_c0 kt_c1
      refine (l10At_any _ t.2 x.1 x.2.1 _ (by omega) (HRB.out _ HB2.out)).mono ?_
      rintro e w3 ⟨rfl,b3⟩
      have bb3:=Lib.hid (Below.next HB2.out b3)
      have KT:=Lib.hid (kt.below b3)
      clear kt b3
      by_cases hp:posE t.2 x.1 x.2.1 = k
      ·have HNX:=Lib.hid (rows_next HK.out (by rw [HRX.out,HOX.out,decide_eq_true hp];rfl))
       rw [hp]
       clear hp
       go_wp2
       go_roundw
       case rel=>exact ⟨k+1,by omega,by go_num,HNX,KT.out,bb3.out⟩
       case measure=>simp [intOf];omega
      ·have HV:=Lib.hid (show okT t = false by rw [okT_rows,rows_bad hlt (by rw [HRX.out,decide_eq_false hp,Bool.and_false];simp),Bool.and_false,Bool.and_false])
       have hne:(posE t.2 x.1 x.2.1 != (k:Int)) = true:=by simpa using hp
       clear hp HRX
       generalize posE t.2 x.1 x.2.1 = z at *
       go_wp2
       go_ret
       exact ⟨ret_bool HV.out.symm,bb3.out⟩
     ·have okx':okE x = false:=by simpa using okx
      have HV:=Lib.hid (show okT t = false by rw [okT_rows,rows_bad hlt (by rw [HRX.out,okx',Bool.false_and];simp),Bool.and_false,Bool.and_false])
      rw [okx']
      clear okx okx' kx kt b2 bb
      go_wp2
      go_ret
      exact ⟨ret_bool HV.out.symm,bb2⟩
    ·obtain rfl:k = t.2.length:=by omega
     have HV:=Lib.hid (show okT t = true by rw [okT_rows,HO0.out,decide_eq_true HN.out,HK.out];rfl)
     go_wp2
     go_ret
     exact ⟨ret_bool HV.out.symm,hb⟩
  ·have hn1:(12:Int) < (t.2.length:Int):=by omega
   have HV:=Lib.hid (show okT t = false by rw [okT_rows,decide_eq_false hn,Bool.false_and,Bool.and_false])
   have kt_c0:=kt.here.cell 0 _ rfl
   have kt_c1:=kt.here.cell 1 _ rfl
   clear kt bb0 b1 hn
   go_wp2
   go_ret
   exact ⟨ret_bool HV.out.symm,bb1⟩
 ·have ok0':knownC t.1 = false:=by simpa using ok0
  have HV:=Lib.hid (show okT t = false by rw [okT_rows,ok0',Bool.false_and])
  rw [ok0']
  clear ok0 ok0' kt
  go_wp2
  go_ret
  exact ⟨ret_bool HV.out.symm,bb1⟩
set_option maxHeartbeats 4000000 in
theorem specl11Form_any (v:Value) (t:TI) (q:ByteArray) (k:Int) (w:World) (hl:t.2.length ≤ 1099511627776) (hx:∀ x ∈ t.2,x.2.2.1.2.length ≤ 1048576) (h:OwnTR w v t) :
 Calls Tryz.prog 21 #[v,.string q,.int .i64 k] w (Postb (okT t && (knownC q && modeB k)) w):=by
 obtain ⟨A,c,rfl,hr⟩:=ownTR_form h
 have HR:=Lib.hid (show ∀ W,Below w.heap.size w W→OwnER W (.slice A t.2.length c) t.2 from fun W h=>hr.below h)
 have HTR:=Lib.hid (show ∀ W,Below w.heap.size w W→OwnTR W (.agg #[.string t.1,.slice A t.2.length c]) t from fun W h=>⟨_,rfl,hr.below h⟩)
 clear h hr
 have bb0:Below w.heap.size w (w.alloc (.cells #[.string t.1,.slice A t.2.length c] 41)):=below_al (Below.refl _ _) _
 have kt:=(box_new w #[.string t.1,.slice A t.2.length c] 41)
 go_enter Tryz.func21,Tryz.ntmps21
 have kt_c0:=kt.here.cell 0 _ rfl
 have kt_c1:=kt.here.cell 1 _ rfl
 go_wp2_with fail
 clear kt_c0 kt_c1
 refine (specRatesOk_any _ t _ hl hx (HTR.out _ bb0)).mono ?_
 rintro e w1 ⟨rfl,b1⟩
 have bb1:=Below.next bb0 b1
 replace kt:=kt.below b1
 clear kt
 obtain ⟨ok1,hok1⟩:∃ b,okT t = b:=⟨_,rfl⟩
 rw [hok1]
 have HOK1:=Lib.hid hok1
 clear hok1
 cases ok1 with
 | false =>
   go_wp2
   go_ret
   exact ⟨ret_bool (by rw [HOK1.out];rfl),bb1⟩
 | true =>
   go_wp2_with fail
   refine (specCurKnown_any q _).mono ?_
   rintro e w2 ⟨rfl,b2⟩
   have bb2:=Below.next bb1 b2
   obtain ⟨ok2,hok2⟩:∃ b,knownC q = b:=⟨_,rfl⟩
   rw [hok2]
   have HOK2:=Lib.hid hok2
   clear hok2
   cases ok2 with
   | false =>
     go_wp2
     go_ret
     exact ⟨ret_bool (by rw [HOK1.out,HOK2.out];rfl),bb2⟩
   | true =>
     go_wp2_with fail
     refine (l06Mode_any k _).mono ?_
     rintro e w3 ⟨rfl,b3⟩
     have bb3:=Below.next bb2 b3
     obtain ⟨ok3,hok3⟩:∃ b,modeB k = b:=⟨_,rfl⟩
     rw [hok3]
     go_wp2
     go_ret
     exact ⟨ret_bool (by rw [HOK1.out,HOK2.out,hok3];rfl),bb3⟩
theorem digB_true {d:Int} (h:digB d = true):0 ≤ d∧d ≤ 999999999:=of_decide_eq_true h
theorem digB_false {d:Int} (h:digB d = false):¬ (0 ≤ d∧d ≤ 999999999):=of_decide_eq_false h
set_option maxHeartbeats 400000 in
theorem implNatOk_same (v:Value) (xs:List Int) (lo hi:Nat) (w:World) (hl:xs.length ≤ 9223372036854775807) (hr:Row w lo hi v (intsV xs)) :
 Calls Tryz.prog 150 #[v] w fun e w'=>e = .returned (.bool (natOkB xs))∧w = w':=by
 obtain ⟨A,c,rfl,hA⟩:=hr
 have HA:=Lib.hid hA
 rw [intsV_length]
 clear hA
 by_cases h50:xs.length ≤ 50
 ·go_enter Tryz.func150,Tryz.ntmps150
  go_wp2
  go_loop [10] (fun i=>∃ k:Nat,k ≤ xs.length∧i = .int .i64 k∧Hid ((xs.take k).all digB = true)) (fun i=>xs.length - (intOf i).toNat)
  case atStart=>exact ⟨0,Nat.zero_le _,rfl,Lib.hid rfl⟩
  case round =>
   obtain ⟨k,hk,rfl,HD⟩:=hrel
   by_cases hlt:k < xs.length
   ·obtain ⟨a,rfl,_,_,hca⟩:=HA.out k _ (intsV_at xs k hlt)
    by_cases hd:digB xs[k] = true
    ·have HS:=Lib.hid (all_succ xs k hlt HD.out hd)
     have hd2:=digB_true hd
     have hd3:=hd2.1
     have hd4:=hd2.2
     clear hd2 hd
     go_wp2
     go_round
     case rel=>exact ⟨k+1,by omega,by go_num,HS⟩
     case measure=>simp [intOf];omega
    ·have hd':digB xs[k] = false:=by simpa using hd
     have HN:=Lib.hid (not_all xs k hlt hd')
     have hd2:=digB_false hd'
     by_cases hneg:xs[k] < 0
     ·go_wp2
      go_ret
      exact ⟨ret_bool HN.out.symm,rfl⟩
     ·have hbig:1000000000 ≤ xs[k]:=by omega
      go_wp2
      go_ret
      exact ⟨ret_bool HN.out.symm,rfl⟩
   ·have HF:=Lib.hid (all_upto xs k HD.out hlt)
    by_cases h0:xs.length = 0
    ·have hz:((xs.length:Int) == 0) = true:=by simp [h0]
     obtain rfl:xs = []:=List.eq_nil_of_length_eq_zero h0
     clear h0
     go_wp2
     go_ret
     exact ⟨rfl,rfl⟩
    ·have hz:((xs.length:Int) == 0) = false:=by rw [beq_eq_false_iff_ne];omega
     have hlt2:xs.length - 1 < xs.length:=by omega
     obtain ⟨a,rfl,_,_,hca⟩:=HA.out (xs.length - 1) _ (intsV_at xs (xs.length - 1) hlt2)
     have HL:=Lib.hid (ok_last xs HF.out h50 hlt2)
     clear h0
     go_wp2
     go_ret
     exact ⟨ret_bool HL.out,rfl⟩
 ·have HN:=Lib.hid (ok_long xs h50)
  go_enter Tryz.func150,Tryz.ntmps150
  go_wp2
  go_ret
  exact ⟨ret_bool HN.out.symm,rfl⟩
set_option maxHeartbeats 400000 in
theorem implNatOf_any (n:Int) (w:World) (h1:n ≤ 9223372036854775807) :
 Calls Tryz.prog 133 #[.int .i64 n] w (NewInts (limbs n.toNat) w):=by
 obtain ⟨i0,hi,hz0,hz1,hz2⟩:=info_parts intInfo
 go_enter Tryz.func133,Tryz.ntmps133
 go_wp2
 go_loopw [0,3] (fun a v wr=>∃ (m:Int) (out:List Int) (f:Nat),m ≤ 9223372036854775807∧out.length+f ≤ 3∧m < 1000000000 ^ f∧a = .int .i64 m∧Hid (out ++ limbs m.toNat = limbs n.toNat)∧wr.ownsRow w.heap.size 3 1 v out.length (intsV out)∧Below w.heap.size w wr) (fun a _ _=>(intOf a).toNat)
 case atStart=>exact ⟨n,[],3,h1,by simp,by omega,rfl,Lib.hid rfl,World.ownsRow_nil _ _ _ _,Below.refl _ _⟩
 case round =>
  obtain ⟨m,out,f,hm,hol,hmf,rfl,HE,hown,hb1⟩:=hrel
  by_cases h0:0 < m
  ·obtain ⟨g,rfl⟩:∃ g,f = g+1:=by
    cases f with
    | zero=>simp at hmf;omega
    | succ g=>exact ⟨g,rfl⟩
   have hmg:m / 1000000000 < 1000000000 ^ g:=by
    rw [Int.pow_succ] at hmf
    exact Int.ediv_lt_of_lt_mul (by omega) hmf
   have HS:Hid (out ++ [m % 1000000000] ++ limbs (m / 1000000000).toNat = limbs n.toNat):=Lib.hid (by
    have e:=HE.out
    rw [limbs_pos m.toNat (by omega)] at e
    rw [List.append_assoc,← e,show ((m.toNat % 1000000000:Nat):Int) = m % 1000000000 from by omega,show m.toNat / 1000000000 = (m / 1000000000).toNat from by omega]
    rfl)
   clear hmf
   go_wp2_with (at_builtin;refine wpList_append_own _ rfl (.tmp 8) (.tmp 11) 25 rfl w.heap.size 3 i0 (.int .i64 0) 1 8 Tryz.underlying25 hi hz0 hz1 hz2 rfl (by decide) _ _ _ rfl (own_alloc hown _) ⟨wr.heap.size,0,none⟩ 1 1 [.int .i64 (m % 1000000000)] rfl rfl (one_new _ _ _) ?c2 ?c3 ?c4 ?c5 ?_)
   case c2=>first | (intro u hu;simp at hu;subst hu;rfl) | rfl
   case c3=>unfold maxLen;omega
   case c4=>omega
   case c5=>have:=hb1.size;simp;omega
   intro v1 w1 hown1 hg1 _
   have hb2:=below_push hb1 (Nat.le_refl _) hown hg1
   go_wp2
   exact ⟨⟨m / 1000000000,out ++ [m % 1000000000],g,by omega,by simp;omega,hmg,rfl,HS,by simpa [intsV] using hown1,hb2⟩,by simp [intOf];omega⟩
  ·have HF:Hid (out = limbs n.toNat):=Lib.hid (by have e:=HE.out;rwa [show m.toNat = 0 from by omega,limbs_none,List.append_nil] at e)
   go_wp2
   go_ret
   exact ⟨_,rfl,by rw [← HF.out];exact hown,hb1⟩
theorem quiet_at {P:Program} {f:FuncId} {args:Array Value} {W:World} {X:Nat→World} {n:Nat} {v:Value} (hX:X n = W)
 (h:Calls P f args W fun e w'=>e = .returned v∧W = w'):Calls P f args W fun e w''=>e = .returned v∧∃ m,w'' = X m :=
 h.mono fun _ _ ⟨he,hm⟩=>⟨he,n,hm.symm.trans hX.symm⟩
set_option maxHeartbeats 400000 in
theorem isNaN_any (x:Int) (w:World):Calls Tryz.prog 204 #[.int .i64 x] w fun e w'=>e = .returned (.bool false)∧w = w':=by
 go_enter Tryz.func204,Tryz.ntmps204
 go_wp2
 go_ret
 exact ⟨by simp,rfl⟩
set_option maxHeartbeats 400000 in
theorem compare_any (x y:Int) (w:World):Calls Tryz.prog 196 #[.int .i64 x,.int .i64 y] w fun e w'=>e = .returned (.int .i64 (cmpI x y))∧w = w':=by
 go_enter Tryz.func196,Tryz.ntmps196
 go_wp2_with (go_at_call 204;refine (isNaN_any _ _).mono ?_;rintro e w' ⟨rfl,rfl⟩)
 all_goals (go_ret;refine ⟨?_,rfl⟩;unfold cmpI;(repeat' split) <;> first | rfl | (exfalso;omega))
set_option maxHeartbeats 1000000 in
theorem compareLimbs_any (va vb:Value) (a b:List Int) (la ha lb hb:Nat) (w:World) (hal:a.length ≤ 9223372036854775807) (_hbl:b.length ≤ 9223372036854775807) (oa:DigN a∧a.getLastD 1 ≠ 0) (ob:DigN b∧b.getLastD 1 ≠ 0)
 (hra:Row w la ha va (intsV a)) (hrb:Row w lb hb vb (intsV b)) :
 Calls Tryz.prog 184 #[va,vb] w fun e w'=>e = .returned (.int .i64 (cmpI (nval a) (nval b)))∧∃ q,w.drewN q = w':=by
 have OA:=Lib.hid oa
 have OB:=Lib.hid ob
 obtain ⟨A,c,rfl,hA⟩:=hra
 obtain ⟨B,d,rfl,hB⟩:=hrb
 rw [intsV_length]
 rw [intsV_length]
 have HA:=Lib.hid hA
 have HB:=Lib.hid hB
 clear hA hB oa ob
 by_cases hlen:a.length = b.length
 ·have HL:=Lib.hid hlen
  have hbe:((a.length:Int) != (b.length:Int)) = false:=by simp [hlen]
  clear hlen
  go_enter Tryz.func184,Tryz.ntmps184
  go_wp2
  go_loopw [5] (fun i wr=>∃ k q:Nat,k ≤ a.length∧i = .int .i64 ((k:Int) - 1)∧wr = w.drewN q∧Hid (a.drop k = b.drop k)) (fun i _=>(intOf i+1).toNat)
  case atStart=>exact ⟨a.length,0,Nat.le_refl _,rfl,rfl,Lib.hid (by rw [List.drop_of_length_le (Nat.le_refl _),List.drop_of_length_le (by have:=HL.out;omega)])⟩
  case round =>
   obtain ⟨k,q,hk,rfl,rfl,HT⟩:=hrel
   by_cases hz:0 < k
   ·obtain ⟨m,rfl⟩:∃ m,k = m+1:=⟨k - 1,by omega⟩
    have hlt:m < a.length:=by omega
    have hlt2:m < b.length:=by have:=HL.out;omega
    obtain ⟨p,rfl,_,_,hca⟩:=HA.out m _ (intsV_at a m hlt)
    obtain ⟨r,rfl,_,_,hcb⟩:=HB.out m _ (intsV_at b m hlt2)
    have hm1:((m+1:Nat):Int) - 1 = (m:Int):=by omega
    rw [hm1]
    clear hm1 hz
    by_cases he:a[m] = b[m]
    ·have hne:(a[m] != b[m]) = false:=by simp [he]
     have HS:=Lib.hid (drop_same a b m hlt hlt2 HT.out he)
     clear he
     go_wp2
     go_quiet (fail)
     go_wp2
     go_roundw
     case rel=>exact ⟨m,_,by omega,rfl,rfl,HS⟩
     case measure=>simp [intOf]
    ·have hne:(a[m] != b[m]) = true:=by rw [bne_iff_ne];exact he
     have HV:Hid (cmpI a[m] b[m] = cmpI (nval a) (nval b)):=Lib.hid (by
      by_cases h1:a[m] < b[m]
      ·rw [cmp_lt h1,cmp_lt (nval_lt_down a b OA.out.1 OB.out.1 HL.out m (by rw [nval_drop a m hlt,nval_drop b m hlt2,HT.out];omega))]
      ·rw [cmp_gt (show b[m] < a[m] by omega),cmp_gt (nval_lt_down b a OB.out.1 OA.out.1 HL.out.symm m (by rw [nval_drop a m hlt,nval_drop b m hlt2,HT.out];omega))])
     clear he
     go_wp2
     go_quiet (fail)
     go_wp2
     go_quiet ((go_at_call 196;exact quiet_at rfl (compare_any _ _ _)))
     go_wp2
     go_ret
     exact ⟨ret_int HV.out,drew_three _ _ _ _⟩
   ·obtain rfl:k = 0:=by omega
    go_wp2
    go_ret
    exact ⟨ret_int (cmp_eq (by have:=HT.out;rw [List.drop_zero,List.drop_zero] at this;rw [this])).symm,q,rfl⟩
 ·have hbe:((a.length:Int) != (b.length:Int)) = true:=by simp;omega
  have HV:Hid (cmpI (a.length:Int) (b.length:Int) = cmpI (nval a) (nval b)):=Lib.hid (by
   by_cases hs:a.length < b.length
   ·rw [cmp_lt (by omega),cmp_lt (nval_short a b OA.out.1 OB.out.1 hs OB.out.2)]
   ·rw [cmp_gt (by omega),cmp_gt (nval_short b a OB.out.1 OA.out.1 (by omega) OA.out.2)])
  clear hlen
  go_enter Tryz.func184,Tryz.ntmps184
  go_wp2_with (go_at_call 196;refine (compare_any _ _ _).mono ?_;rintro e w' ⟨rfl,rfl⟩)
  go_ret
  exact ⟨ret_int HV.out,0,rfl⟩
set_option maxHeartbeats 1000000 in
theorem implNatCmp_drew (va vb:Value) (a b:List Int) (la ha lb hb:Nat) (w:World) (hal:a.length ≤ 9223372036854775807) (hbl:b.length ≤ 9223372036854775807)
 (hra:Row w la ha va (intsV a)) (hrb:Row w lb hb vb (intsV b)) :
 Calls Tryz.prog 171 #[va,vb] w fun e w'=>e = .returned (.int .i64 (cmpN a b))∧∃ q,w.drewN q = w':=by
 by_cases oa:natOkB a = true
 ·by_cases ob:natOkB b = true
  ·have HC:=Lib.hid (show cmpN a b = cmpI (nval a) (nval b) by unfold cmpN;rw [if_pos ⟨oa,ob⟩])
   have OA:=Lib.hid (ok_dig oa)
   have OB:=Lib.hid (ok_dig ob)
   go_enter Tryz.func171,Tryz.ntmps171
   go_wp2_with fail
   refine (implNatOk_same va a la ha _ hal hra).mono ?_
   rintro e w' ⟨rfl,rfl⟩
   rw [oa]
   go_wp2_with fail
   refine (implNatOk_same vb b lb hb _ hbl hrb).mono ?_
   rintro e w' ⟨rfl,rfl⟩
   rw [ob]
   clear oa ob
   go_wp2_with fail
   refine (compareLimbs_any va vb a b la ha lb hb _ hal hbl OA.out OB.out hra hrb).mono ?_
   rintro e w' ⟨rfl,q,rfl⟩
   go_wp2
   go_ret
   exact ⟨ret_int HC.out.symm,q,rfl⟩
  ·have ob':natOkB b = false:=by simpa using ob
   have HC:=Lib.hid (show cmpN a b = 0 by unfold cmpN;rw [if_neg (fun h=>ob h.2)])
   clear ob
   go_enter Tryz.func171,Tryz.ntmps171
   go_wp2_with fail
   refine (implNatOk_same va a la ha _ hal hra).mono ?_
   rintro e w' ⟨rfl,rfl⟩
   rw [oa]
   go_wp2_with fail
   refine (implNatOk_same vb b lb hb _ hbl hrb).mono ?_
   rintro e w' ⟨rfl,rfl⟩
   rw [ob']
   go_wp2
   go_ret
   exact ⟨ret_int HC.out.symm,0,rfl⟩
 ·have oa':natOkB a = false:=by simpa using oa
  have HC:=Lib.hid (show cmpN a b = 0 by unfold cmpN;rw [if_neg (fun h=>oa h.1)])
  clear oa
  go_enter Tryz.func171,Tryz.ntmps171
  go_wp2_with fail
  refine (implNatOk_same va a la ha _ hal hra).mono ?_
  rintro e w' ⟨rfl,rfl⟩
  rw [oa']
  go_wp2
  go_ret
  exact ⟨ret_int HC.out.symm,0,rfl⟩
theorem implNatCmp_any (va vb:Value) (a b:List Int) (la ha lb hb:Nat) (w:World) (hal:a.length ≤ 1048576) (hbl:b.length ≤ 1048576) (_:ha ≤ w.heap.size) (_:hb ≤ w.heap.size)
 (hra:Row w la ha va (intsV a)) (hrb:Row w lb hb vb (intsV b)) :
 Calls Tryz.prog 171 #[va,vb] w fun e w'=>e = .returned (.int .i64 (cmpN a b))∧Below w.heap.size w w':=by
 refine (implNatCmp_drew va vb a b la ha lb hb w (by omega) (by omega) hra hrb).mono ?_
 rintro e w' ⟨rfl,q,rfl⟩
 exact ⟨rfl,below_drewN (Below.refl _ _) q⟩
structure NatK where
 rest:List Value
 ty:TypeId
 ne:ty ≠ 3
@[reducible] def natK:NatK:=⟨[],204,by decide⟩
def NatX (K:NatK) (B b:Nat) (xs:List Int) (w:World):Prop :=
 B ≤ b∧∃ v,w.heap[b]? = some (.cells (v :: K.rest).toArray K.ty (0,0))∧w.ownsRow B 3 1 v xs.length (intsV xs)∧v.ownBlock ≠ some b
abbrev NatAt (B b:Nat) (xs:List Int) (w:World):Prop:=NatX natK B b xs w
theorem NatX.lt {K:NatK} {B b:Nat} {xs:List Int} {w:World} (h:NatX K B b xs w):b < w.heap.size:=by
 obtain ⟨_,v,hb,_⟩:=h
 exact (Array.getElem?_eq_some_iff.1 hb).1
theorem NatX.cell {K:NatK} {v:Value} {b:Nat} {w:World} (hb:w.heap[b]? = some (.cells (v :: K.rest).toArray K.ty (0,0))):w.cell? ⟨b,0,none⟩ = some v:=by
 rw [Lib.cell_of_heap hb];simp
theorem NatX.cell1 {K:NatK} {v u:Value} {b:Nat} {w:World} (hb:w.heap[b]? = some (.cells (v :: K.rest).toArray K.ty (0,0))) (j:Nat) (hj:K.rest[j]? = some u):w.cell? ⟨b,j+1,none⟩ = some u:=by
 rw [Lib.cell_of_heap hb];simpa using hj
theorem NatX.put {K:NatK} {B b:Nat} {v v':Value} {ys:List Int} {w:World} (hB:B ≤ b) (hb:w.heap[b]? = some (.cells (v :: K.rest).toArray K.ty (0,0))) (hown:w.ownsRow B 3 1 v' ys.length (intsV ys)) :
 NatX K B b ys (w.setCell ⟨b,0,none⟩ v'):=by
 have hne:=Lib.ownBlock_ne hown hb K.ne
 refine ⟨hB,v',?_,?_,hne⟩
 ·simp [World.setCell,Array.getElem?_modify,hb]
 ·exact hown.kept (row:=some b) ⟨rfl,rfl,rfl,by simp [World.setCell],fun k _ hk=>Below.heap_setCell _ _ _ _ (fun e=>hk (by simp [e]))⟩ (Or.inr hne)
theorem NatAt.put {B b:Nat} {v v':Value} {ys:List Int} {w:World} (hB:B ≤ b) (hb:w.heap[b]? = some (.cells #[v] 204 (0,0))) (hown:w.ownsRow B 3 1 v' ys.length (intsV ys)) :
 NatAt B b ys (w.setCell ⟨b,0,none⟩ v'):=NatX.put (K:=natK) hB hb hown
theorem NatX.new {K:NatK} {B:Nat} {v:Value} {xs:List Int} {w:World} (hB:B ≤ w.heap.size) (hown:w.ownsRow B 3 1 v xs.length (intsV xs)):NatX K B w.heap.size xs (w.alloc (.cells (v :: K.rest).toArray K.ty)):=by
 refine ⟨hB,v,heap_alloc_new w _,own_alloc hown _,fun h=>?_⟩
 have:=(own_lt hown h).2
 omega
theorem NatAt.new {B:Nat} {v:Value} {xs:List Int} {w:World} (hB:B ≤ w.heap.size) (hown:w.ownsRow B 3 1 v xs.length (intsV xs)):NatAt B w.heap.size xs (w.alloc (.cells #[v] 204)) :=
 NatX.new (K:=natK) hB hown
set_option maxHeartbeats 1000000 in
theorem cloneI_any (v:Value) (xs:List Int) (lo hi:Nat) (w:World) (hl:xs.length ≤ 1048576) (hr:Row w lo hi v (intsV xs)) :
 Calls Tryz.prog 200 #[v] w (NewInts xs w):=by
 obtain ⟨i0,hi0,hz0,hz1,hz2⟩:=info_parts intInfo
 obtain ⟨A,c,rfl,hA⟩:=hr
 have q22:∀ (w:World) (a:Option Addr) (n c n' c':Nat),(binOp .eql 25 (.slice a n c) (.slice none n' c')).run Tryz.prog w = .ok (.bool a.isNone) w:=fun w a n c n' c'=>Lib.run_eql_slice_nil w _ _ a n c n' c' Tryz.underlying25
 cases A with
 | none =>
   obtain rfl:xs = []:=by
    cases xs with
    | nil=>rfl
    | cons x r =>
      obtain ⟨a,e,_⟩:=hA 0 _ rfl
      cases e
   clear hA
   go_enter Tryz.func200,Tryz.ntmps200
   go_wp2
   go_ret
   exact ⟨_,rfl,World.ownsRow_nil _ _ _ _,Below.refl _ _⟩
 | some a =>
   have HA:=Lib.hid hA
   clear hA
   rw [intsV_length]
   go_enter Tryz.func200,Tryz.ntmps200
   go_wp2_with (at_builtin;refine wpList_append_own _ rfl _ _ 25 rfl w.heap.size 3 i0 (.int .i64 0) 1 8 Tryz.underlying25 hi0 hz0 hz1 hz2 rfl (by decide) _ _ _ rfl (World.ownsRow_made w #[] 0 (Nat.le_refl _) (Nat.zero_le _) rfl) a xs.length c (intsV xs) rfl ?qc1 ?qc2 ?qc3 ?qc4 ?qc5 ?qc6 ?_)
   case qc1=>simp [intsV_length]
   case qc2 =>
    intro j u hj
    obtain ⟨p,e,h1,h2,h3⟩:=HA.out j u hj
    cases e
    exact Lib.cell?_alloc_some _ h3
   case qc3=>intro u hu;obtain ⟨x,_,rfl⟩:=List.mem_map.1 hu;rfl
   case qc4=>unfold maxLen;omega
   case qc5=>omega
   case qc6=>simp
   intro v' w1 hown hgrow hnil
   go_wp2
   go_ret
   exact ⟨v',rfl,by simpa using hown,((Below.refl _ w).alloc (Nat.le_refl _) _).grown hgrow (by simp) (by intro k hk;simp [Value.ownBlock] at hk;omega)⟩
def NewNat (xs:List Int) (w:World) (e:Ending) (w':World):Prop :=
 ∃ b,e = .returned (.pointer (some ⟨b,0,none⟩))∧NatAt w.heap.size b xs w'∧Below w.heap.size w w'
set_option maxHeartbeats 400000 in
theorem copyNat_any (v:Value) (xs:List Int) (lo hi:Nat) (w:World) (hl:xs.length ≤ 1048576) (hr:Row w lo hi v (intsV xs)) :
 Calls Tryz.prog 189 #[v] w (NewNat xs w):=by
 go_enter Tryz.func189,Tryz.ntmps189
 go_wp2_with fail
 refine (cloneI_any v xs lo hi _ hl hr).mono ?_
 rintro e w1 ⟨v1,rfl,o1,b1⟩
 obtain ⟨A1,c1,rfl⟩:=own_len o1
 go_wp2
 go_ret
 exact ⟨_,rfl,NatAt.new b1.size o1,b1.alloc b1.size _⟩
set_option maxHeartbeats 400000 in
theorem natResult_any {K:NatK} (B b:Nat) (xs:List Int) (w:World) (hl:xs.length ≤ 1048576) (h:NatX K B b xs w) :
 Calls Tryz.prog 188 #[.pointer (some ⟨b,0,none⟩)] w (OwnPost B (capL xs) w):=by
 obtain ⟨hB,v,hb,hown,hne⟩:=h
 have hc:w.cell? ⟨b,0,none⟩ = some v:=NatX.cell hb
 obtain ⟨A,c,rfl⟩:=own_len hown
 have HB:=Lib.hid hb
 have HO:=Lib.hid hown
 clear hb hown hne
 by_cases h50:50 < xs.length
 ·have HR:=Lib.hid (show capL xs = [] by unfold capL;rw [if_pos h50])
  go_enter Tryz.func188,Tryz.ntmps188
  go_wp2
  go_ret
  exact ⟨rfl,_,rfl,by rw [HR.out];exact World.ownsRow_nil _ _ _ _⟩
 ·have HR:=Lib.hid (show capL xs = xs by unfold capL;rw [if_neg h50])
  go_enter Tryz.func188,Tryz.ntmps188
  go_wp2
  go_ret
  exact ⟨rfl,_,rfl,by rw [HR.out];exact HO.out⟩
def LeftX (K:NatK) (B b:Nat) (xs:List Int) (w w':World):Prop:=NatX K B b xs w'∧Below B w w'
theorem zeros_step (xs:List Int) (k:Nat):xs ++ List.replicate k 0 ++ [(0:Int)] = xs ++ List.replicate (k+1) 0:=by
 rw [List.append_assoc,List.replicate_succ']
theorem zeros_pad (xs:List Int) (k p:Nat) (h:xs.length+k ≤ p+1 ∨ k = 0) (h2:p < xs.length+k):xs ++ List.replicate k 0 = padL xs (p+1):=by
 unfold padL
 rw [show p+1 - xs.length = k by omega]
theorem intsV_append (xs ys:List Int):intsV (xs ++ ys) = intsV xs ++ intsV ys:=by simp [intsV]
theorem NatX.stored {K:NatK} {B b g cap:Nat} {xs:List Int} {w:World} (hB:B ≤ b) (hb:w.heap[b]? = some (.cells (.slice (some ⟨g,0,none⟩) xs.length cap :: K.rest).toArray K.ty (0,0)))
 (hown:w.ownsRow B 3 1 (.slice (some ⟨g,0,none⟩) xs.length cap) xs.length (intsV xs)) (p:Nat) (d:Int) :
 LeftX K B b (xs.set p d) w (w.setCell ⟨g,p,none⟩ (.int .i64 d))∧(w.setCell ⟨g,p,none⟩ (.int .i64 d)).heap[b]? = some (.cells (.slice (some ⟨g,0,none⟩) xs.length cap :: K.rest).toArray K.ty (0,0)) ∧
  (w.setCell ⟨g,p,none⟩ (.int .i64 d)).ownsRow B 3 1 (.slice (some ⟨g,0,none⟩) (xs.set p d).length cap) (xs.set p d).length (intsV (xs.set p d)):=by
 have hne:=Lib.ownBlock_ne hown hb K.ne
 have hgb:b ≠ g:=fun e=>hne (by simp [Value.ownBlock,e])
 obtain ⟨ho,hg⟩:=hown.stored p (.int .i64 d)
 have hlt:=own_lt hown (g:=g) rfl
 have hbs:B ≤ w.heap.size:=by omega
 have hb2:(w.setCell ⟨g,p,none⟩ (.int .i64 d)).heap[b]? = some (.cells (.slice (some ⟨g,0,none⟩) xs.length cap :: K.rest).toArray K.ty (0,0)):=(Below.heap_setCell _ _ _ _ hgb).trans hb
 have hl:(xs.set p d).length = xs.length:=List.length_set
 rw [intsV_set] at ho
 refine ⟨⟨⟨hB,_,hb2,by rw [hl];exact ho,hne⟩,(Below.refl _ _).setCell (p:=⟨g,p,none⟩) hlt.1 _⟩,hb2,by rw [hl];exact ho⟩
set_option maxHeartbeats 1000000 in
theorem addAt_any {K:NatK} (B b:Nat) (xs:List Int) (p:Nat) (v:Int) (w:World) (hl:xs.length ≤ 1048576) (hp:p ≤ 1048576) (hv0:0 ≤ v) (hv1:v ≤ 1000000000000000000) (hd:DigN xs) (h:NatX K B b xs w) :
 Calls Tryz.prog 197 #[.pointer (some ⟨b,0,none⟩),.int .i64 p,.int .i64 v] w fun e w'=>e = .returned (.int .i64 (addAtC xs p v))∧LeftX K B b (addAtL xs p v) w w':=by
 obtain ⟨i0,hi0,hz0,hz1,hz2⟩:=info_parts intInfo
 have HD:=Lib.hid hd
 clear hd
 go_enter Tryz.func197,Tryz.ntmps197
 go_wp2
 go_loopg [] (p+1 - xs.length) (fun n wr=>∃ k:Nat,Hid (xs.length+k ≤ p+1 ∨ k = 0)∧Hid (n = p+1 - (xs.length+k))∧NatX K B b (xs ++ List.replicate k 0) wr∧Below B w wr)
 case atStart=>exact ⟨0,Lib.hid (Or.inr rfl),Lib.hid (by omega),by simpa using h,Below.refl _ _⟩
 case round =>
  obtain ⟨k,HK,HN,hat,hb1⟩:=hrel
  have hlt:=hat.lt
  obtain ⟨hB,u,hbk,hown,hne⟩:=hat
  have hlen:(xs ++ List.replicate k (0:Int)).length = xs.length+k:=by simp
  have hxk:xs.length+k ≤ 1048577:=by rcases HK.out with h | h <;> omega
  rw [hlen] at hown
  by_cases hc:xs.length+k ≤ p
  ·obtain ⟨A,c,rfl⟩:=own_len hown
   have c1:wr.cell? ⟨b,0,none⟩ = some (.slice A (xs.length+k) c):=NatX.cell hbk
   have HB:=Lib.hid hbk
   have HE:=Lib.hid hne
   clear hbk hne hlen
   go_wp2_with (at_builtin;refine wpList_append_own _ rfl _ _ 25 rfl B 3 i0 (.int .i64 0) 1 8 Tryz.underlying25 hi0 hz0 hz1 hz2 rfl (by decide) _ _ _ rfl (own_alloc hown _) ⟨wr.heap.size,0,none⟩ 1 1 [.int .i64 0] rfl rfl (one_new _ _ _) ?c2 ?c3 ?c4 ?c5 ?_)
   case c2=>first | (intro u hu;simp at hu;subst hu;rfl) | rfl
   case c3=>unfold maxLen;omega
   case c4=>omega
   case c5=>simp;omega
   intro v1 w1 hown1 hg1 _
   have hb2:w1.heap[b]? = some (.cells (.slice A (xs.length+k) c :: K.rest).toArray K.ty (0,0)):=by
    rw [hg1.block b (by simp;omega) (fun e=>HE.out e.symm),Below.heap_alloc _ _ _ hlt]
    exact HB.out
   have d1:w1.cell? ⟨b,0,none⟩ = some (.slice A (xs.length+k) c):=NatX.cell hb2
   have f1:w1.frozen? ⟨b,0,none⟩ = false:=Lib.frozen_of_heap hb2 0
   have hb3:Below B w w1:=(hb1.alloc (by omega) _).grown hg1 (by simp;omega) (fun k hk=>(own_lt hown hk).1)
   obtain ⟨A1,cc1,rfl⟩:=own_len hown1
   have hput:=NatX.put (ys:=xs ++ List.replicate (k+1) 0) hB hb2 (by rw [← zeros_step,intsV_append];simpa [intsV,Nat.add_assoc] using hown1)
   have HB2:=Lib.hid hb2
   clear hb2 c1
   go_wp2
   go_roundg (p+1 - (xs.length+(k+1)))
   case measure=>have:=HN.out;omega
   case rel=>exact ⟨k+1,Lib.hid (by omega),Lib.hid rfl,hput,hb3.setCell (p:=⟨b,0,none⟩) hB _⟩
  ·have HP:=Lib.hid (zeros_pad xs k p HK.out (by omega))
   obtain ⟨g,cap,rfl,hg1,hg2,hg3⟩:=own_form hown (by omega)
   have c1:wr.cell? ⟨b,0,none⟩ = some (.slice (some ⟨g,0,none⟩) (xs.length+k) cap):=NatX.cell hbk
   have hpl:p < (padL xs (p+1)).length:=by rw [padL_length];omega
   have hcell:=hown.cellAt p (by omega)
   rw [HP.out,intsV_at _ p hpl,padL_at] at hcell
   have hfr:=hown.frozenAt p
   have hdg:=getD_dig HD.out p
   have hs:xs.length+k = (padL xs (p+1)).length:=by rw [← HP.out,hlen]
   have HST:=Lib.hid (NatX.stored (xs:=padL xs (p+1)) hB (by rw [← hs];exact hbk) (by rw [← hs,← HP.out];exact hown) p ((v+xs.getD p 0) % 1000000000))
   have HC:=Lib.hid (show addAtC xs p v = (v+xs.getD p 0) / 1000000000 from rfl)
   have HL:=Lib.hid (show addAtL xs p v = (padL xs (p+1)).set p ((v+xs.getD p 0) % 1000000000) from rfl)
   clear hown hbk hs hlen hne
   generalize xs.getD p 0 = dg at hcell hdg HST HC HL
   have hdg0:=hdg.1
   have hdg1:=hdg.2
   clear hdg
   go_wp2
   go_ret
   exact ⟨ret_int HC.out.symm,by rw [HL.out];exact ⟨HST.out.1.1,hb1.trans HST.out.1.2⟩⟩
def NatOnX (K:NatK) (T:List Nat) (b:Nat) (xs:List Int) (w:World):Prop :=
 ∃ v,w.heap[b]? = some (.cells (v :: K.rest).toArray K.ty (0,0))∧w.ownsRow 0 3 1 v xs.length (intsV xs)∧v.ownBlock ≠ some b∧T = b :: v.ownBlock.toList
def KeptX (K:NatK) (T:List Nat) (b:Nat) (xs:List Int) (w w':World):Prop:=NatOnX K T b xs w'∧Chg T w w'
abbrev NatOn (T:List Nat) (b:Nat) (xs:List Int) (w:World):Prop:=NatOnX natK T b xs w
abbrev Kept (T:List Nat) (b:Nat) (xs:List Int) (w w':World):Prop:=KeptX natK T b xs w w'
theorem NatOnX.lt {K:NatK} {T:List Nat} {b:Nat} {xs:List Int} {w:World} (h:NatOnX K T b xs w):b < w.heap.size:=by
 obtain ⟨v,hb,_⟩:=h
 exact (Array.getElem?_eq_some_iff.1 hb).1
theorem NatOnX.mem {K:NatK} {T:List Nat} {b:Nat} {xs:List Int} {w:World} (h:NatOnX K T b xs w):b ∈ T:=by
 obtain ⟨v,_,_,_,rfl⟩:=h
 simp
theorem NatOnX.at_ {K:NatK} {T:List Nat} {b:Nat} {xs:List Int} {w:World} (h:NatOnX K T b xs w):At T (NatOnX K T b xs) w:=by
 have hh:=h
 obtain ⟨v,hb,ho,hne,rfl⟩:=h
 refine ⟨hh,fun g hg=>?_,fun w' hk=>⟨v,(hk b (by simp)).trans hb,own_stays ho fun g hg=>hk g (by simp [hg]),hne,rfl⟩⟩
 rcases List.mem_cons.1 hg with rfl | hg
 ·exact (Array.getElem?_eq_some_iff.1 hb).1
 ·exact (own_lt ho (by simpa using hg)).2
theorem NatX.on {K:NatK} {B b:Nat} {xs:List Int} {w:World} (h:NatX K B b xs w):∃ T,NatOnX K T b xs w∧∀ g ∈ T,B ≤ g:=by
 obtain ⟨hB,v,hb,ho,hne⟩:=h
 refine ⟨_,⟨v,hb,own_zero ho,hne,rfl⟩,fun g hg=>?_⟩
 rcases List.mem_cons.1 hg with rfl | hg
 ·exact hB
 ·exact (own_lt ho (by simpa using hg)).1
theorem own_raise {w:World} {base n:Nat} {e:TypeId} {v:Value} {xs:List Value} (h:w.ownsRow 0 e 1 v n xs) (hb:∀ g,v.ownBlock = some g→base ≤ g):w.ownsRow base e 1 v n xs:=by
 obtain ⟨hl,h | ⟨g,cap,cur,rfl,_,r⟩⟩:=h
 ·exact ⟨hl,.inl h⟩
 ·exact ⟨hl,.inr ⟨g,cap,cur,rfl,hb g rfl,r⟩⟩
theorem NatOnX.natAt {K:NatK} {T:List Nat} {B b:Nat} {xs:List Int} {w:World} (h:NatOnX K T b xs w) (hT:∀ g ∈ T,B ≤ g):NatX K B b xs w:=by
 obtain ⟨v,hb,ho,hne,rfl⟩:=h
 exact ⟨hT b (by simp),v,hb,own_raise ho fun g hg=>hT g (by simp [hg]),hne⟩
theorem KeptX.left {K:NatK} {T:List Nat} {B b:Nat} {xs:List Int} {w w':World} (h:KeptX K T b xs w w') (hB:B ≤ w.heap.size) (hT:∀ g ∈ T,B ≤ g):LeftX K B b xs w w' :=
 ⟨h.1.natAt hT,below_chg (Below.refl _ _) h.2 hB hT⟩
theorem KeptX.trans {K:NatK} {T:List Nat} {b:Nat} {xs ys:List Int} {w w1 w2:World} (h:KeptX K T b xs w w1) (k:KeptX K T b ys w1 w2):KeptX K T b ys w w2:=⟨k.1,h.2.trans k.2⟩
theorem NatX.size {K:NatK} {B b:Nat} {xs:List Int} {w:World} (h:NatX K B b xs w):B ≤ w.heap.size:=by
 have:=h.lt
 have:=h.1
 omega
theorem NatOnX.put {K:NatK} {T:List Nat} {b:Nat} {v v':Value} {ys:List Int} {w:World} (hb:w.heap[b]? = some (.cells (v :: K.rest).toArray K.ty (0,0))) (hown:w.ownsRow 0 3 1 v' ys.length (intsV ys)) (hT:T = b :: v'.ownBlock.toList) :
 NatOnX K T b ys (w.setCell ⟨b,0,none⟩ v'):=by
 obtain ⟨_,u,h1,h2,h3⟩:=NatX.put (Nat.zero_le b) hb hown
 have e:u = v':=by
  have:(w.setCell ⟨b,0,none⟩ v').heap[b]? = some (.cells (v' :: K.rest).toArray K.ty (0,0)):=by simp [World.setCell,Array.getElem?_modify,hb]
  rw [this] at h1
  simpa using h1.symm
 subst e
 exact ⟨_,h1,h2,h3,hT⟩
theorem NatOnX.stored {K:NatK} {b g cap:Nat} {xs:List Int} {w:World} (hb:w.heap[b]? = some (.cells (.slice (some ⟨g,0,none⟩) xs.length cap :: K.rest).toArray K.ty (0,0)))
 (hown:w.ownsRow 0 3 1 (.slice (some ⟨g,0,none⟩) xs.length cap) xs.length (intsV xs)) (hne:(Value.slice (some ⟨g,0,none⟩) xs.length cap).ownBlock ≠ some b) (p:Nat) (d:Int) :
 KeptX K [b,g] b (xs.set p d) w (w.setCell ⟨g,p,none⟩ (.int .i64 d))∧(w.setCell ⟨g,p,none⟩ (.int .i64 d)).heap[b]? = some (.cells (.slice (some ⟨g,0,none⟩) xs.length cap :: K.rest).toArray K.ty (0,0)) ∧
  (w.setCell ⟨g,p,none⟩ (.int .i64 d)).ownsRow 0 3 1 (.slice (some ⟨g,0,none⟩) (xs.set p d).length cap) (xs.set p d).length (intsV (xs.set p d)):=by
 have hgb:b ≠ g:=fun e=>hne (by simp [Value.ownBlock,e])
 obtain ⟨ho,hg⟩:=hown.stored p (.int .i64 d)
 have hb2:(w.setCell ⟨g,p,none⟩ (.int .i64 d)).heap[b]? = some (.cells (.slice (some ⟨g,0,none⟩) xs.length cap :: K.rest).toArray K.ty (0,0)):=(Below.heap_setCell _ _ _ _ hgb).trans hb
 have hl:(xs.set p d).length = xs.length:=List.length_set
 rw [intsV_set] at ho
 exact ⟨⟨⟨_,hb2,by rw [hl];exact ho,hne,rfl⟩,(Chg.refl _ _).setCell (p:=⟨g,p,none⟩) (by simp) _⟩,hb2,by rw [hl];exact ho⟩
set_option maxHeartbeats 1000000 in
theorem takeAt_on {K:NatK} (T:List Nat) (b:Nat) (xs:List Int) (p:Nat) (v:Int) (w:World) (hl:xs.length ≤ 1048576) (hp:p < xs.length) (hv0:0 ≤ v) (hv1:v ≤ 1000000000000000000) (hd:DigN xs) (h:NatOnX K T b xs w) :
 Calls Tryz.prog 198 #[.pointer (some ⟨b,0,none⟩),.int .i64 p,.int .i64 v] w fun e w'=>e = .returned (.int .i64 (takeAtC xs p v))∧KeptX K T b (takeAtL xs p v) w w':=by
 have hdg:=hd.at_ p hp
 have hg:xs.getD p 0 = xs[p]:=by rw [List.getD_eq_getElem?_getD,List.getElem?_eq_getElem hp];rfl
 have HL:=Lib.hid (show takeAtL xs p v = xs.set p ((xs[p] - v) % 1000000000) by rw [← hg];rfl)
 have HC:=Lib.hid (show takeAtC xs p v = -((xs[p] - v) / 1000000000) by rw [← hg];rfl)
 clear hg hd
 obtain ⟨u,hbk,hown,hne,hT⟩:=h
 obtain ⟨g,cap,rfl,hg1,hg2,hg3⟩:=own_form hown (by omega)
 have hT2:T = [b,g]:=hT
 subst hT2
 have c1:w.cell? ⟨b,0,none⟩ = some (.slice (some ⟨g,0,none⟩) xs.length cap):=NatX.cell hbk
 have hcell:=hown.cellAt p (by omega)
 rw [intsV_at _ p hp] at hcell
 have hfr:=hown.frozenAt p
 have hgb:¬ b = g:=fun e=>hne (by simp [Value.ownBlock,e])
 obtain ⟨hs1,hk1,ho1⟩:=NatOnX.stored hbk hown hne p (xs[p] - v % 1000000000)
 have HS1:=Lib.hid hs1
 have hl1:(xs.set p (xs[p] - v % 1000000000)).length = xs.length:=List.length_set
 have HS2:=Lib.hid (NatOnX.stored (xs:=xs.set p (xs[p] - v % 1000000000)) (by rw [hl1];exact hk1) ho1 (by rw [hl1];exact hne) p (xs[p] - v % 1000000000+1000000000))
 rw [List.set_set] at HS2
 clear hown hbk hne hs1 hk1 ho1 hl1 hT
 generalize xs[p] = dg at hcell hdg HS1 HS2 HC HL
 have hdg0:=hdg.1
 have hdg1:=hdg.2
 clear hdg
 by_cases hc:v % 1000000000 ≤ dg
 ·have HC2:=Lib.hid (show takeAtC xs p v = v / 1000000000 by rw [HC.out];omega)
  have HL2:=Lib.hid (show takeAtL xs p v = xs.set p (dg - v % 1000000000) by rw [HL.out];congr 1;omega)
  clear HC HL
  go_enter Tryz.func198,Tryz.ntmps198
  go_wp2
  go_ret
  exact ⟨ret_int HC2.out.symm,by rw [HL2.out];exact HS1.out⟩
 ·have HC2:=Lib.hid (show takeAtC xs p v = v / 1000000000+1 by rw [HC.out];omega)
  have HL2:=Lib.hid (show takeAtL xs p v = xs.set p (dg - v % 1000000000+1000000000) by rw [HL.out];congr 1;omega)
  clear HC HL
  go_enter Tryz.func198,Tryz.ntmps198
  go_wp2
  go_ret
  exact ⟨ret_int HC2.out.symm,by rw [HL2.out];exact HS1.out.trans HS2.out.1⟩
set_option maxHeartbeats 1000000 in
theorem natTrim_on {K:NatK} (T:List Nat) (b:Nat) (xs:List Int) (w:World) (hl:xs.length ≤ 1048576) (h:NatOnX K T b xs w) :
 Calls Tryz.prog 199 #[.pointer (some ⟨b,0,none⟩)] w fun e w'=>e = .returned (.tuple #[])∧KeptX K T b (trimL xs) w w':=by
 have hTm:=h.mem
 have HT0:=Lib.hid hTm
 clear hTm
 obtain ⟨v,hbk,hown,hne,hT⟩:=h
 obtain ⟨A,c,e1,hA⟩:=Row.of_own hown
 rw [intsV_length] at e1
 subst e1
 have c1:w.cell? ⟨b,0,none⟩ = some (.slice A xs.length c):=NatX.cell hbk
 have f1:w.frozen? ⟨b,0,none⟩ = false:=Lib.frozen_of_heap hbk 0
 have hcap:xs.length ≤ c:=by
  rcases hown.2 with ⟨h1,h2⟩ | ⟨g,cap,cur,e1,_,_,hn,_⟩
  ·omega
  ·injection e1 with _ _ e3;omega
 have HA:=Lib.hid hA
 have HB:=Lib.hid hbk
 have HO:=Lib.hid hown
 have HTT:Hid (∀ k,T = b :: (Value.slice A k c).ownBlock.toList):=Lib.hid (by intro k;rw [hT];cases A <;> rfl)
 clear hA hbk hown hne hT
 go_enter Tryz.func199,Tryz.ntmps199
 go_wp2
 go_loop [2] (fun n=>∃ k:Nat,k ≤ xs.length∧n = .int .i64 ((k:Int) - 1)∧Hid (∀ j (h:j < xs.length),k ≤ j→xs[j] = 0)) (fun n=>(intOf n+1).toNat)
 case atStart=>exact ⟨xs.length,Nat.le_refl _,rfl,Lib.hid (fun j h hj=>absurd h (by omega))⟩
 case round =>
  obtain ⟨k,hk,rfl,HZ⟩:=hrel
  by_cases h0:0 < k
  ·obtain ⟨m,rfl⟩:∃ m,k = m+1:=⟨k - 1,by omega⟩
   have hlt:m < xs.length:=by omega
   obtain ⟨a,rfl,_,_,hca⟩:=HA.out m _ (intsV_at xs m hlt)
   have hm1:((m+1:Nat):Int) - 1 = (m:Int):=by omega
   rw [hm1]
   clear hm1 h0
   by_cases hz:xs[m] = 0
   ·have hzb:(xs[m] == 0) = true:=by rw [beq_iff_eq];exact hz
    have HN:Hid (∀ j (h:j < xs.length),m ≤ j→xs[j] = 0):=Lib.hid (fun j h hj=>by
     by_cases e:j = m
     ·subst e;exact hz
     ·exact HZ.out j h (by omega))
    clear hz
    go_wp2
    go_round
    case rel=>exact ⟨m,by omega,rfl,HN⟩
    case measure=>simp [intOf]
   ·have hzb:(xs[m] == 0) = false:=by rw [beq_eq_false_iff_ne];exact hz
    have HT:=Lib.hid (trim_prefix xs (m+1) hk HZ.out (fun _ _=>hz))
    have HP:=Lib.hid (NatOnX.put (ys:=xs.take (m+1)) (v':=.slice (some a) (m+1) c) HB.out (by
     rw [← intsV_take,List.length_take,show min (m+1) xs.length = m+1 from by omega]
     exact own_take (m+1) hk HO.out) (HTT.out _))
    clear hz
    go_wp2
    go_end0
    exact ⟨rfl,by rw [HT.out];exact ⟨HP.out,(Chg.refl _ _).setCell (p:=⟨b,0,none⟩) HT0.out _⟩⟩
  ·obtain rfl:k = 0:=by omega
   have HT:=Lib.hid (trim_prefix xs 0 hk HZ.out (fun _ h=>absurd h (by omega)))
   have HP:=Lib.hid (NatOnX.put (ys:=xs.take 0) (v':=.slice A 0 c) HB.out (by
    rw [← intsV_take,List.length_take,Nat.zero_min]
    exact own_take 0 hk HO.out) (HTT.out _))
   go_wp2
   go_end0
   exact ⟨rfl,by rw [HT.out];exact ⟨HP.out,(Chg.refl _ _).setCell (p:=⟨b,0,none⟩) HT0.out _⟩⟩
theorem natTrim_any {K:NatK} (B b:Nat) (xs:List Int) (w:World) (hl:xs.length ≤ 1048576) (h:NatX K B b xs w) :
 Calls Tryz.prog 199 #[.pointer (some ⟨b,0,none⟩)] w fun e w'=>e = .returned (.tuple #[])∧LeftX K B b (trimL xs) w w':=by
 obtain ⟨T,hT,hB⟩:=h.on
 refine (natTrim_on T b xs w hl hT).mono ?_
 rintro e w' ⟨rfl,hk⟩
 exact ⟨rfl,hk.left h.size hB⟩
def lenM (x y sh:Nat):Nat:=if y = 0 then x else max x (sh+y)
theorem lenM_succ (x k sh:Nat):max (lenM x k sh) (sh+k+1) = lenM x (k+1) sh:=by
 unfold lenM
 rw [if_neg (show ¬ k+1 = 0 by omega)]
 by_cases h:k = 0
 ·rw [if_pos h];omega
 ·rw [if_neg h];omega
theorem lenM_le (x y sh:Nat) (hx:x ≤ 300000) (hy:y ≤ 300000) (hs:sh ≤ 300000):lenM x y sh ≤ 600000:=by unfold lenM;split <;> omega
theorem take_val_succ (ys:List Int) (k:Nat) (h:k < ys.length):nval (ys.take (k+1)) = nval (ys.take k)+bp k * ys[k]:=by
 rw [List.take_succ_eq_append_getElem h,nval_append,List.length_take,show min k ys.length = k by omega]
 show _+bp k * (ys[k]+1000000000 * 0) = _
 rw [Int.mul_zero,Int.add_zero]
def TimesR (xs ys:List Int) (f:Int) (sh k:Nat) (cur:List Int) (cr:Int):Prop :=
 DigN cur∧cur.length = lenM xs.length k sh∧nval cur+cr * bp (sh+k) = nval xs+f * bp sh * nval (ys.take k)∧(k = 0→cr = 0)
theorem TimesR.start (xs ys:List Int) (f:Int) (sh:Nat) (hd:DigN xs):TimesR xs ys f sh 0 xs 0:=by
 refine ⟨hd,rfl,?_,fun _=>rfl⟩
 rw [List.take_zero]
 show nval xs+0 * _ = nval xs+f * bp sh * 0
 rw [Int.zero_mul,Int.mul_zero]
theorem TimesR.next {xs ys:List Int} {f:Int} {sh k:Nat} {cur:List Int} {cr:Int} (h:TimesR xs ys f sh k cur cr) (hk:k < ys.length) :
 TimesR xs ys f sh (k+1) (addAtL cur (sh+k) (ys[k] * f+cr)) (addAtC cur (sh+k) (ys[k] * f+cr)):=by
 obtain ⟨h1,h2,h3,_⟩:=h
 refine ⟨addAt_dig h1 _ _,?_,?_,fun h=>absurd h (by omega)⟩
 ·rw [addAt_length,h2,lenM_succ]
 ·have e:=addAt_val cur (sh+k) (ys[k] * f+cr)
  have e2:ys[k] * f * bp (sh+k) = f * bp sh * (bp k * ys[k]):=by
   rw [bp_add]
   simp only [Int.mul_assoc,Int.mul_comm,Int.mul_left_comm]
  rw [show sh+(k+1) = sh+k+1 by omega,e,take_val_succ ys k hk,Int.add_mul,Int.mul_add,e2]
  omega
theorem carry_bound {cur:List Int} {p:Nat} {v:Int} (h:DigN cur) (h0:0 ≤ v) (h1:v ≤ 999999999000000000):0 ≤ addAtC cur p v∧addAtC cur p v ≤ 999999999:=by
 have hd:=getD_dig h p
 unfold addAtC
 omega
def CarryR (M:Nat) (N:Int) (pl:Nat) (cur:List Int) (cr:Int):Prop :=
 DigN cur∧nval cur+cr * bp pl = N∧((cur.length = M∧(cr = 0 ∨ pl ≤ M)) ∨ (cr = 0∧cur.length = M+1∧bp M ≤ N))
theorem CarryR.len {M pl:Nat} {N cr:Int} {cur:List Int} (h:CarryR M N pl cur cr):cur.length ≤ M+1:=by
 obtain ⟨_,_,⟨h,_⟩ | ⟨_,h,_⟩⟩:=h <;> omega
theorem CarryR.place {M pl:Nat} {N cr:Int} {cur:List Int} (h:CarryR M N pl cur cr) (hc:0 < cr):pl ≤ M∧cur.length = M:=by
 obtain ⟨_,_,⟨h,h2 | h2⟩ | ⟨h,_⟩⟩:=h
 ·omega
 ·exact ⟨h2,h⟩
 ·omega
theorem CarryR.next {M pl:Nat} {N cr:Int} {cur:List Int} (h:CarryR M N pl cur cr) (hc:0 < cr) (h1:cr ≤ 999999999):CarryR M N (pl+1) (addAtL cur pl cr) (addAtC cur pl cr):=by
 obtain ⟨hp,hl⟩:=h.place hc
 obtain ⟨hd,hv,_⟩:=h
 have e:=addAt_val cur pl cr
 refine ⟨addAt_dig hd _ _,by rw [e];exact hv,?_⟩
 by_cases he:pl = M
 ·subst he
  obtain ⟨e1,e2⟩:=addAt_new cur pl cr hl.symm hc h1
  rw [e1]
  refine .inr ⟨rfl,by rw [addAt_length];omega,?_⟩
  rw [e1,e2,Int.zero_mul,Int.add_zero] at e
  rw [← hv,← e,nval_append,hl]
  have h2:=nval_nonneg cur hd
  have h3:=bp_pos pl
  have h4:nval [cr] = cr:=by show cr+1000000000 * 0 = cr;omega
  rw [h4]
  have h5:=Int.mul_le_mul_of_nonneg_left (show 1 ≤ cr by omega) (show 0 ≤ bp pl by omega)
  omega
 ·exact .inl ⟨by rw [addAt_length];omega,.inr (by omega)⟩
def TimesPost (K:NatK) (B b:Nat) (xs ys:List Int) (f:Int) (sh:Nat) (w w':World):Prop :=
 ∃ zs,LeftX K B b zs w w'∧DigN zs∧nval zs = nval xs+f * bp sh * nval ys∧(zs.length = lenM xs.length ys.length sh ∨ (zs.length = lenM xs.length ys.length sh+1∧bp (lenM xs.length ys.length sh) ≤ nval zs))
theorem addAt_at {K:NatK} (B b:Nat) (xs:List Int) (p:Nat) (pz v:Int) (w:World) (hl:xs.length ≤ 1048576) (hp:p ≤ 1048576) (hv0:0 ≤ v) (hv1:v ≤ 1000000000000000000) (hd:DigN xs) (h:NatX K B b xs w) (hz:pz = p) :
 Calls Tryz.prog 197 #[.pointer (some ⟨b,0,none⟩),.int .i64 pz,.int .i64 v] w fun e w'=>e = .returned (.int .i64 (addAtC xs p v))∧LeftX K B b (addAtL xs p v) w w':=by
 subst hz
 exact addAt_any B b xs p v w hl hp hv0 hv1 hd h
set_option maxHeartbeats 1000000 in
theorem addTimes_any {K:NatK} (B b:Nat) (xs:List Int) (vy:Value) (ys:List Int) (lo hi:Nat) (f:Int) (sh:Nat) (w:World) (hxl:xs.length ≤ 300000) (hyl:ys.length ≤ 300000) (hsh:sh ≤ 300000) (hf0:0 ≤ f) (hf1:f ≤ 999999999)
 (hdx:DigN xs) (hdy:DigN ys) (hhi:hi ≤ B) (hr:Row w lo hi vy (intsV ys)) (h:NatX K B b xs w) :
 Calls Tryz.prog 186 #[.pointer (some ⟨b,0,none⟩),vy,.int .i64 f,.int .i64 sh] w fun e w'=>e = .returned (.tuple #[])∧TimesPost K B b xs ys f sh w w':=by
 obtain ⟨A,c,rfl,hA⟩:=hr
 rw [intsV_length]
 have HA:=Lib.hid hA
 have HDX:=Lib.hid hdx
 have HDY:=Lib.hid hdy
 clear hA hdx hdy
 go_enter Tryz.func186,Tryz.ntmps186
 go_wp2
 go_loopw [8,14] (fun a i wr=>∃ (k:Nat) (cur:List Int) (cr:Int),k ≤ ys.length∧i = .int .i64 k∧a = .int .i64 cr∧0 ≤ cr∧cr ≤ 999999999∧Hid (TimesR xs ys f sh k cur cr)∧NatX K B b cur wr∧Below B w wr) (fun _ i _=>ys.length - (intOf i).toNat)
 case atStart=>exact ⟨0,xs,0,Nat.zero_le _,rfl,rfl,by omega,by omega,Lib.hid (TimesR.start xs ys f sh HDX.out),h,Below.refl _ _⟩
 case round =>
  obtain ⟨k,cur,cr,hk,rfl,rfl,hc0,hc1,HR,hat,hb1⟩:=hrel
  have hcl:cur.length ≤ 600000:=by rw [HR.out.2.1];exact lenM_le _ _ _ hxl (by omega) hsh
  by_cases hlt:k < ys.length
  ·obtain ⟨p,rfl,_,hpb,hca⟩:=HA.out k _ (intsV_at ys k hlt)
   have hca':wr.cell? (p.add k) = some (.int .i64 ys[k]):=(hb1.cell (by rw [block_add];omega)).trans hca
   have hdy:=HDY.out.at_ k hlt
   have hd0:=hdy.1
   have hd1:=hdy.2
   have hm0:0 ≤ ys[k] * f:=Int.mul_nonneg hd0 hf0
   have hm1:ys[k] * f ≤ 999999998000000001:=by
    have:=Int.mul_le_mul hd1 hf1 hf0 (by omega)
    omega
   have HN:=Lib.hid (HR.out.next hlt)
   have HCB:=Lib.hid (carry_bound (p:=sh+k) (v:=ys[k] * f+cr) HR.out.1 (by omega) (by omega))
   clear hca hdy
   go_wp2_with fail
   refine (addAt_at B b cur (sh+k) _ _ _ (by omega) (by omega) (by omega) (by omega) HR.out.1 hat (by omega)).mono ?_
   rintro e w1 ⟨rfl,hat1,hb2⟩
   clear hm0 hm1 hd0 hd1
   go_wp2
   go_roundw
   case rel=>exact ⟨k+1,_,_,by omega,by go_num,rfl,HCB.out.1,HCB.out.2,HN,hat1,hb1.trans hb2⟩
   case measure=>simp [intOf];omega
  ·obtain rfl:k = ys.length:=by omega
   have HC:Hid (CarryR (lenM xs.length ys.length sh) (nval xs+f * bp sh * nval ys) (sh+ys.length) cur cr):=Lib.hid (by
    obtain ⟨h1,h2,h3,h4⟩:=HR.out
    rw [List.take_of_length_le (Nat.le_refl _)] at h3
    refine ⟨h1,h3,.inl ⟨h2,?_⟩⟩
    by_cases hy:ys.length = 0
    ·exact .inl (h4 hy)
    ·right
     unfold lenM
     rw [if_neg hy]
     omega)
   have hM:=lenM_le xs.length ys.length sh hxl hyl hsh
   clear HR
   go_wp2
   go_loopw [8,11] (fun a i wr=>∃ (pl:Nat) (cur:List Int) (cr:Int),pl ≤ 600001∧i = .int .i64 pl∧a = .int .i64 cr∧0 ≤ cr∧cr ≤ 999999999∧Hid (CarryR (lenM xs.length ys.length sh) (nval xs+f * bp sh * nval ys) pl cur cr)∧NatX K B b cur wr∧Below B w wr) (fun _ i _=>lenM xs.length ys.length sh+1 - (intOf i).toNat)
   case atStart=>exact ⟨sh+ys.length,cur,cr,by omega,by go_num,rfl,hc0,hc1,HC,hat,hb1⟩
   case round =>
    clear hat hb1 HC hc0 hc1 hcl
    obtain ⟨pl,cur,cr,hpl,rfl,rfl,hc0,hc1,HC,hat,hb1⟩:=hrel
    have hcl:=HC.out.len
    by_cases hpos:0 < cr
    ·have hplm:=(HC.out.place hpos).1
     have HN:=Lib.hid (HC.out.next hpos hc1)
     have HCB:=Lib.hid (carry_bound (p:=pl) (v:=cr) HC.out.1 hc0 (by omega))
     go_wp2_with fail
     refine (addAt_any B b cur pl cr _ (by omega) (by omega) (by omega) (by omega) HC.out.1 hat).mono ?_
     rintro e w1 ⟨rfl,hat1,hb2⟩
     go_wp2
     go_roundw
     case rel=>exact ⟨pl+1,_,_,by omega,by go_num,rfl,HCB.out.1,HCB.out.2,HN,hat1,hb1.trans hb2⟩
     case measure=>simp [intOf];omega
    ·obtain rfl:cr = 0:=by omega
     go_wp2
     go_end0
     refine ⟨rfl,cur,⟨hat,hb1⟩,HC.out.1,?_,?_⟩
     ·have:=HC.out.2.1
      rw [Int.zero_mul,Int.add_zero] at this
      exact this
     ·obtain ⟨_,h2,h3⟩:=HC.out
      rw [Int.zero_mul,Int.add_zero] at h2
      rcases h3 with h3 | h3
      ·exact .inl h3.1
      ·exact .inr ⟨h3.2.1,by rw [h2];exact h3.2.2⟩
theorem Row.on {w:World} {lo hi:Nat} {v:Value} {xs:List Value} (h:Row w lo hi v xs):∃ S,At S (fun w=>Row w lo hi v xs) w∧Within S lo hi:=by
 have hh:=h
 obtain ⟨A,c,rfl,h⟩:=h
 cases xs with
 | nil=>exact ⟨[],⟨hh,fun g hg=>absurd hg (by simp),fun w' _=>Row.nil_ A c⟩,fun g hg=>absurd hg (by simp)⟩
 | cons x r =>
   obtain ⟨a,rfl,h1,h2,h3⟩:=h 0 x rfl
   have hlt:=cell_lt h3
   rw [block_add] at hlt
   refine ⟨[a.block],⟨hh,fun g hg=>by simp at hg;omega,fun w' hk=>⟨_,c,rfl,fun j u hj=>?_⟩⟩,fun g hg=>by simp at hg;omega⟩
   obtain ⟨a',e,k1,k2,k3⟩:=h j u hj
   cases e
   refine ⟨a,rfl,k1,k2,?_⟩
   rw [← k3]
   have hb:=hk a.block (by simp)
   unfold World.cell?
   rw [block_add,hb]
def TakeR (xs ys:List Int) (f:Int) (sh k pl:Nat) (cur:List Int) (br:Int):Prop :=
 DigN cur∧cur.length = xs.length∧nval cur - br * bp pl = nval xs - f * bp sh * nval (ys.take k)
theorem TakeR.start (xs ys:List Int) (f:Int) (sh:Nat) (hd:DigN xs):TakeR xs ys f sh 0 (sh+0) xs 0:=by
 refine ⟨hd,rfl,?_⟩
 rw [List.take_zero,Int.zero_mul]
 show _ = nval xs - f * bp sh * 0
 rw [Int.mul_zero]
theorem TakeR.next {xs ys:List Int} {f:Int} {sh k:Nat} {cur:List Int} {br:Int} (h:TakeR xs ys f sh k (sh+k) cur br) (hk:k < ys.length) (hl:sh+ys.length ≤ xs.length) :
 TakeR xs ys f sh (k+1) (sh+(k+1)) (takeAtL cur (sh+k) (ys[k] * f+br)) (takeAtC cur (sh+k) (ys[k] * f+br)):=by
 obtain ⟨a1,a2,a3⟩:=h
 refine ⟨takeAt_dig a1 _ _,by rw [takeAt_length,a2],?_⟩
 have e2:ys[k] * f * bp (sh+k) = f * bp sh * (bp k * ys[k]):=by
  rw [bp_add]
  simp only [Int.mul_assoc,Int.mul_comm,Int.mul_left_comm]
 rw [show sh+(k+1) = sh+k+1 by omega,takeAt_val cur (sh+k) _ (by omega),take_val_succ ys k hk,Int.add_mul,Int.mul_add,e2]
 omega
theorem TakeR.next2 {xs ys:List Int} {f:Int} {sh k pl:Nat} {cur:List Int} {br:Int} (h:TakeR xs ys f sh k pl cur br) (hl:pl < xs.length) :
 TakeR xs ys f sh k (pl+1) (takeAtL cur pl br) (takeAtC cur pl br):=by
 obtain ⟨a1,a2,a3⟩:=h
 refine ⟨takeAt_dig a1 _ _,by rw [takeAt_length,a2],?_⟩
 rw [takeAt_val cur pl _ (by omega)]
 exact a3
theorem TakeR.room {xs ys:List Int} {f:Int} {sh pl:Nat} {cur:List Int} {br:Int} (h:TakeR xs ys f sh ys.length pl cur br) (hle:f * bp sh * nval ys ≤ nval xs) (hb:0 < br):pl < xs.length:=by
 obtain ⟨a1,a2,a3⟩:=h
 rw [List.take_of_length_le (Nat.le_refl _)] at a3
 rcases Nat.lt_or_ge pl xs.length with h | h
 ·exact h
 ·have h1:=nval_lt cur a1
  have h2:=bp_mono (show cur.length ≤ pl by omega)
  have h3:=bp_pos pl
  have h4:=Int.mul_le_mul_of_nonneg_right (show 1 ≤ br by omega) (show 0 ≤ bp pl by omega)
  omega
theorem TakeR.done {xs ys:List Int} {f:Int} {sh pl:Nat} {cur:List Int} (h:TakeR xs ys f sh ys.length pl cur 0):trimL cur = limbs (nval xs - f * bp sh * nval ys).toNat:=by
 obtain ⟨a1,a2,a3⟩:=h
 rw [List.take_of_length_le (Nat.le_refl _),Int.zero_mul] at a3
 rw [trim_limbs cur a1]
 congr 2
 omega
theorem takeAt_onz {K:NatK} (T:List Nat) (b:Nat) (xs:List Int) (p:Nat) (pz v:Int) (w:World) (hl:xs.length ≤ 1048576) (hp:p < xs.length) (hv0:0 ≤ v) (hv1:v ≤ 1000000000000000000) (hd:DigN xs) (h:NatOnX K T b xs w) (hz:pz = p) :
 Calls Tryz.prog 198 #[.pointer (some ⟨b,0,none⟩),.int .i64 pz,.int .i64 v] w fun e w'=>e = .returned (.int .i64 (takeAtC xs p v))∧KeptX K T b (takeAtL xs p v) w w':=by
 subst hz
 exact takeAt_on T b xs p v w hl hp hv0 hv1 hd h
set_option maxHeartbeats 1000000 in
theorem takeTimes_on {K:NatK} (T S:List Nat) (b:Nat) (xs:List Int) (vy:Value) (ys:List Int) (lo hi:Nat) (f:Int) (sh:Nat) (w:World) (hxl:xs.length ≤ 1048576) (hyl:sh+ys.length ≤ xs.length) (hf0:0 ≤ f) (hf1:f ≤ 999999999)
 (hdx:DigN xs) (hdy:DigN ys) (hle:f * bp sh * nval ys ≤ nval xs) (hST:∀ g ∈ S,g ∉ T) (hr:At S (fun w=>Row w lo hi vy (intsV ys)) w) (h:NatOnX K T b xs w) :
 Calls Tryz.prog 187 #[.pointer (some ⟨b,0,none⟩),vy,.int .i64 f,.int .i64 sh] w fun e w'=>e = .returned (.tuple #[])∧KeptX K T b (limbs (nval xs - f * bp sh * nval ys).toNat) w w':=by
 have HST:=Lib.hid hST
 have HR0:=Lib.hid hr
 obtain ⟨A,c,rfl,_⟩:=hr.here
 rw [intsV_length]
 rw [intsV_length] at HR0
 have HDX:=Lib.hid hdx
 have HDY:=Lib.hid hdy
 have HLE:=Lib.hid hle
 clear hdx hdy hr hST hle
 go_enter Tryz.func187,Tryz.ntmps187
 go_wp2
 go_loopw [8,14] (fun a i wr=>∃ (k:Nat) (cur:List Int) (br:Int),k ≤ ys.length∧i = .int .i64 k∧a = .int .i64 br∧0 ≤ br∧br ≤ 999999999∧Hid (TakeR xs ys f sh k (sh+k) cur br)∧KeptX K T b cur w wr) (fun _ i _=>ys.length - (intOf i).toNat)
 case atStart=>exact ⟨0,xs,0,Nat.zero_le _,rfl,rfl,by omega,by omega,Lib.hid (TakeR.start xs ys f sh HDX.out),h,Chg.refl _ _⟩
 case round =>
  obtain ⟨k,cur,br,hk,rfl,rfl,hc0,hc1,HR,hat⟩:=hrel
  have hcl:cur.length ≤ 1048576:=by rw [HR.out.2.1];exact hxl
  by_cases hlt:k < ys.length
  ·obtain ⟨A',c',e,hA⟩:=(HR0.out.chg hat.2 HST.out).here
   injection e with e1 e2 e3
   subst e1 e3
   clear e2
   obtain ⟨p,rfl,_,hpb,hca⟩:=hA k _ (intsV_at ys k hlt)
   clear hA
   have hdy:=HDY.out.at_ k hlt
   have hd0:=hdy.1
   have hd1:=hdy.2
   have hm0:0 ≤ ys[k] * f:=Int.mul_nonneg hd0 hf0
   have hm1:ys[k] * f ≤ 999999998000000001:=by
    have:=Int.mul_le_mul hd1 hf1 hf0 (by omega)
    omega
   have HN:=Lib.hid (HR.out.next hlt hyl)
   have HCB:=Lib.hid (takeAt_bound HR.out.1 (sh+k) (ys[k] * f+br) (by omega) (by omega))
   clear hdy
   go_wp2_with fail
   refine (takeAt_onz T b cur (sh+k) _ _ _ hcl (by rw [HR.out.2.1];omega) (by omega) (by omega) HR.out.1 hat.1 (by omega)).mono ?_
   rintro e w1 ⟨rfl,hat1⟩
   clear hm0 hm1 hd0 hd1
   go_wp2
   go_roundw
   case rel=>exact ⟨k+1,_,_,by omega,by go_num,rfl,HCB.out.1,HCB.out.2,HN,hat.trans hat1⟩
   case measure=>simp [intOf];omega
  ·obtain rfl:k = ys.length:=by omega
   go_wp2
   go_loopw [8,11] (fun a i wr=>∃ (pl:Nat) (cur:List Int) (br:Int),pl ≤ xs.length∧i = .int .i64 pl∧a = .int .i64 br∧0 ≤ br∧br ≤ 999999999∧Hid (TakeR xs ys f sh ys.length pl cur br)∧KeptX K T b cur w wr) (fun _ i _=>xs.length - (intOf i).toNat)
   case atStart=>exact ⟨sh+ys.length,cur,br,hyl,by go_num,rfl,hc0,hc1,HR,hat⟩
   case round =>
    clear hat HR hc0 hc1 hcl
    obtain ⟨pl,cur,br,hpl,rfl,rfl,hc0,hc1,HR,hat⟩:=hrel
    have hcl:cur.length ≤ 1048576:=by rw [HR.out.2.1];exact hxl
    by_cases hpos:0 < br
    ·have hplm:=HR.out.room HLE.out hpos
     have HN:=Lib.hid (HR.out.next2 hplm)
     have HCB:=Lib.hid (takeAt_bound HR.out.1 pl br (by omega) (by omega))
     go_wp2_with fail
     refine (takeAt_on T b cur pl br _ hcl (by rw [HR.out.2.1];omega) (by omega) (by omega) HR.out.1 hat.1).mono ?_
     rintro e w1 ⟨rfl,hat1⟩
     go_wp2
     go_roundw
     case rel=>exact ⟨pl+1,_,_,by omega,by go_num,rfl,HCB.out.1,HCB.out.2,HN,hat.trans hat1⟩
     case measure=>simp [intOf];omega
    ·obtain rfl:br = 0:=by omega
     have HF:=Lib.hid HR.out.done
     go_wp2_with fail
     refine (natTrim_on T b cur _ hcl hat.1).mono ?_
     rintro e w1 ⟨rfl,hat1⟩
     go_wp2
     go_end0
     exact ⟨rfl,by rw [← HF.out];exact hat.trans hat1⟩
theorem natTake_any {K:NatK} (B b:Nat) (xs:List Int) (vy:Value) (ys:List Int) (lo hi:Nat) (w:World) (hxl:xs.length ≤ 1048576) (hyl:ys.length ≤ xs.length)
 (hdx:DigN xs) (hdy:DigN ys) (hle:nval ys ≤ nval xs) (hhi:hi ≤ B) (hr:Row w lo hi vy (intsV ys)) (h:NatX K B b xs w) :
 Calls Tryz.prog 187 #[.pointer (some ⟨b,0,none⟩),vy,.int .i64 1,.int .i64 0] w fun e w'=>e = .returned (.tuple #[])∧LeftX K B b (limbs (nval xs - nval ys).toNat) w w':=by
 obtain ⟨T,hT,hB⟩:=h.on
 obtain ⟨S,hS,hW⟩:=hr.on
 have e1:1 * bp 0 * nval ys = nval ys:=by show 1 * 1 * nval ys = nval ys;omega
 refine (takeTimes_on T S b xs vy ys lo hi 1 0 w hxl (by omega) (by omega) (by omega) hdx hdy (by omega) (fun g hg hm=>by have:=hB g hm;have:=(hW g hg).2;omega) hS hT).mono ?_
 rintro e w' ⟨rfl,hk⟩
 rw [e1] at hk
 exact ⟨rfl,hk.left h.size hB⟩
theorem add_limbs {a b zs:List Int} (oa:natOkB a = true) (ob:natOkB b = true) (hd:DigN zs) (hv:nval zs = nval a+1 * bp 0 * nval b)
 (hl:zs.length = lenM a.length b.length 0 ∨ (zs.length = lenM a.length b.length 0+1∧bp (lenM a.length b.length 0) ≤ nval zs)):zs = limbs (nval a+nval b).toNat:=by
 have hv2:nval zs = nval a+nval b:=by
  have:bp 0 = 1:=rfl
  rw [this,Int.one_mul,Int.one_mul] at hv
  exact hv
 have na:=nval_nonneg a (natOk_parts oa).1
 have nb:=nval_nonneg b (natOk_parts ob).1
 rw [← hv2]
 apply limbs_of_ge zs hd
 intro h0
 rcases hl with hl | ⟨hl,hg⟩
 ·unfold lenM at hl
  by_cases hb:b.length = 0
  ·rw [if_pos hb] at hl
   have:=ok_ge oa (by omega)
   rw [hl]
   omega
  ·rw [if_neg hb] at hl
   have h2:=ok_ge ob (by omega)
   by_cases hab:b.length ≤ a.length
   ·have h1:=ok_ge oa (by omega)
    rw [hl,show max a.length (0+b.length) = a.length by omega]
    omega
   ·rw [hl,show max a.length (0+b.length) = b.length by omega]
    omega
 ·rw [hl,show lenM a.length b.length 0+1 - 1 = lenM a.length b.length 0 by omega]
  exact hg
theorem addN_ok {a b:List Int} (oa:natOkB a = true) (ob:natOkB b = true):addN a b = natRes (nval a+nval b):=by unfold addN;rw [if_pos ⟨oa,ob⟩]
theorem mulN_ok {a b:List Int} (oa:natOkB a = true) (ob:natOkB b = true):mulN a b = natRes (nval a * nval b):=by unfold mulN;rw [if_pos ⟨oa,ob⟩]
set_option maxHeartbeats 1000000 in
theorem implNatAdd_any (va vb:Value) (a b:List Int) (la ha lb hb:Nat) (w:World) (hal:a.length ≤ 1048576) (hbl:b.length ≤ 1048576) (_:ha ≤ w.heap.size) (hhb:hb ≤ w.heap.size)
 (hra:Row w la ha va (intsV a)) (hrb:Row w lb hb vb (intsV b)) :
 Calls Tryz.prog 172 #[va,vb] w (NewInts (addN a b) w):=by
 by_cases oa:natOkB a = true
 ·by_cases ob:natOkB b = true
  ·have HN:=Lib.hid (addN_ok oa ob)
   have OA:=Lib.hid oa
   have OB:=Lib.hid ob
   have pa:=(natOk_parts oa).2.1
   have pb:=(natOk_parts ob).2.1
   go_enter Tryz.func172,Tryz.ntmps172
   go_wp2_with fail
   refine (implNatOk_same va a la ha _ (by omega) hra).mono ?_
   rintro e w' ⟨rfl,rfl⟩
   rw [oa]
   go_wp2_with fail
   refine (implNatOk_same vb b lb hb _ (by omega) hrb).mono ?_
   rintro e w' ⟨rfl,rfl⟩
   rw [ob]
   clear oa ob
   go_wp2_with fail
   refine (copyNat_any va a la ha _ hal hra).mono ?_
   rintro e w1 ⟨p,rfl,hat,hb1⟩
   go_wp2_with fail
   refine (addTimes_any w.heap.size p a vb b lb hb 1 0 _ (by omega) (by omega) (by omega) (by omega) (by omega) (natOk_parts OA.out).1 (natOk_parts OB.out).1 hhb (hrb.below hb1 hhb) hat).mono ?_
   rintro e w2 ⟨rfl,zs,⟨hat2,hb2⟩,hd,hv,hl⟩
   have HZ:=Lib.hid (add_limbs OA.out OB.out hd hv hl)
   have hzl:zs.length ≤ 101:=by
    rcases hl with hl | ⟨hl,_⟩
    ·rw [hl];unfold lenM;split <;> omega
    ·rw [hl];unfold lenM;split <;> omega
   clear hv hl hd
   go_wp2_with fail
   refine (natResult_any w.heap.size p zs _ (by omega) hat2).mono ?_
   rintro e w3 hpost
   obtain ⟨rfl,v3,rfl,ho⟩:=hpost
   go_wp2
   go_ret
   exact ⟨_,rfl,by rw [HN.out];unfold natRes;rw [← HZ.out];exact ho,hb1.trans hb2⟩
  ·have ob':natOkB b = false:=by simpa using ob
   have HN:=Lib.hid (show addN a b = [] by unfold addN;rw [if_neg (fun h=>ob h.2)])
   clear ob
   go_enter Tryz.func172,Tryz.ntmps172
   go_wp2_with fail
   refine (implNatOk_same va a la ha _ (by omega) hra).mono ?_
   rintro e w' ⟨rfl,rfl⟩
   rw [oa]
   go_wp2_with fail
   refine (implNatOk_same vb b lb hb _ (by omega) hrb).mono ?_
   rintro e w' ⟨rfl,rfl⟩
   rw [ob']
   go_wp2
   go_ret
   rw [HN.out]
   exact new_nil (Below.refl _ _)
 ·have oa':natOkB a = false:=by simpa using oa
  have HN:=Lib.hid (show addN a b = [] by unfold addN;rw [if_neg (fun h=>oa h.1)])
  clear oa
  go_enter Tryz.func172,Tryz.ntmps172
  go_wp2_with fail
  refine (implNatOk_same va a la ha _ (by omega) hra).mono ?_
  rintro e w' ⟨rfl,rfl⟩
  rw [oa']
  go_wp2
  go_ret
  rw [HN.out]
  exact new_nil (Below.refl _ _)
theorem lens_of_le {a b:List Int} (oa:natOkB a = true) (ob:natOkB b = true) (h:nval b ≤ nval a):b.length ≤ a.length:=by
 rcases Nat.lt_or_ge a.length b.length with hl | hl
 ·have:=nval_short a b (natOk_parts oa).1 (natOk_parts ob).1 hl (natOk_parts ob).2.2
  omega
 ·exact hl
def MulR (a b:List Int) (i:Nat) (cur:List Int):Prop :=
 DigN cur∧nval cur = nval (a.take i) * nval b∧cur.length ≤ i+b.length∧(cur.length ≤ i+b.length - 1 ∨ bp (cur.length - 1) ≤ nval cur)∧(i = 0→cur = [])∧(b.length = 0→cur = [])
theorem MulR.start (a b:List Int):MulR a b 0 []:=by
 refine ⟨(fun d hd=>by cases hd),?_,by simp,.inl (by simp),fun _=>rfl,fun _=>rfl⟩
 rw [List.take_zero]
 show (0:Int) = 0 * nval b
 rw [Int.zero_mul]
theorem MulR.next {a b cur zs:List Int} {i:Nat} (h:MulR a b i cur) (hi:i < a.length) (hd:DigN zs) (hv:nval zs = nval cur+a[i] * bp i * nval b)
 (hl:zs.length = lenM cur.length b.length i ∨ (zs.length = lenM cur.length b.length i+1∧bp (lenM cur.length b.length i) ≤ nval zs)):MulR a b (i+1) zs:=by
 obtain ⟨h1,h2,h3,h4,h5,h6⟩:=h
 have hval:nval zs = nval (a.take (i+1)) * nval b:=by
  rw [hv,h2,take_val_succ a i hi,Int.add_mul,Int.mul_comm a[i]]
 unfold lenM at hl
 by_cases hb:b.length = 0
 ·have hb0:b = []:=List.eq_nil_of_length_eq_zero hb
  have hc0:=h6 hb
  subst hb0
  subst hc0
  rw [if_pos hb] at hl
  have hz:nval zs = 0:=by rw [hval];exact Int.mul_zero _
  have hzs:zs = []:=by
   rcases hl with hl | ⟨_,hg⟩
   ·exact List.eq_nil_of_length_eq_zero hl
   ·have:=bp_pos (([]:List Int).length)
    omega
  subst hzs
  exact ⟨hd,hval,by simp,.inl (by simp),fun _=>rfl,fun _=>rfl⟩
 ·rw [if_neg hb,show max cur.length (i+b.length) = i+b.length by omega] at hl
  refine ⟨hd,hval,by omega,?_,fun h=>absurd h (by omega),fun h=>absurd h hb⟩
  rcases hl with hl | ⟨hl,hg⟩
  ·exact .inl (by omega)
  ·right
   rw [hl,show i+b.length+1 - 1 = i+b.length by omega]
   exact hg
theorem MulR.done {a b cur:List Int} (h:MulR a b a.length cur) (oa:natOkB a = true) (ob:natOkB b = true):cur = limbs (nval a * nval b).toNat:=by
 obtain ⟨h1,h2,h3,h4,h5,h6⟩:=h
 rw [List.take_of_length_le (Nat.le_refl _)] at h2
 rw [← h2]
 apply limbs_of_ge cur h1
 intro h0
 rcases h4 with h4 | h4
 ·have ha:0 < a.length:=by
   rcases Nat.eq_zero_or_pos a.length with e | e
   ·rw [h5 e] at h0;simp at h0
   ·exact e
  have hb:0 < b.length:=by
   rcases Nat.eq_zero_or_pos b.length with e | e
   ·rw [h6 e] at h0;simp at h0
   ·exact e
  have ga:=ok_ge oa ha
  have gb:=ok_ge ob hb
  have pa:=bp_pos (a.length - 1)
  have pb:=bp_pos (b.length - 1)
  have hm:=Int.mul_le_mul ga gb (by omega) (by omega)
  rw [← bp_add,← h2] at hm
  have:=bp_mono (show cur.length - 1 ≤ a.length - 1+(b.length - 1) by omega)
  omega
 ·exact h4
set_option maxHeartbeats 1000000 in
theorem implNatMul_any (va vb:Value) (a b:List Int) (la ha lb hb:Nat) (w:World) (hal:a.length ≤ 1048576) (hbl:b.length ≤ 1048576) (hha:ha ≤ w.heap.size) (hhb:hb ≤ w.heap.size)
 (hra:Row w la ha va (intsV a)) (hrb:Row w lb hb vb (intsV b)) :
 Calls Tryz.prog 170 #[va,vb] w (NewInts (mulN a b) w):=by
 by_cases oa:natOkB a = true
 ·by_cases ob:natOkB b = true
  ·have HN:=Lib.hid (mulN_ok oa ob)
   have OA:=Lib.hid oa
   have OB:=Lib.hid ob
   have pa:=(natOk_parts oa).2.1
   have pb:=(natOk_parts ob).2.1
   have ra:=hra
   obtain ⟨A,ca,rfl,hA⟩:=hra
   rw [intsV_length] at ra ⊢
   have HA:=Lib.hid hA
   clear hA
   go_enter Tryz.func170,Tryz.ntmps170
   go_wp2_with fail
   refine (implNatOk_same _ a la ha _ (by omega) ra).mono ?_
   rintro e w' ⟨rfl,rfl⟩
   rw [oa]
   go_wp2_with fail
   refine (implNatOk_same vb b lb hb _ (by omega) hrb).mono ?_
   rintro e w' ⟨rfl,rfl⟩
   rw [ob]
   clear oa ob
   go_wp2
   go_loopw [18] (fun i wr=>∃ (k:Nat) (cur:List Int),k ≤ a.length∧i = .int .i64 k∧Hid (MulR a b k cur)∧NatAt w.heap.size w.heap.size cur wr∧Below w.heap.size w wr) (fun i _=>a.length - (intOf i).toNat)
   case atStart=>exact ⟨0,[],Nat.zero_le _,rfl,Lib.hid (MulR.start a b),NatAt.new (Nat.le_refl _) (World.ownsRow_nil _ _ _ _),(Below.refl _ _).alloc (Nat.le_refl _) _⟩
   case round =>
    obtain ⟨k,cur,hk,rfl,HM,hat,hb1⟩:=hrel
    have hcl:cur.length ≤ 100:=by have:=HM.out.2.2.1;omega
    by_cases hlt:k < a.length
    ·obtain ⟨p,rfl,_,hpb,hca⟩:=HA.out k _ (intsV_at a k hlt)
     have hca':wr.cell? (p.add k) = some (.int .i64 a[k]):=(hb1.cell (by rw [block_add];omega)).trans hca
     have hda:=(natOk_parts OA.out).1.at_ k hlt
     have hd0:=hda.1
     have hd1:=hda.2
     clear hca hda
     go_wp2_with fail
     refine (addTimes_any w.heap.size w.heap.size cur vb b lb hb a[k] k _ (by omega) (by omega) (by omega) hd0 hd1 HM.out.1 (natOk_parts OB.out).1 hhb (hrb.below hb1 hhb) hat).mono ?_
     rintro e w2 ⟨rfl,zs,⟨hat2,hb2⟩,hd,hv,hl⟩
     have HM2:=Lib.hid (HM.out.next hlt hd hv hl)
     clear hd hv hl hd0 hd1
     go_wp2
     go_roundw
     case rel=>exact ⟨k+1,zs,by omega,by go_num,HM2,hat2,hb1.trans hb2⟩
     case measure=>simp [intOf];omega
    ·obtain rfl:k = a.length:=by omega
     have HZ:=Lib.hid (HM.out.done OA.out OB.out)
     go_wp2_with fail
     refine (natResult_any w.heap.size w.heap.size cur _ (by omega) hat).mono ?_
     rintro e w3 hpost
     obtain ⟨rfl,v3,rfl,ho⟩:=hpost
     go_wp2
     go_ret
     exact ⟨_,rfl,by rw [HN.out];unfold natRes;rw [← HZ.out];exact ho,hb1⟩
  ·have ob':natOkB b = false:=by simpa using ob
   have HN:=Lib.hid (show mulN a b = [] by unfold mulN;rw [if_neg (fun h=>ob h.2)])
   clear ob
   go_enter Tryz.func170,Tryz.ntmps170
   go_wp2_with fail
   refine (implNatOk_same va a la ha _ (by omega) hra).mono ?_
   rintro e w' ⟨rfl,rfl⟩
   rw [oa]
   go_wp2_with fail
   refine (implNatOk_same vb b lb hb _ (by omega) hrb).mono ?_
   rintro e w' ⟨rfl,rfl⟩
   rw [ob']
   go_wp2
   go_ret
   rw [HN.out]
   exact new_nil (Below.refl _ _)
 ·have oa':natOkB a = false:=by simpa using oa
  have HN:=Lib.hid (show mulN a b = [] by unfold mulN;rw [if_neg (fun h=>oa h.1)])
  clear oa
  go_enter Tryz.func170,Tryz.ntmps170
  go_wp2_with fail
  refine (implNatOk_same va a la ha _ (by omega) hra).mono ?_
  rintro e w' ⟨rfl,rfl⟩
  rw [oa']
  go_wp2
  go_ret
  rw [HN.out]
  exact new_nil (Below.refl _ _)
set_option maxHeartbeats 400000 in
theorem limbAt_any (v:Value) (xs:List Int) (p:Int) (lo hi:Nat) (w:World) (_hl:xs.length ≤ 1048576) (hr:Row w lo hi v (intsV xs)) :
 Calls Tryz.prog 173 #[v,.int .i64 p] w fun e w'=>e = .returned (.int .i64 (if p < 0 then 0 else xs.getD p.toNat 0))∧w = w':=by
 obtain ⟨A,c,rfl,hA⟩:=hr
 rw [intsV_length]
 by_cases h0:p < 0
 ·rw [if_pos h0]
  go_enter Tryz.func173,Tryz.ntmps173
  go_wp2
  go_ret
  exact ⟨rfl,rfl⟩
 ·rw [if_neg h0]
  obtain ⟨n,rfl⟩:=Int.eq_ofNat_of_zero_le (show 0 ≤ p by omega)
  rw [Int.toNat_natCast]
  by_cases h1:n < xs.length
  ·obtain ⟨a,rfl,_,_,hca⟩:=hA n _ (intsV_at xs n h1)
   rw [List.getD_eq_getElem?_getD,List.getElem?_eq_getElem h1,Option.getD_some]
   clear h0
   generalize xs[n] = x at *
   go_enter Tryz.func173,Tryz.ntmps173
   go_wp2
   go_ret
   exact ⟨rfl,rfl⟩
  ·rw [List.getD_eq_getElem?_getD,List.getElem?_eq_none (by omega)]
   clear h0
   go_enter Tryz.func173,Tryz.ntmps173
   go_wp2
   go_ret
   exact ⟨rfl,rfl⟩
theorem dec_small (u:Nat) (h:u < 10):Lib.decDigits u = [UInt8.ofNat (48+u)]:=by rw [Lib.decDigits,dif_pos h]
theorem dec_big (u:Nat) (h:¬ u < 10):Lib.decDigits u = Lib.decDigits (u / 10) ++ [UInt8.ofNat (48+u % 10)]:=by rw [Lib.decDigits,dif_neg h]
def inTwo (lo hi low high:Nat) (c:UInt8):Bool:=decide ((lo ≤ c.toNat∧c.toNat ≤ hi) ∨ (low ≤ c.toNat∧c.toNat ≤ high))
def allFrom (s:ByteArray) (lo hi low high k:Nat):Bool:=(s.data.toList.drop k).all (inTwo lo hi low high)
def digitsB (s:ByteArray):Bool:=allFrom s 48 57 48 57 0 && decide (0 < s.size)
def valL:List UInt8→Int:=List.foldl (fun a c=>a * 10+((c.toNat:Int) - 48)) 0
def decOk (s:ByteArray):Bool:=digitsB s && decide (s.size ≤ 450) && !(decide (1 < s.size) && decide (s.data.toList.headD 0 = 48))
def TNPost (s:ByteArray) (w:World) (e:Ending) (w':World):Prop :=
 Below w.heap.size w w'∧((decOk s = true∧∃ v,e = .returned (.tuple #[v,.bool true])∧w'.ownsRow w.heap.size 3 1 v (limbs (valL s.data.toList).toNat).length (intsV (limbs (valL s.data.toList).toNat))) ∨
  (decOk s = false∧e = .returned (.tuple #[.slice none 0 0,.bool false])))
def tnR (s:ByteArray):List Int:=if decOk s = true then limbs (valL s.data.toList).toNat else []
def TNNew (s:ByteArray) (w:World) (e:Ending) (w':World):Prop :=
 ∃ v,e = .returned (.tuple #[v,.bool (decOk s)])∧w'.ownsRow w.heap.size 3 1 v (tnR s).length (intsV (tnR s))∧Below w.heap.size w w'
theorem TNPost.new {s:ByteArray} {w w':World} {e:Ending} (h:TNPost s w e w'):TNNew s w e w':=by
 obtain ⟨hb,⟨ho,v,rfl,hv⟩ | ⟨ho,rfl⟩⟩:=h
 ·refine ⟨v,by rw [ho],?_,hb⟩
  rw [show tnR s = limbs (valL s.data.toList).toNat by unfold tnR;rw [if_pos ho]]
  exact hv
 ·refine ⟨_,by rw [ho],?_,hb⟩
  rw [show tnR s = [] by unfold tnR;rw [ho];rfl]
  exact nil_own
def zerosL (l:List UInt8):Nat:=(l.reverse.takeWhile (fun c=>c == 48)).length
set_option maxHeartbeats 400000 in
theorem implNatEven_any (v:Value) (a:List Int) (lo hi:Nat) (w:World) (hl:a.length ≤ 1048576) (hr:Row w lo hi v (intsV a)) :
 Calls Tryz.prog 149 #[v] w fun e w'=>e = .returned (.bool (evenB a))∧w = w':=by
 by_cases oa:natOkB a = true
 ·have hd:=(natOk_parts oa).1
  have hg:a.getD 0 0 = a.headD 0:=by cases a <;> rfl
  have hx:0 ≤ a.headD 0∧a.headD 0 ≤ 999999999:=by
   cases a with
   | nil=>exact ⟨Int.le_refl _,by decide⟩
   | cons x r=>exact hd.head
  have HV:=Lib.hid (show evenB a = (a.headD 0 % 2 == 0) by unfold evenB;rw [oa,Bool.true_and,Bool.eq_iff_iff,decide_eq_true_eq,beq_iff_eq])
  have hx0:=hx.1
  have hx1:=hx.2
  clear hd hx
  go_enter Tryz.func149,Tryz.ntmps149
  go_wp2_with fail
  refine (implNatOk_same v a lo hi _ (by omega) hr).mono ?_
  rintro e w' ⟨rfl,rfl⟩
  rw [oa]
  go_wp2_with fail
  refine (limbAt_any v a 0 lo hi _ hl hr).mono ?_
  rintro e w' ⟨rfl,rfl⟩
  rw [if_neg (by decide),show (0:Int).toNat = 0 from rfl,hg]
  generalize a.headD 0 = x at *
  go_wp2
  go_ret
  exact ⟨ret_bool HV.out.symm,rfl⟩
 ·have oa':natOkB a = false:=by simpa using oa
  have HV:=Lib.hid (show evenB a = false by unfold evenB;rw [oa',Bool.false_and])
  clear oa
  go_enter Tryz.func149,Tryz.ntmps149
  go_wp2_with fail
  refine (implNatOk_same v a lo hi _ (by omega) hr).mono ?_
  rintro e w' ⟨rfl,rfl⟩
  rw [oa']
  go_wp2
  go_ret
  exact ⟨ret_bool HV.out.symm,rfl⟩
set_option maxHeartbeats 1000000 in
theorem implNatTen_any (k:Int) (w:World):Calls Tryz.prog 195 #[.int .i64 k] w (NewInts (tenN k) w):=by
 obtain ⟨i0,hi0,hz0,hz1,hz2⟩:=info_parts intInfo
 by_cases h0:k < 0
 ·have HV:Hid (tenN k = []):=Lib.hid (by unfold tenN;rw [if_neg (by omega)])
  go_enter Tryz.func195,Tryz.ntmps195
  go_wp2
  go_ret
  rw [HV.out]
  exact new_nil (Below.refl _ _)
 ·by_cases h1:450 ≤ k
  ·have HV:Hid (tenN k = []):=Lib.hid (by unfold tenN;rw [if_neg (by omega)])
   go_enter Tryz.func195,Tryz.ntmps195
   go_wp2
   go_ret
   rw [HV.out]
   exact new_nil (Below.refl _ _)
  ·obtain ⟨n,rfl⟩:=Int.eq_ofNat_of_zero_le (show 0 ≤ k by omega)
   have hn:n ≤ 449:=by omega
   have HV:Hid (tenN n = List.replicate (n / 9) 0 ++ [(10:Int) ^ (n % 9)]):=Lib.hid (by unfold tenN;rw [if_pos (by omega),Int.toNat_natCast,ten_limbs])
   have hmk:=make_ints (n / 9) (by omega)
   rw [show ((n / 9:Nat):Int) = (n:Int) / 9 by omega] at hmk
   clear h0 h1
   go_enter Tryz.func195,Tryz.ntmps195
   go_wp2
   go_loop [3,12] (fun f i=>∃ (j:Nat) (p:Int),j ≤ n % 9∧i = .int .i64 j∧f = .int .i64 p∧0 < p∧p ≤ 100000000∧Hid (p = 10 ^ j)) (fun _ i=>n % 9 - (intOf i).toNat)
   case atStart=>exact ⟨0,1,Nat.zero_le _,rfl,rfl,by omega,by omega,Lib.hid rfl⟩
   case round =>
    obtain ⟨j,p,hj,rfl,rfl,hp0,hp1,HP⟩:=hrel
    by_cases hlt:(j:Int) < (n:Int) % 9
    ·have HN:Hid (p * 10 = 10 ^ (j+1)∧p * 10 ≤ 100000000):=Lib.hid (by
      have h1:p * 10 = (10:Int) ^ (j+1):=by rw [HP.out,Int.pow_succ]
      exact ⟨h1,by rw [h1];exact ten_eight (j+1) (by omega)⟩)
     go_wp2
     go_round
     case rel=>exact ⟨j+1,p * 10,by omega,by go_num,rfl,by omega,HN.out.2,Lib.hid HN.out.1⟩
     case measure=>simp [intOf];omega
    ·have HJ:=Lib.hid (show j = n % 9 by omega)
     have hown:(w.alloc (.cells (madeCells #[.int .i64 0] (n / 9)) 3)).ownsRow w.heap.size 3 1 (.slice (some ⟨w.heap.size,0,none⟩) (n / 9) (n / 9)) (n / 9) (intsV (List.replicate (n / 9) 0)):=by
      have h:=World.ownsRow_lit (e:=3) (size:=1) (base:=w.heap.size) w (madeCells #[.int .i64 0] (n / 9)) (n / 9) (Nat.le_refl _) (by unfold maxLen;omega) (by rw [size_madeCells,Nat.mul_one])
      rw [toList_madeCells_one] at h
      simpa [intsV] using h
     go_wp2_with (at_builtin;refine wpList_append_own _ rfl _ _ 25 rfl w.heap.size 3 i0 (.int .i64 0) 1 8 Tryz.underlying25 hi0 hz0 hz1 hz2 rfl (by decide) _ _ _ rfl (own_alloc hown _) ⟨w.heap.size+1,0,none⟩ 1 1 [.int .i64 p] rfl rfl ?c1 ?c2 ?c3 ?c4 ?c5 ?_)
     case c2=>first | (intro u hu;simp at hu;subst hu;rfl) | rfl
     case c3=>unfold maxLen;omega
     case c4=>omega
     case c5=>first | omega | (simp;omega)
     intro v1 w1 hown1 hg1 _
     have hb2:Below w.heap.size w w1:=(((Below.refl _ w).alloc (Nat.le_refl _) _).alloc (by simp) _).grown hg1 (by simp;omega) (fun k hk=>by cases hk;exact Nat.le_refl _)
     go_wp2
     go_ret
     refine ⟨_,rfl,?_,hb2⟩
     rw [HV.out,← HJ.out,← HP.out]
     simpa [intsV] using hown1
def zN (n:Nat):Nat:=zerosL (Lib.decDigits n)
theorem zerosL_snoc (l:List UInt8) (c:UInt8):zerosL (l ++ [c]) = if c = 48 then zerosL l+1 else 0:=by
 unfold zerosL
 rw [List.reverse_append,List.reverse_singleton,List.singleton_append]
 by_cases h:c = 48
 ·rw [List.takeWhile_cons_of_pos (by simpa using h),if_pos h];rfl
 ·rw [List.takeWhile_cons_of_neg (by simpa using h),if_neg h];rfl
theorem chr_eq {k:Nat} (h:k < 10):(UInt8.ofNat (48+k) = 48) ↔ k = 0:=by
 constructor
 ·intro e
  have e2:=congrArg UInt8.toNat e
  rw [UInt8.toNat_ofNat'] at e2
  have:(48:UInt8).toNat = 48:=rfl
  omega
 ·rintro rfl;rfl
theorem zN_end (n:Nat) (h:n % 10 ≠ 0):zN n = 0:=by
 unfold zN
 by_cases hs:n < 10
 ·rw [dec_small n hs]
  have:=zerosL_snoc [] (UInt8.ofNat (48+n))
  rw [List.nil_append] at this
  rw [this,if_neg (by rw [chr_eq hs];omega)]
 ·rw [dec_big n hs,zerosL_snoc,if_neg (by rw [chr_eq (by omega)];exact h)]
theorem zN_ten (n:Nat) (h:0 < n):zN (10 * n) = zN n+1:=by
 unfold zN
 rw [dec_big (10 * n) (by omega),zerosL_snoc,show 10 * n / 10 = n by omega,show 10 * n % 10 = 0 by omega,if_pos (show UInt8.ofNat (48+0) = 48 from rfl)]
theorem zN_pow (k n:Nat) (h:0 < n):zN (10 ^ k * n) = zN n+k:=by
 induction k with
 | zero=>simp
 | succ k ih =>
   have hp:0 < 10 ^ k * n:=Nat.mul_pos (Nat.pow_pos (by omega)) h
   rw [Nat.pow_succ,Nat.mul_comm (10 ^ k) 10,Nat.mul_assoc,zN_ten _ hp,ih]
   omega
def ZerosR (a:List Int) (k:Nat):Prop:=0 < nval (a.drop k)∧zN (nval a).toNat = 9 * k+zN (nval (a.drop k)).toNat
theorem ZerosR.start {a:List Int} (h:natOkB a = true) (h0:0 < a.length):ZerosR a 0:=by
 have h1:=ok_ge h h0
 have h2:=bp_pos (a.length - 1)
 rw [ZerosR,List.drop_zero]
 exact ⟨by omega,by simp⟩
theorem ZerosR.lt {a:List Int} {k:Nat} (h:ZerosR a k):k < a.length:=by
 rcases Nat.lt_or_ge k a.length with hk | hk
 ·exact hk
 ·have:=h.1
  rw [List.drop_of_length_le hk] at this
  exact absurd this (by decide)
theorem ZerosR.next {a:List Int} {k:Nat} (h:ZerosR a k) (hk:k < a.length) (hz:a[k] = 0):ZerosR a (k+1):=by
 obtain ⟨h1,h2⟩:=h
 rw [nval_drop a k hk,hz] at h1 h2
 refine ⟨by omega,?_⟩
 rw [h2]
 have e:(0+1000000000 * nval (a.drop (k+1))).toNat = 10 ^ 9 * (nval (a.drop (k+1))).toNat:=by omega
 rw [e,zN_pow 9 _ (by omega)]
 omega
def ZeroD (Z:Nat) (z:Int) (m:Int) (f:Nat) (R:Nat):Prop:=m < 10 ^ (f+1)∧(Z:Int) = z+zN (m.toNat+10 ^ (f+1) * R)
theorem ZeroD.next {Z:Nat} {z m:Int} {f R:Nat} (h:ZeroD Z z m f R) (hm:0 < m) (h0:m % 10 = 0):∃ g,f = g+1∧0 < m / 10∧ZeroD Z (z+1) (m / 10) g R:=by
 obtain ⟨h1,h2⟩:=h
 cases f with
 | zero=>exfalso;omega
 | succ g =>
   refine ⟨g,rfl,by omega,?_,?_⟩
   ·rw [Int.pow_succ] at h1;omega
   ·rw [h2]
    have e:m.toNat+10 ^ (g+1+1) * R = 10 * ((m / 10).toNat+10 ^ (g+1) * R):=by
     rw [Nat.mul_add,← Nat.mul_assoc,Nat.pow_succ 10 (g+1),Nat.mul_comm (10 ^ (g+1)) 10]
     omega
    rw [e,zN_ten _ (by omega)]
    omega
theorem ZeroD.done {Z:Nat} {z m:Int} {f R:Nat} (h:ZeroD Z z m f R) (hm:0 < m) (h0:m % 10 ≠ 0):(Z:Int) = z:=by
 obtain ⟨h1,h2⟩:=h
 rw [h2,zN_end]
 ·simp
 ·rw [Nat.pow_succ,Nat.mul_comm (10 ^ f) 10,Nat.mul_assoc]
  omega
theorem addN_small {X Y:Nat} (h:((X+Y:Nat):Int) < bp 50):addN (limbs X) (limbs Y) = limbs (X+Y):=by
 have hx:(limbs X).length ≤ 50:=limbs_length_le _ 50 (by omega)
 have hy:(limbs Y).length ≤ 50:=limbs_length_le _ 50 (by omega)
 have hs:(limbs (X+Y)).length ≤ 50:=limbs_length_le _ 50 h
 unfold addN
 rw [if_pos ⟨limbs_okL _ hx,limbs_okL _ hy⟩,limbs_val,limbs_val]
 unfold natRes
 rw [show ((X:Int)+(Y:Int)).toNat = X+Y by omega]
 unfold capL
 rw [if_neg (by omega)]
theorem addN_len50 (a b:List Int):(addN a b).length ≤ 50:=by
 unfold addN
 split
 ·unfold natRes capL
  split
  ·simp
  ·omega
 ·simp
def quoL (neg:Bool) (A D:Nat) (m:Int):List Int:=if A % D ≠ 0∧awayB neg (A / D) (A % D) D m = true then addN (limbs (A / D)) (limbs 1) else limbs (A / D)
theorem quoL_is {neg:Bool} {A D:Nat} {m:Int} (h:((A / D:Nat):Int)+1 < bp 50):quoL neg A D m = limbs (roundN neg A D m):=by
 unfold quoL roundN
 split
 ·exact addN_small (by omega)
 ·rw [Nat.add_zero]
theorem quoL_plain {neg:Bool} {A D Q R:Nat} {m:Int} (hq:A / D = Q) (hr:A % D = R) (h:R = 0 ∨ awayB neg Q R D m = false):quoL neg A D m = limbs Q:=by
 unfold quoL
 rw [hq,hr,if_neg (fun e=>by rcases h with h | h;exact e.1 h;rw [h] at e;exact absurd e.2 (by decide))]
theorem quoL_more {neg:Bool} {A D Q R:Nat} {m:Int} (hq:A / D = Q) (hr:A % D = R) (h:R ≠ 0) (ha:awayB neg Q R D m = true):quoL neg A D m = addN (limbs Q) (limbs 1):=by
 unfold quoL
 rw [hq,hr,if_pos ⟨h,ha⟩]
theorem mkS_quo {neg:Bool} {xs:List Int} {sg:Bool} (h:xs.length ≤ 50) (hs:(neg && decide (0 < xs.length)) = sg):mkS neg xs = (sg,xs):=by
 unfold mkS capL
 rw [if_neg (by omega),hs]
theorem postQb_isD {q:QI × Bool} {X:QI} {b:Bool} (e:q = (X,b)) {w w':World} {n:Ending} (h:PostQb q.1 q.2 w n w'):PostQb X b w n w':=by rw [e] at h;exact h
theorem newQ_zeroD {w W:World} (hW:Below w.heap.size w W):NewV (fun v=>OwnQ v zeroQ) w (.returned (.agg #[.bool false,.slice none 0 0,.slice none 0 0])) W :=
 ⟨_,[],rfl,⟨ownQ_zero _,fun _ hg=>absurd hg List.not_mem_nil,fun w' _=>ownQ_zero w'⟩,fun _ hg=>absurd hg List.not_mem_nil,hW⟩
theorem szS_ten (k:Int):szS (tenS k) ≤ 1048576:=by have:=tenN_len k;show ((tenN k).length:Int) ≤ _;omega
set_option maxHeartbeats 2000000 in
theorem specRatAdd_any (vr:Value) (vs:Value) (r s:QI) (w:World) (hzr:szQ r ≤ 1048576) (hzs:szQ s ≤ 1048576) (hr:OwnQ vr r w) (hs:OwnQ vs s w) :
 Calls Tryz.prog 94 #[vr,vs] w (PostQb (addQ r s).1 (addQ r s).2 w):=by
 have Hr:=Lib.hid hr
 obtain ⟨Ar,cr,Br,dr,rfl⟩:=ownQ_form hr
 have OQr:=Lib.hid (show ∀ W,Below w.heap.size w W→OwnQ (.agg #[.bool r.1.1,.slice Ar r.1.2.length cr,.slice Br r.2.length dr]) r W from fun W hb=>OwnQ.below Hr.out hb)
 have OUr:=Lib.hid (show ∀ W,Below w.heap.size w W→OwnI (.slice Ar r.1.2.length cr) r.1.2 W from fun W hb=>(ownQ_open (OQr.out W hb)).2.1)
 have ODr:=Lib.hid (show ∀ W,Below w.heap.size w W→OwnI (.slice Br r.2.length dr) r.2 W from fun W hb=>(ownQ_open (OQr.out W hb)).2.2.1)
 have OSr:=Lib.hid (show ∀ W,Below w.heap.size w W→OwnS (.agg #[.bool r.1.1,.slice Ar r.1.2.length cr]) r.1 W from fun W hb=>OwnS.mk (OUr.out W hb))
 clear hr
 have Hs:=Lib.hid hs
 obtain ⟨As,cs,Bs,ds,rfl⟩:=ownQ_form hs
 have OQs:=Lib.hid (show ∀ W,Below w.heap.size w W→OwnQ (.agg #[.bool s.1.1,.slice As s.1.2.length cs,.slice Bs s.2.length ds]) s W from fun W hb=>OwnQ.below Hs.out hb)
 have OUs:=Lib.hid (show ∀ W,Below w.heap.size w W→OwnI (.slice As s.1.2.length cs) s.1.2 W from fun W hb=>(ownQ_open (OQs.out W hb)).2.1)
 have ODs:=Lib.hid (show ∀ W,Below w.heap.size w W→OwnI (.slice Bs s.2.length ds) s.2 W from fun W hb=>(ownQ_open (OQs.out W hb)).2.2.1)
 have OSs:=Lib.hid (show ∀ W,Below w.heap.size w W→OwnS (.agg #[.bool s.1.1,.slice As s.1.2.length cs]) s.1 W from fun W hb=>OwnS.mk (OUs.out W hb))
 clear hs
 have hlr:=szQ_len hzr
 have hl1r:=hlr.1
 have hl2r:=hlr.2
 clear hlr
 have hls:=szQ_len hzs
 have hl1s:=hls.1
 have hl2s:=hls.2
 clear hls
 have bb0:Below w.heap.size w (((w.alloc (.cells #[.bool r.1.1,.slice Ar r.1.2.length cr,.slice Br r.2.length dr] 36)).alloc (.cells #[.bool s.1.1,.slice As s.1.2.length cs,.slice Bs s.2.length ds] 36)).alloc (.cells #[.bool false,.slice none 0 0,.slice none 0 0] 36)):=below_al (below_al (below_al (Below.refl _ _) _) _) _
 have kr:=(box_new w #[.bool r.1.1,.slice Ar r.1.2.length cr,.slice Br r.2.length dr] 36).below (below_al (below_al (Below.refl _ _) (.cells #[.bool s.1.1,.slice As s.1.2.length cs,.slice Bs s.2.length ds] 36)) (.cells #[.bool false,.slice none 0 0,.slice none 0 0] 36))
 have ks:=(box_new (w.alloc (.cells #[.bool r.1.1,.slice Ar r.1.2.length cr,.slice Br r.2.length dr] 36)) #[.bool s.1.1,.slice As s.1.2.length cs,.slice Bs s.2.length ds] 36).below (below_al (Below.refl _ _) (.cells #[.bool false,.slice none 0 0,.slice none 0 0] 36))
 rw [show (w.alloc (.cells #[.bool r.1.1,.slice Ar r.1.2.length cr,.slice Br r.2.length dr] 36)).heap.size = w.heap.size+1 by simp] at ks
 have ko:=(box_new ((w.alloc (.cells #[.bool r.1.1,.slice Ar r.1.2.length cr,.slice Br r.2.length dr] 36)).alloc (.cells #[.bool s.1.1,.slice As s.1.2.length cs,.slice Bs s.2.length ds] 36)) #[.bool false,.slice none 0 0,.slice none 0 0] 36)
 rw [show ((w.alloc (.cells #[.bool r.1.1,.slice Ar r.1.2.length cr,.slice Br r.2.length dr] 36)).alloc (.cells #[.bool s.1.1,.slice As s.1.2.length cs,.slice Bs s.2.length ds] 36)).heap.size = w.heap.size+1+1 by simp] at ko
 go_enter Tryz.func94,Tryz.ntmps94
 have kr_c0:=kr.here.cell 0 _ rfl
 have kr_c1:=kr.here.cell 1 _ rfl
 have kr_c2:=kr.here.cell 2 _ rfl
 go_wp2_with fail
 clear kr_c0 kr_c1 kr_c2
 refine (specRatOk_any _ r _ hzr (OQr.out _ bb0)).mono ?_
 rintro e w1 ⟨rfl,b1⟩
 have bb1:=Below.next bb0 b1
 replace kr:=kr.below b1
 replace ks:=ks.below b1
 replace ko:=ko.below b1
 by_cases okr:okQ r = true
 ·rw [okr]
  have HOr:=Lib.hid okr
  clear okr
  have ks_c0:=ks.here.cell 0 _ rfl
  have ks_c1:=ks.here.cell 1 _ rfl
  have ks_c2:=ks.here.cell 2 _ rfl
  go_wp2_with fail
  clear ks_c0 ks_c1 ks_c2
  refine (specRatOk_any _ s _ hzs (OQs.out _ bb1)).mono ?_
  rintro e w2 ⟨rfl,b2⟩
  have bb2:=Below.next bb1 b2
  replace kr:=kr.below b2
  replace ks:=ks.below b2
  replace ko:=ko.below b2
  by_cases oks:okQ s = true
  ·rw [oks]
   have HOs:=Lib.hid oks
   clear oks
   have Pr:=parts_of HOr.out
   have Ps:=parts_of HOs.out
   have HPr:=Lib.hid Pr
   have HPs:=Lib.hid Ps
   have hnr:=Pr.n50
   have hns:=Ps.n50
   have hdr:=Pr.d50
   have hds:=Ps.d50
   clear Pr Ps
   obtain ⟨X1,hEX1⟩:∃ X1,(nval (r.1.2) * nval (s.2)).toNat = X1:=⟨_,rfl⟩
   have EX1:=Lib.hid hEX1
   have PX1:=Lib.hid (show X1 = topN r * denQ s by rw [← hEX1,mul_toNat (okS_parts HPr.out.okn).1 HPs.out.okd];rfl)
   have LX1:=Lib.hid (show (limbs X1).length ≤ 36 by rw [PX1.out];exact prod_len HPr.out.nlt HPs.out.dlt)
   clear hEX1
   obtain ⟨X2,hEX2⟩:∃ X2,(nval (s.1.2) * nval (r.2)).toNat = X2:=⟨_,rfl⟩
   have EX2:=Lib.hid hEX2
   have PX2:=Lib.hid (show X2 = topN s * denQ r by rw [← hEX2,mul_toNat (okS_parts HPs.out.okn).1 HPr.out.okd];rfl)
   have LX2:=Lib.hid (show (limbs X2).length ≤ 36 by rw [PX2.out];exact prod_len HPs.out.nlt HPr.out.dlt)
   clear hEX2
   obtain ⟨X3,hEX3⟩:∃ X3,(nval (r.2) * nval (s.2)).toNat = X3:=⟨_,rfl⟩
   have EX3:=Lib.hid hEX3
   have PX3:=Lib.hid (show X3 = denQ r * denQ s by rw [← hEX3,mul_toNat HPr.out.okd HPs.out.okd];rfl)
   have LX3:=Lib.hid (show (limbs X3).length ≤ 36 by rw [PX3.out];exact prod_len HPr.out.dlt HPs.out.dlt)
   clear hEX3
   obtain ⟨P1,hEP1⟩:∃ P1,mkS r.1.1 (limbs X1) = P1:=⟨_,rfl⟩
   have EP1:=Lib.hid hEP1
   have VP1:=Lib.hid (show okS P1 = true∧valS P1 = numQ r * denQ s∧P1.2.length ≤ 50∧-(bp 36) < valS P1∧valS P1 < bp 36 by
    rw [← hEP1,PX1.out]
    have h1:=cross_ofZ (n:=r.1.1) (X:=topN r) (Y:=denQ s)
    have h2:=cross_val (n:=r.1.1) HPr.out.nlt HPs.out.dlt
    have h3:=cross_lt (n:=r.1.1) HPr.out.nlt HPs.out.dlt
    have h4:valS (mkS r.1.1 (limbs (topN r * denQ s))) = numQ r * denQ s:=by rw [h2,HPr.out.top]
    exact ⟨h1.2.1,h4,h1.2.2,by rw [h2];exact h3.1,by rw [h2];exact h3.2⟩)
   clear hEP1
   obtain ⟨P2,hEP2⟩:∃ P2,mkS s.1.1 (limbs X2) = P2:=⟨_,rfl⟩
   have EP2:=Lib.hid hEP2
   have VP2:=Lib.hid (show okS P2 = true∧valS P2 = numQ s * denQ r∧P2.2.length ≤ 50∧-(bp 36) < valS P2∧valS P2 < bp 36 by
    rw [← hEP2,PX2.out]
    have h1:=cross_ofZ (n:=s.1.1) (X:=topN s) (Y:=denQ r)
    have h2:=cross_val (n:=s.1.1) HPs.out.nlt HPr.out.dlt
    have h3:=cross_lt (n:=s.1.1) HPs.out.nlt HPr.out.dlt
    have h4:valS (mkS s.1.1 (limbs (topN s * denQ r))) = numQ s * denQ r:=by rw [h2,HPs.out.top]
    exact ⟨h1.2.1,h4,h1.2.2,by rw [h2];exact h3.1,by rw [h2];exact h3.2⟩)
   clear hEP2
   obtain ⟨N,hN⟩:∃ N,ofZ (valS P1+valS P2) = N:=⟨_,rfl⟩
   have EN:=Lib.hid hN
   have b37:=bp37
   have SN:=sum_ofZ (z:=valS P1+valS P2) (by have:=VP1.out;have:=VP2.out;omega) (by have:=VP1.out;have:=VP2.out;omega)
   obtain ⟨X4,hX4⟩:∃ X4,(valS P1+valS P2).natAbs = X4:=⟨_,rfl⟩
   rw [hN,hX4] at SN
   have N1:=Lib.hid (show N.1 = decide (numQ r * denQ s+numQ s * denQ r < 0) by rw [SN.1,VP1.out.2.1,VP2.out.2.1])
   have N2:=Lib.hid (show N.2 = limbs X4 by rw [SN.1])
   have L4:=Lib.hid SN.2
   have HV:=Lib.hid (show addQ r s = lowQ N.1 X4 X3 by unfold addQ;rw [if_pos ⟨HOr.out,HOs.out⟩,N1.out,← hX4,VP1.out.2.1,VP2.out.2.1,PX3.out])
   clear hN hX4 SN b37
   have hkr:=kr.lt _ (List.mem_singleton.2 rfl)
   have hks:=ks.lt _ (List.mem_singleton.2 rfl)
   have hko:=ko.lt (w.heap.size+1+1) (by simp)
   have kr_c0:=kr.here.cell 0 _ rfl
   have kr_c1:=kr.here.cell 1 _ rfl
   have kr_c2:=kr.here.cell 2 _ rfl
   have ks_c0:=ks.here.cell 0 _ rfl
   have ks_c1:=ks.here.cell 1 _ rfl
   have ks_c2:=ks.here.cell 2 _ rfl
   go_upto_region 7 with fail
   go_cut [6] (fun s wx=>NewLocV 32 (fun v=>OwnS v P1) w2 s wx)
   case first =>
    have HC0:=Lib.hid (show Chg [] w2 w2.drew from (Chg.refl _ _).drew1)
    have HCr:=Lib.hid (show Chg [] w2 w2 from Chg.refl _ _)
    have KL:=Lib.hid (show ∀ W,Chg [] w2 W→W.cell? ⟨w.heap.size,0,none⟩ = some (.bool r.1.1)∧W.cell? ⟨w.heap.size,1,none⟩ = some (.slice Ar r.1.2.length cr)∧W.cell? ⟨w.heap.size,2,none⟩ = some (.slice Br r.2.length dr)∧W.cell? ⟨w.heap.size+1,0,none⟩ = some (.bool s.1.1)∧W.cell? ⟨w.heap.size+1,1,none⟩ = some (.slice As s.1.2.length cs)∧W.cell? ⟨w.heap.size+1,2,none⟩ = some (.slice Bs s.2.length ds)∧Hid (Chg [] w2 W) from fun W hc=>⟨(kr.chg hc (fun i hi hm=>by simp at hm)).here.cell 0 _ rfl,(kr.chg hc (fun i hi hm=>by simp at hm)).here.cell 1 _ rfl,(kr.chg hc (fun i hi hm=>by simp at hm)).here.cell 2 _ rfl,(ks.chg hc (fun i hi hm=>by simp at hm)).here.cell 0 _ rfl,(ks.chg hc (fun i hi hm=>by simp at hm)).here.cell 1 _ rfl,(ks.chg hc (fun i hi hm=>by simp at hm)).here.cell 2 _ rfl,Lib.hid hc⟩)
    have BBF:=Lib.hid (show ∀ W,Chg [] w2 W→Below w.heap.size w W from fun W hc=>below_chg bb2 hc bb2.size (fun i hi=>by simp at hi))
    clear kr_c0 kr_c1 kr_c2 ks_c0 ks_c1 ks_c2
    go_region_held3 (fun W=>W.cell? ⟨w.heap.size,0,none⟩ = some (.bool r.1.1)∧W.cell? ⟨w.heap.size,1,none⟩ = some (.slice Ar r.1.2.length cr)∧W.cell? ⟨w.heap.size,2,none⟩ = some (.slice Br r.2.length dr)∧W.cell? ⟨w.heap.size+1,0,none⟩ = some (.bool s.1.1)∧W.cell? ⟨w.heap.size+1,1,none⟩ = some (.slice As s.1.2.length cs)∧W.cell? ⟨w.heap.size+1,2,none⟩ = some (.slice Bs s.2.length ds)∧Hid (Chg [] w2 W))
     ((refine KL.out _ ?_;(first | exact HC4.out | exact HC3.out | exact HCr.out | exact HC0.out | exact HC4.out.drew1 | exact HC3.out.drew1 | exact HCr.out.drew1 | exact HC0.out.drew1 | exact HC4.out.trans (Chg.of_below (below_al (Below.refl _ _) _)) | exact HC3.out.trans (Chg.of_below (below_al (Below.refl _ _) _)) | exact HCr.out.trans (Chg.of_below (below_al (Below.refl _ _) _)) | exact HC0.out.trans (Chg.of_below (below_al (Below.refl _ _) _)) | exact (Chg.setNew HC4.out (by first | exact HC4.out.size | exact HC3.out.size | exact HCr.out.size | exact HC0.out.size) _) | exact (Chg.setNew (Chg.setNew HC4.out (by first | exact HC4.out.size | exact HC3.out.size | exact HCr.out.size | exact HC0.out.size) _) (by first | exact HC4.out.size | exact HC3.out.size | exact HCr.out.size | exact HC0.out.size) _) | fail)))
     (first
       | (go_at_call 65;(have hBB:=(‹_∧_∧_∧_∧_∧_∧Hid (Chg [] w2 _)›).2.2.2.2.2.2);(with_reducible refine (mulX_any _ _ (r.1.2) (s.2) X1 _ hnr hds ((okS_parts HPr.out.okn).1) (HPs.out.okd) EX1.out (OUr.out _ (BBF.out _ hBB.out)) (ODs.out _ (BBF.out _ hBB.out))).mono ?_);rintro e w3 ⟨um,Sm,rfl,om,lm,b3⟩;have HC3:=Lib.hid (hBB.out.trans (Chg.of_below b3));obtain ⟨Em,em,rfl⟩:=own_len om.here;(first | (have early3:At [w2.heap.size] (BoxAt w2.heap.size #[.bool false,.slice none 0 0] 32) w3:=At.below (box_new w2.drew _ _) b3) | (have early3:=At.below (box_new _ #[.bool false,.slice none 0 0] 32) b3) | (have early3:=At.below early2 b3) | skip);have HBZ3:=Lib.hid hBB.out.size;clear hBB)
       | (go_at_call 90;(have hBB:=(‹_∧_∧_∧_∧_∧_∧Hid (Chg [] w2 _)›).2.2.2.2.2.2);(with_reducible refine (makeX_any _ _ X1 P1 _ (Nat.le_trans LX1.out (by decide)) EP1.out (At.here (by first | exact om | exact At.below om (below_al (Below.refl _ _) _) | exact At.below (At.below om (below_al (Below.refl _ _) _)) (below_al (Below.refl _ _) _) | exact At.move om (fun _ _=>rfl) (Nat.le_refl _)))).mono ?_);rintro e w4 ⟨uf,Sf,rfl,of,lf,b4⟩;have HC4:=Lib.hid (hBB.out.trans (Chg.of_below b4));(have om_4:=At.below (by first | exact om | exact At.below om (below_al (Below.refl _ _) _) | exact At.below (At.below om (below_al (Below.refl _ _) _)) (below_al (Below.refl _ _) _) | exact At.move om (fun _ _=>rfl) (Nat.le_refl _)) b4);obtain ⟨Af,cf,rfl⟩:=ownS_form of.here;(first | have hbxg:=At.below_lt (box_new _ #[.bool false,.slice none 0 0] 32) b4 | have hbxg:=At.below_lt early3 b4 | skip);(try (have hbxf:=hbxg.1;have HGB:=Lib.hid hbxg.2;clear hbxg));(try (have cz0:=hbxf.here.cell 0 _ rfl;have fz0:=Lib.frozen_of_heap hbxf.here 0;have cz1:=hbxf.here.cell 1 _ rfl;have fz1:=Lib.frozen_of_heap hbxf.here 1));have HBZ4:=Lib.hid hBB.out.size;clear hBB))
    all_goals (go_wp2_with fail;go_meet;first | exact newLocV_last of lf HBZ4.out (below_of_chg HC4.out) | exact newLocV_early2 hbxf.here of lf (by first | exact HC3.out.size | exact HCr.out.size | exact HC0.out.size) HGB.out (below_of_chg HC4.out))
   rename World=>w3
   clear kr_c0 kr_c1 kr_c2 ks_c0 ks_c1 ks_c2
   obtain ⟨ga,csa,Sa,rfl,ka,oa,na,la,b3⟩:=hcut
   obtain ⟨Aa,ca,ea⟩:=ownS_form oa.here
   injection ea with ea
   subst ea
   have bb3:=Below.next bb2 b3
   replace kr:=kr.below b3
   replace ks:=ks.below b3
   replace ko:=ko.below b3
   have kr_c0:=kr.here.cell 0 _ rfl
   have kr_c1:=kr.here.cell 1 _ rfl
   have kr_c2:=kr.here.cell 2 _ rfl
   have ks_c0:=ks.here.cell 0 _ rfl
   have ks_c1:=ks.here.cell 1 _ rfl
   have ks_c2:=ks.here.cell 2 _ rfl
   go_upto_region 8 with fail
   go_cut [7] (fun s wx=>NewLocV 32 (fun v=>OwnS v P2) w3 s wx)
   case first =>
    have HC0:=Lib.hid (show Chg [] w3 w3.drew from (Chg.refl _ _).drew1)
    have HCr:=Lib.hid (show Chg [] w3 w3 from Chg.refl _ _)
    have KL:=Lib.hid (show ∀ W,Chg [] w3 W→W.cell? ⟨w.heap.size,0,none⟩ = some (.bool r.1.1)∧W.cell? ⟨w.heap.size,1,none⟩ = some (.slice Ar r.1.2.length cr)∧W.cell? ⟨w.heap.size,2,none⟩ = some (.slice Br r.2.length dr)∧W.cell? ⟨w.heap.size+1,0,none⟩ = some (.bool s.1.1)∧W.cell? ⟨w.heap.size+1,1,none⟩ = some (.slice As s.1.2.length cs)∧W.cell? ⟨w.heap.size+1,2,none⟩ = some (.slice Bs s.2.length ds)∧Hid (Chg [] w3 W) from fun W hc=>⟨(kr.chg hc (fun i hi hm=>by simp at hm)).here.cell 0 _ rfl,(kr.chg hc (fun i hi hm=>by simp at hm)).here.cell 1 _ rfl,(kr.chg hc (fun i hi hm=>by simp at hm)).here.cell 2 _ rfl,(ks.chg hc (fun i hi hm=>by simp at hm)).here.cell 0 _ rfl,(ks.chg hc (fun i hi hm=>by simp at hm)).here.cell 1 _ rfl,(ks.chg hc (fun i hi hm=>by simp at hm)).here.cell 2 _ rfl,Lib.hid hc⟩)
    have BBF:=Lib.hid (show ∀ W,Chg [] w3 W→Below w.heap.size w W from fun W hc=>below_chg bb3 hc bb3.size (fun i hi=>by simp at hi))
    clear kr_c0 kr_c1 kr_c2 ks_c0 ks_c1 ks_c2
    go_region_held3 (fun W=>W.cell? ⟨w.heap.size,0,none⟩ = some (.bool r.1.1)∧W.cell? ⟨w.heap.size,1,none⟩ = some (.slice Ar r.1.2.length cr)∧W.cell? ⟨w.heap.size,2,none⟩ = some (.slice Br r.2.length dr)∧W.cell? ⟨w.heap.size+1,0,none⟩ = some (.bool s.1.1)∧W.cell? ⟨w.heap.size+1,1,none⟩ = some (.slice As s.1.2.length cs)∧W.cell? ⟨w.heap.size+1,2,none⟩ = some (.slice Bs s.2.length ds)∧Hid (Chg [] w3 W))
     ((refine KL.out _ ?_;(first | exact HC5.out | exact HC4.out | exact HCr.out | exact HC0.out | exact HC5.out.drew1 | exact HC4.out.drew1 | exact HCr.out.drew1 | exact HC0.out.drew1 | exact HC5.out.trans (Chg.of_below (below_al (Below.refl _ _) _)) | exact HC4.out.trans (Chg.of_below (below_al (Below.refl _ _) _)) | exact HCr.out.trans (Chg.of_below (below_al (Below.refl _ _) _)) | exact HC0.out.trans (Chg.of_below (below_al (Below.refl _ _) _)) | exact (Chg.setNew HC5.out (by first | exact HC5.out.size | exact HC4.out.size | exact HCr.out.size | exact HC0.out.size) _) | exact (Chg.setNew (Chg.setNew HC5.out (by first | exact HC5.out.size | exact HC4.out.size | exact HCr.out.size | exact HC0.out.size) _) (by first | exact HC5.out.size | exact HC4.out.size | exact HCr.out.size | exact HC0.out.size) _) | fail)))
     (first
       | (go_at_call 65;(have hBB:=(‹_∧_∧_∧_∧_∧_∧Hid (Chg [] w3 _)›).2.2.2.2.2.2);(with_reducible refine (mulX_any _ _ (s.1.2) (r.2) X2 _ hns hdr ((okS_parts HPs.out.okn).1) (HPr.out.okd) EX2.out (OUs.out _ (BBF.out _ hBB.out)) (ODr.out _ (BBF.out _ hBB.out))).mono ?_);rintro e w4 ⟨um,Sm,rfl,om,lm,b4⟩;have HC4:=Lib.hid (hBB.out.trans (Chg.of_below b4));obtain ⟨Em,em,rfl⟩:=own_len om.here;(first | (have early4:At [w3.heap.size] (BoxAt w3.heap.size #[.bool false,.slice none 0 0] 32) w4:=At.below (box_new w3.drew _ _) b4) | (have early4:=At.below (box_new _ #[.bool false,.slice none 0 0] 32) b4) | (have early4:=At.below early3 b4) | skip);have HBZ4:=Lib.hid hBB.out.size;clear hBB)
       | (go_at_call 90;(have hBB:=(‹_∧_∧_∧_∧_∧_∧Hid (Chg [] w3 _)›).2.2.2.2.2.2);(with_reducible refine (makeX_any _ _ X2 P2 _ (Nat.le_trans LX2.out (by decide)) EP2.out (At.here (by first | exact om | exact At.below om (below_al (Below.refl _ _) _) | exact At.below (At.below om (below_al (Below.refl _ _) _)) (below_al (Below.refl _ _) _) | exact At.move om (fun _ _=>rfl) (Nat.le_refl _)))).mono ?_);rintro e w5 ⟨uf,Sf,rfl,of,lf,b5⟩;have HC5:=Lib.hid (hBB.out.trans (Chg.of_below b5));(have om_5:=At.below (by first | exact om | exact At.below om (below_al (Below.refl _ _) _) | exact At.below (At.below om (below_al (Below.refl _ _) _)) (below_al (Below.refl _ _) _) | exact At.move om (fun _ _=>rfl) (Nat.le_refl _)) b5);obtain ⟨Af,cf,rfl⟩:=ownS_form of.here;(first | have hbxg:=At.below_lt (box_new _ #[.bool false,.slice none 0 0] 32) b5 | have hbxg:=At.below_lt early4 b5 | skip);(try (have hbxf:=hbxg.1;have HGB:=Lib.hid hbxg.2;clear hbxg));(try (have cz0:=hbxf.here.cell 0 _ rfl;have fz0:=Lib.frozen_of_heap hbxf.here 0;have cz1:=hbxf.here.cell 1 _ rfl;have fz1:=Lib.frozen_of_heap hbxf.here 1));have HBZ5:=Lib.hid hBB.out.size;clear hBB))
    all_goals (go_wp2_with fail;go_meet;first | exact newLocV_last of lf HBZ5.out (below_of_chg HC5.out) | exact newLocV_early2 hbxf.here of lf (by first | exact HC4.out.size | exact HCr.out.size | exact HC0.out.size) HGB.out (below_of_chg HC5.out))
   rename World=>w4
   clear kr_c0 kr_c1 kr_c2 ks_c0 ks_c1 ks_c2
   obtain ⟨gb,csb,Sb,rfl,kb,ob,nb,lb,b4⟩:=hcut
   obtain ⟨Ab,cb,eb⟩:=ownS_form ob.here
   injection eb with eb
   subst eb
   have bb4:=Below.next bb3 b4
   replace kr:=kr.below b4
   replace ks:=ks.below b4
   replace ko:=ko.below b4
   replace ka:=ka.below b4
   replace oa:=oa.below b4
   have ka_c0:=ka.here.cell 0 _ rfl
   have ka_c1:=ka.here.cell 1 _ rfl
   have kb_c0:=kb.here.cell 0 _ rfl
   have kb_c1:=kb.here.cell 1 _ rfl
   go_wp2_with fail
   clear ka_c0 ka_c1 kb_c0 kb_c1
   refine (addX_any _ _ P1 P2 N _ VP1.out.1 VP2.out.1 EN.out oa.here ob.here).mono ?_
   rintro e w5 ⟨un,Sn,rfl,on,ln,b5⟩
   obtain ⟨An,cn,rfl⟩:=ownS_form on.here
   have bb5:=Below.next bb4 b5
   replace kr:=kr.below b5
   replace ks:=ks.below b5
   replace ko:=ko.below b5
   replace ka:=ka.below b5
   replace oa:=oa.below b5
   replace kb:=kb.below b5
   replace ob:=ob.below b5
   have kn:=box_new w5 #[.bool N.1,.slice An N.2.length cn] 32
   have bbx:=Below.next bb5 (below_al (Below.refl w5.heap.size w5) (.cells #[.bool N.1,.slice An N.2.length cn] 32))
   have hko2:=ko.lt (w.heap.size+1+1) (by simp)
   replace kr:=kr.below (below_al (Below.refl w5.heap.size w5) (.cells #[.bool N.1,.slice An N.2.length cn] 32))
   replace ks:=ks.below (below_al (Below.refl w5.heap.size w5) (.cells #[.bool N.1,.slice An N.2.length cn] 32))
   replace ko:=ko.below (below_al (Below.refl w5.heap.size w5) (.cells #[.bool N.1,.slice An N.2.length cn] 32))
   replace on:=on.below (below_al (Below.refl w5.heap.size w5) (.cells #[.bool N.1,.slice An N.2.length cn] 32))
   obtain ⟨Wn,hWn⟩:∃ Wn,Wn = w5.alloc (.cells #[.bool N.1,.slice An N.2.length cn] 32):=⟨_,rfl⟩
   rw [← hWn] at kn bbx kr ks ko on
   have HWN:=Lib.hid hWn
   have hWz:Wn.heap.size = w5.heap.size+1:=by rw [hWn];simp
   clear hWn
   have kr_c0:=kr.here.cell 0 _ rfl
   have kr_c1:=kr.here.cell 1 _ rfl
   have kr_c2:=kr.here.cell 2 _ rfl
   have ks_c0:=ks.here.cell 0 _ rfl
   have ks_c1:=ks.here.cell 1 _ rfl
   have ks_c2:=ks.here.cell 2 _ rfl
   have kn_c0:=kn.here.cell 0 _ rfl
   have kn_c1:=kn.here.cell 1 _ rfl
   go_wp2_with fail
   rw [← HWN.out]
   clear kr_c0 kr_c1 kr_c2 ks_c0 ks_c1 ks_c2 kn_c0 kn_c1
   have HC0:=Lib.hid (show Chg [w.heap.size+1+1] Wn Wn.drew from (Chg.refl _ _).drew1)
   have HCr:=Lib.hid (show Chg [w.heap.size+1+1] Wn Wn from Chg.refl _ _)
   have KL:=Lib.hid (show ∀ W,Chg [w.heap.size+1+1] Wn W→W.cell? ⟨w.heap.size,0,none⟩ = some (.bool r.1.1)∧W.cell? ⟨w.heap.size,1,none⟩ = some (.slice Ar r.1.2.length cr)∧W.cell? ⟨w.heap.size,2,none⟩ = some (.slice Br r.2.length dr)∧W.cell? ⟨w.heap.size+1,0,none⟩ = some (.bool s.1.1)∧W.cell? ⟨w.heap.size+1,1,none⟩ = some (.slice As s.1.2.length cs)∧W.cell? ⟨w.heap.size+1,2,none⟩ = some (.slice Bs s.2.length ds)∧W.cell? ⟨w5.heap.size,0,none⟩ = some (.bool N.1)∧W.cell? ⟨w5.heap.size,1,none⟩ = some (.slice An N.2.length cn)∧Hid (Chg [w.heap.size+1+1] Wn W) from fun W hc=>⟨(kr.chg hc (fun i hi hm=>by simp at hi hm;omega)).here.cell 0 _ rfl,(kr.chg hc (fun i hi hm=>by simp at hi hm;omega)).here.cell 1 _ rfl,(kr.chg hc (fun i hi hm=>by simp at hi hm;omega)).here.cell 2 _ rfl,(ks.chg hc (fun i hi hm=>by simp at hi hm;omega)).here.cell 0 _ rfl,(ks.chg hc (fun i hi hm=>by simp at hi hm;omega)).here.cell 1 _ rfl,(ks.chg hc (fun i hi hm=>by simp at hi hm;omega)).here.cell 2 _ rfl,(kn.chg hc (fun i hi hm=>by simp at hi hm;omega)).here.cell 0 _ rfl,(kn.chg hc (fun i hi hm=>by simp at hi hm;omega)).here.cell 1 _ rfl,Lib.hid hc⟩)
   have BBF:=Lib.hid (show ∀ W,Chg [w.heap.size+1+1] Wn W→Below w.heap.size w W from fun W hc=>below_chg bbx hc bbx.size (fun i hi=>by simp at hi;omega))
   go_region_held3 (fun W=>W.cell? ⟨w.heap.size,0,none⟩ = some (.bool r.1.1)∧W.cell? ⟨w.heap.size,1,none⟩ = some (.slice Ar r.1.2.length cr)∧W.cell? ⟨w.heap.size,2,none⟩ = some (.slice Br r.2.length dr)∧W.cell? ⟨w.heap.size+1,0,none⟩ = some (.bool s.1.1)∧W.cell? ⟨w.heap.size+1,1,none⟩ = some (.slice As s.1.2.length cs)∧W.cell? ⟨w.heap.size+1,2,none⟩ = some (.slice Bs s.2.length ds)∧W.cell? ⟨w5.heap.size,0,none⟩ = some (.bool N.1)∧W.cell? ⟨w5.heap.size,1,none⟩ = some (.slice An N.2.length cn)∧Hid (Chg [w.heap.size+1+1] Wn W))
    ((refine KL.out _ ?_;(first | exact HC7.out | exact HC6.out | exact HCr.out | exact HC0.out | exact HC7.out.drew1 | exact HC6.out.drew1 | exact HCr.out.drew1 | exact HC0.out.drew1 | exact HC7.out.trans (Chg.of_below (below_al (Below.refl _ _) _)) | exact HC6.out.trans (Chg.of_below (below_al (Below.refl _ _) _)) | exact HCr.out.trans (Chg.of_below (below_al (Below.refl _ _) _)) | exact HC0.out.trans (Chg.of_below (below_al (Below.refl _ _) _)) | exact (Chg.setCell HC7.out (by simp) _) | exact (Chg.setCell (Chg.setCell HC7.out (by simp) _) (by simp) _) | exact (Chg.setCell (Chg.setCell (Chg.setCell HC7.out (by simp) _) (by simp) _) (by simp) _) | fail)))
    (first
      | (go_at_call 65;(have hBB:=(‹_∧_∧_∧_∧_∧_∧_∧_∧Hid (Chg [w.heap.size+1+1] Wn _)›).2.2.2.2.2.2.2.2);(with_reducible refine (mulX_any _ _ (r.2) (s.2) X3 _ hdr hds (HPr.out.okd) (HPs.out.okd) EX3.out (ODr.out _ (BBF.out _ hBB.out)) (ODs.out _ (BBF.out _ hBB.out))).mono ?_);rintro e w6 ⟨um,Sm,rfl,om,lm,b6⟩;have HC6:=Lib.hid (hBB.out.trans (Chg.of_below b6));(have ko_6:=At.below (by first | exact ko | exact At.below ko (below_al (Below.refl _ _) _) | exact At.below (At.below ko (below_al (Below.refl _ _) _)) (below_al (Below.refl _ _) _) | exact At.move ko (fun _ _=>rfl) (Nat.le_refl _)) b6);(have on_6:=At.below (by first | exact on | exact At.below on (below_al (Below.refl _ _) _) | exact At.below (At.below on (below_al (Below.refl _ _) _)) (below_al (Below.refl _ _) _) | exact At.move on (fun _ _=>rfl) (Nat.le_refl _)) b6);obtain ⟨Em,em,rfl⟩:=own_len om.here;have HBZ6:=Lib.hid hBB.out.size;clear hBB)
      | (go_at_call 64;(have hBB:=(‹_∧_∧_∧_∧_∧_∧_∧_∧Hid (Chg [w.heap.size+1+1] Wn _)›).2.2.2.2.2.2.2.2);(with_reducible refine (lowX_any _ _ _ N.2 (limbs X3) X4 X3 _ (Nat.le_trans L4.out (by decide)) (Nat.le_trans LX3.out (by decide)) N2.out rfl (ownS_open (At.here (by first | exact on_6 | exact At.below on_6 (below_al (Below.refl _ _) _) | exact At.below (At.below on_6 (below_al (Below.refl _ _) _)) (below_al (Below.refl _ _) _) | exact At.move on_6 (fun _ _=>rfl) (Nat.le_refl _)))) (At.here (by first | exact om | exact At.below om (below_al (Below.refl _ _) _) | exact At.below (At.below om (below_al (Below.refl _ _) _)) (below_al (Below.refl _ _) _) | exact At.move om (fun _ _=>rfl) (Nat.le_refl _)))).mono ?_);rintro e w7 ⟨uf,Sf,rfl,of,lf,b7⟩;have HC7:=Lib.hid (hBB.out.trans (Chg.of_below b7));(have ko_7:=At.below (by first | exact ko_6 | exact At.below ko_6 (below_al (Below.refl _ _) _) | exact At.below (At.below ko_6 (below_al (Below.refl _ _) _)) (below_al (Below.refl _ _) _) | exact At.move ko_6 (fun _ _=>rfl) (Nat.le_refl _)) b7);(have on_7:=At.below (by first | exact on_6 | exact At.below on_6 (below_al (Below.refl _ _) _) | exact At.below (At.below on_6 (below_al (Below.refl _ _) _)) (below_al (Below.refl _ _) _) | exact At.move on_6 (fun _ _=>rfl) (Nat.le_refl _)) b7);(have om_7:=At.below (by first | exact om | exact At.below om (below_al (Below.refl _ _) _) | exact At.below (At.below om (below_al (Below.refl _ _) _)) (below_al (Below.refl _ _) _) | exact At.move om (fun _ _=>rfl) (Nat.le_refl _)) b7);obtain ⟨Af,cf,Bf,df,rfl⟩:=ownQ_form of.here;have cz0:=ko_7.here.cell 0 _ rfl;have fz0:=Lib.frozen_of_heap ko_7.here 0;have cz1:=ko_7.here.cell 1 _ rfl;have fz1:=Lib.frozen_of_heap ko_7.here 1;have cz2:=ko_7.here.cell 2 _ rfl;have fz2:=Lib.frozen_of_heap ko_7.here 2;have HBZ7:=Lib.hid hBB.out.size;clear hBB))
   have bb7:=BBF.out _ HC7.out
   replace kr:=kr.chg HC7.out (fun i hi hm=>by simp at hi hm;omega)
   replace ks:=ks.chg HC7.out (fun i hi hm=>by simp at hi hm;omega)
   replace ko:=ko_7
   have on:=on_7
   have om:=om_7
   have HW:=Lib.hid (newQb_at (r:=w.heap.size+1+1) (b:=(lowQ N.1 X4 X3).2) of lf (by have:=HBZ7.out;omega) (by omega) bb7)
   clear of ko kr ks kn on om
   go_wp2
   refine bodyPost_ret (v:=.tuple #[.agg #[.bool _,.slice Af _ cf,.slice Bf _ df],.bool _]) (by simp [results,Tryz.results94,go_sem,cz0,cz1,cz2];exact ⟨⟨rfl,rfl,rfl⟩,rfl⟩) rfl ?_
   rw [HV.out]
   exact HW.out
  ·have oks':okQ s = false:=by simpa using oks
   have HV:=Lib.hid (show addQ r s = (zeroQ,false) by unfold addQ;rw [if_neg (fun h=>oks h.2)])
   rw [oks']
   clear oks oks'
   have ko_c0:=ko.here.cell 0 _ rfl
   have ko_c1:=ko.here.cell 1 _ rfl
   have ko_c2:=ko.here.cell 2 _ rfl
   have cz0:=ko.here.cell 0 _ rfl
   have fz0:=Lib.frozen_of_heap ko.here 0
   have cz1:=ko.here.cell 1 _ rfl
   have fz1:=Lib.frozen_of_heap ko.here 1
   have cz2:=ko.here.cell 2 _ rfl
   have fz2:=Lib.frozen_of_heap ko.here 2
   go_wp2
   refine bodyPost_ret (v:=.tuple #[.agg #[.bool false,.slice none 0 0,.slice none 0 0],.bool false]) (by simp [results,Tryz.results94,go_sem,cz0,cz1,cz2]) rfl ?_
   rw [HV.out]
   first | exact newQb_zero _ bb2 | exact newQb_zero _ (below_set3 bb2 (by omega))
 ·have okr':okQ r = false:=by simpa using okr
  have HV:=Lib.hid (show addQ r s = (zeroQ,false) by unfold addQ;rw [if_neg (fun h=>okr h.1)])
  rw [okr']
  clear okr okr'
  have ko_c0:=ko.here.cell 0 _ rfl
  have ko_c1:=ko.here.cell 1 _ rfl
  have ko_c2:=ko.here.cell 2 _ rfl
  have cz0:=ko.here.cell 0 _ rfl
  have fz0:=Lib.frozen_of_heap ko.here 0
  have cz1:=ko.here.cell 1 _ rfl
  have fz1:=Lib.frozen_of_heap ko.here 1
  have cz2:=ko.here.cell 2 _ rfl
  have fz2:=Lib.frozen_of_heap ko.here 2
  go_wp2
  refine bodyPost_ret (v:=.tuple #[.agg #[.bool false,.slice none 0 0,.slice none 0 0],.bool false]) (by simp [results,Tryz.results94,go_sem,cz0,cz1,cz2]) rfl ?_
  rw [HV.out]
  first | exact newQb_zero _ bb1 | exact newQb_zero _ (below_set3 bb1 (by omega))
end Go.Proofs.YtipbdpdmefcofabGreatDoor
