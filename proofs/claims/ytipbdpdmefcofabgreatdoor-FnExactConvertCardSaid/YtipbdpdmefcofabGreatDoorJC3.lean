import Derived.Deep.RegionHeld3
import Derived.Deep.DeepCutAuto
import Derived.Test.YtipbdpdmefcofabGreatDoorJC2
set_option maxRecDepth 100000
namespace Go.Proofs.YtipbdpdmefcofabGreatDoor
open Go.RowKit
def RdEL (w:World) (v:Value) (l:List EI):Prop :=
 ∃ A c,v = .slice A l.length c∧∀ (j:Nat) x,l[j]? = some x→∃ a u,A = some a∧a.block < w.heap.size∧w.cell? (a.add (j * 5)) = some (.string x.1)∧w.cell? ⟨(a.add (j * 5)).block,(a.add (j * 5)).off+1,none⟩ = some (.string x.2.1)∧w.cell? ⟨(a.add (j * 5)).block,(a.add (j * 5)).off+2,none⟩ = some (.bool x.2.2.1.1)∧w.cell? ⟨(a.add (j * 5)).block,(a.add (j * 5)).off+3,none⟩ = some u∧w.cell? ⟨(a.add (j * 5)).block,(a.add (j * 5)).off+4,none⟩ = some (.int .i64 x.2.2.2)∧Row w 0 w.heap.size u (intsV x.2.2.1.2)
theorem cell_keep5 {w w':World} {a:Addr} (hb:Below w.heap.size w w') (h:a.block < w.heap.size) (j i:Nat):w'.cell? ⟨(a.add (j * 5)).block,(a.add (j * 5)).off+i,none⟩ = w.cell? ⟨(a.add (j * 5)).block,(a.add (j * 5)).off+i,none⟩ :=
 hb.cell (by show (a.add (j * 5)).block < _;rw [block_add];exact h)
theorem cell_keep5' {w w':World} {a:Addr} (hb:Below w.heap.size w w') (h:a.block < w.heap.size) (j:Nat):w'.cell? (a.add (j * 5)) = w.cell? (a.add (j * 5)):=hb.cell (by rw [block_add];exact h)
theorem RdEL.below {w w':World} {v:Value} {l:List EI} (h:RdEL w v l) (hb:Below w.heap.size w w'):RdEL w' v l:=by
 obtain ⟨A,c,rfl,h⟩:=h
 refine ⟨A,c,rfl,fun j x hj=>?_⟩
 obtain ⟨a,u,rfl,h1,h2,h3,h4,h5,h6,hr⟩:=h j x hj
 exact ⟨a,u,rfl,Nat.lt_of_lt_of_le h1 hb.size,(cell_keep5' hb h1 j).trans h2,(cell_keep5 hb h1 j 1).trans h3,(cell_keep5 hb h1 j 2).trans h4,(cell_keep5 hb h1 j 3).trans h5,(cell_keep5 hb h1 j 4).trans h6,(hr.below hb (Nat.le_refl _)).wide (Nat.le_refl _) hb.size⟩
def szEL:List EI→Int
 | []=>0
 | x :: l=>szE x+szEL l
theorem szEL_nonneg (l:List EI):0 ≤ szEL l:=by
 induction l with
 | nil=>exact Int.le_refl _
 | cons x l ih=>show 0 ≤ szE x+szEL l;have:=szE_nonneg x;omega
theorem szEL_append (l r:List EI):szEL (l ++ r) = szEL l+szEL r:=by
 induction l with
 | nil=>show szEL r = 0+szEL r;omega
 | cons x l ih=>show szE x+szEL (l ++ r) = szE x+szEL l+szEL r;rw [ih];omega
theorem szEL_take {l:List EI} {j:Nat} {x:EI} (h:l[j]? = some x):szEL (l.take (j+1)) = szEL (l.take j)+szE x:=by
 have hj:=(List.getElem?_eq_some_iff.1 h).1
 have e:l[j] = x:=(List.getElem?_eq_some_iff.1 h).2
 rw [List.take_succ_eq_append_getElem hj,szEL_append,e]
 show _+(szE x+0) = _
 omega
theorem szEL_take_le (l:List EI) (j:Nat):szEL (l.take j) ≤ szEL l:=by
 have:=szEL_append (l.take j) (l.drop j)
 rw [List.take_append_drop] at this
 have:=szEL_nonneg (l.drop j)
 omega
theorem szEL_mem {l:List EI} {x:EI} (h:x ∈ l):szE x ≤ szEL l:=by
 induction l with
 | nil=>exact absurd h List.not_mem_nil
 | cons y l ih =>
   show szE x ≤ szE y+szEL l
   have h1:=szE_nonneg y
   have h2:=szEL_nonneg l
   rcases List.mem_cons.1 h with rfl | h
   ·omega
   ·have:=ih h
    omega
set_option maxHeartbeats 2000000 in
theorem szRateS_any (v:Value) (l:List EI) (left:Int) (w:World) (hl:l.length ≤ 9223372036854775807) (hx:∀ x ∈ l,capE x) (h0:0 ≤ left) (h1:left ≤ 1048576) (h:RdEL w v l) :
 Calls Tryz.prog 18 #[v,.int .i64 left] w fun e w'=>e = .returned (.int .i64 (leftI left (l.length+szEL l)))∧Below w.heap.size w w':=by
 obtain ⟨A,c,rfl,hc⟩:=h
 by_cases hn:left - l.length < 0
 ·have hp:=szEL_nonneg l
  have HV:=Lib.hid (show leftI left (l.length+szEL l) = -1 by unfold leftI;rw [if_pos (by omega)])
  clear hp
  go_enter Tryz.func18,Tryz.ntmps18
  go_wp2
  go_ret
  exact ⟨ret_int HV.out.symm,Below.refl _ _⟩
 ·go_enter Tryz.func18,Tryz.ntmps18
  go_wp2
  go_loopw [1,5] (fun a i wr=>∃ (j:Nat) (z:Int),j ≤ l.length∧i = .int .i64 j∧a = .int .i64 z∧0 ≤ z∧z ≤ 1048576∧Hid (z = left - l.length - szEL (l.take j))∧Below w.heap.size w wr) (fun _ i _=>l.length - (intOf i).toNat)
  case atStart=>exact ⟨0,left - l.length,by omega,rfl,rfl,by omega,by omega,Lib.hid (by rw [List.take_zero];show _ = _ - (0:Int);omega),Below.refl _ _⟩
  case round =>
   obtain ⟨j,z,hj,rfl,rfl,hz0,hz1,HZ,hb⟩:=hrel
   by_cases hlt:j < l.length
   ·obtain ⟨x,hxj⟩:∃ x,l[j]? = some x:=⟨_,List.getElem?_eq_getElem hlt⟩
    obtain ⟨a,u,rfl,ha,hc0,hc1,hc2,hc3,hc4,hr⟩:=hc j x hxj
    have hxl:=hx x (List.mem_of_getElem? hxj)
    have k0:=(cell_keep5' hb ha j).trans hc0
    have k1:=(cell_keep5 hb ha j 1).trans hc1
    have k2:=(cell_keep5 hb ha j 2).trans hc2
    have k3:=(cell_keep5 hb ha j 3).trans hc3
    have k4:=(cell_keep5 hb ha j 4).trans hc4
    obtain ⟨A1,c1,rfl⟩:=row_form hr
    rw [intsV_length] at hc3 k3 hr
    go_wp2_with fail
    refine (szE_cal _ x z _ hxl hz0 hz1 (RdE.below ⟨_,rfl,hr⟩ hb)).mono ?_
    rintro e w1 ⟨rfl,b1⟩
    have bb1:=Below.next hb b1
    have hs0:=szE_nonneg x
    have HT:=Lib.hid (szEL_take hxj)
    have HTL:=Lib.hid (szEL_take_le l (j+1))
    clear hc0 hc1 hc2 hc3 hc4 k0 k1 k2 k3 k4 hc hxl hr
    by_cases hv:z - szE x < 0
    ·have HV:=Lib.hid (show leftI left (l.length+szEL l) = -1 by
      have h1:=HT.out
      have h2:=HTL.out
      have h3:=HZ.out
      unfold leftI;rw [if_pos (by omega)])
     rw [show leftI z (szE x) = -1 by unfold leftI;rw [if_pos hv]]
     clear hv hs0
     go_wp2
     go_ret
     exact ⟨ret_int HV.out.symm,bb1⟩
    ·rw [show leftI z (szE x) = z - szE x by unfold leftI;rw [if_neg hv]]
     have hnb:decide (z - szE x < 0) = false:=decide_eq_false hv
     obtain ⟨z1,hz1e⟩:∃ z1,z1 = z - szE x:=⟨_,rfl⟩
     rw [← hz1e] at hnb ⊢
     have HE:=Lib.hid (show z1 = left - l.length - szEL (l.take (j+1))∧0 ≤ z1∧z1 ≤ 1048576 by
      have h1:=HT.out
      have h3:=HZ.out
      omega)
     clear hv hs0 hz1e
     go_wp2
     go_roundw
     case rel=>exact ⟨j+1,z1,by omega,by go_num,rfl,HE.out.2.1,HE.out.2.2,Lib.hid HE.out.1,bb1⟩
     case measure=>simp [intOf];omega
   ·obtain rfl:j = l.length:=by omega
    have HV:=Lib.hid (show leftI left (l.length+szEL l) = z by
     have h3:=HZ.out
     rw [List.take_length] at h3
     unfold leftI;rw [if_neg (by omega)];omega)
    clear hc
    go_wp2
    go_ret
    exact ⟨ret_int HV.out.symm,hb⟩
theorem add_ownE (g m:Nat):(⟨g,0,none⟩:Addr).add m = ⟨g,m,none⟩:=by
 unfold Addr.add
 split
 ·rename_i h;rw [h]
 ·simp
def flatE:List (ByteArray × ByteArray × Bool × Value × Int)→List Value
 | []=>[]
 | p :: r=>.string p.1 :: .string p.2.1 :: .bool p.2.2.1 :: p.2.2.2.1 :: .int .i64 p.2.2.2.2 :: flatE r
theorem flatE_append (e f:List (ByteArray × ByteArray × Bool × Value × Int)):flatE (e ++ f) = flatE e ++ flatE f:=by
 induction e with
 | nil=>rfl
 | cons p r ih=>show _ :: _ :: _ :: _ :: _ :: flatE (r ++ f) = _;rw [ih];rfl
theorem flatE_get {e:List (ByteArray × ByteArray × Bool × Value × Int)} {j:Nat} {p:ByteArray × ByteArray × Bool × Value × Int} (h:e[j]? = some p):(flatE e)[j * 5]? = some (.string p.1)∧(flatE e)[j * 5+1]? = some (.string p.2.1)∧(flatE e)[j * 5+2]? = some (.bool p.2.2.1)∧(flatE e)[j * 5+3]? = some (p.2.2.2.1)∧(flatE e)[j * 5+4]? = some (.int .i64 p.2.2.2.2):=by
 induction e generalizing j with
 | nil=>simp at h
 | cons q r ih =>
   cases j with
   | zero =>
     have:q = p:=by simpa using h
     subst this
     exact ⟨rfl,rfl,rfl,rfl,rfl⟩
   | succ j =>
     have:=ih (j:=j) (by simpa using h)
     rw [show (j+1) * 5 = j * 5+1+1+1+1+1 by omega]
     exact this
theorem set_cellsE (xs:List Value) (k:Nat) (v0 v1 v2 v3 v4:Value) (h:k * 5+4 < xs.length):(((((xs.set (k * 5) v0).set (k * 5+1) v1).set (k * 5+2) v2).set (k * 5+3) v3).set (k * 5+4) v4).take ((k+1) * 5) = xs.take (k * 5) ++ [v0,v1,v2,v3,v4]:=by
 rw [show (k+1) * 5 = k * 5+1+1+1+1+1 by omega,List.take_succ_eq_append_getElem (by simp;omega),List.take_succ_eq_append_getElem (by simp;omega),List.take_succ_eq_append_getElem (by simp;omega),List.take_succ_eq_append_getElem (by simp;omega),List.take_succ_eq_append_getElem (by simp;omega),
  List.take_set_of_le (by omega),List.take_set_of_le (by omega),List.take_set_of_le (by omega),List.take_set_of_le (by omega),List.take_set_of_le (by omega),List.append_assoc,List.append_assoc,List.append_assoc,List.append_assoc]
 simp
def OwnEG (w:World):Nat→List EI→List (ByteArray × ByteArray × Bool × Value × Int)→Nat→Prop
 | lo,[],[],hi=>lo ≤ hi
 | lo,x :: l,p :: e,hi=>∃ mid,lo ≤ mid∧p.1 = x.1∧p.2.1 = x.2.1∧p.2.2.1 = x.2.2.1.1∧p.2.2.2.2 = x.2.2.2∧w.ownsRow lo 3 1 p.2.2.2.1 x.2.2.1.2.length (intsV x.2.2.1.2)∧(∀ b,p.2.2.2.1.ownBlock = some b→b < mid)∧OwnEG w mid l e hi
 | _,_,_,_=>False
theorem OwnEG.le {w:World} {lo hi:Nat} {l:List EI} {e:List (ByteArray × ByteArray × Bool × Value × Int)} (h:OwnEG w lo l e hi):lo ≤ hi:=by
 induction l generalizing lo e with
 | nil=>cases e with | nil=>exact h | cons _ _=>exact h.elim
 | cons x l ih=>cases e with | nil=>exact h.elim | cons p e=>obtain ⟨mid,h1,_,_,_,_,_,_,h2⟩:=h;exact Nat.le_trans h1 (ih h2)
theorem OwnEG.length {w:World} {lo hi:Nat} {l:List EI} {e:List (ByteArray × ByteArray × Bool × Value × Int)} (h:OwnEG w lo l e hi):e.length = l.length:=by
 induction l generalizing lo e with
 | nil=>cases e with | nil=>rfl | cons _ _=>exact h.elim
 | cons x l ih=>cases e with | nil=>exact h.elim | cons p e=>obtain ⟨mid,_,_,_,_,_,_,_,h2⟩:=h;simp [ih h2]
theorem OwnEG.stays {w w':World} {lo hi:Nat} {l:List EI} {e:List (ByteArray × ByteArray × Bool × Value × Int)} (h:OwnEG w lo l e hi) (hk:∀ i,lo ≤ i→i < hi→w'.heap[i]? = w.heap[i]?):OwnEG w' lo l e hi:=by
 induction l generalizing lo e with
 | nil=>cases e with | nil=>exact h | cons _ _=>exact h.elim
 | cons x l ih =>
   cases e with
   | nil=>exact h.elim
   | cons p e =>
     obtain ⟨mid,h1,e0,e1,e2,e4,h3,h4,h5⟩:=h
     have hle:=h5.le
     exact ⟨mid,h1,e0,e1,e2,e4,own_stays h3 fun i hi=>hk i (own_lt h3 hi).1 (Nat.lt_of_lt_of_le (h4 i hi) hle),h4,ih h5 fun i hi hi2=>hk i (by omega) hi2⟩
theorem OwnEG.wide {w:World} {lo hi hi':Nat} {l:List EI} {e:List (ByteArray × ByteArray × Bool × Value × Int)} (h:OwnEG w lo l e hi) (hh:hi ≤ hi'):OwnEG w lo l e hi':=by
 induction l generalizing lo e with
 | nil=>cases e with | nil=>exact Nat.le_trans h hh | cons _ _=>exact h.elim
 | cons x l ih=>cases e with | nil=>exact h.elim | cons p e=>obtain ⟨mid,h1,e0,e1,e2,e4,h3,h4,h5⟩:=h;exact ⟨mid,h1,e0,e1,e2,e4,h3,h4,ih h5⟩
theorem OwnEG.snoc {w:World} {lo mid hi:Nat} {l:List EI} {e:List (ByteArray × ByteArray × Bool × Value × Int)} {x:EI} {u:Value} (h:OwnEG w lo l e mid) (o:w.ownsRow mid 3 1 u x.2.2.1.2.length (intsV x.2.2.1.2)) (hu:∀ b,u.ownBlock = some b→b < hi) (hh:mid ≤ hi):OwnEG w lo (l ++ [x]) (e ++ [(x.1,x.2.1,x.2.2.1.1,u,x.2.2.2)]) hi:=by
 induction l generalizing lo e with
 | nil =>
   cases e with
   | nil =>
     have hm:lo ≤ mid:=h
     exact ⟨hi,Nat.le_trans hm hh,rfl,rfl,rfl,rfl,own_low o hm,hu,Nat.le_refl _⟩
   | cons _ _=>exact h.elim
 | cons y l ih=>cases e with | nil=>exact h.elim | cons p e=>obtain ⟨m,h1,e0,e1,e2,e4,h3,h4,h5⟩:=h;exact ⟨m,h1,e0,e1,e2,e4,h3,h4,ih h5⟩
theorem OwnEG.at_ {w:World} {lo hi:Nat} {l:List EI} {e:List (ByteArray × ByteArray × Bool × Value × Int)} (h:OwnEG w lo l e hi) {j:Nat} {x:EI} (hx:l[j]? = some x):∃ u,e[j]? = some (x.1,x.2.1,x.2.2.1.1,u,x.2.2.2)∧OwnI u x.2.2.1.2 w:=by
 induction l generalizing lo e j with
 | nil=>simp at hx
 | cons y l ih =>
   cases e with
   | nil=>exact h.elim
   | cons p e =>
     obtain ⟨m,h1,e0,e1,e2,e4,h3,h4,h5⟩:=h
     cases j with
     | zero =>
       have:y = x:=by simpa using hx
       subst this
       exact ⟨p.2.2.2.1,by rw [← e0,← e1,← e2,← e4];rfl,own_zero h3⟩
     | succ j=>exact ih h5 (by simpa using hx)
def OwnEL (v:Value) (l:List EI) (lo hi:Nat) (w:World):Prop :=
 ∃ g e,v = .slice (some ⟨g,0,none⟩) l.length l.length∧lo ≤ g∧g < hi∧hi ≤ w.heap.size∧w.ownsRow lo 89 5 v l.length (flatE e)∧OwnEG w (g+1) l e hi
theorem OwnEL.stays {v:Value} {l:List EI} {lo hi:Nat} {w w':World} (h:OwnEL v l lo hi w) (hk:∀ i,lo ≤ i→i < hi→w'.heap[i]? = w.heap[i]?) (hz:w.heap.size ≤ w'.heap.size):OwnEL v l lo hi w':=by
 obtain ⟨g,e,rfl,h1,h2,h3,h4,h5⟩:=h
 exact ⟨g,e,rfl,h1,h2,Nat.le_trans h3 hz,own_stays h4 fun i hi=>by cases hi;exact hk g h1 h2,h5.stays fun i hi hi2=>hk i (by omega) hi2⟩
theorem OwnEL.below {v:Value} {l:List EI} {lo hi:Nat} {w w':World} (h:OwnEL v l lo hi w) (hb:Below w.heap.size w w'):OwnEL v l lo hi w':=by
 have hh:=h
 obtain ⟨_,_,_,_,_,h3,_,_⟩:=hh
 exact h.stays (fun i _ hi=>hb.block i (by omega)) hb.size
theorem OwnEL.rd {v:Value} {l:List EI} {lo hi:Nat} {w:World} (h:OwnEL v l lo hi w):RdEL w v l:=by
 obtain ⟨g,e,rfl,h1,h2,h3,h4,h5⟩:=h
 refine ⟨_,_,rfl,fun j x hj=>?_⟩
 have hjl:=(List.getElem?_eq_some_iff.1 hj).1
 obtain ⟨u,he,ho⟩:=h5.at_ hj
 have hf:=flatE_get he
 refine ⟨⟨g,0,none⟩,u,rfl,by show g < _;omega,?_,?_,?_,?_,?_,ho.row⟩
 ·have:=h4.cellAt (j * 5) (by omega)
  rw [hf.1] at this
  rw [add_ownE]
  exact this
 ·have:=h4.cellAt (j * 5+1) (by omega)
  rw [hf.2.1] at this
  rw [add_ownE]
  exact this
 ·have:=h4.cellAt (j * 5+2) (by omega)
  rw [hf.2.2.1] at this
  rw [add_ownE]
  exact this
 ·have:=h4.cellAt (j * 5+3) (by omega)
  rw [hf.2.2.2.1] at this
  rw [add_ownE]
  exact this
 ·have:=h4.cellAt (j * 5+4) (by omega)
  rw [hf.2.2.2.2] at this
  rw [add_ownE]
  exact this
theorem own_highE {w:World} {base B n size:Nat} {e:TypeId} {v:Value} {xs:List Value} (h:w.ownsRow base e size v n xs) (hb:∀ g,v.ownBlock = some g→B ≤ g):w.ownsRow B e size v n xs:=by
 obtain ⟨hl,h | ⟨g,cap,cur,rfl,_,r⟩⟩:=h
 ·exact ⟨hl,.inl h⟩
 ·exact ⟨hl,.inr ⟨g,cap,cur,rfl,hb g rfl,r⟩⟩
theorem newE_own {x:EI} {w w':World} {S:List Nat} {c0 c1 c2 u c4:Value} (o:At S (OwnE (.agg #[c0,c1,c2,u,c4]) x) w') (l:Within S w.heap.size w'.heap.size):w'.ownsRow w.heap.size 3 1 u x.2.2.1.2.length (intsV x.2.2.1.2)∧∀ b,u.ownBlock = some b→b < w'.heap.size:=by
 have hm:=at_ints_mem o (fun w' k=>ownE_open k)
 exact ⟨own_highE (ownE_open o.here) fun g hg=>(l g (hm g hg)).1,fun b hb=>(l b (hm b hb)).2⟩
theorem infoEL:(Tryz.prog.info? 89).map (fun i=>(i.zero,i.size,i.bytes)) = some (some (.agg #[.string ⟨#[]⟩,.string ⟨#[]⟩,.bool false,.slice none 0 0,.int .i64 0]),5,72):=by kernel_rfl
theorem makeEL (n:Nat) (hn:n ≤ 1099511627776) (W:World) :
 (Instr.makeSlice 39 (.int .i64 (n:Int)) (.int .i64 (n:Int))).run Tryz.prog W = .ok (.slice (some ⟨W.heap.size,0,none⟩) n n) (W.alloc (.cells (madeCells #[.string ⟨#[]⟩,.string ⟨#[]⟩,.bool false,.slice none 0 0,.int .i64 0] (n * 5)) 89)):=by
 obtain ⟨i0,hi,hz0,hz1,hz2⟩:=info_parts infoEL
 have h:=run_make (P:=Tryz.prog) W 39 89 i0 (.agg #[.string ⟨#[]⟩,.string ⟨#[]⟩,.bool false,.slice none 0 0,.int .i64 0]) Tryz.underlying39 hi hz0 .i64 .i64 (n:Int) (n:Int) (by omega) (by omega) (by rw [hz2];omega) (by omega)
 rw [hz1,Int.toNat_natCast] at h
 exact h
def NewEL (l:List EI) (w:World) (e:Ending) (w':World):Prop:=∃ v,e = .returned v∧OwnEL v l w.heap.size w'.heap.size w'∧Below w.heap.size w w'
set_option maxHeartbeats 4000000 in
theorem toRateS_any (v:Value) (l:List EI) (w:World) (hl:l.length ≤ 1048576) (hx:∀ x ∈ l,szE x ≤ 1048576) (h:RdEL w v l) :
 Calls Tryz.prog 25 #[v] w (NewEL l w):=by
 obtain ⟨A,c,rfl,hc⟩:=h
 have HC:=Lib.hid hc
 have hmk:=makeEL l.length (by omega)
 clear hc
 go_enter Tryz.func25,Tryz.ntmps25
 go_wp2
 go_loopw [4] (fun i wr=>∃ (k:Nat) (xs:List Value) (e:List (ByteArray × ByteArray × Bool × Value × Int)),k ≤ l.length∧i = .int .i64 k∧wr.ownsRow w.heap.size 89 5 (.slice (some ⟨w.heap.size,0,none⟩) l.length l.length) l.length xs∧Hid (xs.take (k * 5) = flatE e)∧OwnEG wr (w.heap.size+1) (l.take k) e wr.heap.size∧Below w.heap.size w wr) (fun i _=>l.length - (intOf i).toNat)
 case atStart =>
  have h:=World.ownsRow_lit (e:=89) (size:=5) (base:=w.heap.size) w (madeCells #[.string ⟨#[]⟩,.string ⟨#[]⟩,.bool false,.slice none 0 0,.int .i64 0] (l.length * 5)) l.length (Nat.le_refl _) (by unfold maxLen;omega) (by rw [size_madeCells])
  exact ⟨0,_,[],Nat.zero_le _,rfl,h,Lib.hid (by rw [Nat.zero_mul,List.take_zero];rfl),by rw [List.take_zero];show _ ≤ _;simp,(Below.refl _ _).alloc (Nat.le_refl _) _⟩
 case round =>
  obtain ⟨k,xs,e,hk,rfl,ho,HX,hes,hb⟩:=hrel
  by_cases hlt:k < l.length
  ·obtain ⟨x,hxk⟩:∃ x,l[k]? = some x:=⟨_,List.getElem?_eq_getElem hlt⟩
   obtain ⟨a,u,rfl,ha,hc0,hc1,hc2,hc3,hc4,hr⟩:=HC.out k x hxk
   have hxl:=hx x (List.mem_of_getElem? hxk)
   have k0:=(cell_keep5' hb ha k).trans hc0
   have k1:=(cell_keep5 hb ha k 1).trans hc1
   have k2:=(cell_keep5 hb ha k 2).trans hc2
   have k3:=(cell_keep5 hb ha k 3).trans hc3
   have k4:=(cell_keep5 hb ha k 4).trans hc4
   obtain ⟨A1,c1,rfl⟩:=row_form hr
   rw [intsV_length] at hc3 k3 hr
   go_wp2_with fail
   refine (toE_new _ x _ hxl (RdE.below ⟨_,rfl,hr⟩ hb)).mono ?_
   rintro e' w1 ⟨u0,S1,rfl,o0,l0,b1⟩
   obtain ⟨A2,c2,rfl⟩:=ownE_form o0.here
   obtain ⟨o1,hu1⟩:=newE_own o0 l0
   have bb1:=Below.next hb b1
   have ho1:=own_below ho b1
   have hxs:=ho1.1
   have hcell0:=ho1.cellAt (k * 5) (by omega)
   have hcell1:=ho1.cellAt (k * 5+1) (by omega)
   have hcell2:=ho1.cellAt (k * 5+2) (by omega)
   have hcell3:=ho1.cellAt (k * 5+3) (by omega)
   have hcell4:=ho1.cellAt (k * 5+4) (by omega)
   rw [List.getElem?_eq_getElem (by omega)] at hcell0 hcell1 hcell2 hcell3 hcell4
   have hfr0:=ho1.frozenAt (k * 5)
   have hfr1:=ho1.frozenAt (k * 5+1)
   have hfr2:=ho1.frozenAt (k * 5+2)
   have hfr3:=ho1.frozenAt (k * 5+3)
   have hfr4:=ho1.frozenAt (k * 5+4)
   obtain ⟨hp0,hg0⟩:=ho1.stored (k * 5) (.string x.1)
   obtain ⟨hp1,hg1⟩:=hp0.stored (k * 5+1) (.string x.2.1)
   obtain ⟨hp2,hg2⟩:=hp1.stored (k * 5+2) (.bool x.2.2.1.1)
   obtain ⟨hp3,hg3⟩:=hp2.stored (k * 5+3) (.slice A2 x.2.2.1.2.length c2)
   obtain ⟨hp4,hg4⟩:=hp3.stored (k * 5+4) (.int .i64 x.2.2.2)
   have hlw:w.heap.size < wr.heap.size:=(own_lt ho (g:=w.heap.size) rfl).2
   have hes1:=OwnEG.snoc (hi:=w1.heap.size) (hes.stays fun i _ hi=>b1.block i hi) o1 hu1 b1.size
   have hes2:OwnEG (((((w1.setCell ⟨w.heap.size,k * 5,none⟩ (.string x.1)).setCell ⟨w.heap.size,k * 5+1,none⟩ (.string x.2.1)).setCell ⟨w.heap.size,k * 5+2,none⟩ (.bool x.2.2.1.1)).setCell ⟨w.heap.size,k * 5+3,none⟩ (.slice A2 x.2.2.1.2.length c2)).setCell ⟨w.heap.size,k * 5+4,none⟩ (.int .i64 x.2.2.2)) (w.heap.size+1) (l.take (k+1)) (e ++ [(x.1,x.2.1,x.2.2.1.1,.slice A2 x.2.2.1.2.length c2,x.2.2.2)]) (((((w1.setCell ⟨w.heap.size,k * 5,none⟩ (.string x.1)).setCell ⟨w.heap.size,k * 5+1,none⟩ (.string x.2.1)).setCell ⟨w.heap.size,k * 5+2,none⟩ (.bool x.2.2.1.1)).setCell ⟨w.heap.size,k * 5+3,none⟩ (.slice A2 x.2.2.1.2.length c2)).setCell ⟨w.heap.size,k * 5+4,none⟩ (.int .i64 x.2.2.2)).heap.size:=by
    rw [List.take_succ_eq_append_getElem hlt,(List.getElem?_eq_some_iff.1 hxk).2]
    refine (hes1.stays fun i hi _=>?_).wide (by simp [World.setCell])
    have hne:i ≠ w.heap.size:=by omega
    rw [Below.heap_setCell _ _ _ _ hne,Below.heap_setCell _ _ _ _ hne,Below.heap_setCell _ _ _ _ hne,Below.heap_setCell _ _ _ _ hne,Below.heap_setCell _ _ _ _ hne]
   have hb3:Below w.heap.size w (((((w1.setCell ⟨w.heap.size,k * 5,none⟩ (.string x.1)).setCell ⟨w.heap.size,k * 5+1,none⟩ (.string x.2.1)).setCell ⟨w.heap.size,k * 5+2,none⟩ (.bool x.2.2.1.1)).setCell ⟨w.heap.size,k * 5+3,none⟩ (.slice A2 x.2.2.1.2.length c2)).setCell ⟨w.heap.size,k * 5+4,none⟩ (.int .i64 x.2.2.2)):=(((((bb1.setCell (p:=⟨w.heap.size,k * 5,none⟩) (Nat.le_refl _) _).setCell (p:=⟨w.heap.size,k * 5+1,none⟩) (Nat.le_refl _) _).setCell (p:=⟨w.heap.size,k * 5+2,none⟩) (Nat.le_refl _) _).setCell (p:=⟨w.heap.size,k * 5+3,none⟩) (Nat.le_refl _) _).setCell (p:=⟨w.heap.size,k * 5+4,none⟩) (Nat.le_refl _) _)
   have HF:=Lib.hid (show (((((xs.set (k * 5) (.string x.1)).set (k * 5+1) (.string x.2.1)).set (k * 5+2) (.bool x.2.2.1.1)).set (k * 5+3) (.slice A2 x.2.2.1.2.length c2)).set (k * 5+4) (.int .i64 x.2.2.2)).take ((k+1) * 5) = flatE (e ++ [(x.1,x.2.1,x.2.2.1.1,.slice A2 x.2.2.1.2.length c2,x.2.2.2)]) by
    rw [set_cellsE xs k _ _ _ _ _  (by omega),HX.out,flatE_append];rfl)
   have H3:=Lib.hid hp4
   have HE2:=Lib.hid hes2
   have HB3:=Lib.hid hb3
   clear hes hes1 hes2 ho ho1 hp0 hg0 hp1 hg1 hp2 hg2 hp3 hg3 hp4 hg4 hb3 o1 o0 l0 hu1 k0 k1 k2 k3 k4 hc0 hc1 hc2 hc3 hc4 hr b1 bb1
   go_wp2
   go_roundw
   case rel=>exact ⟨k+1,_,_,by omega,by go_num,H3.out,HF,HE2.out,HB3.out⟩
   case measure=>simp [intOf];omega
  ·obtain rfl:k = l.length:=by omega
   have hxs:=ho.1
   have he:xs = flatE e:=by rw [← HX.out,List.take_of_length_le (by omega)]
   rw [List.take_length] at hes
   have hlw:w.heap.size < wr.heap.size:=(own_lt ho (g:=w.heap.size) rfl).2
   have HO:=Lib.hid (show OwnEL (.slice (some ⟨w.heap.size,0,none⟩) l.length l.length) l w.heap.size wr.heap.size wr from ⟨w.heap.size,e,rfl,Nat.le_refl _,hlw,Nat.le_refl _,by rw [← he];exact ho,hes⟩)
   clear he hes hxs ho
   go_wp2
   go_ret
   exact ⟨_,rfl,HO.out,hb⟩
set_option maxHeartbeats 4000000 in
theorem eqRateS_any (va vb:Value) (ss ts:List EI) (w:World) (hl:ss.length ≤ 140737488355328) (hx:∀ x ∈ ss,capE x) (hra:RdEL w va ss) (hrb:RdEL w vb ts) :
 Calls Tryz.prog 30 #[va,vb] w fun e w'=>e = .returned (.bool (decide (ss = ts)))∧Below w.heap.size w w':=by
 obtain ⟨A,c,rfl,hA⟩:=hra
 obtain ⟨B,d,rfl,hB⟩:=hrb
 have HA:=Lib.hid hA
 have HB:=Lib.hid hB
 clear hA hB
 by_cases hlen:ss.length = ts.length
 ·have HL:=Lib.hid hlen
  have hbe:((ss.length:Int) != (ts.length:Int)) = false:=by simp [hlen]
  clear hlen
  go_enter Tryz.func30,Tryz.ntmps30
  go_wp2
  go_loopw [5] (fun i wr=>∃ k:Nat,k ≤ ss.length∧i = .int .i64 k∧Below w.heap.size w wr∧Hid (ss.take k = ts.take k)) (fun i _=>ss.length - (intOf i).toNat)
  case atStart=>exact ⟨0,Nat.zero_le _,rfl,Below.refl _ _,Lib.hid rfl⟩
  case round =>
   obtain ⟨k,hk,rfl,hb,HT⟩:=hrel
   by_cases hlt:k < ss.length
   ·have hlt2:k < ts.length:=by have:=HL.out;omega
    obtain ⟨a,u,rfl,ha,hc0,hc1,hc2,hc3,hc4,hr⟩:=HA.out k ss[k] (List.getElem?_eq_getElem hlt)
    obtain ⟨b,v,rfl,ha',hd0,hd1,hd2,hd3,hd4,hr'⟩:=HB.out k ts[k] (List.getElem?_eq_getElem hlt2)
    have hxl:=hx ss[k] (List.getElem_mem hlt)
    obtain ⟨A1,c1,rfl⟩:=row_form hr
    obtain ⟨B1,d1,rfl⟩:=row_form hr'
    rw [intsV_length] at hc3 hr hd3 hr'
    have HR:=Lib.hid (show ∀ W,Below w.heap.size w W→RdE W (.agg #[.string ss[k].1,.string ss[k].2.1,.bool ss[k].2.2.1.1,.slice A1 ss[k].2.2.1.2.length c1,.int .i64 ss[k].2.2.2]) ss[k] from fun W hb=>RdE.below ⟨_,rfl,hr⟩ hb)
    have HR':=Lib.hid (show ∀ W,Below w.heap.size w W→RdE W (.agg #[.string ts[k].1,.string ts[k].2.1,.bool ts[k].2.2.1.1,.slice B1 ts[k].2.2.1.2.length d1,.int .i64 ts[k].2.2.2]) ts[k] from fun W hb=>RdE.below ⟨_,rfl,hr'⟩ hb)
    have HCC:=Lib.hid (show a.block < w.heap.size∧b.block < w.heap.size∧w.cell? (a.add (k * 5)) = some (.string ss[k].1)∧w.cell? ⟨(a.add (k * 5)).block,(a.add (k * 5)).off+1,none⟩ = some (.string ss[k].2.1)∧w.cell? ⟨(a.add (k * 5)).block,(a.add (k * 5)).off+2,none⟩ = some (.bool ss[k].2.2.1.1)∧w.cell? ⟨(a.add (k * 5)).block,(a.add (k * 5)).off+3,none⟩ = some (.slice A1 ss[k].2.2.1.2.length c1)∧w.cell? ⟨(a.add (k * 5)).block,(a.add (k * 5)).off+4,none⟩ = some (.int .i64 ss[k].2.2.2)∧w.cell? (b.add (k * 5)) = some (.string ts[k].1)∧w.cell? ⟨(b.add (k * 5)).block,(b.add (k * 5)).off+1,none⟩ = some (.string ts[k].2.1)∧w.cell? ⟨(b.add (k * 5)).block,(b.add (k * 5)).off+2,none⟩ = some (.bool ts[k].2.2.1.1)∧w.cell? ⟨(b.add (k * 5)).block,(b.add (k * 5)).off+3,none⟩ = some (.slice B1 ts[k].2.2.1.2.length d1)∧w.cell? ⟨(b.add (k * 5)).block,(b.add (k * 5)).off+4,none⟩ = some (.int .i64 ts[k].2.2.2) from ⟨ha,ha',hc0,hc1,hc2,hc3,hc4,hd0,hd1,hd2,hd3,hd4⟩)
    have HTS:=Lib.hid (show (ss[k] = ts[k]→ss.take (k+1) = ts.take (k+1))∧(¬ ss[k] = ts[k]→¬ ss = ts) from ⟨take_same_succ HT.out hlt hlt2,ne_of_at hlt hlt2⟩)
    generalize ss[k] = x at *
    generalize ts[k] = y at *
    have KL:=Lib.hid (show ∀ W,Below w.heap.size w W→W.cell? (a.add (k * 5)) = some (.string x.1)∧W.cell? ⟨(a.add (k * 5)).block,(a.add (k * 5)).off+1,none⟩ = some (.string x.2.1)∧W.cell? ⟨(a.add (k * 5)).block,(a.add (k * 5)).off+2,none⟩ = some (.bool x.2.2.1.1)∧W.cell? ⟨(a.add (k * 5)).block,(a.add (k * 5)).off+3,none⟩ = some (.slice A1 x.2.2.1.2.length c1)∧W.cell? ⟨(a.add (k * 5)).block,(a.add (k * 5)).off+4,none⟩ = some (.int .i64 x.2.2.2)∧W.cell? (b.add (k * 5)) = some (.string y.1)∧W.cell? ⟨(b.add (k * 5)).block,(b.add (k * 5)).off+1,none⟩ = some (.string y.2.1)∧W.cell? ⟨(b.add (k * 5)).block,(b.add (k * 5)).off+2,none⟩ = some (.bool y.2.2.1.1)∧W.cell? ⟨(b.add (k * 5)).block,(b.add (k * 5)).off+3,none⟩ = some (.slice B1 y.2.2.1.2.length d1)∧W.cell? ⟨(b.add (k * 5)).block,(b.add (k * 5)).off+4,none⟩ = some (.int .i64 y.2.2.2)∧Hid (Below w.heap.size w W) from
     fun W hb=>by
      obtain ⟨h1,h2,h3,h4,h5,h6,h7,h8,h9,h10,h11,h12⟩:=HCC.out
      exact ⟨(cell_keep5' hb h1 k).trans h3,(cell_keep5 hb h1 k 1).trans h4,(cell_keep5 hb h1 k 2).trans h5,(cell_keep5 hb h1 k 3).trans h6,(cell_keep5 hb h1 k 4).trans h7,(cell_keep5' hb h2 k).trans h8,(cell_keep5 hb h2 k 1).trans h9,(cell_keep5 hb h2 k 2).trans h10,(cell_keep5 hb h2 k 3).trans h11,(cell_keep5 hb h2 k 4).trans h12,Lib.hid hb⟩)
    have HB0:=Lib.hid hb
    have HXL:=Lib.hid hxl
    clear hb hc0 hc1 hc2 hc3 hc4 hd0 hd1 hd2 hd3 hd4 hr hr' ha ha' hxl HCC
    go_wp2
    go_region_held3 (fun W=>W.cell? (a.add (k * 5)) = some (.string x.1)∧W.cell? ⟨(a.add (k * 5)).block,(a.add (k * 5)).off+1,none⟩ = some (.string x.2.1)∧W.cell? ⟨(a.add (k * 5)).block,(a.add (k * 5)).off+2,none⟩ = some (.bool x.2.2.1.1)∧W.cell? ⟨(a.add (k * 5)).block,(a.add (k * 5)).off+3,none⟩ = some (.slice A1 x.2.2.1.2.length c1)∧W.cell? ⟨(a.add (k * 5)).block,(a.add (k * 5)).off+4,none⟩ = some (.int .i64 x.2.2.2)∧W.cell? (b.add (k * 5)) = some (.string y.1)∧W.cell? ⟨(b.add (k * 5)).block,(b.add (k * 5)).off+1,none⟩ = some (.string y.2.1)∧W.cell? ⟨(b.add (k * 5)).block,(b.add (k * 5)).off+2,none⟩ = some (.bool y.2.2.1.1)∧W.cell? ⟨(b.add (k * 5)).block,(b.add (k * 5)).off+3,none⟩ = some (.slice B1 y.2.2.1.2.length d1)∧W.cell? ⟨(b.add (k * 5)).block,(b.add (k * 5)).off+4,none⟩ = some (.int .i64 y.2.2.2)∧Hid (Below w.heap.size w W))
     ((refine KL.out _ ?_;(first | exact HB1.out | exact HB0.out.drew | fail)))
     (first
       | (go_at_call 52;(have hBB:=(‹_∧_∧_∧_∧_∧_∧_∧_∧_∧_∧Hid (Below w.heap.size w _)›).2.2.2.2.2.2.2.2.2.2);(with_reducible refine (eqE_cal _ _ x y _ HXL.out (HR.out _ hBB.out) (HR'.out _ hBB.out)).mono ?_);rintro e w1 ⟨rfl,b1⟩;have HB1:=Lib.hid (Below.next hBB.out b1);clear hBB b1))
    by_cases he:x = y
    ·have hdt:decide (x = y) = true:=decide_eq_true he
     rw [hdt]
     have HE:=Lib.hid (HTS.out.1 he)
     clear hdt he
     go_wp2
     go_roundw
     case rel=>exact ⟨k+1,by omega,by go_num,HB1.out,HE⟩
     case measure=>simp [intOf];omega
    ·have hdt:decide (x = y) = false:=decide_eq_false he
     rw [hdt]
     have HE:=Lib.hid (HTS.out.2 he)
     clear hdt he
     go_wp2
     go_ret
     exact ⟨ret_bool (decide_eq_false HE.out).symm,HB1.out⟩
   ·go_wp2
    go_ret
    exact ⟨ret_bool (decide_eq_true (same_of_takes HT.out HL.out hlt)).symm,hb⟩
 ·have hbe:((ss.length:Int) != (ts.length:Int)) = true:=by simp;omega
  go_enter Tryz.func30,Tryz.ntmps30
  go_wp2
  go_ret
  exact ⟨ret_bool (decide_eq_false (fun e=>hlen (by rw [e]))).symm,Below.refl _ _⟩
def rangeE (lo hi:Nat):List Nat:=List.range' lo (hi - lo)
theorem mem_rangeE {lo hi g:Nat} (h:lo ≤ g) (h2:g < hi):g ∈ rangeE lo hi:=by
 unfold rangeE
 rw [List.mem_range'_1]
 omega
theorem rangeE_mem {lo hi g:Nat} (h:g ∈ rangeE lo hi):lo ≤ g∧g < hi:=by
 unfold rangeE at h
 rw [List.mem_range'_1] at h
 omega
def mkEL:List EI→Int
 | []=>0
 | x :: l=>4+x.2.2.1.2.length+mkEL l
theorem mkEL_nonneg (l:List EI):0 ≤ mkEL l:=by
 induction l with
 | nil=>exact Int.le_refl _
 | cons x l ih=>show 0 ≤ 4+(x.2.2.1.2.length:Int)+mkEL l;omega
theorem mkEL_len (l:List EI):(l.length:Int) ≤ mkEL l:=by
 induction l with
 | nil=>exact Int.le_refl _
 | cons x l ih=>show ((l.length+1:Nat):Int) ≤ 4+(x.2.2.1.2.length:Int)+mkEL l;omega
theorem mkEL_append (l r:List EI):mkEL (l ++ r) = mkEL l+mkEL r:=by
 induction l with
 | nil=>show mkEL r = 0+mkEL r;omega
 | cons x l ih=>show 4+(x.2.2.1.2.length:Int)+mkEL (l ++ r) = 4+(x.2.2.1.2.length:Int)+mkEL l+mkEL r;rw [ih];omega
theorem mkEL_take {l:List EI} {j:Nat} {x:EI} (h:l[j]? = some x):mkEL (l.take (j+1)) = mkEL (l.take j)+(4+x.2.2.1.2.length):=by
 have hj:=(List.getElem?_eq_some_iff.1 h).1
 have e:l[j] = x:=(List.getElem?_eq_some_iff.1 h).2
 rw [List.take_succ_eq_append_getElem hj,mkEL_append,e]
 show _+(4+(x.2.2.1.2.length:Int)+0) = _
 omega
theorem mkEL_take_le (l:List EI) (j:Nat):mkEL (l.take j) ≤ mkEL l:=by
 have:=mkEL_append (l.take j) (l.drop j)
 rw [List.take_append_drop] at this
 have:=mkEL_nonneg (l.drop j)
 omega
abbrev CE:Type:=ByteArray × ByteArray × Bool × Value × Int
def CellE (p:CE) (x:EI) (w:World):Prop:=p.1 = x.1∧p.2.1 = x.2.1∧p.2.2.1 = x.2.2.1.1∧p.2.2.2.2 = x.2.2.2∧OwnI p.2.2.2.1 x.2.2.1.2 w
def ApartE (v:Value) (e:List CE):Prop :=
 (∀ (i j:Nat) p q b,e[i]? = some p→e[j]? = some q→p.2.2.2.1.ownBlock = some b→q.2.2.2.1.ownBlock = some b→i = j)∧∀ (i:Nat) p b,e[i]? = some p→p.2.2.2.1.ownBlock = some b→v.ownBlock ≠ some b
def OwnEP (v:Value) (l:List EI) (w:World):Prop :=
 ∃ e:List CE,w.ownsRow 0 89 5 v l.length (flatE e)∧e.length = l.length∧(∀ (j:Nat) x p,l[j]? = some x→e[j]? = some p→CellE p x w)∧ApartE v e
def OwnER (w:World) (v:Value) (l:List EI):Prop :=
 ∃ A c,v = .slice A l.length c∧∀ (j:Nat) x,l[j]? = some x→∃ a u,A = some a∧a.block < w.heap.size∧w.cell? (a.add (j * 5)) = some (.string x.1)∧w.cell? ⟨(a.add (j * 5)).block,(a.add (j * 5)).off+1,none⟩ = some (.string x.2.1)∧w.cell? ⟨(a.add (j * 5)).block,(a.add (j * 5)).off+2,none⟩ = some (.bool x.2.2.1.1)∧w.cell? ⟨(a.add (j * 5)).block,(a.add (j * 5)).off+3,none⟩ = some u∧w.cell? ⟨(a.add (j * 5)).block,(a.add (j * 5)).off+4,none⟩ = some (.int .i64 x.2.2.2)∧OwnI u x.2.2.1.2 w
theorem OwnER.below {w w':World} {v:Value} {l:List EI} (h:OwnER w v l) (hb:Below w.heap.size w w'):OwnER w' v l:=by
 obtain ⟨A,c,rfl,h⟩:=h
 refine ⟨A,c,rfl,fun j x hj=>?_⟩
 obtain ⟨a,u,rfl,h1,h2,h3,h4,h5,h6,h7⟩:=h j x hj
 exact ⟨a,u,rfl,Nat.lt_of_lt_of_le h1 hb.size,(cell_keep5' hb h1 j).trans h2,(cell_keep5 hb h1 j 1).trans h3,(cell_keep5 hb h1 j 2).trans h4,(cell_keep5 hb h1 j 3).trans h5,(cell_keep5 hb h1 j 4).trans h6,own_below h7 hb⟩
theorem OwnER.rd {w:World} {v:Value} {l:List EI} (h:OwnER w v l):RdEL w v l:=by
 obtain ⟨A,c,rfl,h⟩:=h
 refine ⟨A,c,rfl,fun j x hj=>?_⟩
 obtain ⟨a,u,rfl,h1,h2,h3,h4,h5,h6,h7⟩:=h j x hj
 exact ⟨a,u,rfl,h1,h2,h3,h4,h5,h6,h7.row⟩
theorem own_lenE {w:World} {base n size:Nat} {e:TypeId} {v:Value} {xs:List Value} (h:w.ownsRow base e size v n xs):∃ A c,v = .slice A n c:=by
 rcases h.2 with ⟨rfl,rfl⟩ | ⟨g,cap,cur,rfl,_⟩
 ·exact ⟨_,_,rfl⟩
 ·exact ⟨_,_,rfl⟩
theorem own_lowE {w:World} {base base' n size:Nat} {e:TypeId} {v:Value} {xs:List Value} (h:w.ownsRow base e size v n xs) (hb:base' ≤ base):w.ownsRow base' e size v n xs:=by
 obtain ⟨hl,h | ⟨g,cap,cur,rfl,hg,r⟩⟩:=h
 ·exact ⟨hl,.inl h⟩
 ·exact ⟨hl,.inr ⟨g,cap,cur,rfl,by omega,r⟩⟩
theorem OwnEP.below {v:Value} {l:List EI} {w w':World} (h:OwnEP v l w) (hb:Below w.heap.size w w'):OwnEP v l w':=by
 obtain ⟨e,h4,h5,h6,h7⟩:=h
 refine ⟨e,own_below h4 hb,h5,fun j x p hx hp=>?_,h7⟩
 obtain ⟨e0,e1,e2,e3,ho⟩:=h6 j x p hx hp
 exact ⟨e0,e1,e2,e3,own_below ho hb⟩
theorem OwnEP.ownR {v:Value} {l:List EI} {w:World} (h:OwnEP v l w):OwnER w v l:=by
 obtain ⟨e,h4,hlen,h5,_⟩:=h
 obtain ⟨A,c,rfl⟩:=own_lenE h4
 refine ⟨A,c,rfl,fun j x hj=>?_⟩
 have hjl:=(List.getElem?_eq_some_iff.1 hj).1
 obtain ⟨g,cap,ev,_,hg,_⟩:=own_form h4 (by omega)
 cases ev
 obtain ⟨p,hp⟩:∃ p,e[j]? = some p:=⟨_,List.getElem?_eq_getElem (by omega)⟩
 obtain ⟨e0,e1,e2,e3,ho⟩:=h5 j x p hj hp
 have hf:=flatE_get hp
 rw [e0,e1,e2,e3] at hf
 refine ⟨⟨g,0,none⟩,p.2.2.2.1,rfl,hg,?_,?_,?_,?_,?_,ho⟩
 ·have:=h4.cellAt (j * 5) (by omega)
  rw [hf.1] at this
  rw [add_ownE]
  exact this
 ·have:=h4.cellAt (j * 5+1) (by omega)
  rw [hf.2.1] at this
  rw [add_ownE]
  exact this
 ·have:=h4.cellAt (j * 5+2) (by omega)
  rw [hf.2.2.1] at this
  rw [add_ownE]
  exact this
 ·have:=h4.cellAt (j * 5+3) (by omega)
  rw [hf.2.2.2.1] at this
  rw [add_ownE]
  exact this
 ·have:=h4.cellAt (j * 5+4) (by omega)
  rw [hf.2.2.2.2] at this
  rw [add_ownE]
  exact this
theorem OwnEG.blocks {w:World} {lo hi:Nat} {l:List EI} {e:List CE} (h:OwnEG w lo l e hi):∀ (i:Nat) p b,e[i]? = some p→p.2.2.2.1.ownBlock = some b→lo ≤ b∧b < hi:=by
 induction l generalizing lo e with
 | nil =>
   cases e with
   | nil=>intro i p b hp;simp at hp
   | cons _ _=>exact h.elim
 | cons x l ih =>
   cases e with
   | nil=>exact h.elim
   | cons q e =>
     obtain ⟨mid,h1,_,_,_,_,h3,h4,h5⟩:=h
     intro i p b hp hb
     have hle:=h5.le
     cases i with
     | zero =>
       obtain rfl:q = p:=by simpa using hp
       have:=h4 b hb
       exact ⟨(own_lt h3 hb).1,by omega⟩
     | succ i =>
       have:=ih h5 i p b (by simpa using hp) hb
       omega
theorem OwnEG.apart {w:World} {lo hi:Nat} {l:List EI} {e:List CE} (h:OwnEG w lo l e hi):∀ (i j:Nat) p q b,e[i]? = some p→e[j]? = some q→p.2.2.2.1.ownBlock = some b→q.2.2.2.1.ownBlock = some b→i = j:=by
 induction l generalizing lo e with
 | nil =>
   cases e with
   | nil=>intro i j p q b hp;simp at hp
   | cons _ _=>exact h.elim
 | cons x l ih =>
   cases e with
   | nil=>exact h.elim
   | cons r e =>
     obtain ⟨mid,h1,_,_,_,_,h3,h4,h5⟩:=h
     intro i j p q b hp hq hpb hqb
     cases i with
     | zero =>
       cases j with
       | zero=>rfl
       | succ j =>
         exfalso
         obtain rfl:r = p:=by simpa using hp
         have:=h4 b hpb
         have:=(h5.blocks j q b (by simpa using hq) hqb).1
         omega
     | succ i =>
       cases j with
       | zero =>
         exfalso
         obtain rfl:r = q:=by simpa using hq
         have:=h4 b hqb
         have:=(h5.blocks i p b (by simpa using hp) hpb).1
         omega
       | succ j=>rw [ih h5 i j p q b (by simpa using hp) (by simpa using hq) hpb hqb]
theorem OwnEL.own {v:Value} {l:List EI} {lo hi:Nat} {w:World} (h:OwnEL v l lo hi w):OwnEP v l w:=by
 obtain ⟨g,e,rfl,h1,h2,h3,h4,h5⟩:=h
 refine ⟨e,own_lowE h4 (Nat.zero_le _),h5.length,fun j x p hx hp=>?_,h5.apart,fun i p b hp hb hv=>?_⟩
 ·obtain ⟨u,he,ho⟩:=h5.at_ hx
  rw [he] at hp
  cases hp
  exact ⟨rfl,rfl,rfl,rfl,ho⟩
 ·have:=(h5.blocks i p b hp hb).1
  have hg:g = b:=by
   have:(some g:Option Nat) = some b:=hv
   injection this
  omega
theorem at_row_memE {S:List Nat} {φ:World→Prop} {w:World} {u:Value} {T:TypeId} {size:Nat} (hT:¬ T = 4) (h:At S φ w) (hi:∀ w',φ w'→∃ base n xs,w'.ownsRow base T size u n xs):∀ g,u.ownBlock = some g→g ∈ S:=by
 intro g hg
 rcases Classical.em (g ∈ S) with hin | hout
 ·exact hin
 ·exfalso
  obtain ⟨b1,n1,x1,h1⟩:=hi _ h.here
  obtain ⟨b2,n2,x2,hst⟩:=hi _ (h.stays { w with heap:=w.heap.set! g (.cells #[] 4 (0,0)) } (fun i hi=>by
   have:i ≠ g:=fun e=>hout (e ▸ hi)
   simp [Ne.symm this]))
  have hlt:=(own_lt h1 hg).2
  obtain ⟨_,⟨rfl,_⟩ | ⟨g',cap,cur,rfl,_,hh,_⟩⟩:=hst
  ·cases hg
  ·cases hg
   have hlt':g' < w.heap.size:=hlt
   have hh':(w.heap.setIfInBounds g' (.cells #[] 4 (0,0)))[g']? = some (.cells cur T (0,0)):=hh
   rw [Array.getElem?_setIfInBounds_self_of_lt hlt'] at hh'
   injection hh' with hh'
   injection hh' with e1 e2
   exact hT e2.symm
theorem atEP_mem {S:List Nat} {u:Value} {l:List EI} {w:World} (h:At S (OwnEP u l) w):∃ e:List CE,w.ownsRow 0 89 5 u l.length (flatE e)∧e.length = l.length∧(∀ (j:Nat) x p,l[j]? = some x→e[j]? = some p→CellE p x w)∧ApartE u e∧(∀ b,u.ownBlock = some b→b ∈ S)∧∀ p ∈ e,∀ b,p.2.2.2.1.ownBlock = some b→b ∈ S:=by
 have hg:∀ b,u.ownBlock = some b→b ∈ S:=at_row_memE (T:=89) (size:=5) (by decide) h (fun W k=>by
  obtain ⟨e,k4,_⟩:=k
  exact ⟨_,_,_,k4⟩)
 obtain ⟨e,h4,hl,h5,h6⟩:=h.here
 refine ⟨e,h4,hl,h5,h6,hg,fun p hp b hb=>?_⟩
 obtain ⟨j,hj⟩:=List.mem_iff_getElem?.1 hp
 have hjl:j < l.length:=by have:=(List.getElem?_eq_some_iff.1 hj).1;omega
 obtain ⟨x,hx⟩:∃ x,l[j]? = some x:=⟨_,List.getElem?_eq_getElem hjl⟩
 obtain ⟨g,cap,rfl,_,_,_⟩:=own_form h4 (by omega)
 have hgS:=hg g rfl
 have hc:=h4.cellAt (j * 5+3) (by omega)
 rw [(flatE_get hj).2.2.2.1] at hc
 have h':At S (fun W=>OwnEP (.slice (some ⟨g,0,none⟩) l.length cap) l W∧W.heap[g]? = w.heap[g]?) w:=⟨⟨h.here,rfl⟩,h.lt,fun W hk=>⟨h.stays W hk,hk g hgS⟩⟩
 refine at_row_memE (T:=3) (size:=1) (by decide) h' (fun W k=>?_) b hb
 obtain ⟨⟨e',k4,kl,k5,_⟩,kw⟩:=k
 obtain ⟨p',hp'⟩:∃ p',e'[j]? = some p':=⟨_,List.getElem?_eq_getElem (by omega)⟩
 obtain ⟨_,_,_,_,ho'⟩:=k5 j x p' hx hp'
 have hc':=k4.cellAt (j * 5+3) (by omega)
 rw [(flatE_get hp').2.2.2.1] at hc'
 have e3:W.cell? ⟨g,j * 5+3,none⟩ = w.cell? ⟨g,j * 5+3,none⟩:=World.cell?_of_block kw
 rw [e3,hc] at hc'
 rw [Option.some.inj hc']
 exact ⟨_,_,_,ho'⟩
def MarkedE (M:Int) (x:EI) (p:CE) (w:World):Prop :=
 p.1 = markB M∧p.2.1 = markB (M+1)∧p.2.2.1 = ((M+1+1) % 3 == 0)∧p.2.2.2.2 = M+1+1+1+x.2.2.1.2.length∧MarkI p.2.2.2.1 x.2.2.1.2 (M+1+1+1) w
def MkEP (v:Value) (l:List EI) (m:Int) (w:World):Prop :=
 ∃ e:List CE,w.ownsRow 0 89 5 v l.length (flatE e)∧e.length = l.length∧∀ (j:Nat) x p,l[j]? = some x→e[j]? = some p→MarkedE (m+mkEL (l.take j)) x p w
theorem flatE_set {e:List CE} {k:Nat} {p:CE} (h:e[k]? = some p) (a b:ByteArray) (c:Bool) (n:Int) :
 ((((flatE e).set (k * 5) (.string a)).set (k * 5+1) (.string b)).set (k * 5+2) (.bool c)).set (k * 5+4) (.int .i64 n) = flatE (e.set k (a,b,c,p.2.2.2.1,n)):=by
 induction e generalizing k with
 | nil=>simp at h
 | cons q e ih =>
   cases k with
   | zero =>
     obtain rfl:q = p:=by simpa using h
     rfl
   | succ k =>
     have:=ih (k:=k) (by simpa using h)
     rw [show (k+1) * 5 = k * 5+1+1+1+1+1 by omega,List.set_cons_succ]
     show _ = _ :: _ :: _ :: _ :: _ :: flatE (e.set k _)
     rw [← this]
     rfl
def MkRel (l:List EI) (e:List CE) (m:Int) (k:Nat) (f:List CE) (W:World):Prop :=
 f.length = e.length∧(∀ (j:Nat) p q,e[j]? = some p→f[j]? = some q→q.2.2.2.1 = p.2.2.2.1)∧∀ (j:Nat) x q,l[j]? = some x→f[j]? = some q→if j < k then MarkedE (m+mkEL (l.take j)) x q W else OwnI q.2.2.2.1 x.2.2.1.2 W
theorem mkRel_zero {l:List EI} {e:List CE} {m:Int} {w:World} (h:∀ (j:Nat) x p,l[j]? = some x→e[j]? = some p→CellE p x w):MkRel l e m 0 e w :=
 ⟨rfl,fun j p q hp hq=>by rw [hp] at hq;cases hq;rfl,fun j x q hx hq=>by rw [if_neg (Nat.not_lt_zero _)];exact (h j x q hx hq).2.2.2.2⟩
theorem mkRel_step {l:List EI} {e f:List CE} {m z:Int} {k g:Nat} {W W':World} {x:EI} {p:CE} (h:MkRel l e m k f W)
 (ha:∀ (i j:Nat) p q b,e[i]? = some p→e[j]? = some q→p.2.2.2.1.ownBlock = some b→q.2.2.2.1.ownBlock = some b→i = j) (hg:∀ (i:Nat) p b,e[i]? = some p→p.2.2.2.1.ownBlock = some b→¬ g = b)
 (hx:l[k]? = some x) (hp:f[k]? = some p) (c:Chg (g :: p.2.2.2.1.ownBlock.toList) W W') (hz:z = m+mkEL (l.take k)) (hm:MarkI p.2.2.2.1 x.2.2.1.2 (z+1+1+1) W') :
 MkRel l e m (k+1) (f.set k (markB z,markB (z+1),((z+1+1) % 3 == 0),p.2.2.2.1,z+1+1+1+x.2.2.1.2.length)) W':=by
 obtain ⟨h1,h2,h3⟩:=h
 have hkf:=(List.getElem?_eq_some_iff.1 hp).1
 have hpe:∀ (j:Nat) q,f[j]? = some q→∃ p0,e[j]? = some p0∧q.2.2.2.1 = p0.2.2.2.1:=fun j q hq=>by
  have hj:=(List.getElem?_eq_some_iff.1 hq).1
  exact ⟨_,List.getElem?_eq_getElem (by omega),h2 j _ q (List.getElem?_eq_getElem (by omega)) hq⟩
 refine ⟨by rw [List.length_set];exact h1,fun j p0 q hp0 hq=>?_,fun j y q hy hq=>?_⟩
 ·by_cases hj:k = j
  ·subst hj
   rw [List.getElem?_set_self hkf] at hq
   cases hq
   exact h2 k p0 p hp0 hp
  ·rw [List.getElem?_set_ne hj] at hq
   exact h2 j p0 q hp0 hq
 ·by_cases hj:k = j
  ·subst hj
   rw [List.getElem?_set_self hkf] at hq
   cases hq
   rw [hx] at hy
   cases hy
   rw [if_pos (Nat.lt_succ_self _)]
   subst hz
   exact ⟨rfl,rfl,rfl,rfl,hm⟩
  ·rw [List.getElem?_set_ne hj] at hq
   have hthis:=h3 j y q hy hq
   have hkeep:∀ b,q.2.2.2.1.ownBlock = some b→b < W.heap.size→W'.heap[b]? = W.heap[b]?:=fun b hb hlt=>c.block b hlt (fun hmem=>by
    obtain ⟨q0,hq0,eq0⟩:=hpe j q hq
    obtain ⟨p0,hp0,ep0⟩:=hpe k p hp
    rw [eq0] at hb
    rcases List.mem_cons.1 hmem with rfl | hmem
    ·exact hg j q0 _ hq0 hb rfl
    ·rw [ep0] at hmem
     exact hj (ha k j p0 q0 b hp0 hq0 (by simpa using hmem) hb))
   by_cases hjk:j < k
   ·rw [if_pos hjk] at hthis
    rw [if_pos (by omega)]
    obtain ⟨a1,a2,a3,a4,a5⟩:=hthis
    exact ⟨a1,a2,a3,a4,own_stays a5 fun b hb=>hkeep b hb (own_lt a5 hb).2⟩
   ·rw [if_neg hjk] at hthis
    rw [if_neg (by omega)]
    exact own_stays hthis fun b hb=>hkeep b hb (own_lt hthis hb).2
theorem mkRel_end {l:List EI} {e f:List CE} {m:Int} {W:World} {v:Value} (hl:e.length = l.length) (h:MkRel l e m l.length f W) (ho:W.ownsRow 0 89 5 v l.length (flatE f)):MkEP v l m W :=
 ⟨f,ho,by rw [h.1,hl],fun j x p hx hp=>by
  have:=h.2.2 j x p hx hp
  rwa [if_pos (List.getElem?_eq_some_iff.1 hx).1] at this⟩
theorem MkEP.stays {v:Value} {l:List EI} {m:Int} {w w':World} (h:MkEP v l m w) (hb:Below w.heap.size w w'):MkEP v l m w':=by
 obtain ⟨e,h1,h2,h3⟩:=h
 refine ⟨e,own_below h1 hb,h2,fun j x p hx hp=>?_⟩
 obtain ⟨a1,a2,a3,a4,a5⟩:=h3 j x p hx hp
 exact ⟨a1,a2,a3,a4,own_below a5 hb⟩
set_option maxHeartbeats 4000000 in
theorem markRateS_any (v:Value) (e:List CE) (l:List EI) (S:List Nat) (m:Int) (w:World) (hm:m+mkEL l ≤ 9223372036854775807) (hm0:0 ≤ m)
 (ho:w.ownsRow 0 89 5 v l.length (flatE e)) (hel:e.length = l.length) (hes:∀ (j:Nat) x p,l[j]? = some x→e[j]? = some p→CellE p x w) (hap:ApartE v e) (hTv:∀ b,v.ownBlock = some b→b ∈ S) (hTe:∀ p ∈ e,∀ b,p.2.2.2.1.ownBlock = some b→b ∈ S) :
 Calls Tryz.prog 31 #[v,.int .i64 m] w fun e' w'=>e' = .returned (.int .i64 (m+mkEL l))∧(∃ f,w'.ownsRow 0 89 5 v l.length (flatE f)∧MkRel l e m l.length f w')∧Chg S w w':=by
 have HEL:=Lib.hid hel
 have hln:=mkEL_nonneg l
 have hll:(l.length:Int) ≤ 9223372036854775807:=by have:=mkEL_len l;omega
 have HR0:=Lib.hid (mkRel_zero (m:=m) hes)
 have HAP:=Lib.hid hap
 have HTV:=Lib.hid hTv
 have HTE:=Lib.hid hTe
 clear hes hel hap hTv hTe
 obtain ⟨A,c,rfl⟩:=own_lenE ho
 go_enter Tryz.func31,Tryz.ntmps31
 go_wp2
 go_loopw [1,5] (fun a i wr=>∃ (k:Nat) (z:Int) (f:List CE),k ≤ l.length∧i = .int .i64 k∧a = .int .i64 z∧Hid (z = m+mkEL (l.take k))∧wr.ownsRow 0 89 5 (.slice A l.length c) l.length (flatE f)∧Hid (MkRel l e m k f wr)∧Chg S w wr) (fun _ i _=>l.length - (intOf i).toNat)
 case atStart=>exact ⟨0,m,e,Nat.zero_le _,rfl,rfl,Lib.hid (by rw [List.take_zero];show _ = _+(0:Int);omega),ho,HR0,Chg.refl _ _⟩
 case round =>
  clear ho HR0
  obtain ⟨k,z,f,hk,rfl,rfl,HZ,ho,HRL,hc⟩:=hrel
  by_cases hlt:k < l.length
  ·obtain ⟨x,hxk⟩:∃ x,l[k]? = some x:=⟨_,List.getElem?_eq_getElem hlt⟩
   obtain ⟨g,cap,ev,_,hgl,_⟩:=own_form ho (by omega)
   cases ev
   have hfl:f.length = l.length:=HRL.out.1.trans HEL.out
   obtain ⟨p,hpk⟩:∃ p,f[k]? = some p:=⟨_,List.getElem?_eq_getElem (by omega)⟩
   have hxs:(flatE f).length = l.length * 5:=ho.1
   have HT:=Lib.hid (mkEL_take hxk)
   have HTL:=Lib.hid (mkEL_take_le l (k+1))
   have HT0:=Lib.hid (mkEL_nonneg (l.take k))
   have hoi:OwnI p.2.2.2.1 x.2.2.1.2 wr:=by
    have:=HRL.out.2.2 k x p hxk hpk
    rwa [if_neg (Nat.lt_irrefl _)] at this
   obtain ⟨p0,hp0⟩:∃ p0,e[k]? = some p0:=⟨_,List.getElem?_eq_getElem (by have:=HEL.out;omega)⟩
   have hpp:p.2.2.2.1 = p0.2.2.2.1:=HRL.out.2.1 k p0 p hp0 hpk
   have hgp:∀ b,p.2.2.2.1.ownBlock = some b→¬ g = b:=fun b hb he=>HAP.out.2 k p0 b hp0 (hpp ▸ hb) (by rw [he];rfl)
   have hgS:g ∈ S:=HTV.out g rfl
   have hpS:∀ b,p.2.2.2.1.ownBlock = some b→b ∈ S:=fun b hb=>HTE.out p0 (List.mem_of_getElem? hp0) b (hpp ▸ hb)
   have HSTEP:=Lib.hid (show ∀ W',Chg (g :: p.2.2.2.1.ownBlock.toList) wr W'→MarkI p.2.2.2.1 x.2.2.1.2 (z+1+1+1) W'→MkRel l e m (k+1) (f.set k (markB z,markB (z+1),((z+1+1) % 3 == 0),p.2.2.2.1,z+1+1+1+x.2.2.1.2.length)) W' from
    fun W' hcW hmW=>mkRel_step HRL.out HAP.out.1 (fun i q b hq hb he=>HAP.out.2 i q b hq hb (by rw [he];rfl)) hxk hpk hcW HZ.out hmW)
   have HFS:=Lib.hid (flatE_set hpk (markB z) (markB (z+1)) ((z+1+1) % 3 == 0) (z+1+1+1+x.2.2.1.2.length))
   have hx3:(flatE f)[k * 5+3]? = some p.2.2.2.1:=(flatE_get hpk).2.2.2.1
   have hzb:0 ≤ z∧z+4+x.2.2.1.2.length ≤ 9223372036854775807∧z+1+1+1+x.2.2.1.2.length+1 = m+mkEL (l.take (k+1)):=by
    have h1:=HZ.out
    have h2:=HT.out
    have h3:=HTL.out
    have h4:=HT0.out
    omega
   have hz0:0 ≤ z:=hzb.1
   have hz1:z+4+x.2.2.1.2.length ≤ 9223372036854775807:=hzb.2.1
   have HZ2:=Lib.hid hzb.2.2
   have HO:=Lib.hid ho
   have HC0:=Lib.hid hc
   have HX3:=Lib.hid hx3
   have HOI:=Lib.hid hoi
   have HGP:=Lib.hid hgp
   have HGS:=Lib.hid (And.intro hgS hpS)
   have HXS:=Lib.hid hxs
   have HC:=Lib.hid (Chg.refl (g :: p.2.2.2.1.ownBlock.toList) wr)
   generalize p.2.2.2.1 = P at *
   generalize flatE f = xs at *
   clear hc hzb HT HTL HT0 ho hx3 hoi hgp hgS hpS HZ HRL hfl hpk hpp hxk hgl
   go_wp2_with fail
   refine (markText_any z _ (by omega)).mono ?_
   rintro e' w1 ⟨rfl,b1⟩
   have ho1:=own_below HO.out b1
   have hcell0:=ho1.cellAt (k * 5) (by omega)
   rw [List.getElem?_eq_getElem (by omega)] at hcell0
   have hfr0:=ho1.frozenAt (k * 5)
   obtain ⟨ho2,_⟩:=ho1.stored (k * 5) (.string (markB z))
   have H1:=Lib.hid ho2
   have H3:=Lib.hid (show OwnI P x.2.2.1.2 (w1.setCell ⟨g,k * 5,none⟩ (.string (markB z))) from own_stays (own_below HOI.out b1) fun i hi=>by
    rw [Below.heap_setCell _ _ _ _ (Ne.symm (HGP.out i hi))])
   have HC1:=Lib.hid ((HC.out.trans (Chg.of_below b1)).setCell (p:=⟨g,k * 5,none⟩) (List.mem_cons_self ..) (.string (markB z)))
   clear ho1 ho2 HO HC HOI b1
   generalize hM:markB z = M at *
   go_wp2_with fail
   clear hcell0 hfr0
   refine (markText_any (z+1) _ (by omega)).mono ?_
   rintro e' w2 ⟨rfl,b2⟩
   have ho3:=own_below H1.out b2
   have hcell1:=ho3.cellAt (k * 5+1) (by omega)
   have hcell2:=ho3.cellAt (k * 5+2) (by omega)
   rw [List.getElem?_eq_getElem (by rw [List.length_set];omega)] at hcell1 hcell2
   have hcell3:=ho3.cellAt (k * 5+3) (by omega)
   rw [List.getElem?_set_ne (by omega),HX3.out] at hcell3
   have hfr1:=ho3.frozenAt (k * 5+1)
   have hfr2:=ho3.frozenAt (k * 5+2)
   obtain ⟨ho4,_⟩:=ho3.stored (k * 5+1) (.string (markB (z+1)))
   obtain ⟨ho5,_⟩:=ho4.stored (k * 5+2) (.bool ((z+1+1) % 3 == 0))
   have K1:=Lib.hid ho5
   have K3:=Lib.hid (show ((w2.setCell ⟨g,k * 5+1,none⟩ (.string (markB (z+1)))).setCell ⟨g,k * 5+2,none⟩ (.bool ((z+1+1) % 3 == 0))).ownsRow 0 3 1 P x.2.2.1.2.length (intsV x.2.2.1.2) from own_stays (own_below H3.out b2) fun i hi=>by
    rw [Below.heap_setCell _ _ _ _ (Ne.symm (HGP.out i hi)),Below.heap_setCell _ _ _ _ (Ne.symm (HGP.out i hi))])
   have KC:=Lib.hid (((HC1.out.trans (Chg.of_below b2)).setCell (p:=⟨g,k * 5+1,none⟩) (List.mem_cons_self ..) (.string (markB (z+1)))).setCell (p:=⟨g,k * 5+2,none⟩) (List.mem_cons_self ..) (.bool ((z+1+1) % 3 == 0)))
   clear ho3 ho4 ho5 H1 H3 HC1 b2
   generalize hM2:markB (z+1) = M2 at *
   go_wp2_with fail
   with_reducible refine (markIntS_any P x.2.2.1.2.length (intsV x.2.2.1.2) 0 (z+1+1+1) _ (by omega) (by omega) K3.out).mono ?_
   rintro e' w3 ⟨rfl,o2,g2⟩
   clear hcell1 hcell2 hcell3 hfr1 hfr2
   have hlt2:=(own_lt K1.out (g:=g) rfl).2
   have ho6:w3.ownsRow 0 89 5 (.slice (some ⟨g,0,none⟩) l.length c) l.length (((xs.set (k * 5) (.string M)).set (k * 5+1) (.string M2)).set (k * 5+2) (.bool ((z+1+1) % 3 == 0))):=own_stays K1.out fun i hi=>by
    cases hi
    exact g2.block g hlt2 (fun e=>HGP.out g e.symm rfl)
   have hc2:=KC.out.trans ((Chg.of_grown g2).more (T:=P.ownBlock.toList) fun i hi=>List.mem_cons_of_mem _ hi)
   have hcell4:=ho6.cellAt (k * 5+4) (by omega)
   rw [List.getElem?_eq_getElem (by rw [List.length_set,List.length_set,List.length_set];omega)] at hcell4
   have hfr4:=ho6.frozenAt (k * 5+4)
   obtain ⟨ho7,_⟩:=ho6.stored (k * 5+4) (.int .i64 (z+1+1+1+x.2.2.1.2.length))
   have HC7:=Lib.hid (hc2.setCell (p:=⟨g,k * 5+4,none⟩) (List.mem_cons_self ..) (.int .i64 (z+1+1+1+x.2.2.1.2.length)))
   have HM7:=Lib.hid (show MarkI P x.2.2.1.2 (z+1+1+1) (w3.setCell ⟨g,k * 5+4,none⟩ (.int .i64 (z+1+1+1+x.2.2.1.2.length))) from own_stays o2 fun i hi=>by
    rw [Below.heap_setCell _ _ _ _ (Ne.symm (HGP.out i hi))])
   have HR7:=Lib.hid (HSTEP.out _ HC7.out HM7.out)
   have HO7:=Lib.hid (HFS.out ▸ ho7)
   have HS7:=Lib.hid (HC0.out.trans (HC7.out.more fun i hi=>by
    rcases List.mem_cons.1 hi with rfl | hi
    ·exact HGS.out.1
    ·exact HGS.out.2 i (by simpa using hi)))
   clear ho6 ho7 hc2 g2 o2 K1 K3 KC HSTEP HFS HC7 HM7
   go_wp2
   go_roundw
   case rel=>exact ⟨k+1,_,_,by omega,by go_num,rfl,HZ2,HO7.out,HR7,HS7.out⟩
   case measure=>simp [intOf];omega
  ·obtain rfl:k = l.length:=by omega
   have HV:=Lib.hid (show m+mkEL l = z by
    have h3:=HZ.out
    rw [List.take_length] at h3
    omega)
   go_wp2
   go_ret
   exact ⟨ret_int HV.out.symm,⟨f,ho,HRL.out⟩,hc⟩
instance decEqT:DecidableEq TI:=fun x y=>@instDecidableEqProd _ _ inferInstance (fun _ _=>inferInstance) x y
theorem ownEL_at {v:Value} {l:List EI} {lo hi:Nat} {w:World} (h:OwnEL v l lo hi w):At (rangeE lo hi) (OwnEL v l lo hi) w:=by
 have hh:=h
 obtain ⟨g,e,rfl,h1,h2,h3,h4,h5⟩:=hh
 refine ⟨h,fun i hi=>by have:=rangeE_mem hi;omega,fun w' hk=>?_⟩
 have hz:hi ≤ w'.heap.size:=by
  have hm:=hk (hi - 1) (mem_rangeE (by omega) (by omega))
  rw [Array.getElem?_eq_getElem (show hi - 1 < w.heap.size by omega)] at hm
  have:=(Array.getElem?_eq_some_iff.1 hm).1
  omega
 exact ⟨g,e,rfl,h1,h2,hz,own_stays h4 fun i hi=>by cases hi;exact hk g (mem_rangeE h1 h2),h5.stays fun i hi hi2=>hk i (mem_rangeE (by omega) hi2)⟩
def OwnT (v:Value) (q:TI) (w:World):Prop:=∃ u,v = .agg #[.string q.1,u]∧OwnEP u q.2 w
def RdT (w:World) (v:Value) (q:TI):Prop:=∃ u,v = .agg #[.string q.1,u]∧RdEL w u q.2
theorem OwnT.rd {v:Value} {q:TI} {w:World} (h:OwnT v q w):RdT w v q:=by
 obtain ⟨u,rfl,o⟩:=h
 exact ⟨u,rfl,o.ownR.rd⟩
theorem OwnT.below {w W:World} {v:Value} {q:TI} (h:OwnT v q w) (hb:Below w.heap.size w W):OwnT v q W:=by
 obtain ⟨u,rfl,o⟩:=h
 exact ⟨u,rfl,o.below hb⟩
theorem RdT.below {w W:World} {v:Value} {q:TI} (h:RdT w v q) (hb:Below w.heap.size w W):RdT W v q:=by
 obtain ⟨u,rfl,o⟩:=h
 exact ⟨u,rfl,o.below hb⟩
def szT (q:TI):Int:=q.1.size+(q.2.length+szEL q.2)
def mkT (q:TI):Int:=mkEL q.2
def capT (q:TI):Prop:=q.1.size ≤ 9223372036854775807∧q.2.length ≤ 9223372036854775807∧∀ x ∈ q.2,capE x
theorem szT_nonneg (q:TI):0 ≤ szT q:=by have:=szEL_nonneg q.2;unfold szT;omega
theorem szT_mem {q:TI} (h:szT q ≤ 1048576):q.2.length ≤ 1048576∧∀ x ∈ q.2,szE x ≤ 1048576:=by
 have h0:=szEL_nonneg q.2
 unfold szT at h
 exact ⟨by omega,fun x hx=>by have:=szEL_mem hx;omega⟩
theorem capT_of {q:TI} (h:szT q ≤ 1048576):capT q:=by
 obtain ⟨h1,h2⟩:=szT_mem h
 have h0:=szEL_nonneg q.2
 refine ⟨?_,by omega,fun x hx=>capE_of (h2 x hx)⟩
 unfold szT at h
 omega
theorem rdT_form {v:Value} {q:TI} {w:World} (h:RdT w v q):∃ A c,v = .agg #[.string q.1,.slice A q.2.length c]:=by
 obtain ⟨u,rfl,o⟩:=h
 obtain ⟨A,c,rfl,_⟩:=o
 exact ⟨A,c,rfl⟩
theorem ownT_form {v:Value} {q:TI} {w:World} (h:OwnT v q w):∃ A c,v = .agg #[.string q.1,.slice A q.2.length c]:=rdT_form h.rd
theorem ownT_open {u c:Value} {q:TI} {w:World} (h:OwnT (.agg #[c,u]) q w):OwnEP u q.2 w:=by
 obtain ⟨u',e,hu⟩:=h
 injection e with e
 simp at e
 obtain ⟨_,e2⟩:=e
 subst e2
 exact hu
theorem rdT_open {u c:Value} {q:TI} {w:World} (h:RdT w (.agg #[c,u]) q):RdEL w u q.2:=by
 obtain ⟨u',e,hu⟩:=h
 injection e with e
 simp at e
 obtain ⟨_,e2⟩:=e
 subst e2
 exact hu
theorem mkEL_le (l:List EI):mkEL l ≤ 4 * (l.length+szEL l):=by
 induction l with
 | nil=>exact Int.le_refl _
 | cons x l ih =>
   show 4+(x.2.2.1.2.length:Int)+mkEL l ≤ 4 * (((l.length+1:Nat):Int)+(szE x+szEL l))
   have:(x.2.2.1.2.length:Int) ≤ szE x:=by unfold szE szD szS szI;omega
   have h0:=szE_nonneg x
   omega
theorem mkT_range (q:TI):0 ≤ mkT q∧mkT q ≤ 4 * szT q:=by
 have h1:=mkEL_nonneg q.2
 have h2:=mkEL_le q.2
 unfold mkT szT
 omega
def capTS (q:TI):Prop:=capT q∧q.2.length ≤ 1099511627776
theorem capTS_of {q:TI} (h:szT q ≤ 1048576):capTS q:=⟨capT_of h,by have:=(szT_mem h).1;omega⟩
set_option maxHeartbeats 1000000 in
theorem szT_cal (v:Value) (x:TI) (left:Int) (w:World) (hl:capT x) (h0:0 ≤ left) (h1:left ≤ 1048576) (h:RdT w v x):Calls Tryz.prog 4 #[v,.int .i64 left] w (Postn (leftI left (szT x)) w):=by
 obtain ⟨A,c,rfl⟩:=rdT_form h
 have hb:=below_al (Below.refl w.heap.size w) (.cells #[.string x.1,.slice A x.2.length c] 24)
 have kx:=box_new w #[.string x.1,.slice A x.2.length c] 24
 have kx_c0:=kx.here.cell 0 _ rfl
 have kx_c1:=kx.here.cell 1 _ rfl
 obtain ⟨hl1,hl2,hl3⟩:=hl
 have hd0:=szEL_nonneg x.2
 have HSD:=Lib.hid (fun (z:Int) (hz0:0 ≤ z) (hz1:z ≤ 1048576)=>szRateS_any (.slice A x.2.length c) x.2 z _ (by omega) hl3 hz0 hz1 ((rdT_open h).below hb))
 clear h hl3
 by_cases hs:left - x.1.size < 0
 ·have HV:=Lib.hid (show leftI left (szT x) = -1 by unfold leftI szT;rw [if_pos (by omega)])
  have hw:IntKind.i64.wrap (left - (x.1.size:Int)) = left - x.1.size:=IntWalk.i64_in _ (by omega)
  have hneg:decide (left - (x.1.size:Int) < 0) = true:=decide_eq_true hs
  clear hs kx HSD
  go_enter Tryz.func4,Tryz.ntmps4
  go_wp2
  go_ret
  exact ⟨ret_int HV.out.symm,hb⟩
 ·obtain ⟨z0,hz0⟩:∃ z0:Int,left - x.1.size = z0:=⟨_,rfl⟩
  have hw:IntKind.i64.wrap (left - (x.1.size:Int)) = z0:=by rw [IntWalk.i64_in _ (by omega)];exact hz0
  have hneg0:decide (z0 < 0) = false:=decide_eq_false (by omega)
  have HZ:=Lib.hid (show 0 ≤ z0∧z0 ≤ 1048576 by omega)
  have HLL:=Lib.hid (show leftI left (szT x) = leftI z0 (x.2.length+szEL x.2) by unfold leftI szT;rw [show left - ((x.1.size:Int)+(x.2.length+szEL x.2)) = z0 - (x.2.length+szEL x.2) by omega])
  clear hs hz0
  go_enter Tryz.func4,Tryz.ntmps4
  go_wp2_with fail
  clear kx_c0 kx_c1 kx
  refine (HSD.out z0 HZ.out.1 HZ.out.2).mono ?_
  rintro e w1 ⟨rfl,b1⟩
  have bb1:=Lib.hid (Below.next hb b1)
  have hq:leftI z0 (x.2.length+szEL x.2) < 0∧leftI z0 (x.2.length+szEL x.2) = -1 ∨ ¬ leftI z0 (x.2.length+szEL x.2) < 0:=by unfold leftI;split <;> omega
  generalize leftI z0 (x.2.length+szEL x.2) = z at *
  clear hb b1 HZ HSD
  rcases hq with ⟨h2,h3⟩ | h2
  ·have hneg:decide (z < 0) = true:=decide_eq_true h2
   have H3:=Lib.hid h3
   clear h2 h3
   go_wp2
   go_ret
   exact ⟨ret_int (H3.out.symm.trans HLL.out.symm),bb1.out⟩
  ·have hneg:decide (z < 0) = false:=decide_eq_false h2
   clear h2
   go_wp2
   go_ret
   exact ⟨ret_int HLL.out.symm,bb1.out⟩
set_option maxHeartbeats 1000000 in
theorem eqT_cal (u v:Value) (x y:TI) (w:World) (hz:capTS x) (hu:RdT w u x) (hv:RdT w v y):Calls Tryz.prog 12 #[u,v] w (Postb (decide (x = y)) w):=by
 obtain ⟨Ap,cp,rfl⟩:=rdT_form hu
 obtain ⟨Aq,cq,rfl⟩:=rdT_form hv
 have hb:Below w.heap.size w ((w.alloc (.cells #[.string x.1,.slice Ap x.2.length cp] 41)).alloc (.cells #[.string y.1,.slice Aq y.2.length cq] 41)):=below_al (below_al (Below.refl _ _) _) _
 have kx:=(box_new w #[.string x.1,.slice Ap x.2.length cp] 41).below (below_al (Below.refl _ _) (.cells #[.string y.1,.slice Aq y.2.length cq] 41))
 have ky:=box_new (w.alloc (.cells #[.string x.1,.slice Ap x.2.length cp] 41)) #[.string y.1,.slice Aq y.2.length cq] 41
 rw [show (w.alloc (.cells #[.string x.1,.slice Ap x.2.length cp] 41)).heap.size = w.heap.size+1 by simp] at ky
 have kx_c0:=kx.here.cell 0 _ rfl
 have kx_c1:=kx.here.cell 1 _ rfl
 have ky_c0:=ky.here.cell 0 _ rfl
 have ky_c1:=ky.here.cell 1 _ rfl
 have HE:=Lib.hid (eqRateS_any (.slice Ap x.2.length cp) (.slice Aq y.2.length cq) x.2 y.2 _ (by have:=hz.2;omega) hz.1.2.2 ((rdT_open hu).below hb) ((rdT_open hv).below hb))
 have HB:=Lib.hid hb
 clear kx ky hb hu hv hz
 by_cases h1:x.1 = y.1
 ·have HV:=Lib.hid (show decide (x = y) = decide (x.2 = y.2) from decide_eq_decide.2 ⟨fun e=>by rw [e],fun e=>Prod.ext h1 e⟩)
  rw [← h1] at ky_c0 HE HB
  have H1:=Lib.hid h1
  clear h1
  go_enter Tryz.func12,Tryz.ntmps12
  rw [← H1.out]
  go_wp2_with fail
  refine HE.out.mono ?_
  rintro e w1 ⟨rfl,b1⟩
  have bb1:=Lib.hid (Below.next HB.out b1)
  clear kx_c0 kx_c1 ky_c0 ky_c1 b1
  by_cases h3:x.2 = y.2
  ·rw [decide_eq_true h3] at HV ⊢
   clear h3
   go_wp2
   go_ret
   exact ⟨ret_bool HV.out.symm,bb1.out⟩
  ·rw [decide_eq_false h3] at HV ⊢
   clear h3
   go_wp2
   go_ret
   exact ⟨ret_bool HV.out.symm,bb1.out⟩
 ·have hne:=bytes_neC h1
  have hne2:(x.1.toList != y.1.toList) = true:=by rw [bne,hne];rfl
  have HV:=Lib.hid (show decide (x = y) = false from decide_eq_false (fun e=>h1 (by rw [e])))
  clear h1 HE
  go_enter Tryz.func12,Tryz.ntmps12
  go_wp2
  go_ret
  exact ⟨ret_bool HV.out.symm,HB.out⟩
theorem newEL_at {l:List EI} {w w':World} {e:Ending} (h:NewEL l w e w'):∃ v S,e = .returned v∧At S (OwnEP v l) w'∧Within S w.heap.size w'.heap.size∧Below w.heap.size w w'∧∃ A c,v = .slice A l.length c:=by
 obtain ⟨v,rfl,o,b⟩:=h
 refine ⟨v,_,rfl,(ownEL_at o).imp fun _ k=>k.own,fun i hi=>rangeE_mem hi,b,?_⟩
 obtain ⟨g,e,rfl,_⟩:=o
 exact ⟨_,_,rfl⟩
set_option maxHeartbeats 2000000 in
theorem toT_new (v:Value) (x:TI) (w:World) (hz:szT x ≤ 1048576) (h:RdT w v x):Calls Tryz.prog 7 #[v] w (NewV (fun u=>OwnT u x) w):=by
 obtain ⟨hl,hx⟩:=szT_mem hz
 obtain ⟨A,c,rfl⟩:=rdT_form h
 have h3:=alloc3 w (.cells #[.string x.1,.slice A x.2.length c] 24) (.cells #[.string ⟨#[]⟩,.slice none 0 0] 41) (.cells #[.string x.1,.slice none 0 0] 41)
 have hb3:=below3 w (.cells #[.string x.1,.slice A x.2.length c] 24) (.cells #[.string ⟨#[]⟩,.slice none 0 0] 41) (.cells #[.string x.1,.slice none 0 0] 41)
 obtain ⟨W0,hW0⟩:∃ W0,W0 = (((w.alloc (.cells #[.string x.1,.slice A x.2.length c] 24)).alloc (.cells #[.string ⟨#[]⟩,.slice none 0 0] 41)).alloc (.cells #[.string x.1,.slice none 0 0] 41)):=⟨_,rfl⟩
 rw [← hW0] at h3 hb3
 have kb:At [w.heap.size] (BoxAt w.heap.size #[.string x.1,.slice A x.2.length c] 24) W0:=box_at h3.1
 have kr:At [w.heap.size+1] (BoxAt (w.heap.size+1) #[.string ⟨#[]⟩,.slice none 0 0] 41) W0:=box_at h3.2.1
 have ko:At [w.heap.size+1+1] (BoxAt (w.heap.size+1+1) #[.string x.1,.slice none 0 0] 41) W0:=box_at h3.2.2.1
 have hz0:W0.heap.size = w.heap.size+3:=h3.2.2.2
 have HW:=Lib.hid hW0
 clear h3 hW0
 have kb_c0:=kb.here.cell 0 _ rfl
 have kb_c1:=kb.here.cell 1 _ rfl
 go_enter Tryz.func7,Tryz.ntmps7
 go_wp2_with fail
 rw [← HW.out]
 refine (toRateS_any (.slice A x.2.length c) x.2 _ hl hx ((rdT_open h).below hb3)).mono ?_
 intro e w1 hnew
 obtain ⟨u,Su,rfl,o1,l1,b1,Au,cu,rfl⟩:=newEL_at hnew
 clear hnew
 have bb1:=Below.next hb3 b1
 replace kb:=kb.below b1
 replace kr:=kr.below b1
 replace ko:=ko.below b1
 have HR:=Lib.hid (newV_chgM (φ:=fun u=>OwnT u x) (v:=.agg #[.string x.1,.slice Au x.2.length cu]) (T:=[w.heap.size+1,w.heap.size+1+1]) (o1.imp fun _ h=>(⟨_,rfl,h⟩:OwnT _ x _)) (fun i hi hm=>by have:=(l1 i hi).1;simp at hm;omega) (fun i hi=>by simp at hi;omega) (fun i hi=>by have:=(l1 i hi).1;omega) bb1)
 have ko_c0:=ko.here.cell 0 _ rfl
 have ko_c1:=ko.here.cell 1 _ rfl
 have ko_f0:=Lib.frozen_of_heap ko.here 0
 have ko_f1:=Lib.frozen_of_heap ko.here 1
 have kr_c0:=kr.here.cell 0 _ rfl
 have kr_c1:=kr.here.cell 1 _ rfl
 have kr_f0:=Lib.frozen_of_heap kr.here 0
 have kr_f1:=Lib.frozen_of_heap kr.here 1
 clear kb kr ko o1 b1 bb1 h kb_c0 kb_c1
 go_wp2
 refine bodyPost_ret (v:=.agg #[.string x.1,.slice Au x.2.length cu]) (by simp [results,Tryz.results7,go_sem,kr_c0,kr_c1]) rfl ?_
 refine HR.out _ ?_
 repeat (first | with_reducible exact Chg.refl _ _ | with_reducible refine Chg.setCell ?_ (by simp) _)
def MarkT (v:Value) (x:TI) (m:Int) (w:World):Prop:=∃ u,v = .agg #[.string x.1,u]∧MkEP u x.2 m w
theorem mkRel_at {l:List EI} {e f:List CE} {m:Int} {W:World} {v:Value} {S:List Nat} (hl:e.length = l.length) (h:MkRel l e m l.length f W) (ho:W.ownsRow 0 89 5 v l.length (flatE f)) (h7:∀ b,v.ownBlock = some b→b ∈ S) (h8:∀ p ∈ e,∀ b,p.2.2.2.1.ownBlock = some b→b ∈ S)
 (hS:∀ g ∈ S,g < W.heap.size):At S (MkEP v l m) W :=
 ⟨mkRel_end hl h ho,hS,fun w' hk=>⟨f,own_stays ho fun g hg=>hk g (h7 g hg),by rw [h.1,hl],fun j x p hx hp=>by
  have h3:=h.2.2 j x p hx hp
  rw [if_pos (List.getElem?_eq_some_iff.1 hx).1] at h3
  obtain ⟨a1,a2,a3,a4,a5⟩:=h3
  refine ⟨a1,a2,a3,a4,own_stays a5 fun g hg=>hk g ?_⟩
  have hj:=(List.getElem?_eq_some_iff.1 hp).1
  have hje:j < e.length:=by have:=h.1;omega
  have:=h.2.1 j _ p (List.getElem?_eq_getElem hje) hp
  exact h8 _ (List.getElem_mem hje) g (this ▸ hg)⟩⟩
set_option maxHeartbeats 1000000 in
theorem markT_cal (v:Value) (x:TI) (S:List Nat) (m:Int) (w:World) (hm:m+mkT x ≤ 9223372036854775807) (hm0:0 ≤ m) (h:At S (OwnT v x) w) :
 Calls Tryz.prog 13 #[v,.int .i64 m] w fun e w'=>e = .returned (.int .i64 (m+mkT x))∧At S (MarkT v x m) w'∧Chg S w w':=by
 obtain ⟨A,c,rfl⟩:=ownT_form h.here
 have hbx:=below_al (Below.refl w.heap.size w) (.cells #[.string x.1,.slice A x.2.length c] 41)
 have kx:=box_new w #[.string x.1,.slice A x.2.length c] 41
 have ax:At S (OwnEP (.slice A x.2.length c) x.2) _:=(h.below hbx).imp fun _ k=>ownT_open k
 obtain ⟨e,h4,hl,h5,h6,h7,h8⟩:=atEP_mem ax
 have kx_c0:=kx.here.cell 0 _ rfl
 have kx_c1:=kx.here.cell 1 _ rfl
 have HZ:=Lib.hid (show mkT x = mkEL x.2 from rfl)
 have HBX:=Lib.hid hbx
 have HLT:=Lib.hid h.lt
 have HM:=Lib.hid (markRateS_any _ e x.2 S m _ hm hm0 h4 hl h5 h6 h7 h8)
 have H7:=Lib.hid h7
 have H8:=Lib.hid h8
 have HL:=Lib.hid hl
 clear h kx ax h4 hl h5 h6 h7 h8
 go_enter Tryz.func13,Tryz.ntmps13
 go_wp2_with fail
 clear kx_c0 kx_c1
 refine HM.out.mono ?_
 rintro e' w1 ⟨rfl,⟨f,hf,hfr⟩,c1⟩
 have hchg:=Lib.hid ((Chg.of_below HBX.out).trans c1:Chg S w w1)
 have hall:=Lib.hid ((mkRel_at HL.out hfr hf H7.out H8.out (fun i hi=>Nat.lt_of_lt_of_le (HLT.out i hi) hchg.out.size)).imp fun _ k=>(⟨_,rfl,k⟩:MarkT (.agg #[.string x.1,.slice A x.2.length c]) x m _))
 clear c1 HM hf hfr
 go_wp2
 go_ret
 exact ⟨ret_int (by rw [HZ.out]),hall.out,hchg.out⟩
abbrev QI:Type:=SI × List Int
def zeroQ:QI:=(zeroS,[])
def okQ (q:QI):Bool:=okS q.1 && natOkB q.2 && decide (0 < q.2.length∧q.2.length ≤ 18∧q.1.2.length ≤ 18∧Nat.gcd (nval q.1.2).toNat (nval q.2).toNat = 1)
def lowQ (n:Bool) (a b:Nat):QI × Bool :=
 if b ≠ 0∧(limbs (a / Nat.gcd a b)).length ≤ 18∧(limbs (b / Nat.gcd a b)).length ≤ 18 then ((mkS n (limbs (a / Nat.gcd a b)),limbs (b / Nat.gcd a b)),true) else (zeroQ,false)
def numQ (q:QI):Int:=valS q.1
def denQ (q:QI):Nat:=(nval q.2).toNat
theorem okQ_parts {q:QI} (h:okQ q = true):okS q.1 = true∧natOkB q.2 = true∧0 < q.2.length∧q.2.length ≤ 18∧q.1.2.length ≤ 18∧Nat.gcd (nval q.1.2).toNat (nval q.2).toNat = 1:=by
 unfold okQ at h
 rw [Bool.and_eq_true,Bool.and_eq_true,decide_eq_true_eq] at h
 exact ⟨h.1.1,h.1.2,h.2.1,h.2.2.1,h.2.2.2.1,h.2.2.2.2⟩
def makeQ (x y:SI):QI × Bool:=if okS x = true∧okS y = true then lowQ (x.1 != y.1) (nval x.2).toNat (nval y.2).toNat else (zeroQ,false)
def addQ (r s:QI):QI × Bool:=if okQ r = true∧okQ s = true then lowQ (decide (numQ r * denQ s+numQ s * denQ r < 0)) (numQ r * denQ s+numQ s * denQ r).natAbs (denQ r * denQ s) else (zeroQ,false)
def negQ (r:QI):QI × Bool:=if okQ r = true then ((negS r.1,r.2),true) else (zeroQ,false)
def mulQ (r s:QI):QI × Bool:=if okQ r = true∧okQ s = true then lowQ (r.1.1 != s.1.1) ((nval r.1.2).toNat * (nval s.1.2).toNat) (denQ r * denQ s) else (zeroQ,false)
def divQ (r s:QI):QI × Bool:=if okQ r = true∧okQ s = true then lowQ (r.1.1 != s.1.1) ((nval r.1.2).toNat * denQ s) (denQ r * (nval s.1.2).toNat) else (zeroQ,false)
def subQ (r s:QI):QI × Bool:=if (negQ s).2 = true then addQ r (negQ s).1 else (zeroQ,false)
def oneQ:QI:=(zeroS,[1])
theorem denQ_pos {q:QI} (h:okQ q = true):0 < denQ q:=by
 have hp:=okQ_parts h
 have h1:=ok_ge hp.2.1 hp.2.2.1
 have h2:=bp_pos (q.2.length - 1)
 unfold denQ
 omega
theorem oneQ_ok:okQ oneQ = true:=by
 have e:nval [1] = 1:=rfl
 unfold okQ oneQ
 rw [e]
 rfl
theorem limbs_18 {n:Bool} {m:Nat} (h:(limbs m).length ≤ 18):mkS n (limbs m) = (n && decide (0 < (limbs m).length),limbs m):=by
 unfold mkS capL
 rw [if_neg (by omega)]
theorem lowQ_ok (n:Bool) (a b:Nat) (h:(lowQ n a b).2 = true):okQ (lowQ n a b).1 = true:=by
 unfold lowQ at h ⊢
 split
 ·rename_i hc
  obtain ⟨hb,h1,h2⟩:=hc
  have hg:0 < Nat.gcd a b:=Nat.gcd_pos_of_pos_right _ (by omega)
  have hbq:b / Nat.gcd a b ≠ 0:=by
   have:=Nat.div_pos (Nat.le_of_dvd (by omega) (Nat.gcd_dvd_right a b)) hg
   omega
  have hlb:0 < (limbs (b / Nat.gcd a b)).length:=by
   rcases Nat.eq_zero_or_pos (limbs (b / Nat.gcd a b)).length with h0 | h0
   ·exact absurd ((limbs_zero_iff _).1 h0) hbq
   ·exact h0
  have hs:okS (mkS n (limbs (a / Nat.gcd a b))) = true:=by rw [mkS_limbs];exact ofZ_ok _
  have e2:(mkS n (limbs (a / Nat.gcd a b))).2 = limbs (a / Nat.gcd a b):=by rw [limbs_18 h1]
  unfold okQ
  simp only
  rw [hs,limbs_okL _ (by omega),e2,limbs_val,limbs_val,Int.toNat_natCast,Int.toNat_natCast]
  simp only [Bool.true_and,decide_eq_true_eq]
  exact ⟨hlb,h2,h1,Nat.gcd_div_gcd_div_gcd_of_pos_right (by omega)⟩
 ·rename_i hc
  rw [if_neg hc] at h
  cases h
def OwnQ (v:Value) (q:QI) (w:World):Prop:=∃ u d,v = .agg #[.bool q.1.1,u,d]∧OwnI u q.1.2 w∧OwnI d q.2 w∧(∀ g,u.ownBlock = some g→d.ownBlock ≠ some g)
def MarkQ (v:Value) (q:QI) (m:Int) (w:World):Prop:=∃ u d,v = .agg #[.bool q.1.1,u,d]∧MarkI u q.1.2 m w∧MarkI d q.2 (m+szS q.1) w
def RdQ (w:World) (v:Value) (q:QI):Prop:=∃ u d,v = .agg #[.bool q.1.1,u,d]∧Row w 0 w.heap.size u (intsV q.1.2)∧Row w 0 w.heap.size d (intsV q.2)
def szQ (q:QI):Int:=szS q.1+szI q.2
theorem OwnQ.rd {v:Value} {q:QI} {w:World} (h:OwnQ v q w):RdQ w v q:=by
 obtain ⟨u,d,rfl,o,p,_⟩:=h
 exact ⟨u,d,rfl,o.row,p.row⟩
theorem RdQ.below {w W:World} {v:Value} {q:QI} (h:RdQ w v q) (hb:Below w.heap.size w W):RdQ W v q:=by
 obtain ⟨u,d,rfl,o,p⟩:=h
 exact ⟨u,d,rfl,(o.below hb (Nat.le_refl _)).wide (Nat.le_refl _) hb.size,(p.below hb (Nat.le_refl _)).wide (Nat.le_refl _) hb.size⟩
def NewQ (q:QI) (w:World) (e:Ending) (w':World):Prop :=
 ∃ u d,e = .returned (.agg #[.bool q.1.1,u,d])∧w'.ownsRow w.heap.size 3 1 u q.1.2.length (intsV q.1.2)∧w'.ownsRow w.heap.size 3 1 d q.2.length (intsV q.2)∧(∀ g,u.ownBlock = some g→d.ownBlock ≠ some g)∧Below w.heap.size w w'
set_option maxHeartbeats 400000 in
theorem eqRat_at (u v:Value) (x y:QI) (w:World) (hl:x.1.2.length ≤ 9223372036854775807) (hl2:x.2.length ≤ 9223372036854775807) (hu:RdQ w u x) (hv:RdQ w v y) :
 Calls Tryz.prog 11 #[u,v] w fun e w'=>e = .returned (.bool (decide (x = y)))∧Below w.heap.size w w':=by
 obtain ⟨p,d,rfl,hp,hd⟩:=hu
 obtain ⟨q,f,rfl,hq,hf⟩:=hv
 obtain ⟨Ap,cp,rfl⟩:=row_form hp
 obtain ⟨Ad,cd,rfl⟩:=row_form hd
 obtain ⟨Aq,cq,rfl⟩:=row_form hq
 obtain ⟨Af,cf,rfl⟩:=row_form hf
 simp only [intsV_length] at hp hd hq hf ⊢
 have hb:Below w.heap.size w ((w.alloc (.cells #[.bool x.1.1,.slice Ap x.1.2.length cp,.slice Ad x.2.length cd] 36)).alloc (.cells #[.bool y.1.1,.slice Aq y.1.2.length cq,.slice Af y.2.length cf] 36)):=below_al (below_al (Below.refl _ _) _) _
 have kx:=(box_new w #[.bool x.1.1,.slice Ap x.1.2.length cp,.slice Ad x.2.length cd] 36).below (below_al (Below.refl _ _) (.cells #[.bool y.1.1,.slice Aq y.1.2.length cq,.slice Af y.2.length cf] 36))
 have ky:=box_new (w.alloc (.cells #[.bool x.1.1,.slice Ap x.1.2.length cp,.slice Ad x.2.length cd] 36)) #[.bool y.1.1,.slice Aq y.1.2.length cq,.slice Af y.2.length cf] 36
 rw [show (w.alloc (.cells #[.bool x.1.1,.slice Ap x.1.2.length cp,.slice Ad x.2.length cd] 36)).heap.size = w.heap.size+1 by simp] at ky
 go_enter Tryz.func11,Tryz.ntmps11
 go_wp2_with fail
 refine (eqSigned_at _ _ x.1 y.1 _ hl (rdS_below hp hb) (rdS_below hq hb)).mono ?_
 rintro e w1 ⟨rfl,b1⟩
 have bb1:=Below.next hb b1
 replace kx:=kx.below b1
 replace ky:=ky.below b1
 have cx2:=kx.here.cell 2 _ rfl
 have cy2:=ky.here.cell 2 _ rfl
 have hd1:=hd.below bb1 (Nat.le_refl _)
 have hf1:=hf.below bb1 (Nat.le_refl _)
 clear hp hq kx ky hd hf
 by_cases h1:x.1 = y.1
 ·rw [decide_eq_true h1]
  have H1:=Lib.hid h1
  clear h1
  go_wp2_with fail
  refine (eqIntS_any _ _ x.2 y.2 0 w.heap.size 0 w.heap.size _ hl2 hd1 hf1).mono ?_
  rintro e w2 ⟨rfl,n,rfl⟩
  by_cases h2:x.2 = y.2
  ·rw [decide_eq_true h2]
   have HV:=Lib.hid (show decide (x = y) = true from decide_eq_true (Prod.ext H1.out h2))
   clear h2
   go_wp2
   go_ret
   exact ⟨ret_bool HV.out.symm,below_drewN bb1 n⟩
  ·rw [decide_eq_false h2]
   have HV:=Lib.hid (show decide (x = y) = false from decide_eq_false (fun e=>h2 (by rw [e])))
   clear h2
   go_wp2
   go_ret
   exact ⟨ret_bool HV.out.symm,below_drewN bb1 n⟩
 ·rw [decide_eq_false h1]
  have HV:=Lib.hid (show decide (x = y) = false from decide_eq_false (fun e=>h1 (by rw [e])))
  clear h1
  go_wp2
  go_ret
  exact ⟨ret_bool HV.out.symm,bb1⟩
def partsB (u d:Value):List Nat:=u.ownBlock.toList ++ d.ownBlock.toList
theorem At.both {S T:List Nat} {φ ψ:World→Prop} {w:World} (h:At S φ w) (k:At T ψ w):At (S ++ T) (fun w=>φ w∧ψ w) w :=
 ⟨⟨h.here,k.here⟩,fun g hg=>by rcases List.mem_append.1 hg with hg | hg;exact h.lt g hg;exact k.lt g hg,
   fun w' hk=>⟨h.stays w' fun g hg=>hk g (List.mem_append_left _ hg),k.stays w' fun g hg=>hk g (List.mem_append_right _ hg)⟩⟩
set_option maxHeartbeats 400000 in
theorem markRat_at (u d:Value) (x:QI) (m:Int) (w:World) (hm:m+szQ x ≤ 9223372036854775807) (hm0:0 ≤ m) (ou:OwnI u x.1.2 w) (od:OwnI d x.2 w) (hap:∀ g,u.ownBlock = some g→d.ownBlock ≠ some g) :
 Calls Tryz.prog 15 #[.agg #[.bool x.1.1,u,d],.int .i64 m] w fun e w'=>e = .returned (.int .i64 (m+szQ x))∧At (partsB u d) (MarkQ (.agg #[.bool x.1.1,u,d]) x m) w'∧Chg (partsB u d) w w':=by
 obtain ⟨A,c,rfl⟩:=own_len ou
 obtain ⟨B,f,rfl⟩:=own_len od
 have hs0:0 ≤ szS x.1:=by unfold szS szI;omega
 have hs1:0 ≤ szI x.2:=by unfold szI;omega
 have HZ:=Lib.hid (show szQ x = szS x.1+szI x.2 from rfl)
 rw [HZ.out] at hm
 have hbx:=below_al (Below.refl w.heap.size w) (.cells #[.bool x.1.1,.slice A x.1.2.length c,.slice B x.2.length f] 36)
 have kx:=box_new w #[.bool x.1.1,.slice A x.1.2.length c,.slice B x.2.length f] 36
 have au:=(own_at' ou).below hbx
 have ad:=(own_at' od).below hbx
 have hltu:=(own_at' ou).lt
 have hltd:=(own_at' od).lt
 have dis:∀ g ∈ (Value.slice B x.2.length f).ownBlock.toList,g ∉ (Value.slice A x.1.2.length c).ownBlock.toList:=fun g hg hm=>hap g (by simpa using hm) (by simpa using hg)
 have DIS:=Lib.hid dis
 have HLU:=Lib.hid hltu
 have HLD:=Lib.hid hltd
 clear ou od hap dis hltu hltd
 go_enter Tryz.func15,Tryz.ntmps15
 go_wp2_with fail
 refine (markSigned_at _ x.1 _ m _ (by omega) hm0 (au.imp fun _ h=>OwnS.mk (x:=x.1) h)).mono ?_
 rintro e w1 ⟨rfl,mu,c1⟩
 replace ad:=ad.chg c1 DIS.out
 replace kx:=kx.chg c1 (fun i hi hm=>by have:=HLU.out i hm;simp at hi;omega)
 have cx2:=kx.here.cell 2 _ rfl
 have HC1:=Lib.hid c1
 have HMU:=Lib.hid mu
 clear kx c1 au mu
 go_wp2_with fail
 refine (markIntS_at _ x.2 _ (m+szS x.1) _ (by omega) (by omega) ad).mono ?_
 rintro e w2 ⟨rfl,md,c2⟩
 have mu2:=HMU.out.chg c2 (fun i hi hm=>DIS.out i hm hi)
 have hall:=Lib.hid (show At (partsB (.slice A x.1.2.length c) (.slice B x.2.length f)) (MarkQ (.agg #[.bool x.1.1,.slice A x.1.2.length c,.slice B x.2.length f]) x m) w2 from
  (At.both mu2 md).imp fun W hh=>by
    obtain ⟨⟨u',e1,hu'⟩,hd'⟩:=hh
    injection e1 with e1
    have e2:u' = .slice A x.1.2.length c:=by simpa using e1.symm
    rw [e2] at hu'
    exact ⟨_,_,rfl,hu',hd'⟩)
 have hchg:=Lib.hid (show Chg (partsB (.slice A x.1.2.length c) (.slice B x.2.length f)) w w2 from
  (Chg.of_below hbx).trans ((HC1.out.more fun g hg=>List.mem_append_left _ hg).trans (c2.more fun g hg=>List.mem_append_right _ hg)))
 clear md c2 mu2 ad HMU
 go_wp2
 go_ret
 exact ⟨ret_int (by rw [HZ.out];omega),hall.out,hchg.out⟩
set_option maxHeartbeats 400000 in
theorem heldRat_at (v:Value) (x:QI) (m:Int) (w:World) (hm:m+szQ x ≤ 9223372036854775807) (hm0:0 ≤ m) (h:MarkQ v x m w) :
 Calls Tryz.prog 17 #[v,.int .i64 m] w fun e w'=>e = .returned (.int .i64 (m+szQ x))∧Below w.heap.size w w':=by
 obtain ⟨u,d,rfl,ou,od⟩:=h
 obtain ⟨A,c,rfl⟩:=own_len ou
 obtain ⟨B,f,rfl⟩:=own_len od
 have hs0:0 ≤ szS x.1:=by unfold szS szI;omega
 have hs1:0 ≤ szI x.2:=by unfold szI;omega
 have HZ:=Lib.hid (show szQ x = szS x.1+szI x.2 from rfl)
 rw [HZ.out] at hm
 have hbx:=below_al (Below.refl w.heap.size w) (.cells #[.bool x.1.1,.slice A x.1.2.length c,.slice B x.2.length f] 36)
 have kx:=box_new w #[.bool x.1.1,.slice A x.1.2.length c,.slice B x.2.length f] 36
 have ou1:MarkS (.agg #[.bool x.1.1,.slice A x.1.2.length c]) x.1 m _:=⟨_,rfl,own_below ou hbx⟩
 have od1:=own_below od hbx
 clear ou od
 go_enter Tryz.func17,Tryz.ntmps17
 go_wp2_with fail
 refine (heldSigned_at _ x.1 m _ (by omega) hm0 ou1).mono ?_
 rintro e w1 ⟨rfl,b1⟩
 have bb1:=Below.next hbx b1
 replace kx:=kx.below b1
 replace od1:=own_below od1 b1
 have cx2:=kx.here.cell 2 _ rfl
 have hn1:decide (m+szS x.1 < 0) = false:=decide_eq_false (by omega)
 clear ou1 kx
 go_wp2_with fail
 refine (heldIntS_at _ x.2 (m+szS x.1) _ (by omega) (by omega) od1).mono ?_
 rintro e w2 ⟨rfl,b2⟩
 have bb2:=Below.next bb1 b2
 have hn2:decide (m+szS x.1+szI x.2 < 0) = false:=decide_eq_false (by omega)
 clear hn1
 go_wp2
 go_ret
 exact ⟨ret_int (by rw [HZ.out];omega),bb2⟩
def capQ (x:QI):Prop:=x.1.2.length ≤ 9223372036854775807∧x.2.length ≤ 9223372036854775807
theorem szQ_nonneg (x:QI):0 ≤ szQ x:=by unfold szQ szS szI;omega
theorem szQ_len {x:QI} (h:szQ x ≤ 1048576):x.1.2.length ≤ 1048576∧x.2.length ≤ 1048576:=by unfold szQ szS szI at h;omega
theorem capQ_of {x:QI} (h:szQ x ≤ 1048576):capQ x:=by have:=szQ_len h;unfold capQ;omega
theorem ownQ_form {v:Value} {x:QI} {w:World} (h:OwnQ v x w):∃ A c B d,v = .agg #[.bool x.1.1,.slice A x.1.2.length c,.slice B x.2.length d]:=by
 obtain ⟨u,d,rfl,o,p,_⟩:=h
 obtain ⟨A,c,rfl⟩:=own_len o
 obtain ⟨B,d,rfl⟩:=own_len p
 exact ⟨A,c,B,d,rfl⟩
theorem partsQ_at {u d:Value} {x:QI} {B C:Nat} {w:World} (ou:w.ownsRow B 3 1 u x.1.2.length (intsV x.1.2)) (od:w.ownsRow C 3 1 d x.2.length (intsV x.2)) (hap:∀ g,u.ownBlock = some g→d.ownBlock ≠ some g) :
 At (partsB u d) (OwnQ (.agg #[.bool x.1.1,u,d]) x) w:=(At.both (own_at' ou) (own_at' od)).imp fun _ h=>⟨u,d,rfl,h.1,h.2,hap⟩
theorem NewQ.newV {x:QI} {w w':World} {e:Ending} (h:NewQ x w e w'):NewV (fun v=>OwnQ v x) w e w':=by
 obtain ⟨u,d,rfl,o,p,hap,b⟩:=h
 exact ⟨_,partsB u d,rfl,partsQ_at o p hap,fun g hg=>by
  rcases List.mem_append.1 hg with hg | hg
  ·exact own_within o g hg
  ·exact own_within p g hg,b⟩
theorem eqQ_cal (u v:Value) (x y:QI) (w:World) (hz:capQ x) (hu:RdQ w u x) (hv:RdQ w v y):Calls Tryz.prog 11 #[u,v] w (Postb (decide (x = y)) w) :=
 eqRat_at u v x y w hz.1 hz.2 hu hv
theorem ownQ_open {u d:Value} {c:Value} {x:QI} {w:World} (h:OwnQ (.agg #[c,u,d]) x w):c = .bool x.1.1∧OwnI u x.1.2 w∧OwnI d x.2 w∧(∀ g,u.ownBlock = some g→d.ownBlock ≠ some g):=by
 obtain ⟨u',d',e,hu,hd,hap⟩:=h
 injection e with e
 simp at e
 obtain ⟨e1,e2,e3⟩:=e
 subst e1 e2 e3
 exact ⟨rfl,hu,hd,hap⟩
theorem markQ_cal (v:Value) (x:QI) (S:List Nat) (m:Int) (w:World) (hm:m+szQ x ≤ 9223372036854775807) (hm0:0 ≤ m) (h:At S (OwnQ v x) w) :
 Calls Tryz.prog 15 #[v,.int .i64 m] w fun e w'=>e = .returned (.int .i64 (m+szQ x))∧At S (MarkQ v x m) w'∧Chg S w w':=by
 obtain ⟨u,d,rfl,ou,od,hap⟩:=h.here
 have hs:∀ g ∈ partsB u d,g ∈ S:=fun g hg=>by
  rcases List.mem_append.1 hg with hg | hg
  ·exact toList_own (at_ints_mem h fun w' k=>(ownQ_open k).2.1) g hg
  ·exact toList_own (at_ints_mem h fun w' k=>(ownQ_open k).2.2.1) g hg
 refine (markRat_at u d x m w hm hm0 ou od hap).mono fun e w' k=>?_
 obtain ⟨e1,k1,k2⟩:=k
 have hc:=k2.more hs
 exact ⟨e1,k1.more hs (fun g hg=>Nat.lt_of_lt_of_le (h.lt g hg) hc.size),hc⟩
theorem heldQ_cal (v:Value) (x:QI) (m:Int) (w:World) (hm:m+szQ x ≤ 9223372036854775807) (hm0:0 ≤ m) (h:MarkQ v x m w):Calls Tryz.prog 17 #[v,.int .i64 m] w (Postn (m+szQ x) w) :=
 heldRat_at v x m w hm hm0 h
def PostQb (R0:QI) (R1:Bool) (w:World) (e:Ending) (w':World):Prop :=
 ∃ (v:Value) (S:List Nat),e = .returned (.tuple #[v,.bool R1])∧At S (OwnQ v R0) w'∧Within S w.heap.size w'.heap.size∧Below w.heap.size w w'
def NewLocP (T U:TypeId) (φ ψ:Value→World→Prop) (W0:World) (s t:Value) (W:World):Prop :=
 ∃ (g h:Nat) (cs ds:Array Value) (S D:List Nat),s = .pointer (some ⟨g,0,none⟩)∧t = .pointer (some ⟨h,0,none⟩)∧At [g] (BoxAt g cs T) W∧At [h] (BoxAt h ds U) W∧At S (φ (.agg cs)) W∧At D (ψ (.agg ds)) W ∧
   (∀ i ∈ g :: S,i ∉ h :: D)∧g ∉ S∧h ∉ D∧Within (g :: S) W0.heap.size W.heap.size∧Within (h :: D) W0.heap.size W.heap.size∧Below W0.heap.size W0 W
section
variable {T U:TypeId} {φ ψ:Value→World→Prop} {W0 W W':World} {a b:World→Prop} {bs:List (Nat × Array Value × TypeId)} {cs ds:Array Value} {V:TypeId}
def BxP (bs:List (Nat × Array Value × TypeId)) (W0 W:World):Prop :=
 (bs.map fun x=>x.1).Nodup∧(∀ x ∈ bs,W0.heap.size ≤ x.1∧At [x.1] (BoxAt x.1 x.2.1 x.2.2) W)∧Below W0.heap.size W0 W
theorem BxP.lt (h:BxP bs W0 W):∀ x ∈ bs,x.1 < W.heap.size:=fun x hx=>(h.2.1 x hx).2.lt x.1 (by simp)
theorem BxP.nil_ (h:Below W0.heap.size W0 W):BxP [] W0 W:=⟨List.nodup_nil,fun _ hx=>absurd hx List.not_mem_nil,h⟩
theorem BxP.al (h:BxP bs W0 W) (cs:Array Value) (T:TypeId):BxP ((W.heap.size,cs,T) :: bs) W0 (W.alloc (.cells cs T)) :=
 ⟨List.nodup_cons.2 ⟨fun hm=>by
  obtain ⟨x,hx,e⟩:=List.mem_map.1 hm
  have h0:=h.lt x hx
  have e0:x.1 = W.heap.size:=e
  omega,h.1⟩,fun x hx=>by
  rcases List.mem_cons.1 hx with rfl | hx
  ·exact ⟨h.2.2.size,box_new _ _ _⟩
  ·exact ⟨(h.2.1 x hx).1,(h.2.1 x hx).2.below (below_al (Below.refl _ _) _)⟩,below_al h.2.2 _⟩
theorem BxP.al2 (h:BxP bs W0 W) (cs:Array Value) (T:TypeId) (ds:Array Value) (U:TypeId):BxP ((W.heap.size+1,ds,U) :: (W.heap.size,cs,T) :: bs) W0 ((W.alloc (.cells cs T)).alloc (.cells ds U)):=by
 have k:=(h.al cs T).al ds U
 rwa [show (W.alloc (.cells cs T)).heap.size = W.heap.size+1 by simp] at k
theorem BxP.call (h:BxP bs W0 W) (k:Below W.heap.size W W'):BxP bs W0 W':=⟨h.1,fun x hx=>⟨(h.2.1 x hx).1,(h.2.1 x hx).2.below k⟩,Below.next h.2.2 k⟩
def ReadyP (bs:List (Nat × Array Value × TypeId)) (W0 W:World) (a b:World→Prop):Prop :=
 BxP bs W0 W∧∃ S D,At S a W∧At D b W∧(∀ i ∈ S,i ∉ D)∧(∀ x ∈ bs,x.1 ∉ S∧x.1 ∉ D)∧(∀ i ∈ S,W0.heap.size ≤ i)∧(∀ i ∈ D,W0.heap.size ≤ i)
theorem ReadyP.of {S D:List Nat} (x:BxP bs W0 W) (k:Below W.heap.size W W') (o:At S a W') (q:At D b W') (hap:∀ i ∈ S,i ∉ D) (l:Within S W.heap.size W'.heap.size) (m:Within D W.heap.size W'.heap.size):ReadyP bs W0 W' a b :=
 ⟨x.call k,S,D,o,q,hap,fun y hy=>by
  have hl:=x.lt y hy
  exact ⟨fun hs=>by have:=(l _ hs).1;omega,fun hs=>by have:=(m _ hs).1;omega⟩,fun i hi=>by have:=(l i hi).1;have:=x.2.2.size;omega,fun i hi=>by have:=(m i hi).1;have:=x.2.2.size;omega⟩
theorem newLocP_of {g h:Nat} {S D:List Nat} (kb:BoxAt g cs T W') (kd:BoxAt h ds U W') (o:At S (φ (.agg cs)) W) (q:At D (ψ (.agg ds)) W) (hap:∀ i ∈ S,i ∉ D) (hgh:¬ g = h) (hgS:g ∉ S) (hgD:g ∉ D) (hhS:h ∉ S) (hhD:h ∉ D)
 (hg:W0.heap.size ≤ g) (hh:W0.heap.size ≤ h) (lS:∀ i ∈ S,W0.heap.size ≤ i) (lD:∀ i ∈ D,W0.heap.size ≤ i) (hc:Chg [g,h] W W') (hW:Below W0.heap.size W0 W) :
 NewLocP T U φ ψ W0 (.pointer (some ⟨g,0,none⟩)) (.pointer (some ⟨h,0,none⟩)) W':=by
 have dS:∀ i ∈ S,i ∉ [g,h]:=fun i hi hm=>by
  simp at hm
  rcases hm with rfl | rfl
  ·exact hgS hi
  ·exact hhS hi
 have dD:∀ i ∈ D,i ∉ [g,h]:=fun i hi hm=>by
  simp at hm
  rcases hm with rfl | rfl
  ·exact hgD hi
  ·exact hhD hi
 have oS:=o.chg hc dS
 have oD:=q.chg hc dD
 have h1:=(Array.getElem?_eq_some_iff.1 kb).1
 have h2:=(Array.getElem?_eq_some_iff.1 kd).1
 refine ⟨g,h,cs,ds,S,D,rfl,rfl,box_at kb,box_at kd,oS,oD,fun i hi hm=>?_,hgS,hhD,fun i hi=>?_,fun i hi=>?_,below_chg hW hc hW.size (fun i hi=>by simp at hi;omega)⟩
 ·rcases List.mem_cons.1 hi with rfl | hi <;> rcases List.mem_cons.1 hm with e | hm
  ·exact hgh e
  ·exact hgD hm
  ·subst e;exact hhS hi
  ·exact hap i hi hm
 ·rcases List.mem_cons.1 hi with rfl | hi
  ·exact ⟨hg,h1⟩
  ·exact ⟨lS i hi,oS.lt i hi⟩
 ·rcases List.mem_cons.1 hi with rfl | hi
  ·exact ⟨hh,h2⟩
  ·exact ⟨lD i hi,oD.lt i hi⟩
theorem below_setP {B g j:Nat} {W0 W:World} {u:Value} (h:Below B W0 W) (hg:B ≤ g):Below B W0 (W.setCell ⟨g,j,none⟩ u):=h.setCell (p:=⟨g,j,none⟩) hg _
theorem set3_sameP {b:Nat} {x0 x1 x2 c0 c1 c2:Value} {T:TypeId} {W:World} (hb:BoxAt b #[x0,x1,x2] T W):BoxAt b #[c0,c1,c2] T (((W.setCell ⟨b,0,none⟩ c0).setCell ⟨b,1,none⟩ c1).setCell ⟨b,2,none⟩ c2):=by
 have hb':W.heap[b]? = some (.cells #[x0,x1,x2] T (0,0)):=hb
 simp [BoxAt,World.setCell,Array.getElem?_modify,hb']
theorem set3_chgP (b:Nat) (c0 c1 c2:Value) (W:World):Chg [b] W (((W.setCell ⟨b,0,none⟩ c0).setCell ⟨b,1,none⟩ c1).setCell ⟨b,2,none⟩ c2):=(((Chg.refl _ _).setCell (by simp) _).setCell (by simp) _).setCell (by simp) _
theorem locP_late (h:ReadyP [] W0 W (φ (.agg cs)) (ψ (.agg ds))):NewLocP T U φ ψ W0 (.pointer (some ⟨W.heap.size,0,none⟩)) (.pointer (some ⟨W.heap.size+1,0,none⟩)) ((W.alloc (.cells cs T)).alloc (.cells ds U)):=by
 obtain ⟨x,S,D,o,q,hap,_,lS,lD⟩:=h
 have k2:=box_new (W.alloc (.cells cs T)) ds U
 rw [show (W.alloc (.cells cs T)).heap.size = W.heap.size+1 by simp] at k2
 have k1:=(box_new W cs T).below (below_al (Below.refl _ _) (.cells ds U))
 have hz:=x.2.2.size
 exact newLocP_of k1.here k2.here o q hap (by omega) (fun h=>by have:=o.lt _ h;omega) (fun h=>by have:=q.lt _ h;omega) (fun h=>by have:=o.lt _ h;omega) (fun h=>by have:=q.lt _ h;omega) hz (by omega) lS lD (Chg.of_below (Below.next (below_al (Below.refl _ _) _) (below_al (Below.refl _ _) _))) x.2.2
theorem locP_late2 (h:ReadyP [] W0 W (φ (.agg cs)) (ψ (.agg ds))):NewLocP T U φ ψ W0 (.pointer (some ⟨W.heap.size+1,0,none⟩)) (.pointer (some ⟨W.heap.size,0,none⟩)) ((W.alloc (.cells ds U)).alloc (.cells cs T)):=by
 obtain ⟨x,S,D,o,q,hap,_,lS,lD⟩:=h
 have k2:=box_new (W.alloc (.cells ds U)) cs T
 rw [show (W.alloc (.cells ds U)).heap.size = W.heap.size+1 by simp] at k2
 have k1:=(box_new W ds U).below (below_al (Below.refl _ _) (.cells cs T))
 have hz:=x.2.2.size
 exact newLocP_of k2.here k1.here o q hap (by omega) (fun h=>by have:=o.lt _ h;omega) (fun h=>by have:=q.lt _ h;omega) (fun h=>by have:=o.lt _ h;omega) (fun h=>by have:=q.lt _ h;omega) (by omega) hz lS lD (Chg.of_below (Below.next (below_al (Below.refl _ _) _) (below_al (Below.refl _ _) _))) x.2.2
theorem ReadyP.symm {x y:Nat × Array Value × TypeId} (h:ReadyP [x,y] W0 W a b):ReadyP [y,x] W0 W a b:=by
 obtain ⟨⟨h1,h2,h3⟩,S,D,o,q,hap,hn,lS,lD⟩:=h
 refine ⟨⟨?_,fun z hz=>h2 z (by simp at hz ⊢;rcases hz with rfl | rfl <;> simp),h3⟩,S,D,o,q,hap,fun z hz=>hn z (by simp at hz ⊢;rcases hz with rfl | rfl <;> simp),lS,lD⟩
 simp at h1 ⊢
 omega
theorem locP_both {g m:Nat} {y0 y1 y2 z0 z1 z2 c0 c1 c2 d0 d1 d2:Value} (h:ReadyP [(g,#[z0,z1,z2],T),(m,#[y0,y1,y2],U)] W0 W (φ (.agg #[c0,c1,c2])) (ψ (.agg #[d0,d1,d2]))) :
 NewLocP T U φ ψ W0 (.pointer (some ⟨g,0,none⟩)) (.pointer (some ⟨m,0,none⟩)) ((((((W.setCell ⟨g,0,none⟩ c0).setCell ⟨g,1,none⟩ c1).setCell ⟨g,2,none⟩ c2).setCell ⟨m,0,none⟩ d0).setCell ⟨m,1,none⟩ d1).setCell ⟨m,2,none⟩ d2):=by
 obtain ⟨x,S,D,o,q,hap,hn,lS,lD⟩:=h
 obtain ⟨hg,kg⟩:=x.2.1 (g,#[z0,z1,z2],T) (by simp)
 obtain ⟨hm,km⟩:=x.2.1 (m,#[y0,y1,y2],U) (by simp)
 obtain ⟨n1,n2⟩:=hn (g,#[z0,z1,z2],T) (by simp)
 obtain ⟨n3,n4⟩:=hn (m,#[y0,y1,y2],U) (by simp)
 have hd:=x.1
 simp at hd
 dsimp only at hg kg hm km n1 n2 n3 n4
 have hW:=x.2.2
 have hc1:=set3_chgP g c0 c1 c2 W
 have e1:=box_at (set3_sameP (c0:=c0) (c1:=c1) (c2:=c2) kg.here)
 have k1:=km.chg hc1 (fun i hi hm=>by simp at hi hm;omega)
 generalize hX:(((W.setCell ⟨g,0,none⟩ c0).setCell ⟨g,1,none⟩ c1).setCell ⟨g,2,none⟩ c2) = X at *
 have hc2:=set3_chgP m d0 d1 d2 X
 have e2:=box_at (set3_sameP (c0:=d0) (c1:=d1) (c2:=d2) k1.here)
 have e3:=e1.chg hc2 (fun i hi hm=>by simp at hi hm;omega)
 exact newLocP_of e3.here e2.here o q hap hd n1 n2 n3 n4 hg hm lS lD ((hc1.more (fun i hi=>by simp at hi;simp [hi])).trans (hc2.more (fun i hi=>by simp at hi;simp [hi]))) hW
theorem locP_both2 {g m:Nat} {y0 y1 y2 z0 z1 z2 c0 c1 c2 d0 d1 d2:Value} (h:ReadyP [(g,#[z0,z1,z2],T),(m,#[y0,y1,y2],U)] W0 W (φ (.agg #[c0,c1,c2])) (ψ (.agg #[d0,d1,d2]))) :
 NewLocP T U φ ψ W0 (.pointer (some ⟨g,0,none⟩)) (.pointer (some ⟨m,0,none⟩)) ((((((W.setCell ⟨m,0,none⟩ d0).setCell ⟨m,1,none⟩ d1).setCell ⟨m,2,none⟩ d2).setCell ⟨g,0,none⟩ c0).setCell ⟨g,1,none⟩ c1).setCell ⟨g,2,none⟩ c2):=by
 obtain ⟨x,S,D,o,q,hap,hn,lS,lD⟩:=h
 obtain ⟨hg,kg⟩:=x.2.1 (g,#[z0,z1,z2],T) (by simp)
 obtain ⟨hm,km⟩:=x.2.1 (m,#[y0,y1,y2],U) (by simp)
 obtain ⟨n1,n2⟩:=hn (g,#[z0,z1,z2],T) (by simp)
 obtain ⟨n3,n4⟩:=hn (m,#[y0,y1,y2],U) (by simp)
 have hd:=x.1
 simp at hd
 dsimp only at hg kg hm km n1 n2 n3 n4
 have hW:=x.2.2
 have hc1:=set3_chgP m d0 d1 d2 W
 have e1:=box_at (set3_sameP (c0:=d0) (c1:=d1) (c2:=d2) km.here)
 have k1:=kg.chg hc1 (fun i hi hm=>by simp at hi hm;omega)
 generalize hX:(((W.setCell ⟨m,0,none⟩ d0).setCell ⟨m,1,none⟩ d1).setCell ⟨m,2,none⟩ d2) = X at *
 have hc2:=set3_chgP g c0 c1 c2 X
 have e2:=box_at (set3_sameP (c0:=c0) (c1:=c1) (c2:=c2) k1.here)
 have e3:=e1.chg hc2 (fun i hi hm=>by simp at hi hm;omega)
 exact newLocP_of e2.here e3.here o q hap hd n1 n2 n3 n4 hg hm lS lD ((hc1.more (fun i hi=>by simp at hi;simp [hi])).trans (hc2.more (fun i hi=>by simp at hi;simp [hi]))) hW
theorem ReadyP.one {g:Nat} {z0 z1 z2:Value} (h:ReadyP [(g,#[z0,z1,z2],V)] W0 W a b) :
 ((∀ o,(W.alloc o).cell? ⟨g,0,none⟩ = some z0)∧(∀ o,(W.alloc o).cell? ⟨g,1,none⟩ = some z1)∧(∀ o,(W.alloc o).cell? ⟨g,2,none⟩ = some z2))∧((∀ o,(W.alloc o).frozen? ⟨g,0,none⟩ = false)∧(∀ o,(W.alloc o).frozen? ⟨g,1,none⟩ = false)∧(∀ o,(W.alloc o).frozen? ⟨g,2,none⟩ = false)) ∧
   (W.cell? ⟨g,0,none⟩ = some z0∧W.cell? ⟨g,1,none⟩ = some z1∧W.cell? ⟨g,2,none⟩ = some z2)∧(W.frozen? ⟨g,0,none⟩ = false∧W.frozen? ⟨g,1,none⟩ = false∧W.frozen? ⟨g,2,none⟩ = false)∧(¬ g = W.heap.size∧¬ W.heap.size = g):=by
 have kk:=(h.1.2.1 (g,#[z0,z1,z2],V) (by simp)).2
 have hl:=h.1.lt (g,#[z0,z1,z2],V) (by simp)
 dsimp only at kk hl
 have k:=fun o=>(kk.below (below_al (Below.refl _ _) o)).here
 exact ⟨⟨fun o=>(k o).cell 0 _ rfl,fun o=>(k o).cell 1 _ rfl,fun o=>(k o).cell 2 _ rfl⟩,⟨fun o=>Lib.frozen_of_heap (k o) 0,fun o=>Lib.frozen_of_heap (k o) 1,fun o=>Lib.frozen_of_heap (k o) 2⟩,
  ⟨kk.here.cell 0 _ rfl,kk.here.cell 1 _ rfl,kk.here.cell 2 _ rfl⟩,⟨Lib.frozen_of_heap kk.here 0,Lib.frozen_of_heap kk.here 1,Lib.frozen_of_heap kk.here 2⟩,Nat.ne_of_lt hl,fun e=>Nat.ne_of_lt hl e.symm⟩
theorem ReadyP.two {g m:Nat} {y0 y1 y2 z0 z1 z2:Value} (h:ReadyP [(g,#[z0,z1,z2],T),(m,#[y0,y1,y2],U)] W0 W a b) :
 (W.cell? ⟨g,0,none⟩ = some z0∧W.cell? ⟨g,1,none⟩ = some z1∧W.cell? ⟨g,2,none⟩ = some z2)∧(W.frozen? ⟨g,0,none⟩ = false∧W.frozen? ⟨g,1,none⟩ = false∧W.frozen? ⟨g,2,none⟩ = false) ∧
 (W.cell? ⟨m,0,none⟩ = some y0∧W.cell? ⟨m,1,none⟩ = some y1∧W.cell? ⟨m,2,none⟩ = some y2)∧(W.frozen? ⟨m,0,none⟩ = false∧W.frozen? ⟨m,1,none⟩ = false∧W.frozen? ⟨m,2,none⟩ = false)∧(¬ g = m∧¬ m = g):=by
 have kg:=(h.1.2.1 (g,#[z0,z1,z2],T) (by simp)).2
 have km:=(h.1.2.1 (m,#[y0,y1,y2],U) (by simp)).2
 have hd:=h.1.1
 simp at hd
 dsimp only at kg km
 exact ⟨⟨kg.here.cell 0 _ rfl,kg.here.cell 1 _ rfl,kg.here.cell 2 _ rfl⟩,⟨Lib.frozen_of_heap kg.here 0,Lib.frozen_of_heap kg.here 1,Lib.frozen_of_heap kg.here 2⟩,
  ⟨km.here.cell 0 _ rfl,km.here.cell 1 _ rfl,km.here.cell 2 _ rfl⟩,⟨Lib.frozen_of_heap km.here 0,Lib.frozen_of_heap km.here 1,Lib.frozen_of_heap km.here 2⟩,hd,fun e=>hd e.symm⟩
end
end Go.Proofs.YtipbdpdmefcofabGreatDoor
namespace Go.Proofs.YtipbdpdmefcofabGreatDoor
open Go.RowKit
theorem memoG {G:Prop} (T:Prop) (h:T→G) (k:T):G:=h k
theorem BxP.symm {x y:Nat × Array Value × TypeId} {W0 W:World} (h:BxP [x,y] W0 W):BxP [y,x] W0 W:=by
 obtain ⟨h1,h2,h3⟩:=h
 refine ⟨?_,fun z hz=>h2 z (by simp at hz ⊢;rcases hz with rfl | rfl <;> simp),h3⟩
 simp at h1 ⊢
 omega
theorem ReadyP.al {bs:List (Nat × Array Value × TypeId)} {W0 W:World} {a b:World→Prop} (h:ReadyP bs W0 W a b) (cs:Array Value) (T:TypeId):ReadyP ((W.heap.size,cs,T) :: bs) W0 (W.alloc (.cells cs T)) a b:=by
 obtain ⟨x,S,D,o,q,hap,hn,lS,lD⟩:=h
 refine ⟨x.al cs T,S,D,o.below (below_al (Below.refl _ _) _),q.below (below_al (Below.refl _ _) _),hap,fun y hy=>?_,lS,lD⟩
 rcases List.mem_cons.1 hy with rfl | hy
 ·exact ⟨fun hs=>by have:=o.lt _ hs;omega,fun hs=>by have:=q.lt _ hs;omega⟩
 ·exact hn y hy
def cntE (l:List EI) (a b:ByteArray):Nat:=l.countP fun r=>decide (r.1 = a) && decide (r.2.1 = b)
def differE (l:List EI):Bool:=l.all fun r=>decide (cntE l r.1 r.2.1 ≤ 1)
theorem countP_two {α:Type} {p:α→Bool} {l:List α} {i j:Nat} {x y:α} (h:i < j) (hx:l[i]? = some x) (hy:l[j]? = some y) (px:p x = true) (py:p y = true):2 ≤ l.countP p:=by
 induction l generalizing i j with
 | nil=>simp at hx
 | cons z l ih =>
   obtain ⟨j,rfl⟩:∃ k,j = k+1:=⟨j - 1,by omega⟩
   have hy':l[j]? = some y:=by simpa using hy
   rw [List.countP_cons]
   cases i with
   | zero =>
     obtain rfl:z = x:=by simpa using hx
     have:0 < l.countP p:=List.countP_pos_iff.2 ⟨y,List.mem_of_getElem? hy',py⟩
     rw [if_pos px]
     omega
   | succ i =>
     have:=ih (i:=i) (j:=j) (by omega) (by simpa using hx) hy'
     omega
theorem two_countP {α:Type} {p:α→Bool} {l:List α} (h:2 ≤ l.countP p):∃ (i j:Nat) (x y:α),i < j∧l[i]? = some x∧l[j]? = some y∧p x = true∧p y = true:=by
 induction l with
 | nil=>simp at h
 | cons z l ih =>
   rw [List.countP_cons] at h
   by_cases hz:p z = true
   ·rw [if_pos hz] at h
    obtain ⟨y,hy,py⟩:=List.countP_pos_iff.1 (show 0 < l.countP p by omega)
    obtain ⟨j,hj⟩:=List.mem_iff_getElem?.1 hy
    exact ⟨0,j+1,z,y,by omega,rfl,by simpa using hj,hz,py⟩
   ·rw [if_neg hz] at h
    obtain ⟨i,j,x,y,h1,h2,h3,h4,h5⟩:=ih (by omega)
    exact ⟨i+1,j+1,x,y,by omega,by simpa using h2,by simpa using h3,h4,h5⟩
theorem pair_is {r:EI} {a b:ByteArray}:((decide (r.1 = a) && decide (r.2.1 = b)) = true) ↔ (r.1 = a∧r.2.1 = b):=by simp
theorem atE_le {l:List EI} {i:Nat} {x:EI} {a b:ByteArray} (hx:l[i]? = some x) (hp:x.1 = a∧x.2.1 = b):atE l a b ≤ i:=by
 rcases Nat.lt_or_ge i (atE l a b) with h | h
 ·exfalso
  have:=List.not_of_lt_findIdx (xs:=l) (p:=fun r=>decide (r.1 = a) && decide (r.2.1 = b)) h
  rw [(List.getElem?_eq_some_iff.1 hx).2] at this
  simp at this
  exact this hp.1 hp.2
 ·exact h
theorem atE_has {l:List EI} {a b:ByteArray} (h:atE l a b < l.length):∃ x,l[atE l a b]? = some x∧x.1 = a∧x.2.1 = b:=by
 refine ⟨_,List.getElem?_eq_getElem h,?_⟩
 have:=List.findIdx_getElem (xs:=l) (p:=fun r:EI=>decide (r.1 = a) && decide (r.2.1 = b)) (w:=h)
 exact pair_is.1 this
theorem posE_self {l:List EI} {i:Nat} {x:EI} (hx:l[i]? = some x) (h:atE l x.1 x.2.1 = i):posE l x.1 x.2.1 = i:=by
 unfold posE
 rw [if_pos (by rw [h];exact (List.getElem?_eq_some_iff.1 hx).1),h]
theorem rows_differ (l:List EI):(List.range l.length).all (rowT l) = (l.all okE && differE l):=by
 rw [Bool.eq_iff_iff,Bool.and_eq_true,List.all_eq_true,List.all_eq_true]
 unfold differE
 rw [List.all_eq_true]
 constructor
 ·intro h
  have hr:∀ (i:Nat) x,l[i]? = some x→okE x = true∧posE l x.1 x.2.1 = i:=fun i x hx=>by
   have:=h i (List.mem_range.2 (List.getElem?_eq_some_iff.1 hx).1)
   rw [rowT_at hx,Bool.and_eq_true,decide_eq_true_eq] at this
   exact this
  refine ⟨fun x hx=>?_,fun x hx=>?_⟩
  ·obtain ⟨i,hi⟩:=List.mem_iff_getElem?.1 hx
   exact (hr i x hi).1
  ·rw [decide_eq_true_eq]
   rcases Nat.lt_or_ge 1 (cntE l x.1 x.2.1) with hc | hc
   ·exfalso
    obtain ⟨i,j,y,z,hij,hy,hz,py,pz⟩:=two_countP (show 2 ≤ l.countP _ from hc)
    have py:=pair_is.1 py
    have pz:=pair_is.1 pz
    have h1:=(hr j z hz).2
    rw [pz.1,pz.2] at h1
    have h2:=atE_le hy py
    unfold posE at h1
    split at h1 <;> omega
   ·exact hc
 ·rintro ⟨h1,h2⟩ i hi
  have hil:=List.mem_range.1 hi
  have hx:l[i]? = some l[i]:=List.getElem?_eq_getElem hil
  rw [rowT_at hx,h1 _ (List.getElem_mem hil),Bool.true_and,decide_eq_true_eq]
  refine posE_self hx ?_
  have hle:=atE_le hx ⟨rfl,rfl⟩
  rcases Nat.lt_or_eq_of_le hle with hlt | he
  ·exfalso
   obtain ⟨y,hy,py⟩:=atE_has (show atE l l[i].1 l[i].2.1 < l.length by omega)
   have:=countP_two (p:=fun r:EI=>decide (r.1 = l[i].1) && decide (r.2.1 = l[i].2.1)) hlt hy hx (pair_is.2 py) (pair_is.2 ⟨rfl,rfl⟩)
   have h3:=h2 _ (List.getElem_mem hil)
   rw [decide_eq_true_eq] at h3
   unfold cntE at h3
   omega
  ·exact he
theorem okT_pairs (t:TI):okT t = (knownC t.1 && (decide (t.2.length ≤ 12) && (t.2.all okE && differE t.2))):=by rw [okT_rows,rows_differ]
theorem cntE_take {l:List EI} {k:Nat} {x:EI} (h:l[k]? = some x) (a b:ByteArray):cntE (l.take (k+1)) a b = cntE (l.take k) a b+if x.1 = a∧x.2.1 = b then 1 else 0:=by
 have hj:=(List.getElem?_eq_some_iff.1 h).1
 unfold cntE
 rw [List.take_succ_eq_append_getElem hj,List.countP_append,(List.getElem?_eq_some_iff.1 h).2,List.countP_singleton]
 simp only [pair_is]
theorem cntE_le (l:List EI) (a b:ByteArray):cntE l a b ≤ l.length:=List.countP_le_length
theorem all_okE_bad {l:List EI} {x:EI} (h:x ∈ l) (hx:¬ okE x = true):l.all okE = false:=by
 rw [Bool.eq_false_iff]
 intro ha
 exact hx (List.all_eq_true.1 ha x h)
theorem own_up {w w':World} {base n:Nat} {e:TypeId} {v:Value} {xs:List Value} (h:w.ownsRow base e 1 v n xs) (hb:Below w.heap.size w w'):w'.ownsRow base e 1 v n xs:=own_below h hb
set_option maxHeartbeats 400000 in
theorem specIntOk_any (v:Value) (x:SI) (w:World) (hl:x.2.length ≤ 1048576) (h:RdS w v x) :
 Calls Tryz.prog 39 #[v] w fun e w'=>e = .returned (.bool (okS x))∧Below w.heap.size w w':=by
 obtain ⟨n,xs⟩:=x
 obtain ⟨u,rfl,hp⟩:=h
 obtain ⟨A,c,rfl⟩:=row_form hp
 rw [intsV_length] at hp ⊢
 simp only at hl hp ⊢
 have hbx:Below w.heap.size w (w.alloc (.cells #[.bool n,.slice A xs.length c] 32)):=below_al (Below.refl _ _) _
 have HV:=Lib.hid (show okS (n,xs) = (natOkB xs && (!n || decide (0 < xs.length))) from rfl)
 by_cases ok:natOkB xs = true
 ·rw [ok] at HV
  go_enter Tryz.func39,Tryz.ntmps39
  go_wp2_with fail
  refine (specNatOk_any _ xs 0 w.heap.size _ hl (hp.below hbx (Nat.le_refl _))).mono ?_
  rintro e w1 ⟨rfl,rfl⟩
  rw [ok]
  cases n with
  | false =>
    go_wp2
    go_ret
    exact ⟨ret_bool (by rw [HV.out];rfl),hbx⟩
  | true =>
    go_wp2
    go_ret
    exact ⟨ret_bool (by rw [HV.out];simp),hbx⟩
 ·have ok':natOkB xs = false:=by simpa using ok
  rw [ok'] at HV
  clear ok
  go_enter Tryz.func39,Tryz.ntmps39
  go_wp2_with fail
  refine (specNatOk_any _ xs 0 w.heap.size _ hl (hp.below hbx (Nat.le_refl _))).mono ?_
  rintro e w1 ⟨rfl,rfl⟩
  rw [ok']
  go_wp2
  go_ret
  exact ⟨ret_bool (by rw [HV.out];rfl),hbx⟩
set_option maxHeartbeats 1000000 in
theorem l04Make_any (n:Bool) (v:Value) (xs:List Int) (base:Nat) (w:World) (hl:xs.length ≤ 1048576) (ho:w.ownsRow base 3 1 v xs.length (intsV xs)) :
 Calls Tryz.prog 90 #[.bool n,v] w (NewS (mkS n (trimL xs)) w):=by
 obtain ⟨i0,hi0,hz0,hz1,hz2⟩:=info_parts intInfo
 have hbx:Below w.heap.size w (w.alloc (.cells #[.bool false,.slice none 0 0] 32)):=below_al (Below.refl _ _) _
 obtain ⟨A,c,rfl⟩:=own_len ho
 have HO:=Lib.hid ho
 clear ho
 have hcl:(capL (trimL xs)).length ≤ 50:=by
  unfold capL
  split
  ·simp
  ·omega
 have HR:=Lib.hid (show mkS n (trimL xs) = (n && decide (0 < (capL (trimL xs)).length),capL (trimL xs)) from rfl)
 have hmade:((w.alloc (.cells #[.bool false,.slice none 0 0] 32)).alloc (.cells #[] 3)).ownsRow w.heap.size 3 1 (.slice (some ⟨w.heap.size+1,0,none⟩) 0 0) 0 []:=by
  have h:=World.ownsRow_made (base:=w.heap.size) (e:=3) (size:=1) (w.alloc (.cells #[.bool false,.slice none 0 0] 32)) #[] 0 hbx.size (Nat.zero_le _) rfl
  simpa using h
 have hbx2:=below_al hbx (.cells #[] 3)
 have HM:=Lib.hid hmade
 clear hmade
 have hone:Hid (∀ l:List Int,∀ u ∈ intsV l,u.oneCell' = true):=Lib.hid (fun l u hu=>by obtain ⟨x,_,rfl⟩:=List.mem_map.1 hu;rfl)
 have hsz1:(w.alloc (.cells #[.bool false,.slice none 0 0] 32)).heap.size = w.heap.size+1:=by simp
 cases n
 all_goals
  go_enter Tryz.func90,Tryz.ntmps90
  go_wp2_with fail
  refine (specCap_any _ xs base _ hl (own_up HO.out hbx)).mono ?_
  rintro e w1 ⟨rfl,v1,rfl,o1⟩
  have HO1:=Lib.hid (own_alloc o1 (.cells #[] 3))
  have HR2:=HR.out
  generalize capL (trimL xs) = ys at *
  obtain ⟨A1,c1,rfl⟩:=own_len o1
  have HRR:=Lib.hid HR2
  clear o1 HR2 HR
  go_wp2_with (at_builtin;refine append_owned rfl _ _ 25 rfl w.heap.size 3 i0 (.int .i64 0) 8 Tryz.underlying25 hi0 hz0 hz1 hz2 rfl _ 0 [] rfl HM.out _ ys.length base 3 (intsV ys) rfl HO1.out (hone.out ys) (by unfold maxLen;omega) (by omega) hbx2.size ?_)
  intro v2 w2 o2 g2
  obtain ⟨A2,c2,rfl⟩:=own_len o2
  have b2:Below w.heap.size w w2:=hbx2.grown g2 hbx2.size (fun k hk=>by cases hk;show w.heap.size ≤ w.heap.size+1;omega)
  have hbox:At [w.heap.size] (BoxAt w.heap.size #[.bool false,.slice none 0 0] 32) w2 :=
   ((box_new w #[.bool false,.slice none 0 0] 32).below (below_al (Below.refl _ _) (.cells #[] 3))).chg (Chg.of_grown g2) (fun i hi hm=>by simp at hi;simp [Value.ownBlock] at hm;omega)
  have cz0:w2.cell? ⟨w.heap.size,0,none⟩ = some (.bool false):=hbox.here.cell 0 _ rfl
  have cz1:w2.cell? ⟨w.heap.size,1,none⟩ = some (.slice none 0 0):=hbox.here.cell 1 _ rfl
  have fz0:=Lib.frozen_of_heap hbox.here 0
  have fz1:=Lib.frozen_of_heap hbox.here 1
  have HO2:=Lib.hid o2
  have HBX:=Lib.hid hbox
  have HB2:=Lib.hid b2
  clear o2 g2 hbox b2 hbx2 hbx
  go_wp2
  refine bodyPost_ret (v:=.agg #[.bool _,.slice A2 ys.length c2]) (by simp [results,Tryz.results90,go_sem,cz0,cz1];rfl) rfl ?_
  rw [HRR.out]
  refine ⟨.slice A2 ys.length c2,rfl,?_,below_set2 HB2.out (Nat.le_refl _)⟩
  have hne:=Lib.ownBlock_ne HO2.out HBX.out.here (by decide)
  refine own_stays HO2.out fun i hi=>?_
  have:i ≠ w.heap.size:=fun e=>hne (by rw [hi,e])
  exact (Below.heap_setCell _ _ _ _ this).trans (Below.heap_setCell _ _ _ _ this)
theorem newS_ret {r:Nat} {u c0 c1:Value} {x:SI} {w W:World} {B:Nat} (hb:BoxAt r #[c0,c1] 32 W) (o:W.ownsRow B 3 1 u x.2.length (intsV x.2)) (hB:w.heap.size ≤ B) (hr:w.heap.size ≤ r) (hW:Below w.heap.size w W) :
 NewS x w (.returned (.agg #[.bool x.1,u])) ((W.setCell ⟨r,0,none⟩ (.bool x.1)).setCell ⟨r,1,none⟩ u):=by
 have hne:=Lib.ownBlock_ne o hb (by decide)
 refine ⟨u,rfl,own_low (own_stays o fun i hi=>?_) hB,below_set2 hW hr⟩
 have:i ≠ r:=fun e=>hne (by rw [hi,e])
 exact (Below.heap_setCell _ _ _ _ this).trans (Below.heap_setCell _ _ _ _ this)
theorem newS_zero {w W:World} (hW:Below w.heap.size w W):NewS zeroS w (.returned (.agg #[.bool false,.slice none 0 0])) W:=⟨_,rfl,World.ownsRow_nil _ _ _ _,hW⟩
theorem ok_trimL {xs:List Int} (h:natOkB xs = true):trimL xs = limbs (nval xs).toNat:=by rw [trim_limbs xs (natOk_parts h).1]
theorem negS_mk {x:SI} (h:okS x = true):mkS (!x.1) (trimL x.2) = negS x:=by
 have hp:=okS_parts h
 have h0:=nval_ok hp.1
 unfold negS
 rw [if_pos h,ok_trimL hp.1,mkS_limbs]
 congr 1
 unfold valS
 cases x.1 <;> simp <;> omega
set_option maxHeartbeats 1000000 in
theorem specIntNeg_any (v:Value) (x:SI) (w:World) (hl:x.2.length ≤ 1048576) (h:OwnS v x w) :
 Calls Tryz.prog 121 #[v] w (NewS (negS x) w):=by
 obtain ⟨u,rfl,ho⟩:=h
 obtain ⟨A,c,rfl⟩:=own_len ho
 have hbb:Below w.heap.size w ((w.alloc (.cells #[.bool x.1,.slice A x.2.length c] 32)).alloc (.cells #[.bool false,.slice none 0 0] 32)):=below_al (below_al (Below.refl _ _) _) _
 have kb:=(box_new w #[.bool x.1,.slice A x.2.length c] 32).below (below_al (Below.refl _ _) (.cells #[.bool false,.slice none 0 0] 32))
 have kr:=box_new (w.alloc (.cells #[.bool x.1,.slice A x.2.length c] 32)) #[.bool false,.slice none 0 0] 32
 rw [show (w.alloc (.cells #[.bool x.1,.slice A x.2.length c] 32)).heap.size = w.heap.size+1 by simp] at kr
 have hoB:=own_below ho hbb
 have hrd:RdS _ (.agg #[.bool x.1,.slice A x.2.length c]) x:=(OwnS.mk (x:=x) (ownI_of hoB)).rd
 by_cases ok:okS x = true
 ·have HV:=Lib.hid (negS_mk ok)
  go_enter Tryz.func121,Tryz.ntmps121
  go_wp2_with fail
  refine (specIntOk_any _ x _ hl hrd).mono ?_
  rintro e w1 ⟨rfl,b1⟩
  rw [ok]
  clear ok
  have bb1:=Below.next hbb b1
  replace kb:=kb.below b1
  replace kr:=kr.below b1
  have ho1:=own_below hoB b1
  have cb0:=kb.here.cell 0 _ rfl
  have cb1:=kb.here.cell 1 _ rfl
  clear hoB hrd ho
  go_wp2_with fail
  refine (l04Make_any _ _ x.2 0 _ hl ho1).mono ?_
  rintro e w2 ⟨u2,rfl,o2,b2⟩
  obtain ⟨A2,c2,rfl⟩:=own_len o2
  have bb2:=Below.next bb1 b2
  replace kr:=kr.below b2
  have cz0:=kr.here.cell 0 _ rfl
  have cz1:=kr.here.cell 1 _ rfl
  have fz0:=Lib.frozen_of_heap kr.here 0
  have fz1:=Lib.frozen_of_heap kr.here 1
  have HO2:=Lib.hid o2
  have HK:=Lib.hid kr
  clear o2 kr kb cb0 cb1 ho1
  go_wp2
  refine bodyPost_ret (v:=.agg #[.bool _,.slice A2 _ c2]) (by simp [results,Tryz.results121,go_sem,cz0,cz1];exact ⟨rfl,rfl⟩) rfl ?_
  rw [← HV.out]
  exact newS_ret HK.out.here HO2.out bb1.size (by omega) bb2
 ·have ok':okS x = false:=by simpa using ok
  have HV:=Lib.hid (show negS x = zeroS by unfold negS;rw [if_neg ok])
  clear ok
  go_enter Tryz.func121,Tryz.ntmps121
  go_wp2_with fail
  refine (specIntOk_any _ x _ hl hrd).mono ?_
  rintro e w1 ⟨rfl,b1⟩
  rw [ok']
  have bb1:=Below.next hbb b1
  replace kr:=kr.below b1
  have cz0:=kr.here.cell 0 _ rfl
  have cz1:=kr.here.cell 1 _ rfl
  have fz0:=Lib.frozen_of_heap kr.here 0
  have fz1:=Lib.frozen_of_heap kr.here 1
  clear kb hoB hrd ho
  go_wp2
  refine bodyPost_ret (v:=.agg #[.bool false,.slice none 0 0]) (by simp [results,Tryz.results121,go_sem,cz0,cz1]) rfl ?_
  rw [HV.out]
  exact newS_zero (below_set2 bb1 (by omega))
theorem trimL_limbs (m:Nat):trimL (limbs m) = limbs m:=trim_last _ (limbs_lastN m)
theorem min_limbs:limbs 9223372036854775808 = [854775808,223372036,9]:=by
 rw [limbs_pos _ (by decide),limbs_pos _ (by decide),limbs_pos _ (by decide),limbs,dif_pos (by decide)]
 rfl
theorem ofZ_neg {n:Int} (h:n < 0):mkS true (trimL (limbs (-n).toNat)) = ofZ n:=by
 rw [trimL_limbs,mkS_limbs]
 congr 1
 simp
 omega
theorem ofZ_pos {n:Int} (h:¬ n < 0):mkS false (trimL (limbs n.toNat)) = ofZ n:=by
 rw [trimL_limbs,mkS_limbs]
 congr 1
 simp
 omega
theorem Row.lit3 (w:World) (x y z:Value) (t:TypeId):(w.alloc (.cells #[x,y,z] t)).ownsRow w.heap.size t 1 (.slice (some ⟨w.heap.size,0,none⟩) 3 3) 3 [x,y,z]:=by
 have h:=World.ownsRow_lit (e:=t) (size:=1) (base:=w.heap.size) w #[x,y,z] 3 (Nat.le_refl _) (by unfold maxLen;omega) rfl
 simpa using h
set_option maxHeartbeats 1000000 in
theorem specIntOf_any (n:Int) (w:World) (h0:-9223372036854775808 ≤ n) (h1:n ≤ 9223372036854775807) :
 Calls Tryz.prog 81 #[.int .i64 n] w (NewS (ofZ n) w):=by
 have hbb:Below w.heap.size w (w.alloc (.cells #[.bool false,.slice none 0 0] 32)):=below_al (Below.refl _ _) _
 have kr:=box_new w #[.bool false,.slice none 0 0] 32
 by_cases hmin:n = -9223372036854775808
 ·subst hmin
  have HV:=Lib.hid (show mkS true (trimL [854775808,223372036,9]) = ofZ (-9223372036854775808) by rw [← min_limbs];exact ofZ_neg (n:=-9223372036854775808) (by decide))
  have ho:=Row.lit3 (w.alloc (.cells #[.bool false,.slice none 0 0] 32)) (.int .i64 854775808) (.int .i64 223372036) (.int .i64 9) 3
  rw [show (w.alloc (.cells #[.bool false,.slice none 0 0] 32)).heap.size = w.heap.size+1 by simp] at ho
  have bb1:=below_al hbb (.cells #[.int .i64 854775808,.int .i64 223372036,.int .i64 9] 3)
  replace kr:=kr.below (below_al (Below.refl _ _) (.cells #[.int .i64 854775808,.int .i64 223372036,.int .i64 9] 3))
  have HO:=Lib.hid ho
  clear ho
  go_enter Tryz.func81,Tryz.ntmps81
  go_wp2_with fail
  refine (l04Make_any _ _ [854775808,223372036,9] (w.heap.size+1) _ (by decide) HO.out).mono ?_
  rintro e w2 ⟨u2,rfl,o2,b2⟩
  obtain ⟨A2,c2,rfl⟩:=own_len o2
  have bb2:=Below.next bb1 b2
  replace kr:=kr.below b2
  have cz0:=kr.here.cell 0 _ rfl
  have cz1:=kr.here.cell 1 _ rfl
  have fz0:=Lib.frozen_of_heap kr.here 0
  have fz1:=Lib.frozen_of_heap kr.here 1
  have HO2:=Lib.hid o2
  have HK:=Lib.hid kr
  clear o2 kr
  go_wp2
  refine bodyPost_ret (v:=.agg #[.bool _,.slice A2 _ c2]) (by simp [results,Tryz.results81,go_sem,cz0,cz1];exact ⟨rfl,rfl⟩) rfl ?_
  rw [← HV.out]
  exact newS_ret HK.out.here HO2.out bb1.size (by omega) bb2
 ·have hmb:(n == -9223372036854775808) = false:=by rw [beq_eq_false_iff_ne];exact hmin
  by_cases hneg:n < 0
  ·have HV:=Lib.hid (ofZ_neg hneg)
   have hm2:-9223372036854775807 ≤ n:=by omega
   clear hmin h0
   go_enter Tryz.func81,Tryz.ntmps81
   go_wp2_with fail
   refine (specNatOf_any (-n) _ (by omega)).mono ?_
   rintro e w1 ⟨u1,rfl,o1,b1⟩
   have bb1:=Below.next hbb b1
   replace kr:=kr.below b1
   go_wp2_with fail
   refine (l04Make_any _ _ (limbs (-n).toNat) _ _ (Nat.le_trans (limbs_length_le _ 3 (by show _ < (1000000000 * (1000000000 * (1000000000 * 1)):Int);omega)) (by decide)) o1).mono ?_
   rintro e w2 ⟨u2,rfl,o2,b2⟩
   obtain ⟨A2,c2,rfl⟩:=own_len o2
   have bb2:=Below.next bb1 b2
   replace kr:=kr.below b2
   have cz0:=kr.here.cell 0 _ rfl
   have cz1:=kr.here.cell 1 _ rfl
   have fz0:=Lib.frozen_of_heap kr.here 0
   have fz1:=Lib.frozen_of_heap kr.here 1
   have HO2:=Lib.hid o2
   have HK:=Lib.hid kr
   clear o2 kr o1
   go_wp2
   refine bodyPost_ret (v:=.agg #[.bool _,.slice A2 _ c2]) (by simp [results,Tryz.results81,go_sem,cz0,cz1];exact ⟨rfl,rfl⟩) rfl ?_
   rw [← HV.out]
   exact newS_ret HK.out.here HO2.out bb1.size (by omega) bb2
  ·have HV:=Lib.hid (ofZ_pos hneg)
   clear hmin h0
   go_enter Tryz.func81,Tryz.ntmps81
   go_wp2_with fail
   refine (specNatOf_any n _ (by omega)).mono ?_
   rintro e w1 ⟨u1,rfl,o1,b1⟩
   have bb1:=Below.next hbb b1
   replace kr:=kr.below b1
   go_wp2_with fail
   refine (l04Make_any _ _ (limbs n.toNat) _ _ (Nat.le_trans (limbs_length_le _ 3 (by show _ < (1000000000 * (1000000000 * (1000000000 * 1)):Int);omega)) (by decide)) o1).mono ?_
   rintro e w2 ⟨u2,rfl,o2,b2⟩
   obtain ⟨A2,c2,rfl⟩:=own_len o2
   have bb2:=Below.next bb1 b2
   replace kr:=kr.below b2
   have cz0:=kr.here.cell 0 _ rfl
   have cz1:=kr.here.cell 1 _ rfl
   have fz0:=Lib.frozen_of_heap kr.here 0
   have fz1:=Lib.frozen_of_heap kr.here 1
   have HO2:=Lib.hid o2
   have HK:=Lib.hid kr
   clear o2 kr o1
   go_wp2
   refine bodyPost_ret (v:=.agg #[.bool _,.slice A2 _ c2]) (by simp [results,Tryz.results81,go_sem,cz0,cz1];exact ⟨rfl,rfl⟩) rfl ?_
   rw [← HV.out]
   exact newS_ret HK.out.here HO2.out bb1.size (by omega) bb2
set_option maxHeartbeats 2000000 in
theorem specIntCmp_any (vx vy:Value) (x y:SI) (w:World) (hlx:x.2.length ≤ 1048576) (hly:y.2.length ≤ 1048576) (hx:OwnS vx x w) (hy:OwnS vy y w) :
 Calls Tryz.prog 111 #[vx,vy] w fun e w'=>e = .returned (.int .i64 (cmpS x y))∧Below w.heap.size w w':=by
 obtain ⟨ux,rfl,hox⟩:=hx
 obtain ⟨uy,rfl,hoy⟩:=hy
 obtain ⟨Ax,cx,rfl⟩:=own_len hox
 obtain ⟨Ay,cy,rfl⟩:=own_len hoy
 have hbb:Below w.heap.size w ((w.alloc (.cells #[.bool x.1,.slice Ax x.2.length cx] 32)).alloc (.cells #[.bool y.1,.slice Ay y.2.length cy] 32)):=below_al (below_al (Below.refl _ _) _) _
 have kx:=(box_new w #[.bool x.1,.slice Ax x.2.length cx] 32).below (below_al (Below.refl _ _) (.cells #[.bool y.1,.slice Ay y.2.length cy] 32))
 have ky:=box_new (w.alloc (.cells #[.bool x.1,.slice Ax x.2.length cx] 32)) #[.bool y.1,.slice Ay y.2.length cy] 32
 rw [show (w.alloc (.cells #[.bool x.1,.slice Ax x.2.length cx] 32)).heap.size = w.heap.size+1 by simp] at ky
 have ox:=own_below hox hbb
 have oy:=own_below hoy hbb
 have rdx:=(OwnS.mk (x:=x) (ownI_of ox)).rd
 clear hox hoy
 by_cases okx:okS x = true
 ·go_enter Tryz.func111,Tryz.ntmps111
  go_wp2_with fail
  refine (specIntOk_any _ x _ hlx rdx).mono ?_
  rintro e w1 ⟨rfl,b1⟩
  rw [okx]
  have bb1:=Below.next hbb b1
  replace kx:=kx.below b1
  replace ky:=ky.below b1
  replace ox:=own_below ox b1
  replace oy:=own_below oy b1
  have cy0:=ky.here.cell 0 _ rfl
  have cy1:=ky.here.cell 1 _ rfl
  clear rdx
  go_wp2_with fail
  refine (specIntOk_any _ y w1 hly (OwnS.mk (x:=y) (ownI_of oy)).rd).mono ?_
  rintro e w2 ⟨rfl,b2⟩
  have bb2:=Below.next bb1 b2
  replace kx:=kx.below b2
  replace ky:=ky.below b2
  replace ox:=own_below ox b2
  replace oy:=own_below oy b2
  clear cy0 cy1
  by_cases oky:okS y = true
  ·rw [oky]
   have HV:=Lib.hid (show cmpS x y = cmpI (valS x) (valS y) by unfold cmpS;rw [if_pos ⟨okx,oky⟩])
   have px:=okS_parts okx
   have py:=okS_parts oky
   have h0x:=nval_ok px.1
   have h0y:=nval_ok py.1
   have Dx:=Lib.hid (natOk_parts px.1)
   have Dy:=Lib.hid (natOk_parts py.1)
   have cx0:=kx.here.cell 0 _ rfl
   have cx1:=kx.here.cell 1 _ rfl
   have cy0:=ky.here.cell 0 _ rfl
   have cy1:=ky.here.cell 1 _ rfl
   have hpx:x.1 = true→0 < nval x.2:=fun h=>okS_pos okx (px.2 h)
   have hpy:y.1 = true→0 < nval y.2:=fun h=>okS_pos oky (py.2 h)
   have HPX:=Lib.hid hpx
   have HPY:=Lib.hid hpy
   have rx:=(ownI_of ox).row
   have ry:=(ownI_of oy).row
   clear px py hpx hpy okx oky kx ky
   cases hx1:x.1 <;> cases hy1:y.1
   ·rw [hx1] at cx0
    rw [hy1] at cy0
    have HC:=Lib.hid (show cmpI (valS x) (valS y) = cmpI (nval x.2) (nval y.2) by unfold valS;rw [hx1,hy1];rfl)
    clear hx1 hy1
    go_wp2_with fail
    refine (specCmp_any _ _ x.2 y.2 0 _ 0 _ w2 hlx hly ⟨Dx.out.1,Dx.out.2.2⟩ ⟨Dy.out.1,Dy.out.2.2⟩ rx ry).mono ?_
    rintro e w' ⟨rfl,q,rfl⟩
    go_wp2
    go_ret
    exact ⟨ret_int (by rw [HV.out,HC.out]),below_drewN bb2 q⟩
   ·rw [hx1] at cx0
    rw [hy1] at cy0
    have HC:=Lib.hid (show cmpI (valS x) (valS y) = 1 by have:=HPY.out hy1;unfold valS;rw [hx1,hy1];simp;unfold cmpI;rw [if_neg (by omega),if_pos (by omega)])
    clear hx1 hy1
    go_wp2
    go_ret
    exact ⟨ret_int (by rw [HV.out,HC.out]),bb2⟩
   ·rw [hx1] at cx0
    rw [hy1] at cy0
    have HC:=Lib.hid (show cmpI (valS x) (valS y) = -1 by have:=HPX.out hx1;unfold valS;rw [hx1,hy1];simp;unfold cmpI;rw [if_pos (by omega)])
    clear hx1 hy1
    go_wp2
    go_ret
    exact ⟨ret_int (by rw [HV.out,HC.out]),bb2⟩
   ·rw [hx1] at cx0
    rw [hy1] at cy0
    have HC:=Lib.hid (show cmpI (valS x) (valS y) = cmpI (nval y.2) (nval x.2) by unfold valS;rw [hx1,hy1];simp;unfold cmpI;split <;> split <;> (try split) <;> (try split) <;> omega)
    clear hx1 hy1
    go_wp2_with fail
    refine (specCmp_any _ _ y.2 x.2 0 _ 0 _ w2 hly hlx ⟨Dy.out.1,Dy.out.2.2⟩ ⟨Dx.out.1,Dx.out.2.2⟩ ry rx).mono ?_
    rintro e w' ⟨rfl,q,rfl⟩
    go_wp2
    go_ret
    exact ⟨ret_int (by rw [HV.out,HC.out]),below_drewN bb2 q⟩
  ·have oky':okS y = false:=by simpa using oky
   have HV:=Lib.hid (show cmpS x y = 0 by unfold cmpS;rw [if_neg (fun h=>oky h.2)])
   rw [oky']
   clear oky kx ky
   go_wp2
   go_ret
   exact ⟨ret_int HV.out.symm,bb2⟩
 ·have okx':okS x = false:=by simpa using okx
  have HV:=Lib.hid (show cmpS x y = 0 by unfold cmpS;rw [if_neg (fun h=>okx h.1)])
  clear okx
  go_enter Tryz.func111,Tryz.ntmps111
  go_wp2_with fail
  refine (specIntOk_any _ x _ hlx rdx).mono ?_
  rintro e w1 ⟨rfl,b1⟩
  rw [okx']
  have bb1:=Below.next hbb b1
  clear kx ky rdx
  go_wp2
  go_ret
  exact ⟨ret_int HV.out.symm,bb1⟩
set_option maxHeartbeats 400000 in
theorem specIntSign_any (v:Value) (x:SI) (w:World) (hl:x.2.length ≤ 1048576) (h:OwnS v x w) :
 Calls Tryz.prog 80 #[v] w fun e w'=>e = .returned (.int .i64 (cmpS x zeroS))∧Below w.heap.size w w':=by
 obtain ⟨u,rfl,ho⟩:=h
 obtain ⟨A,c,rfl⟩:=own_len ho
 have hbb:Below w.heap.size w (w.alloc (.cells #[.bool x.1,.slice A x.2.length c] 32)):=below_al (Below.refl _ _) _
 have hoB:=OwnS.mk (x:=x) (ownI_of (own_below ho hbb))
 have hz:OwnS (.agg #[.bool false,.slice none 0 0]) zeroS (w.alloc (.cells #[.bool x.1,.slice A x.2.length c] 32)):=⟨_,rfl,World.ownsRow_nil _ _ _ _⟩
 go_enter Tryz.func80,Tryz.ntmps80
 go_wp2_with fail
 refine (specIntCmp_any _ _ x zeroS _ hl (by decide) hoB hz).mono ?_
 rintro e w1 ⟨rfl,b1⟩
 go_wp2
 go_ret
 exact ⟨rfl,Below.next hbb b1⟩
theorem At.behind {S:List Nat} {φ:World→Prop} {w w1 w2:World} (h:At S φ w) (hb:Below w1.heap.size w1 w2) (hh:w1.heap = w.heap):At S φ w2 :=
 (At.move (w':=w1) h (fun _ _=>by rw [hh]) (by rw [hh];exact Nat.le_refl _)).below hb
theorem Chg.drew1 {T:List Nat} {w w1:World} (h:Chg T w w1):Chg T w w1.drew:=⟨h.os,h.tape,h.output,h.size,h.block⟩
theorem mk_add {n:Bool} {a b:List Int} (oa:natOkB a = true) (ob:natOkB b = true):mkS n (trimL (addL a b 0)) = ofZ (if n = true then -(nval a+nval b) else nval a+nval b):=by
 have hv:=addL_val a b 0 (natOk_parts oa).1 (natOk_parts ob).1 (by omega) (by omega)
 have h1:=nval_ok oa
 have h2:=nval_ok ob
 rw [trim_limbs _ hv.2.1,hv.1,mkS_limbs]
 congr 1
 split <;> omega
theorem mk_sub {n:Bool} {a b:List Int} (oa:natOkB a = true) (ob:natOkB b = true) (hle:nval b ≤ nval a):mkS n (trimL (trimL (subL a b 0))) = ofZ (if n = true then -(nval a - nval b) else nval a - nval b)∧(subL a b 0).length = a.length:=by
 have pa:=natOk_parts oa
 have pb:=natOk_parts ob
 have hll:=len_of_le a b pa.1 ⟨pb.1,pb.2.2⟩ hle
 have hv:=subL_val a b 0 pa.1 pb.1 hll (by omega) (by omega) (by omega)
 have h1:=nval_ok oa
 have h2:=nval_ok ob
 refine ⟨?_,hv.2.2⟩
 rw [trim_limbs (subL a b 0) hv.2.1,trimL_limbs,hv.1,mkS_limbs]
 congr 1
 split <;> omega
set_option maxHeartbeats 4000000 in
theorem l04Add_any (vx vy:Value) (x y:SI) (w:World) (okx:okS x = true) (oky:okS y = true) (hx:OwnS vx x w) (hy:OwnS vy y w) :
 Calls Tryz.prog 122 #[vx,vy] w (NewS (ofZ (valS x+valS y)) w):=by
 obtain ⟨ux,rfl,hox⟩:=hx
 obtain ⟨uy,rfl,hoy⟩:=hy
 obtain ⟨Ax,cx,rfl⟩:=own_len hox
 obtain ⟨Ay,cy,rfl⟩:=own_len hoy
 have px:=okS_parts okx
 have py:=okS_parts oky
 have DX:=natOk_parts px.1
 have DY:=natOk_parts py.1
 have hlx:=DX.2.1
 have hly:=DY.2.1
 have Dx:=Lib.hid DX
 have Dy:=Lib.hid DY
 obtain ⟨W0,hW0⟩:∃ W0,W0 = ((w.alloc (.cells #[.bool x.1,.slice Ax x.2.length cx] 32)).alloc (.cells #[.bool y.1,.slice Ay y.2.length cy] 32)).alloc (.cells #[.bool false,.slice none 0 0] 32):=⟨_,rfl⟩
 have hbb:Below w.heap.size w W0:=by rw [hW0];exact below_al (below_al (below_al (Below.refl _ _) _) _) _
 have h3:=alloc3 w (.cells #[.bool x.1,.slice Ax x.2.length cx] 32) (.cells #[.bool y.1,.slice Ay y.2.length cy] 32) (.cells #[.bool false,.slice none 0 0] 32)
 rw [← hW0] at h3
 have kx:At [w.heap.size] (BoxAt w.heap.size #[.bool x.1,.slice Ax x.2.length cx] 32) W0:=box_at h3.1
 have ky:At [w.heap.size+1] (BoxAt (w.heap.size+1) #[.bool y.1,.slice Ay y.2.length cy] 32) W0:=box_at h3.2.1
 have kr:At [w.heap.size+1+1] (BoxAt (w.heap.size+1+1) #[.bool false,.slice none 0 0] 32) W0:=box_at h3.2.2.1
 have atx:=own_at hox
 have aty:=own_at hoy
 have ltx:=atx.lt
 have lty:=aty.lt
 have OFx:=Lib.hid (show ∀ W,Chg [w.heap.size+1+1] W0 W→OwnI (.slice Ax x.2.length cx) x.2 W from fun W hc=>((atx.below hbb).chg hc (fun i hi hm=>by have:=ltx i hi;simp at hm;omega)).here)
 have OFy:=Lib.hid (show ∀ W,Chg [w.heap.size+1+1] W0 W→OwnI (.slice Ay y.2.length cy) y.2 W from fun W hc=>((aty.below hbb).chg hc (fun i hi hm=>by have:=lty i hi;simp at hm;omega)).here)
 have KL:=Lib.hid (show ∀ W,Chg [w.heap.size+1+1] W0 W→W.cell? ⟨w.heap.size,0,none⟩ = some (.bool x.1)∧W.cell? ⟨w.heap.size,1,none⟩ = some (.slice Ax x.2.length cx)∧W.cell? ⟨w.heap.size+1,0,none⟩ = some (.bool y.1)∧W.cell? ⟨w.heap.size+1,1,none⟩ = some (.slice Ay y.2.length cy)∧Hid (Chg [w.heap.size+1+1] W0 W) from
  fun W hc=>⟨(kx.chg hc (fun i hi hm=>by simp at hi hm;omega)).here.cell 0 _ rfl,(kx.chg hc (fun i hi hm=>by simp at hi hm;omega)).here.cell 1 _ rfl,(ky.chg hc (fun i hi hm=>by simp at hi hm;omega)).here.cell 0 _ rfl,(ky.chg hc (fun i hi hm=>by simp at hi hm;omega)).here.cell 1 _ rfl,Lib.hid hc⟩)
 have HW:=Lib.hid hW0
 clear h3 atx aty ltx lty DX DY hW0
 by_cases hs:x.1 = y.1
 ·have HV:Hid (mkS x.1 (trimL (addL x.2 y.2 0)) = ofZ (valS x+valS y)):=Lib.hid (by
   rw [mk_add px.1 py.1]
   unfold valS
   rw [← hs]
   congr 1
   split <;> omega)
  have hsb:(x.1 == y.1) = true:=by rw [hs];simp
  have hal:=(addL_val x.2 y.2 0 Dx.out.1 Dy.out.1 (by omega) (by omega)).2.2
  have cx0:=kx.here.cell 0 _ rfl
  have cx1:=kx.here.cell 1 _ rfl
  have cy0:=ky.here.cell 0 _ rfl
  have cy1:=ky.here.cell 1 _ rfl
  clear hs px py hox hoy okx oky
  go_enter Tryz.func122,Tryz.ntmps122
  go_wp2_with fail
  rw [← HW.out]
  clear cx0 cx1 cy0 cy1
  go_region_held3 (fun W=>W.cell? ⟨w.heap.size,0,none⟩ = some (.bool x.1)∧W.cell? ⟨w.heap.size,1,none⟩ = some (.slice Ax x.2.length cx)∧W.cell? ⟨w.heap.size+1,0,none⟩ = some (.bool y.1)∧W.cell? ⟨w.heap.size+1,1,none⟩ = some (.slice Ay y.2.length cy)∧Hid (Chg [w.heap.size+1+1] W0 W))
   ((refine KL.out _ ?_;(first | exact HC2.out | exact HC1.out | exact (Chg.setCell (Chg.setCell HC2.out (by simp) _) (by simp) _) | exact Chg.drew1 HC0.out | exact ⟨rfl,rfl,rfl,Nat.le_refl _,fun _ _ _=>rfl⟩ | fail)))
   (first
     | (go_at_call 120;(have hBB:=(‹_∧_∧_∧_∧Hid (Chg [w.heap.size+1+1] W0 _)›).2.2.2.2);(with_reducible refine (specAdd_any _ _ x.2 y.2 0 _ 0 _ _ (by omega) (by omega) (Nat.le_refl _) (Nat.le_refl _) Dx.out.1 Dy.out.1 (OFx.out _ hBB.out).row (OFy.out _ hBB.out).row).mono ?_);rintro e w3 ⟨u3,rfl,o3,b3⟩;have HC1:=Lib.hid (hBB.out.trans (Chg.of_below b3));(have kr3:=At.behind kr b3 rfl);obtain ⟨A3,c3,rfl⟩:=own_len o3;clear hBB)
     | (go_at_call 90;(have hBB:=(‹_∧_∧_∧_∧Hid (Chg [w.heap.size+1+1] W0 _)›).2.2.2.2);(with_reducible refine (l04Make_any _ _ (addL x.2 y.2 0) _ _ (by omega) o3).mono ?_);rintro e w4 ⟨u4,rfl,o4,b4⟩;have HC2:=Lib.hid (hBB.out.trans (Chg.of_below b4));(have kr4:=kr3.below b4);(have cz0:=kr4.here.cell 0 _ rfl);(have cz1:=kr4.here.cell 1 _ rfl);(have fz0:=Lib.frozen_of_heap kr4.here 0);(have fz1:=Lib.frozen_of_heap kr4.here 1);obtain ⟨A4,c4,rfl⟩:=own_len o4;clear hBB))
  have HO4:=Lib.hid o4
  have HK:=Lib.hid kr4
  have HW0:=HW.out
  have hB4:w.heap.size ≤ w3.heap.size:=by have h1:=HC1.out.size;have h2:=hbb.size;omega
  have hBW:Below w.heap.size w w4:=below_chg hbb HC2.out hbb.size (fun g hg=>by simp at hg;omega)
  have HB4:=Lib.hid hB4
  have HBW:=Lib.hid hBW
  clear o4 kr4 kr3 o3 b3 b4 hB4 hBW kr kx ky HW0
  go_wp2
  refine bodyPost_ret (v:=.agg #[.bool _,.slice A4 _ c4]) (by simp [results,Tryz.results122,go_sem,cz0,cz1];exact ⟨rfl,rfl⟩) rfl ?_
  rw [← HV.out]
  exact newS_ret HK.out.here HO4.out HB4.out (by omega) HBW.out
 ·have HS:=Lib.hid hs
  have hsb:(x.1 == y.1) = false:=by rw [beq_eq_false_iff_ne];exact hs
  have h0x:=nval_ok px.1
  have h0y:=nval_ok py.1
  clear hs
  by_cases hle:nval y.2 ≤ nval x.2
  ·have hle':nval y.2 ≤ nval x.2:=by omega
   have hms:=mk_sub (n:=x.1) px.1 py.1 hle'
   have HV:Hid (mkS x.1 (trimL (trimL (subL x.2 y.2 0))) = ofZ (valS x+valS y)):=Lib.hid (by
    rw [hms.1]
    congr 1
    have hd:=HS.out
    unfold valS
    cases hx1:x.1 <;> cases hy1:y.1 <;> simp_all <;> omega)
   have HSL:=Lib.hid hms.2
   have hal:=trimL_length (subL x.2 y.2 0)
   rw [hms.2] at hal
   have hz:0 ≤ cmpI (nval x.2) (nval y.2):=by unfold cmpI;split <;> (try split) <;> omega
   have cx0:=kx.here.cell 0 _ rfl
   have cx1:=kx.here.cell 1 _ rfl
   have cy0:=ky.here.cell 0 _ rfl
   have cy1:=ky.here.cell 1 _ rfl
   have rx:=(OFx.out W0 (Chg.refl _ _)).row
   have ry:=(OFy.out W0 (Chg.refl _ _)).row
   clear px py hox hoy okx oky hms hle hle'
   go_enter Tryz.func122,Tryz.ntmps122
   go_wp2_with fail
   rw [← HW.out]
   refine (specCmp_any _ _ x.2 y.2 0 _ 0 _ W0 (by omega) (by omega) ⟨Dx.out.1,Dx.out.2.2⟩ ⟨Dy.out.1,Dy.out.2.2⟩ rx ry).mono ?_
   rintro e w' ⟨rfl,q,rfl⟩
   generalize cmpI (nval x.2) (nval y.2) = z at *
   clear rx ry
   obtain ⟨W1,hW1⟩:∃ W1,W1 = W0.drewN q:=⟨_,rfl⟩
   have HC0:=Lib.hid (show Chg [w.heap.size+1+1] W0 W1 by rw [hW1];exact ⟨rfl,rfl,rfl,Nat.le_refl _,fun _ _ _=>rfl⟩)
   replace kr:=At.move (w':=W1) kr (fun _ _=>by rw [hW1];rfl) (by rw [hW1];exact Nat.le_refl _)
   have kl:=KL.out W1 HC0.out
   have cx0':=kl.1
   have cx1':=kl.2.1
   have cy0':=kl.2.2.1
   have cy1':=kl.2.2.2.1
   rw [← hW1]
   clear hW1 kl cx0 cx1 cy0 cy1
   go_wp2_with fail
   clear cx0' cx1' cy0' cy1'
   go_region_held3 (fun W=>W.cell? ⟨w.heap.size,0,none⟩ = some (.bool x.1)∧W.cell? ⟨w.heap.size,1,none⟩ = some (.slice Ax x.2.length cx)∧W.cell? ⟨w.heap.size+1,0,none⟩ = some (.bool y.1)∧W.cell? ⟨w.heap.size+1,1,none⟩ = some (.slice Ay y.2.length cy)∧Hid (Chg [w.heap.size+1+1] W0 W))
    ((refine KL.out _ ?_;(first | exact HC2.out | exact HC1.out | exact (Chg.setCell (Chg.setCell HC2.out (by simp) _) (by simp) _) | exact Chg.drew1 HC0.out | exact ⟨rfl,rfl,rfl,Nat.le_refl _,fun _ _ _=>rfl⟩ | fail)))
    (first
      | (go_at_call 117;(have hBB:=(‹_∧_∧_∧_∧Hid (Chg [w.heap.size+1+1] W0 _)›).2.2.2.2);(with_reducible refine (specSub_any _ _ x.2 y.2 0 _ 0 _ _ (by omega) (by omega) (Nat.le_refl _) (Nat.le_refl _) Dx.out.1 Dy.out.1 (OFx.out _ hBB.out).row (OFy.out _ hBB.out).row HSL.out).mono ?_);rintro e w3 ⟨u3,rfl,o3,b3⟩;have HC1:=Lib.hid (hBB.out.trans (Chg.of_below b3));(have kr3:=At.behind kr b3 rfl);obtain ⟨A3,c3,rfl⟩:=own_len o3;clear hBB)
      | (go_at_call 90;(have hBB:=(‹_∧_∧_∧_∧Hid (Chg [w.heap.size+1+1] W0 _)›).2.2.2.2);(with_reducible refine (l04Make_any _ _ (trimL (subL x.2 y.2 0)) _ _ (by omega) o3).mono ?_);rintro e w4 ⟨u4,rfl,o4,b4⟩;have HC2:=Lib.hid (hBB.out.trans (Chg.of_below b4));(have kr4:=kr3.below b4);(have cz0:=kr4.here.cell 0 _ rfl);(have cz1:=kr4.here.cell 1 _ rfl);(have fz0:=Lib.frozen_of_heap kr4.here 0);(have fz1:=Lib.frozen_of_heap kr4.here 1);obtain ⟨A4,c4,rfl⟩:=own_len o4;clear hBB))
   have HO4:=Lib.hid o4
   have HK:=Lib.hid kr4
   have HW0:=HW.out
   have hB4:w.heap.size ≤ w3.heap.size:=by have h1:=HC1.out.size;have h2:=hbb.size;omega
   have hBW:Below w.heap.size w w4:=below_chg hbb HC2.out hbb.size (fun g hg=>by simp at hg;omega)
   have HB4:=Lib.hid hB4
   have HBW:=Lib.hid hBW
   clear o4 kr4 kr3 o3 b3 b4 hB4 hBW kr kx ky HW0
   go_wp2
   refine bodyPost_ret (v:=.agg #[.bool _,.slice A4 _ c4]) (by simp [results,Tryz.results122,go_sem,cz0,cz1];exact ⟨rfl,rfl⟩) rfl ?_
   rw [← HV.out]
   exact newS_ret HK.out.here HO4.out HB4.out (by omega) HBW.out
  ·have hle':nval x.2 ≤ nval y.2:=by omega
   have hms:=mk_sub (n:=y.1) py.1 px.1 hle'
   have HV:Hid (mkS y.1 (trimL (trimL (subL y.2 x.2 0))) = ofZ (valS x+valS y)):=Lib.hid (by
    rw [hms.1]
    congr 1
    have hd:=HS.out
    unfold valS
    cases hx1:x.1 <;> cases hy1:y.1 <;> simp_all <;> omega)
   have HSL:=Lib.hid hms.2
   have hal:=trimL_length (subL y.2 x.2 0)
   rw [hms.2] at hal
   have hz:cmpI (nval x.2) (nval y.2) < 0:=by unfold cmpI;split <;> (try split) <;> omega
   have cx0:=kx.here.cell 0 _ rfl
   have cx1:=kx.here.cell 1 _ rfl
   have cy0:=ky.here.cell 0 _ rfl
   have cy1:=ky.here.cell 1 _ rfl
   have rx:=(OFx.out W0 (Chg.refl _ _)).row
   have ry:=(OFy.out W0 (Chg.refl _ _)).row
   clear px py hox hoy okx oky hms hle hle'
   go_enter Tryz.func122,Tryz.ntmps122
   go_wp2_with fail
   rw [← HW.out]
   refine (specCmp_any _ _ x.2 y.2 0 _ 0 _ W0 (by omega) (by omega) ⟨Dx.out.1,Dx.out.2.2⟩ ⟨Dy.out.1,Dy.out.2.2⟩ rx ry).mono ?_
   rintro e w' ⟨rfl,q,rfl⟩
   generalize cmpI (nval x.2) (nval y.2) = z at *
   clear rx ry
   obtain ⟨W1,hW1⟩:∃ W1,W1 = W0.drewN q:=⟨_,rfl⟩
   have HC0:=Lib.hid (show Chg [w.heap.size+1+1] W0 W1 by rw [hW1];exact ⟨rfl,rfl,rfl,Nat.le_refl _,fun _ _ _=>rfl⟩)
   replace kr:=At.move (w':=W1) kr (fun _ _=>by rw [hW1];rfl) (by rw [hW1];exact Nat.le_refl _)
   have kl:=KL.out W1 HC0.out
   have cx0':=kl.1
   have cx1':=kl.2.1
   have cy0':=kl.2.2.1
   have cy1':=kl.2.2.2.1
   rw [← hW1]
   clear hW1 kl cx0 cx1 cy0 cy1
   go_wp2_with fail
   clear cx0' cx1' cy0' cy1'
   go_region_held3 (fun W=>W.cell? ⟨w.heap.size,0,none⟩ = some (.bool x.1)∧W.cell? ⟨w.heap.size,1,none⟩ = some (.slice Ax x.2.length cx)∧W.cell? ⟨w.heap.size+1,0,none⟩ = some (.bool y.1)∧W.cell? ⟨w.heap.size+1,1,none⟩ = some (.slice Ay y.2.length cy)∧Hid (Chg [w.heap.size+1+1] W0 W))
    ((refine KL.out _ ?_;(first | exact HC2.out | exact HC1.out | exact (Chg.setCell (Chg.setCell HC2.out (by simp) _) (by simp) _) | exact Chg.drew1 HC0.out | exact ⟨rfl,rfl,rfl,Nat.le_refl _,fun _ _ _=>rfl⟩ | fail)))
    (first
      | (go_at_call 117;(have hBB:=(‹_∧_∧_∧_∧Hid (Chg [w.heap.size+1+1] W0 _)›).2.2.2.2);(with_reducible refine (specSub_any _ _ y.2 x.2 0 _ 0 _ _ (by omega) (by omega) (Nat.le_refl _) (Nat.le_refl _) Dy.out.1 Dx.out.1 (OFy.out _ hBB.out).row (OFx.out _ hBB.out).row HSL.out).mono ?_);rintro e w3 ⟨u3,rfl,o3,b3⟩;have HC1:=Lib.hid (hBB.out.trans (Chg.of_below b3));(have kr3:=At.behind kr b3 rfl);obtain ⟨A3,c3,rfl⟩:=own_len o3;clear hBB)
      | (go_at_call 90;(have hBB:=(‹_∧_∧_∧_∧Hid (Chg [w.heap.size+1+1] W0 _)›).2.2.2.2);(with_reducible refine (l04Make_any _ _ (trimL (subL y.2 x.2 0)) _ _ (by omega) o3).mono ?_);rintro e w4 ⟨u4,rfl,o4,b4⟩;have HC2:=Lib.hid (hBB.out.trans (Chg.of_below b4));(have kr4:=kr3.below b4);(have cz0:=kr4.here.cell 0 _ rfl);(have cz1:=kr4.here.cell 1 _ rfl);(have fz0:=Lib.frozen_of_heap kr4.here 0);(have fz1:=Lib.frozen_of_heap kr4.here 1);obtain ⟨A4,c4,rfl⟩:=own_len o4;clear hBB))
   have HO4:=Lib.hid o4
   have HK:=Lib.hid kr4
   have HW0:=HW.out
   have hB4:w.heap.size ≤ w3.heap.size:=by have h1:=HC1.out.size;have h2:=hbb.size;omega
   have hBW:Below w.heap.size w w4:=below_chg hbb HC2.out hbb.size (fun g hg=>by simp at hg;omega)
   have HB4:=Lib.hid hB4
   have HBW:=Lib.hid hBW
   clear o4 kr4 kr3 o3 b3 b4 hB4 hBW kr kx ky HW0
   go_wp2
   refine bodyPost_ret (v:=.agg #[.bool _,.slice A4 _ c4]) (by simp [results,Tryz.results122,go_sem,cz0,cz1];exact ⟨rfl,rfl⟩) rfl ?_
   rw [← HV.out]
   exact newS_ret HK.out.here HO4.out HB4.out (by omega) HBW.out
def GcdR (w:World) (G:Nat) (n:Nat) (x y:Value) (wr:World):Prop :=
 ∃ X Y:Nat,n = Y∧Nat.gcd X Y = G∧(limbs X).length ≤ 50∧(limbs Y).length ≤ 50∧wr.ownsRow 0 3 1 x (limbs X).length (intsV (limbs X))∧wr.ownsRow 0 3 1 y (limbs Y).length (intsV (limbs Y))∧Below w.heap.size w wr
set_option maxHeartbeats 1000000 in
theorem l05Gcd_any (va vb:Value) (X0 Y0:Nat) (w:World) (hX0:(limbs X0).length ≤ 50) (hY0:(limbs Y0).length ≤ 50) (oa:OwnI va (limbs X0) w) (ob:OwnI vb (limbs Y0) w) :
 Calls Tryz.prog 88 #[va,vb] w fun e w'=>∃ v,e = .returned v∧OwnI v (limbs (Nat.gcd X0 Y0)) w'∧Below w.heap.size w w':=by
 have HS:Hid (GcdR w (Nat.gcd X0 Y0) Y0 va vb w):=Lib.hid ⟨X0,Y0,rfl,rfl,hX0,hY0,oa,ob,Below.refl _ _⟩
 clear oa ob
 go_enter Tryz.func88,Tryz.ntmps88
 go_wp2
 go_loopg [5,6] Y0 (fun n x y wr=>GcdR w (Nat.gcd X0 Y0) n x y wr)
 case atStart=>exact HS.out
 case round =>
  clear HS hX0 hY0
  obtain ⟨X,Y,hn,hG,hX,hY,ox,oy,hb⟩:=hrel
  have HNE:=Lib.hid hn
  have HG:=Lib.hid hG
  clear hn hG
  have oy0:=oy
  obtain ⟨B,c,rfl⟩:=own_len oy
  by_cases hpos:0 < (limbs Y).length
  ·have hY0:=limbs_some hpos
   go_wp2_with fail
   refine (specDiv_any _ _ (limbs X) (limbs Y) _ _ _ _ _ hX hY hpos (Nat.le_refl _) (Nat.le_refl _) (limbs_digN _) ⟨limbs_digN _,limbs_lastN _⟩ (Row.of_own ox) (Row.of_own oy0)).mono ?_
   rintro e w3 ⟨v3,v4,rfl,o3,o4,_,b3⟩
   rw [limbs_val,limbs_val,show ((X:Int) % (Y:Int)).toNat = X % Y by omega] at o4
   have HS2:Hid (GcdR w (Nat.gcd X0 Y0) (X % Y) (.slice B (limbs Y).length c) v4 w3):=Lib.hid ⟨Y,X % Y,rfl,by rw [gcd_step];exact HG.out,hY,limbs_mod_len X Y hY hY0,own_below oy0 b3,own_zero o4,Below.next hb b3⟩
   clear ox oy oy0 o3 o4
   go_wp2
   go_roundg (X % Y)
   case measure=>rw [HNE.out];exact Nat.mod_lt X hY0
   case rel=>exact HS2.out
  ·have hY0:=Lib.hid (limbs_empty hpos)
   have HF:Hid (X = Nat.gcd X0 Y0):=Lib.hid (by have:=HG.out;rw [hY0.out,Nat.gcd_zero_right] at this;exact this)
   go_wp2
   go_ret
   exact ⟨_,rfl,by rw [← HF.out];exact ox,hb⟩
end Go.Proofs.YtipbdpdmefcofabGreatDoor
