import Derived.Deep.RegionHeld3
import Derived.Deep.DeepCutAuto
import Derived.Test.YtehkknphcflofaaGreatDoorJS2
set_option maxRecDepth 100000
namespace Go.Proofs.YtehkknphcflofaaGreatDoor
open Go.RowKit
def RdEL (w:World) (v:Value) (l:List EI):Prop :=
 ∃ A c,v = .slice A l.length c∧∀ (j:Nat) x,l[j]? = some x→∃ a u,A = some a∧a.block < w.heap.size∧w.cell? (a.add (j * 5)) = some (.string x.1)∧w.cell? ⟨(a.add (j * 5)).block,(a.add (j * 5)).off+1,none⟩ = some (.string x.2.1)∧w.cell? ⟨(a.add (j * 5)).block,(a.add (j * 5)).off+2,none⟩ = some (.bool x.2.2.1.1)∧w.cell? ⟨(a.add (j * 5)).block,(a.add (j * 5)).off+3,none⟩ = some u∧w.cell? ⟨(a.add (j * 5)).block,(a.add (j * 5)).off+4,none⟩ = some (.int .i64 x.2.2.2)∧Row w 0 w.heap.size u (intsV x.2.2.1.2)
theorem cell_keep5 {w w':World} {a:Addr} (hb:Below w.heap.size w w') (h:a.block < w.heap.size) (j i:Nat):w'.cell? ⟨(a.add (j * 5)).block,(a.add (j * 5)).off+i,none⟩ = w.cell? ⟨(a.add (j * 5)).block,(a.add (j * 5)).off+i,none⟩ :=
 hb.cell (by show (a.add (j * 5)).block < _;rw [block_add];exact h)
theorem cell_keep5' {w w':World} {a:Addr} (hb:Below w.heap.size w w') (h:a.block < w.heap.size) (j:Nat):w'.cell? (a.add (j * 5)) = w.cell? (a.add (j * 5)):=hb.cell (by rw [block_add];exact h)
theorem RdEL.below {w w':World} {v:Value} {l:List EI} (h:RdEL w v l) (hb:Below w.heap.size w w'):RdEL w' v l:=by
 obtain ⟨A,c,rfl,h⟩:=h
 refine ⟨A,c,rfl,fun j x hj=>?_⟩
 obtain ⟨a,u,rfl,h1,h2,h3,h4,h5,h6,hr⟩:=h j x hj
 exact ⟨a,u,rfl,Nat.lt_of_lt_of_le h1 hb.size,(cell_keep5' hb h1 j).trans h2,(cell_keep5 hb h1 j 1).trans h3,(cell_keep5 hb h1 j 2).trans h4,(cell_keep5 hb h1 j 3).trans h5,(cell_keep5 hb h1 j 4).trans h6,(hr.below hb (Nat.le_refl _)).wide (Nat.le_refl _) hb.size⟩
def szEL:List EI→Int
 | []=>0
 | x :: l=>szE x+szEL l
theorem szEL_nonneg (l:List EI):0 ≤ szEL l:=by
 induction l with
 | nil=>exact Int.le_refl _
 | cons x l ih=>show 0 ≤ szE x+szEL l;have:=szE_nonneg x;omega
theorem szEL_append (l r:List EI):szEL (l ++ r) = szEL l+szEL r:=by
 induction l with
 | nil=>show szEL r = 0+szEL r;omega
 | cons x l ih=>show szE x+szEL (l ++ r) = szE x+szEL l+szEL r;rw [ih];omega
theorem szEL_take {l:List EI} {j:Nat} {x:EI} (h:l[j]? = some x):szEL (l.take (j+1)) = szEL (l.take j)+szE x:=by
 have hj:=(List.getElem?_eq_some_iff.1 h).1
 have e:l[j] = x:=(List.getElem?_eq_some_iff.1 h).2
 rw [List.take_succ_eq_append_getElem hj,szEL_append,e]
 show _+(szE x+0) = _
 omega
theorem szEL_take_le (l:List EI) (j:Nat):szEL (l.take j) ≤ szEL l:=by
 have:=szEL_append (l.take j) (l.drop j)
 rw [List.take_append_drop] at this
 have:=szEL_nonneg (l.drop j)
 omega
theorem szEL_mem {l:List EI} {x:EI} (h:x ∈ l):szE x ≤ szEL l:=by
 induction l with
 | nil=>exact absurd h List.not_mem_nil
 | cons y l ih =>
   show szE x ≤ szE y+szEL l
   have h1:=szE_nonneg y
   have h2:=szEL_nonneg l
   rcases List.mem_cons.1 h with rfl | h
   ·omega
   ·have:=ih h
    omega
set_option maxHeartbeats 2000000 in
theorem szRateS_any (v:Value) (l:List EI) (left:Int) (w:World) (hl:l.length ≤ 9223372036854775807) (hx:∀ x ∈ l,capE x) (h0:0 ≤ left) (h1:left ≤ 1048576) (h:RdEL w v l) :
 Calls Tryz.prog 113 #[v,.int .i64 left] w fun e w'=>e = .returned (.int .i64 (leftI left (l.length+szEL l)))∧Below w.heap.size w w':=by
 obtain ⟨A,c,rfl,hc⟩:=h
 by_cases hn:left - l.length < 0
 ·have hp:=szEL_nonneg l
  have HV:=Lib.hid (show leftI left (l.length+szEL l) = -1 by unfold leftI;rw [if_pos (by omega)])
  clear hp
  go_enter Tryz.func113,Tryz.ntmps113
  go_wp2
  go_ret
  exact ⟨ret_int HV.out.symm,Below.refl _ _⟩
 ·go_enter Tryz.func113,Tryz.ntmps113
  go_wp2
  go_loopw [1,5] (fun a i wr=>∃ (j:Nat) (z:Int),j ≤ l.length∧i = .int .i64 j∧a = .int .i64 z∧0 ≤ z∧z ≤ 1048576∧Hid (z = left - l.length - szEL (l.take j))∧Below w.heap.size w wr) (fun _ i _=>l.length - (intOf i).toNat)
  case atStart=>exact ⟨0,left - l.length,by omega,rfl,rfl,by omega,by omega,Lib.hid (by rw [List.take_zero];show _ = _ - (0:Int);omega),Below.refl _ _⟩
  case round =>
   obtain ⟨j,z,hj,rfl,rfl,hz0,hz1,HZ,hb⟩:=hrel
   by_cases hlt:j < l.length
   ·obtain ⟨x,hxj⟩:∃ x,l[j]? = some x:=⟨_,List.getElem?_eq_getElem hlt⟩
    obtain ⟨a,u,rfl,ha,hc0,hc1,hc2,hc3,hc4,hr⟩:=hc j x hxj
    have hxl:=hx x (List.mem_of_getElem? hxj)
    have k0:=(cell_keep5' hb ha j).trans hc0
    have k1:=(cell_keep5 hb ha j 1).trans hc1
    have k2:=(cell_keep5 hb ha j 2).trans hc2
    have k3:=(cell_keep5 hb ha j 3).trans hc3
    have k4:=(cell_keep5 hb ha j 4).trans hc4
    obtain ⟨A1,c1,rfl⟩:=row_form hr
    rw [intsV_length] at hc3 k3 hr
    go_wp2_with fail
    refine (szE_cal _ x z _ hxl hz0 hz1 (RdE.below ⟨_,rfl,hr⟩ hb)).mono ?_
    rintro e w1 ⟨rfl,b1⟩
    have bb1:=Below.next hb b1
    have hs0:=szE_nonneg x
    have HT:=Lib.hid (szEL_take hxj)
    have HTL:=Lib.hid (szEL_take_le l (j+1))
    clear hc0 hc1 hc2 hc3 hc4 k0 k1 k2 k3 k4 hc hxl hr
    by_cases hv:z - szE x < 0
    ·have HV:=Lib.hid (show leftI left (l.length+szEL l) = -1 by
      have h1:=HT.out
      have h2:=HTL.out
      have h3:=HZ.out
      unfold leftI;rw [if_pos (by omega)])
     rw [show leftI z (szE x) = -1 by unfold leftI;rw [if_pos hv]]
     clear hv hs0
     go_wp2
     go_ret
     exact ⟨ret_int HV.out.symm,bb1⟩
    ·rw [show leftI z (szE x) = z - szE x by unfold leftI;rw [if_neg hv]]
     have hnb:decide (z - szE x < 0) = false:=decide_eq_false hv
     obtain ⟨z1,hz1e⟩:∃ z1,z1 = z - szE x:=⟨_,rfl⟩
     rw [← hz1e] at hnb ⊢
     have HE:=Lib.hid (show z1 = left - l.length - szEL (l.take (j+1))∧0 ≤ z1∧z1 ≤ 1048576 by
      have h1:=HT.out
      have h3:=HZ.out
      omega)
     clear hv hs0 hz1e
     go_wp2
     go_roundw
     case rel=>exact ⟨j+1,z1,by omega,by go_num,rfl,HE.out.2.1,HE.out.2.2,Lib.hid HE.out.1,bb1⟩
     case measure=>simp [intOf];omega
   ·obtain rfl:j = l.length:=by omega
    have HV:=Lib.hid (show leftI left (l.length+szEL l) = z by
     have h3:=HZ.out
     rw [List.take_length] at h3
     unfold leftI;rw [if_neg (by omega)];omega)
    clear hc
    go_wp2
    go_ret
    exact ⟨ret_int HV.out.symm,hb⟩
theorem add_ownE (g m:Nat):(⟨g,0,none⟩:Addr).add m = ⟨g,m,none⟩:=by
 unfold Addr.add
 split
 ·rename_i h;rw [h]
 ·simp
def flatE:List (ByteArray × ByteArray × Bool × Value × Int)→List Value
 | []=>[]
 | p :: r=>.string p.1 :: .string p.2.1 :: .bool p.2.2.1 :: p.2.2.2.1 :: .int .i64 p.2.2.2.2 :: flatE r
theorem flatE_append (e f:List (ByteArray × ByteArray × Bool × Value × Int)):flatE (e ++ f) = flatE e ++ flatE f:=by
 induction e with
 | nil=>rfl
 | cons p r ih=>show _ :: _ :: _ :: _ :: _ :: flatE (r ++ f) = _;rw [ih];rfl
theorem flatE_get {e:List (ByteArray × ByteArray × Bool × Value × Int)} {j:Nat} {p:ByteArray × ByteArray × Bool × Value × Int} (h:e[j]? = some p):(flatE e)[j * 5]? = some (.string p.1)∧(flatE e)[j * 5+1]? = some (.string p.2.1)∧(flatE e)[j * 5+2]? = some (.bool p.2.2.1)∧(flatE e)[j * 5+3]? = some (p.2.2.2.1)∧(flatE e)[j * 5+4]? = some (.int .i64 p.2.2.2.2):=by
 induction e generalizing j with
 | nil=>simp at h
 | cons q r ih =>
   cases j with
   | zero =>
     have:q = p:=by simpa using h
     subst this
     exact ⟨rfl,rfl,rfl,rfl,rfl⟩
   | succ j =>
     have:=ih (j:=j) (by simpa using h)
     rw [show (j+1) * 5 = j * 5+1+1+1+1+1 by omega]
     exact this
theorem set_cellsE (xs:List Value) (k:Nat) (v0 v1 v2 v3 v4:Value) (h:k * 5+4 < xs.length):(((((xs.set (k * 5) v0).set (k * 5+1) v1).set (k * 5+2) v2).set (k * 5+3) v3).set (k * 5+4) v4).take ((k+1) * 5) = xs.take (k * 5) ++ [v0,v1,v2,v3,v4]:=by
 rw [show (k+1) * 5 = k * 5+1+1+1+1+1 by omega,List.take_succ_eq_append_getElem (by simp;omega),List.take_succ_eq_append_getElem (by simp;omega),List.take_succ_eq_append_getElem (by simp;omega),List.take_succ_eq_append_getElem (by simp;omega),List.take_succ_eq_append_getElem (by simp;omega),
  List.take_set_of_le (by omega),List.take_set_of_le (by omega),List.take_set_of_le (by omega),List.take_set_of_le (by omega),List.take_set_of_le (by omega),List.append_assoc,List.append_assoc,List.append_assoc,List.append_assoc]
 simp
def OwnEG (w:World):Nat→List EI→List (ByteArray × ByteArray × Bool × Value × Int)→Nat→Prop
 | lo,[],[],hi=>lo ≤ hi
 | lo,x :: l,p :: e,hi=>∃ mid,lo ≤ mid∧p.1 = x.1∧p.2.1 = x.2.1∧p.2.2.1 = x.2.2.1.1∧p.2.2.2.2 = x.2.2.2∧w.ownsRow lo 3 1 p.2.2.2.1 x.2.2.1.2.length (intsV x.2.2.1.2)∧(∀ b,p.2.2.2.1.ownBlock = some b→b < mid)∧OwnEG w mid l e hi
 | _,_,_,_=>False
theorem OwnEG.le {w:World} {lo hi:Nat} {l:List EI} {e:List (ByteArray × ByteArray × Bool × Value × Int)} (h:OwnEG w lo l e hi):lo ≤ hi:=by
 induction l generalizing lo e with
 | nil=>cases e with | nil=>exact h | cons _ _=>exact h.elim
 | cons x l ih=>cases e with | nil=>exact h.elim | cons p e=>obtain ⟨mid,h1,_,_,_,_,_,_,h2⟩:=h;exact Nat.le_trans h1 (ih h2)
theorem OwnEG.length {w:World} {lo hi:Nat} {l:List EI} {e:List (ByteArray × ByteArray × Bool × Value × Int)} (h:OwnEG w lo l e hi):e.length = l.length:=by
 induction l generalizing lo e with
 | nil=>cases e with | nil=>rfl | cons _ _=>exact h.elim
 | cons x l ih=>cases e with | nil=>exact h.elim | cons p e=>obtain ⟨mid,_,_,_,_,_,_,_,h2⟩:=h;simp [ih h2]
theorem OwnEG.stays {w w':World} {lo hi:Nat} {l:List EI} {e:List (ByteArray × ByteArray × Bool × Value × Int)} (h:OwnEG w lo l e hi) (hk:∀ i,lo ≤ i→i < hi→w'.heap[i]? = w.heap[i]?):OwnEG w' lo l e hi:=by
 induction l generalizing lo e with
 | nil=>cases e with | nil=>exact h | cons _ _=>exact h.elim
 | cons x l ih =>
   cases e with
   | nil=>exact h.elim
   | cons p e =>
     obtain ⟨mid,h1,e0,e1,e2,e4,h3,h4,h5⟩:=h
     have hle:=h5.le
     exact ⟨mid,h1,e0,e1,e2,e4,own_stays h3 fun i hi=>hk i (own_lt h3 hi).1 (Nat.lt_of_lt_of_le (h4 i hi) hle),h4,ih h5 fun i hi hi2=>hk i (by omega) hi2⟩
theorem OwnEG.wide {w:World} {lo hi hi':Nat} {l:List EI} {e:List (ByteArray × ByteArray × Bool × Value × Int)} (h:OwnEG w lo l e hi) (hh:hi ≤ hi'):OwnEG w lo l e hi':=by
 induction l generalizing lo e with
 | nil=>cases e with | nil=>exact Nat.le_trans h hh | cons _ _=>exact h.elim
 | cons x l ih=>cases e with | nil=>exact h.elim | cons p e=>obtain ⟨mid,h1,e0,e1,e2,e4,h3,h4,h5⟩:=h;exact ⟨mid,h1,e0,e1,e2,e4,h3,h4,ih h5⟩
theorem OwnEG.snoc {w:World} {lo mid hi:Nat} {l:List EI} {e:List (ByteArray × ByteArray × Bool × Value × Int)} {x:EI} {u:Value} (h:OwnEG w lo l e mid) (o:w.ownsRow mid 3 1 u x.2.2.1.2.length (intsV x.2.2.1.2)) (hu:∀ b,u.ownBlock = some b→b < hi) (hh:mid ≤ hi):OwnEG w lo (l ++ [x]) (e ++ [(x.1,x.2.1,x.2.2.1.1,u,x.2.2.2)]) hi:=by
 induction l generalizing lo e with
 | nil =>
   cases e with
   | nil =>
     have hm:lo ≤ mid:=h
     exact ⟨hi,Nat.le_trans hm hh,rfl,rfl,rfl,rfl,own_low o hm,hu,Nat.le_refl _⟩
   | cons _ _=>exact h.elim
 | cons y l ih=>cases e with | nil=>exact h.elim | cons p e=>obtain ⟨m,h1,e0,e1,e2,e4,h3,h4,h5⟩:=h;exact ⟨m,h1,e0,e1,e2,e4,h3,h4,ih h5⟩
theorem OwnEG.at_ {w:World} {lo hi:Nat} {l:List EI} {e:List (ByteArray × ByteArray × Bool × Value × Int)} (h:OwnEG w lo l e hi) {j:Nat} {x:EI} (hx:l[j]? = some x):∃ u,e[j]? = some (x.1,x.2.1,x.2.2.1.1,u,x.2.2.2)∧OwnI u x.2.2.1.2 w:=by
 induction l generalizing lo e j with
 | nil=>simp at hx
 | cons y l ih =>
   cases e with
   | nil=>exact h.elim
   | cons p e =>
     obtain ⟨m,h1,e0,e1,e2,e4,h3,h4,h5⟩:=h
     cases j with
     | zero =>
       have:y = x:=by simpa using hx
       subst this
       exact ⟨p.2.2.2.1,by rw [← e0,← e1,← e2,← e4];rfl,own_zero h3⟩
     | succ j=>exact ih h5 (by simpa using hx)
def OwnEL (v:Value) (l:List EI) (lo hi:Nat) (w:World):Prop :=
 ∃ g e,v = .slice (some ⟨g,0,none⟩) l.length l.length∧lo ≤ g∧g < hi∧hi ≤ w.heap.size∧w.ownsRow lo 54 5 v l.length (flatE e)∧OwnEG w (g+1) l e hi
theorem own_highE {w:World} {base B n size:Nat} {e:TypeId} {v:Value} {xs:List Value} (h:w.ownsRow base e size v n xs) (hb:∀ g,v.ownBlock = some g→B ≤ g):w.ownsRow B e size v n xs:=by
 obtain ⟨hl,h | ⟨g,cap,cur,rfl,_,r⟩⟩:=h
 ·exact ⟨hl,.inl h⟩
 ·exact ⟨hl,.inr ⟨g,cap,cur,rfl,hb g rfl,r⟩⟩
theorem newE_own {x:EI} {w w':World} {S:List Nat} {c0 c1 c2 u c4:Value} (o:At S (OwnE (.agg #[c0,c1,c2,u,c4]) x) w') (l:Within S w.heap.size w'.heap.size):w'.ownsRow w.heap.size 3 1 u x.2.2.1.2.length (intsV x.2.2.1.2)∧∀ b,u.ownBlock = some b→b < w'.heap.size:=by
 have hm:=at_ints_mem o (fun w' k=>ownE_open k)
 exact ⟨own_highE (ownE_open o.here) fun g hg=>(l g (hm g hg)).1,fun b hb=>(l b (hm b hb)).2⟩
theorem infoEL:(Tryz.prog.info? 54).map (fun i=>(i.zero,i.size,i.bytes)) = some (some (.agg #[.string ⟨#[]⟩,.string ⟨#[]⟩,.bool false,.slice none 0 0,.int .i64 0]),5,72):=by kernel_rfl
theorem makeEL (n:Nat) (hn:n ≤ 1099511627776) (W:World) :
 (Instr.makeSlice 23 (.int .i64 (n:Int)) (.int .i64 (n:Int))).run Tryz.prog W = .ok (.slice (some ⟨W.heap.size,0,none⟩) n n) (W.alloc (.cells (madeCells #[.string ⟨#[]⟩,.string ⟨#[]⟩,.bool false,.slice none 0 0,.int .i64 0] (n * 5)) 54)):=by
 obtain ⟨i0,hi,hz0,hz1,hz2⟩:=info_parts infoEL
 have h:=run_make (P:=Tryz.prog) W 23 54 i0 (.agg #[.string ⟨#[]⟩,.string ⟨#[]⟩,.bool false,.slice none 0 0,.int .i64 0]) Tryz.underlying23 hi hz0 .i64 .i64 (n:Int) (n:Int) (by omega) (by omega) (by rw [hz2];omega) (by omega)
 rw [hz1,Int.toNat_natCast] at h
 exact h
def NewEL (l:List EI) (w:World) (e:Ending) (w':World):Prop:=∃ v,e = .returned v∧OwnEL v l w.heap.size w'.heap.size w'∧Below w.heap.size w w'
set_option maxHeartbeats 4000000 in
theorem toRateS_any (v:Value) (l:List EI) (w:World) (hl:l.length ≤ 1048576) (hx:∀ x ∈ l,szE x ≤ 1048576) (h:RdEL w v l) :
 Calls Tryz.prog 118 #[v] w (NewEL l w):=by
 obtain ⟨A,c,rfl,hc⟩:=h
 have HC:=Lib.hid hc
 have hmk:=makeEL l.length (by omega)
 clear hc
 go_enter Tryz.func118,Tryz.ntmps118
 go_wp2
 go_loopw [4] (fun i wr=>∃ (k:Nat) (xs:List Value) (e:List (ByteArray × ByteArray × Bool × Value × Int)),k ≤ l.length∧i = .int .i64 k∧wr.ownsRow w.heap.size 54 5 (.slice (some ⟨w.heap.size,0,none⟩) l.length l.length) l.length xs∧Hid (xs.take (k * 5) = flatE e)∧OwnEG wr (w.heap.size+1) (l.take k) e wr.heap.size∧Below w.heap.size w wr) (fun i _=>l.length - (intOf i).toNat)
 case atStart =>
  have h:=World.ownsRow_lit (e:=54) (size:=5) (base:=w.heap.size) w (madeCells #[.string ⟨#[]⟩,.string ⟨#[]⟩,.bool false,.slice none 0 0,.int .i64 0] (l.length * 5)) l.length (Nat.le_refl _) (by unfold maxLen;omega) (by rw [size_madeCells])
  exact ⟨0,_,[],Nat.zero_le _,rfl,h,Lib.hid (by rw [Nat.zero_mul,List.take_zero];rfl),by rw [List.take_zero];show _ ≤ _;simp,(Below.refl _ _).alloc (Nat.le_refl _) _⟩
 case round =>
  obtain ⟨k,xs,e,hk,rfl,ho,HX,hes,hb⟩:=hrel
  by_cases hlt:k < l.length
  ·obtain ⟨x,hxk⟩:∃ x,l[k]? = some x:=⟨_,List.getElem?_eq_getElem hlt⟩
   obtain ⟨a,u,rfl,ha,hc0,hc1,hc2,hc3,hc4,hr⟩:=HC.out k x hxk
   have hxl:=hx x (List.mem_of_getElem? hxk)
   have k0:=(cell_keep5' hb ha k).trans hc0
   have k1:=(cell_keep5 hb ha k 1).trans hc1
   have k2:=(cell_keep5 hb ha k 2).trans hc2
   have k3:=(cell_keep5 hb ha k 3).trans hc3
   have k4:=(cell_keep5 hb ha k 4).trans hc4
   obtain ⟨A1,c1,rfl⟩:=row_form hr
   rw [intsV_length] at hc3 k3 hr
   go_wp2_with fail
   refine (toE_new _ x _ hxl (RdE.below ⟨_,rfl,hr⟩ hb)).mono ?_
   rintro e' w1 ⟨u0,S1,rfl,o0,l0,b1⟩
   obtain ⟨A2,c2,rfl⟩:=ownE_form o0.here
   obtain ⟨o1,hu1⟩:=newE_own o0 l0
   have bb1:=Below.next hb b1
   have ho1:=own_below ho b1
   have hxs:=ho1.1
   have hcell0:=ho1.cellAt (k * 5) (by omega)
   have hcell1:=ho1.cellAt (k * 5+1) (by omega)
   have hcell2:=ho1.cellAt (k * 5+2) (by omega)
   have hcell3:=ho1.cellAt (k * 5+3) (by omega)
   have hcell4:=ho1.cellAt (k * 5+4) (by omega)
   rw [List.getElem?_eq_getElem (by omega)] at hcell0 hcell1 hcell2 hcell3 hcell4
   have hfr0:=ho1.frozenAt (k * 5)
   have hfr1:=ho1.frozenAt (k * 5+1)
   have hfr2:=ho1.frozenAt (k * 5+2)
   have hfr3:=ho1.frozenAt (k * 5+3)
   have hfr4:=ho1.frozenAt (k * 5+4)
   obtain ⟨hp0,hg0⟩:=ho1.stored (k * 5) (.string x.1)
   obtain ⟨hp1,hg1⟩:=hp0.stored (k * 5+1) (.string x.2.1)
   obtain ⟨hp2,hg2⟩:=hp1.stored (k * 5+2) (.bool x.2.2.1.1)
   obtain ⟨hp3,hg3⟩:=hp2.stored (k * 5+3) (.slice A2 x.2.2.1.2.length c2)
   obtain ⟨hp4,hg4⟩:=hp3.stored (k * 5+4) (.int .i64 x.2.2.2)
   have hlw:w.heap.size < wr.heap.size:=(own_lt ho (g:=w.heap.size) rfl).2
   have hes1:=OwnEG.snoc (hi:=w1.heap.size) (hes.stays fun i _ hi=>b1.block i hi) o1 hu1 b1.size
   have hes2:OwnEG (((((w1.setCell ⟨w.heap.size,k * 5,none⟩ (.string x.1)).setCell ⟨w.heap.size,k * 5+1,none⟩ (.string x.2.1)).setCell ⟨w.heap.size,k * 5+2,none⟩ (.bool x.2.2.1.1)).setCell ⟨w.heap.size,k * 5+3,none⟩ (.slice A2 x.2.2.1.2.length c2)).setCell ⟨w.heap.size,k * 5+4,none⟩ (.int .i64 x.2.2.2)) (w.heap.size+1) (l.take (k+1)) (e ++ [(x.1,x.2.1,x.2.2.1.1,.slice A2 x.2.2.1.2.length c2,x.2.2.2)]) (((((w1.setCell ⟨w.heap.size,k * 5,none⟩ (.string x.1)).setCell ⟨w.heap.size,k * 5+1,none⟩ (.string x.2.1)).setCell ⟨w.heap.size,k * 5+2,none⟩ (.bool x.2.2.1.1)).setCell ⟨w.heap.size,k * 5+3,none⟩ (.slice A2 x.2.2.1.2.length c2)).setCell ⟨w.heap.size,k * 5+4,none⟩ (.int .i64 x.2.2.2)).heap.size:=by
    rw [List.take_succ_eq_append_getElem hlt,(List.getElem?_eq_some_iff.1 hxk).2]
    refine (hes1.stays fun i hi _=>?_).wide (by simp [World.setCell])
    have hne:i ≠ w.heap.size:=by omega
    rw [Below.heap_setCell _ _ _ _ hne,Below.heap_setCell _ _ _ _ hne,Below.heap_setCell _ _ _ _ hne,Below.heap_setCell _ _ _ _ hne,Below.heap_setCell _ _ _ _ hne]
   have hb3:Below w.heap.size w (((((w1.setCell ⟨w.heap.size,k * 5,none⟩ (.string x.1)).setCell ⟨w.heap.size,k * 5+1,none⟩ (.string x.2.1)).setCell ⟨w.heap.size,k * 5+2,none⟩ (.bool x.2.2.1.1)).setCell ⟨w.heap.size,k * 5+3,none⟩ (.slice A2 x.2.2.1.2.length c2)).setCell ⟨w.heap.size,k * 5+4,none⟩ (.int .i64 x.2.2.2)):=(((((bb1.setCell (p:=⟨w.heap.size,k * 5,none⟩) (Nat.le_refl _) _).setCell (p:=⟨w.heap.size,k * 5+1,none⟩) (Nat.le_refl _) _).setCell (p:=⟨w.heap.size,k * 5+2,none⟩) (Nat.le_refl _) _).setCell (p:=⟨w.heap.size,k * 5+3,none⟩) (Nat.le_refl _) _).setCell (p:=⟨w.heap.size,k * 5+4,none⟩) (Nat.le_refl _) _)
   have HF:=Lib.hid (show (((((xs.set (k * 5) (.string x.1)).set (k * 5+1) (.string x.2.1)).set (k * 5+2) (.bool x.2.2.1.1)).set (k * 5+3) (.slice A2 x.2.2.1.2.length c2)).set (k * 5+4) (.int .i64 x.2.2.2)).take ((k+1) * 5) = flatE (e ++ [(x.1,x.2.1,x.2.2.1.1,.slice A2 x.2.2.1.2.length c2,x.2.2.2)]) by
    rw [set_cellsE xs k _ _ _ _ _  (by omega),HX.out,flatE_append];rfl)
   have H3:=Lib.hid hp4
   have HE2:=Lib.hid hes2
   have HB3:=Lib.hid hb3
   clear hes hes1 hes2 ho ho1 hp0 hg0 hp1 hg1 hp2 hg2 hp3 hg3 hp4 hg4 hb3 o1 o0 l0 hu1 k0 k1 k2 k3 k4 hc0 hc1 hc2 hc3 hc4 hr b1 bb1
   go_wp2
   go_roundw
   case rel=>exact ⟨k+1,_,_,by omega,by go_num,H3.out,HF,HE2.out,HB3.out⟩
   case measure=>simp [intOf];omega
  ·obtain rfl:k = l.length:=by omega
   have hxs:=ho.1
   have he:xs = flatE e:=by rw [← HX.out,List.take_of_length_le (by omega)]
   rw [List.take_length] at hes
   have hlw:w.heap.size < wr.heap.size:=(own_lt ho (g:=w.heap.size) rfl).2
   have HO:=Lib.hid (show OwnEL (.slice (some ⟨w.heap.size,0,none⟩) l.length l.length) l w.heap.size wr.heap.size wr from ⟨w.heap.size,e,rfl,Nat.le_refl _,hlw,Nat.le_refl _,by rw [← he];exact ho,hes⟩)
   clear he hes hxs ho
   go_wp2
   go_ret
   exact ⟨_,rfl,HO.out,hb⟩
set_option maxHeartbeats 4000000 in
theorem eqRateS_any (va vb:Value) (ss ts:List EI) (w:World) (hl:ss.length ≤ 140737488355328) (hx:∀ x ∈ ss,capE x) (hra:RdEL w va ss) (hrb:RdEL w vb ts) :
 Calls Tryz.prog 121 #[va,vb] w fun e w'=>e = .returned (.bool (decide (ss = ts)))∧Below w.heap.size w w':=by
 obtain ⟨A,c,rfl,hA⟩:=hra
 obtain ⟨B,d,rfl,hB⟩:=hrb
 have HA:=Lib.hid hA
 have HB:=Lib.hid hB
 clear hA hB
 by_cases hlen:ss.length = ts.length
 ·have HL:=Lib.hid hlen
  have hbe:((ss.length:Int) != (ts.length:Int)) = false:=by simp [hlen]
  clear hlen
  go_enter Tryz.func121,Tryz.ntmps121
  go_wp2
  go_loopw [5] (fun i wr=>∃ k:Nat,k ≤ ss.length∧i = .int .i64 k∧Below w.heap.size w wr∧Hid (ss.take k = ts.take k)) (fun i _=>ss.length - (intOf i).toNat)
  case atStart=>exact ⟨0,Nat.zero_le _,rfl,Below.refl _ _,Lib.hid rfl⟩
  case round =>
   obtain ⟨k,hk,rfl,hb,HT⟩:=hrel
   by_cases hlt:k < ss.length
   ·have hlt2:k < ts.length:=by have:=HL.out;omega
    obtain ⟨a,u,rfl,ha,hc0,hc1,hc2,hc3,hc4,hr⟩:=HA.out k ss[k] (List.getElem?_eq_getElem hlt)
    obtain ⟨b,v,rfl,ha',hd0,hd1,hd2,hd3,hd4,hr'⟩:=HB.out k ts[k] (List.getElem?_eq_getElem hlt2)
    have hxl:=hx ss[k] (List.getElem_mem hlt)
    obtain ⟨A1,c1,rfl⟩:=row_form hr
    obtain ⟨B1,d1,rfl⟩:=row_form hr'
    rw [intsV_length] at hc3 hr hd3 hr'
    have HR:=Lib.hid (show ∀ W,Below w.heap.size w W→RdE W (.agg #[.string ss[k].1,.string ss[k].2.1,.bool ss[k].2.2.1.1,.slice A1 ss[k].2.2.1.2.length c1,.int .i64 ss[k].2.2.2]) ss[k] from fun W hb=>RdE.below ⟨_,rfl,hr⟩ hb)
    have HR':=Lib.hid (show ∀ W,Below w.heap.size w W→RdE W (.agg #[.string ts[k].1,.string ts[k].2.1,.bool ts[k].2.2.1.1,.slice B1 ts[k].2.2.1.2.length d1,.int .i64 ts[k].2.2.2]) ts[k] from fun W hb=>RdE.below ⟨_,rfl,hr'⟩ hb)
    have HCC:=Lib.hid (show a.block < w.heap.size∧b.block < w.heap.size∧w.cell? (a.add (k * 5)) = some (.string ss[k].1)∧w.cell? ⟨(a.add (k * 5)).block,(a.add (k * 5)).off+1,none⟩ = some (.string ss[k].2.1)∧w.cell? ⟨(a.add (k * 5)).block,(a.add (k * 5)).off+2,none⟩ = some (.bool ss[k].2.2.1.1)∧w.cell? ⟨(a.add (k * 5)).block,(a.add (k * 5)).off+3,none⟩ = some (.slice A1 ss[k].2.2.1.2.length c1)∧w.cell? ⟨(a.add (k * 5)).block,(a.add (k * 5)).off+4,none⟩ = some (.int .i64 ss[k].2.2.2)∧w.cell? (b.add (k * 5)) = some (.string ts[k].1)∧w.cell? ⟨(b.add (k * 5)).block,(b.add (k * 5)).off+1,none⟩ = some (.string ts[k].2.1)∧w.cell? ⟨(b.add (k * 5)).block,(b.add (k * 5)).off+2,none⟩ = some (.bool ts[k].2.2.1.1)∧w.cell? ⟨(b.add (k * 5)).block,(b.add (k * 5)).off+3,none⟩ = some (.slice B1 ts[k].2.2.1.2.length d1)∧w.cell? ⟨(b.add (k * 5)).block,(b.add (k * 5)).off+4,none⟩ = some (.int .i64 ts[k].2.2.2) from ⟨ha,ha',hc0,hc1,hc2,hc3,hc4,hd0,hd1,hd2,hd3,hd4⟩)
    have HTS:=Lib.hid (show (ss[k] = ts[k]→ss.take (k+1) = ts.take (k+1))∧(¬ ss[k] = ts[k]→¬ ss = ts) from ⟨take_same_succ HT.out hlt hlt2,ne_of_at hlt hlt2⟩)
    generalize ss[k] = x at *
    generalize ts[k] = y at *
    have KL:=Lib.hid (show ∀ W,Below w.heap.size w W→W.cell? (a.add (k * 5)) = some (.string x.1)∧W.cell? ⟨(a.add (k * 5)).block,(a.add (k * 5)).off+1,none⟩ = some (.string x.2.1)∧W.cell? ⟨(a.add (k * 5)).block,(a.add (k * 5)).off+2,none⟩ = some (.bool x.2.2.1.1)∧W.cell? ⟨(a.add (k * 5)).block,(a.add (k * 5)).off+3,none⟩ = some (.slice A1 x.2.2.1.2.length c1)∧W.cell? ⟨(a.add (k * 5)).block,(a.add (k * 5)).off+4,none⟩ = some (.int .i64 x.2.2.2)∧W.cell? (b.add (k * 5)) = some (.string y.1)∧W.cell? ⟨(b.add (k * 5)).block,(b.add (k * 5)).off+1,none⟩ = some (.string y.2.1)∧W.cell? ⟨(b.add (k * 5)).block,(b.add (k * 5)).off+2,none⟩ = some (.bool y.2.2.1.1)∧W.cell? ⟨(b.add (k * 5)).block,(b.add (k * 5)).off+3,none⟩ = some (.slice B1 y.2.2.1.2.length d1)∧W.cell? ⟨(b.add (k * 5)).block,(b.add (k * 5)).off+4,none⟩ = some (.int .i64 y.2.2.2)∧Hid (Below w.heap.size w W) from
     fun W hb=>by
      obtain ⟨h1,h2,h3,h4,h5,h6,h7,h8,h9,h10,h11,h12⟩:=HCC.out
      exact ⟨(cell_keep5' hb h1 k).trans h3,(cell_keep5 hb h1 k 1).trans h4,(cell_keep5 hb h1 k 2).trans h5,(cell_keep5 hb h1 k 3).trans h6,(cell_keep5 hb h1 k 4).trans h7,(cell_keep5' hb h2 k).trans h8,(cell_keep5 hb h2 k 1).trans h9,(cell_keep5 hb h2 k 2).trans h10,(cell_keep5 hb h2 k 3).trans h11,(cell_keep5 hb h2 k 4).trans h12,Lib.hid hb⟩)
    have HB0:=Lib.hid hb
    have HXL:=Lib.hid hxl
    clear hb hc0 hc1 hc2 hc3 hc4 hd0 hd1 hd2 hd3 hd4 hr hr' ha ha' hxl HCC
    go_wp2
    go_region_held3 (fun W=>W.cell? (a.add (k * 5)) = some (.string x.1)∧W.cell? ⟨(a.add (k * 5)).block,(a.add (k * 5)).off+1,none⟩ = some (.string x.2.1)∧W.cell? ⟨(a.add (k * 5)).block,(a.add (k * 5)).off+2,none⟩ = some (.bool x.2.2.1.1)∧W.cell? ⟨(a.add (k * 5)).block,(a.add (k * 5)).off+3,none⟩ = some (.slice A1 x.2.2.1.2.length c1)∧W.cell? ⟨(a.add (k * 5)).block,(a.add (k * 5)).off+4,none⟩ = some (.int .i64 x.2.2.2)∧W.cell? (b.add (k * 5)) = some (.string y.1)∧W.cell? ⟨(b.add (k * 5)).block,(b.add (k * 5)).off+1,none⟩ = some (.string y.2.1)∧W.cell? ⟨(b.add (k * 5)).block,(b.add (k * 5)).off+2,none⟩ = some (.bool y.2.2.1.1)∧W.cell? ⟨(b.add (k * 5)).block,(b.add (k * 5)).off+3,none⟩ = some (.slice B1 y.2.2.1.2.length d1)∧W.cell? ⟨(b.add (k * 5)).block,(b.add (k * 5)).off+4,none⟩ = some (.int .i64 y.2.2.2)∧Hid (Below w.heap.size w W))
     ((refine KL.out _ ?_;(first | exact HB1.out | exact HB0.out.drew | fail)))
     (first
       | (go_at_call 197;(have hBB:=(‹_∧_∧_∧_∧_∧_∧_∧_∧_∧_∧Hid (Below w.heap.size w _)›).2.2.2.2.2.2.2.2.2.2);(with_reducible refine (eqE_cal _ _ x y _ HXL.out (HR.out _ hBB.out) (HR'.out _ hBB.out)).mono ?_);rintro e w1 ⟨rfl,b1⟩;have HB1:=Lib.hid (Below.next hBB.out b1);clear hBB b1))
    by_cases he:x = y
    ·have hdt:decide (x = y) = true:=decide_eq_true he
     rw [hdt]
     have HE:=Lib.hid (HTS.out.1 he)
     clear hdt he
     go_wp2
     go_roundw
     case rel=>exact ⟨k+1,by omega,by go_num,HB1.out,HE⟩
     case measure=>simp [intOf];omega
    ·have hdt:decide (x = y) = false:=decide_eq_false he
     rw [hdt]
     have HE:=Lib.hid (HTS.out.2 he)
     clear hdt he
     go_wp2
     go_ret
     exact ⟨ret_bool (decide_eq_false HE.out).symm,HB1.out⟩
   ·go_wp2
    go_ret
    exact ⟨ret_bool (decide_eq_true (same_of_takes HT.out HL.out hlt)).symm,hb⟩
 ·have hbe:((ss.length:Int) != (ts.length:Int)) = true:=by simp;omega
  go_enter Tryz.func121,Tryz.ntmps121
  go_wp2
  go_ret
  exact ⟨ret_bool (decide_eq_false (fun e=>hlen (by rw [e]))).symm,Below.refl _ _⟩
def rangeE (lo hi:Nat):List Nat:=List.range' lo (hi - lo)
theorem mem_rangeE {lo hi g:Nat} (h:lo ≤ g) (h2:g < hi):g ∈ rangeE lo hi:=by
 unfold rangeE
 rw [List.mem_range'_1]
 omega
theorem rangeE_mem {lo hi g:Nat} (h:g ∈ rangeE lo hi):lo ≤ g∧g < hi:=by
 unfold rangeE at h
 rw [List.mem_range'_1] at h
 omega
def mkEL:List EI→Int
 | []=>0
 | x :: l=>4+x.2.2.1.2.length+mkEL l
theorem mkEL_nonneg (l:List EI):0 ≤ mkEL l:=by
 induction l with
 | nil=>exact Int.le_refl _
 | cons x l ih=>show 0 ≤ 4+(x.2.2.1.2.length:Int)+mkEL l;omega
theorem mkEL_len (l:List EI):(l.length:Int) ≤ mkEL l:=by
 induction l with
 | nil=>exact Int.le_refl _
 | cons x l ih=>show ((l.length+1:Nat):Int) ≤ 4+(x.2.2.1.2.length:Int)+mkEL l;omega
theorem mkEL_append (l r:List EI):mkEL (l ++ r) = mkEL l+mkEL r:=by
 induction l with
 | nil=>show mkEL r = 0+mkEL r;omega
 | cons x l ih=>show 4+(x.2.2.1.2.length:Int)+mkEL (l ++ r) = 4+(x.2.2.1.2.length:Int)+mkEL l+mkEL r;rw [ih];omega
theorem mkEL_take {l:List EI} {j:Nat} {x:EI} (h:l[j]? = some x):mkEL (l.take (j+1)) = mkEL (l.take j)+(4+x.2.2.1.2.length):=by
 have hj:=(List.getElem?_eq_some_iff.1 h).1
 have e:l[j] = x:=(List.getElem?_eq_some_iff.1 h).2
 rw [List.take_succ_eq_append_getElem hj,mkEL_append,e]
 show _+(4+(x.2.2.1.2.length:Int)+0) = _
 omega
theorem mkEL_take_le (l:List EI) (j:Nat):mkEL (l.take j) ≤ mkEL l:=by
 have:=mkEL_append (l.take j) (l.drop j)
 rw [List.take_append_drop] at this
 have:=mkEL_nonneg (l.drop j)
 omega
abbrev CE:Type:=ByteArray × ByteArray × Bool × Value × Int
def CellE (p:CE) (x:EI) (w:World):Prop:=p.1 = x.1∧p.2.1 = x.2.1∧p.2.2.1 = x.2.2.1.1∧p.2.2.2.2 = x.2.2.2∧OwnI p.2.2.2.1 x.2.2.1.2 w
def ApartE (v:Value) (e:List CE):Prop :=
 (∀ (i j:Nat) p q b,e[i]? = some p→e[j]? = some q→p.2.2.2.1.ownBlock = some b→q.2.2.2.1.ownBlock = some b→i = j)∧∀ (i:Nat) p b,e[i]? = some p→p.2.2.2.1.ownBlock = some b→v.ownBlock ≠ some b
def OwnEP (v:Value) (l:List EI) (w:World):Prop :=
 ∃ e:List CE,w.ownsRow 0 54 5 v l.length (flatE e)∧e.length = l.length∧(∀ (j:Nat) x p,l[j]? = some x→e[j]? = some p→CellE p x w)∧ApartE v e
def OwnER (w:World) (v:Value) (l:List EI):Prop :=
 ∃ A c,v = .slice A l.length c∧∀ (j:Nat) x,l[j]? = some x→∃ a u,A = some a∧a.block < w.heap.size∧w.cell? (a.add (j * 5)) = some (.string x.1)∧w.cell? ⟨(a.add (j * 5)).block,(a.add (j * 5)).off+1,none⟩ = some (.string x.2.1)∧w.cell? ⟨(a.add (j * 5)).block,(a.add (j * 5)).off+2,none⟩ = some (.bool x.2.2.1.1)∧w.cell? ⟨(a.add (j * 5)).block,(a.add (j * 5)).off+3,none⟩ = some u∧w.cell? ⟨(a.add (j * 5)).block,(a.add (j * 5)).off+4,none⟩ = some (.int .i64 x.2.2.2)∧OwnI u x.2.2.1.2 w
theorem OwnER.below {w w':World} {v:Value} {l:List EI} (h:OwnER w v l) (hb:Below w.heap.size w w'):OwnER w' v l:=by
 obtain ⟨A,c,rfl,h⟩:=h
 refine ⟨A,c,rfl,fun j x hj=>?_⟩
 obtain ⟨a,u,rfl,h1,h2,h3,h4,h5,h6,h7⟩:=h j x hj
 exact ⟨a,u,rfl,Nat.lt_of_lt_of_le h1 hb.size,(cell_keep5' hb h1 j).trans h2,(cell_keep5 hb h1 j 1).trans h3,(cell_keep5 hb h1 j 2).trans h4,(cell_keep5 hb h1 j 3).trans h5,(cell_keep5 hb h1 j 4).trans h6,own_below h7 hb⟩
theorem OwnER.rd {w:World} {v:Value} {l:List EI} (h:OwnER w v l):RdEL w v l:=by
 obtain ⟨A,c,rfl,h⟩:=h
 refine ⟨A,c,rfl,fun j x hj=>?_⟩
 obtain ⟨a,u,rfl,h1,h2,h3,h4,h5,h6,h7⟩:=h j x hj
 exact ⟨a,u,rfl,h1,h2,h3,h4,h5,h6,h7.row⟩
theorem own_lenE {w:World} {base n size:Nat} {e:TypeId} {v:Value} {xs:List Value} (h:w.ownsRow base e size v n xs):∃ A c,v = .slice A n c:=by
 rcases h.2 with ⟨rfl,rfl⟩ | ⟨g,cap,cur,rfl,_⟩
 ·exact ⟨_,_,rfl⟩
 ·exact ⟨_,_,rfl⟩
theorem own_lowE {w:World} {base base' n size:Nat} {e:TypeId} {v:Value} {xs:List Value} (h:w.ownsRow base e size v n xs) (hb:base' ≤ base):w.ownsRow base' e size v n xs:=by
 obtain ⟨hl,h | ⟨g,cap,cur,rfl,hg,r⟩⟩:=h
 ·exact ⟨hl,.inl h⟩
 ·exact ⟨hl,.inr ⟨g,cap,cur,rfl,by omega,r⟩⟩
theorem OwnEP.ownR {v:Value} {l:List EI} {w:World} (h:OwnEP v l w):OwnER w v l:=by
 obtain ⟨e,h4,hlen,h5,_⟩:=h
 obtain ⟨A,c,rfl⟩:=own_lenE h4
 refine ⟨A,c,rfl,fun j x hj=>?_⟩
 have hjl:=(List.getElem?_eq_some_iff.1 hj).1
 obtain ⟨g,cap,ev,_,hg,_⟩:=own_form h4 (by omega)
 cases ev
 obtain ⟨p,hp⟩:∃ p,e[j]? = some p:=⟨_,List.getElem?_eq_getElem (by omega)⟩
 obtain ⟨e0,e1,e2,e3,ho⟩:=h5 j x p hj hp
 have hf:=flatE_get hp
 rw [e0,e1,e2,e3] at hf
 refine ⟨⟨g,0,none⟩,p.2.2.2.1,rfl,hg,?_,?_,?_,?_,?_,ho⟩
 ·have:=h4.cellAt (j * 5) (by omega)
  rw [hf.1] at this
  rw [add_ownE]
  exact this
 ·have:=h4.cellAt (j * 5+1) (by omega)
  rw [hf.2.1] at this
  rw [add_ownE]
  exact this
 ·have:=h4.cellAt (j * 5+2) (by omega)
  rw [hf.2.2.1] at this
  rw [add_ownE]
  exact this
 ·have:=h4.cellAt (j * 5+3) (by omega)
  rw [hf.2.2.2.1] at this
  rw [add_ownE]
  exact this
 ·have:=h4.cellAt (j * 5+4) (by omega)
  rw [hf.2.2.2.2] at this
  rw [add_ownE]
  exact this
theorem OwnEG.blocks {w:World} {lo hi:Nat} {l:List EI} {e:List CE} (h:OwnEG w lo l e hi):∀ (i:Nat) p b,e[i]? = some p→p.2.2.2.1.ownBlock = some b→lo ≤ b∧b < hi:=by
 induction l generalizing lo e with
 | nil =>
   cases e with
   | nil=>intro i p b hp;simp at hp
   | cons _ _=>exact h.elim
 | cons x l ih =>
   cases e with
   | nil=>exact h.elim
   | cons q e =>
     obtain ⟨mid,h1,_,_,_,_,h3,h4,h5⟩:=h
     intro i p b hp hb
     have hle:=h5.le
     cases i with
     | zero =>
       obtain rfl:q = p:=by simpa using hp
       have:=h4 b hb
       exact ⟨(own_lt h3 hb).1,by omega⟩
     | succ i =>
       have:=ih h5 i p b (by simpa using hp) hb
       omega
theorem OwnEG.apart {w:World} {lo hi:Nat} {l:List EI} {e:List CE} (h:OwnEG w lo l e hi):∀ (i j:Nat) p q b,e[i]? = some p→e[j]? = some q→p.2.2.2.1.ownBlock = some b→q.2.2.2.1.ownBlock = some b→i = j:=by
 induction l generalizing lo e with
 | nil =>
   cases e with
   | nil=>intro i j p q b hp;simp at hp
   | cons _ _=>exact h.elim
 | cons x l ih =>
   cases e with
   | nil=>exact h.elim
   | cons r e =>
     obtain ⟨mid,h1,_,_,_,_,h3,h4,h5⟩:=h
     intro i j p q b hp hq hpb hqb
     cases i with
     | zero =>
       cases j with
       | zero=>rfl
       | succ j =>
         exfalso
         obtain rfl:r = p:=by simpa using hp
         have:=h4 b hpb
         have:=(h5.blocks j q b (by simpa using hq) hqb).1
         omega
     | succ i =>
       cases j with
       | zero =>
         exfalso
         obtain rfl:r = q:=by simpa using hq
         have:=h4 b hqb
         have:=(h5.blocks i p b (by simpa using hp) hpb).1
         omega
       | succ j=>rw [ih h5 i j p q b (by simpa using hp) (by simpa using hq) hpb hqb]
theorem OwnEL.own {v:Value} {l:List EI} {lo hi:Nat} {w:World} (h:OwnEL v l lo hi w):OwnEP v l w:=by
 obtain ⟨g,e,rfl,h1,h2,h3,h4,h5⟩:=h
 refine ⟨e,own_lowE h4 (Nat.zero_le _),h5.length,fun j x p hx hp=>?_,h5.apart,fun i p b hp hb hv=>?_⟩
 ·obtain ⟨u,he,ho⟩:=h5.at_ hx
  rw [he] at hp
  cases hp
  exact ⟨rfl,rfl,rfl,rfl,ho⟩
 ·have:=(h5.blocks i p b hp hb).1
  have hg:g = b:=by
   have:(some g:Option Nat) = some b:=hv
   injection this
  omega
def blocksE (v:Value) (e:List CE):List Nat:=v.ownBlock.toList ++ e.flatMap fun p=>p.2.2.2.1.ownBlock.toList
theorem blocksE_v {v:Value} {e:List CE} {b:Nat} (h:v.ownBlock = some b):b ∈ blocksE v e:=by
 unfold blocksE
 rw [h]
 simp
theorem blocksE_e {v:Value} {e:List CE} {p:CE} {b:Nat} (hp:p ∈ e) (h:p.2.2.2.1.ownBlock = some b):b ∈ blocksE v e :=
 List.mem_append_right _ (List.mem_flatMap.2 ⟨p,hp,by rw [h];simp⟩)
theorem blocksE_mem {v:Value} {e:List CE} {b:Nat} (h:b ∈ blocksE v e):v.ownBlock = some b ∨ ∃ (j:Nat) (p:CE),e[j]? = some p∧p.2.2.2.1.ownBlock = some b:=by
 rcases List.mem_append.1 h with h | h
 ·left;simpa using h
 ·right
  obtain ⟨p,hp,hb⟩:=List.mem_flatMap.1 h
  obtain ⟨j,hj⟩:=List.mem_iff_getElem?.1 hp
  exact ⟨j,p,hj,by simpa using hb⟩
theorem ownEP_at {v:Value} {l:List EI} {w:World} {e:List CE} (h4:w.ownsRow 0 54 5 v l.length (flatE e)) (hl:e.length = l.length) (h5:∀ (j:Nat) x p,l[j]? = some x→e[j]? = some p→CellE p x w) (h6:ApartE v e):At (blocksE v e) (OwnEP v l) w:=by
 refine ⟨⟨e,h4,hl,h5,h6⟩,fun g hg=>?_,fun w' hk=>⟨e,own_stays h4 fun g hg=>hk g (blocksE_v hg),hl,fun j x p hx hp=>?_,h6⟩⟩
 ·rcases blocksE_mem hg with h | ⟨j,p,hp,h⟩
  ·exact (own_lt h4 h).2
  ·obtain ⟨x,hx⟩:∃ x,l[j]? = some x:=⟨_,List.getElem?_eq_getElem (by have:=(List.getElem?_eq_some_iff.1 hp).1;omega)⟩
   exact (own_lt (h5 j x p hx hp).2.2.2.2 h).2
 ·obtain ⟨e0,e1,e2,e3,ho⟩:=h5 j x p hx hp
  exact ⟨e0,e1,e2,e3,own_stays ho fun g hg=>hk g (blocksE_e (List.mem_of_getElem? hp) hg)⟩
theorem at_row_memE {S:List Nat} {φ:World→Prop} {w:World} {u:Value} {T:TypeId} {size:Nat} (hT:¬ T = 4) (h:At S φ w) (hi:∀ w',φ w'→∃ base n xs,w'.ownsRow base T size u n xs):∀ g,u.ownBlock = some g→g ∈ S:=by
 intro g hg
 rcases Classical.em (g ∈ S) with hin | hout
 ·exact hin
 ·exfalso
  obtain ⟨b1,n1,x1,h1⟩:=hi _ h.here
  obtain ⟨b2,n2,x2,hst⟩:=hi _ (h.stays { w with heap:=w.heap.set! g (.cells #[] 4 (0,0)) } (fun i hi=>by
   have:i ≠ g:=fun e=>hout (e ▸ hi)
   simp [Ne.symm this]))
  have hlt:=(own_lt h1 hg).2
  obtain ⟨_,⟨rfl,_⟩ | ⟨g',cap,cur,rfl,_,hh,_⟩⟩:=hst
  ·cases hg
  ·cases hg
   have hlt':g' < w.heap.size:=hlt
   have hh':(w.heap.setIfInBounds g' (.cells #[] 4 (0,0)))[g']? = some (.cells cur T (0,0)):=hh
   rw [Array.getElem?_setIfInBounds_self_of_lt hlt'] at hh'
   injection hh' with hh'
   injection hh' with e1 e2
   exact hT e2.symm
theorem atEP_mem {S:List Nat} {u:Value} {l:List EI} {w:World} (h:At S (OwnEP u l) w):∃ e:List CE,w.ownsRow 0 54 5 u l.length (flatE e)∧e.length = l.length∧(∀ (j:Nat) x p,l[j]? = some x→e[j]? = some p→CellE p x w)∧ApartE u e∧(∀ b,u.ownBlock = some b→b ∈ S)∧∀ p ∈ e,∀ b,p.2.2.2.1.ownBlock = some b→b ∈ S:=by
 have hg:∀ b,u.ownBlock = some b→b ∈ S:=at_row_memE (T:=54) (size:=5) (by decide) h (fun W k=>by
  obtain ⟨e,k4,_⟩:=k
  exact ⟨_,_,_,k4⟩)
 obtain ⟨e,h4,hl,h5,h6⟩:=h.here
 refine ⟨e,h4,hl,h5,h6,hg,fun p hp b hb=>?_⟩
 obtain ⟨j,hj⟩:=List.mem_iff_getElem?.1 hp
 have hjl:j < l.length:=by have:=(List.getElem?_eq_some_iff.1 hj).1;omega
 obtain ⟨x,hx⟩:∃ x,l[j]? = some x:=⟨_,List.getElem?_eq_getElem hjl⟩
 obtain ⟨g,cap,rfl,_,_,_⟩:=own_form h4 (by omega)
 have hgS:=hg g rfl
 have hc:=h4.cellAt (j * 5+3) (by omega)
 rw [(flatE_get hj).2.2.2.1] at hc
 have h':At S (fun W=>OwnEP (.slice (some ⟨g,0,none⟩) l.length cap) l W∧W.heap[g]? = w.heap[g]?) w:=⟨⟨h.here,rfl⟩,h.lt,fun W hk=>⟨h.stays W hk,hk g hgS⟩⟩
 refine at_row_memE (T:=3) (size:=1) (by decide) h' (fun W k=>?_) b hb
 obtain ⟨⟨e',k4,kl,k5,_⟩,kw⟩:=k
 obtain ⟨p',hp'⟩:∃ p',e'[j]? = some p':=⟨_,List.getElem?_eq_getElem (by omega)⟩
 obtain ⟨_,_,_,_,ho'⟩:=k5 j x p' hx hp'
 have hc':=k4.cellAt (j * 5+3) (by omega)
 rw [(flatE_get hp').2.2.2.1] at hc'
 have e3:W.cell? ⟨g,j * 5+3,none⟩ = w.cell? ⟨g,j * 5+3,none⟩:=World.cell?_of_block kw
 rw [e3,hc] at hc'
 rw [Option.some.inj hc']
 exact ⟨_,_,_,ho'⟩
def MarkedE (M:Int) (x:EI) (p:CE) (w:World):Prop :=
 p.1 = markB M∧p.2.1 = markB (M+1)∧p.2.2.1 = ((M+1+1) % 3 == 0)∧p.2.2.2.2 = M+1+1+1+x.2.2.1.2.length∧MarkI p.2.2.2.1 x.2.2.1.2 (M+1+1+1) w
def MkEP (v:Value) (l:List EI) (m:Int) (w:World):Prop :=
 ∃ e:List CE,w.ownsRow 0 54 5 v l.length (flatE e)∧e.length = l.length∧∀ (j:Nat) x p,l[j]? = some x→e[j]? = some p→MarkedE (m+mkEL (l.take j)) x p w
theorem flatE_set {e:List CE} {k:Nat} {p:CE} (h:e[k]? = some p) (a b:ByteArray) (c:Bool) (n:Int) :
 ((((flatE e).set (k * 5) (.string a)).set (k * 5+1) (.string b)).set (k * 5+2) (.bool c)).set (k * 5+4) (.int .i64 n) = flatE (e.set k (a,b,c,p.2.2.2.1,n)):=by
 induction e generalizing k with
 | nil=>simp at h
 | cons q e ih =>
   cases k with
   | zero =>
     obtain rfl:q = p:=by simpa using h
     rfl
   | succ k =>
     have:=ih (k:=k) (by simpa using h)
     rw [show (k+1) * 5 = k * 5+1+1+1+1+1 by omega,List.set_cons_succ]
     show _ = _ :: _ :: _ :: _ :: _ :: flatE (e.set k _)
     rw [← this]
     rfl
def MkRel (l:List EI) (e:List CE) (m:Int) (k:Nat) (f:List CE) (W:World):Prop :=
 f.length = e.length∧(∀ (j:Nat) p q,e[j]? = some p→f[j]? = some q→q.2.2.2.1 = p.2.2.2.1)∧∀ (j:Nat) x q,l[j]? = some x→f[j]? = some q→if j < k then MarkedE (m+mkEL (l.take j)) x q W else OwnI q.2.2.2.1 x.2.2.1.2 W
theorem mkRel_zero {l:List EI} {e:List CE} {m:Int} {w:World} (h:∀ (j:Nat) x p,l[j]? = some x→e[j]? = some p→CellE p x w):MkRel l e m 0 e w :=
 ⟨rfl,fun j p q hp hq=>by rw [hp] at hq;cases hq;rfl,fun j x q hx hq=>by rw [if_neg (Nat.not_lt_zero _)];exact (h j x q hx hq).2.2.2.2⟩
theorem mkRel_step {l:List EI} {e f:List CE} {m z:Int} {k g:Nat} {W W':World} {x:EI} {p:CE} (h:MkRel l e m k f W)
 (ha:∀ (i j:Nat) p q b,e[i]? = some p→e[j]? = some q→p.2.2.2.1.ownBlock = some b→q.2.2.2.1.ownBlock = some b→i = j) (hg:∀ (i:Nat) p b,e[i]? = some p→p.2.2.2.1.ownBlock = some b→¬ g = b)
 (hx:l[k]? = some x) (hp:f[k]? = some p) (c:Chg (g :: p.2.2.2.1.ownBlock.toList) W W') (hz:z = m+mkEL (l.take k)) (hm:MarkI p.2.2.2.1 x.2.2.1.2 (z+1+1+1) W') :
 MkRel l e m (k+1) (f.set k (markB z,markB (z+1),((z+1+1) % 3 == 0),p.2.2.2.1,z+1+1+1+x.2.2.1.2.length)) W':=by
 obtain ⟨h1,h2,h3⟩:=h
 have hkf:=(List.getElem?_eq_some_iff.1 hp).1
 have hpe:∀ (j:Nat) q,f[j]? = some q→∃ p0,e[j]? = some p0∧q.2.2.2.1 = p0.2.2.2.1:=fun j q hq=>by
  have hj:=(List.getElem?_eq_some_iff.1 hq).1
  exact ⟨_,List.getElem?_eq_getElem (by omega),h2 j _ q (List.getElem?_eq_getElem (by omega)) hq⟩
 refine ⟨by rw [List.length_set];exact h1,fun j p0 q hp0 hq=>?_,fun j y q hy hq=>?_⟩
 ·by_cases hj:k = j
  ·subst hj
   rw [List.getElem?_set_self hkf] at hq
   cases hq
   exact h2 k p0 p hp0 hp
  ·rw [List.getElem?_set_ne hj] at hq
   exact h2 j p0 q hp0 hq
 ·by_cases hj:k = j
  ·subst hj
   rw [List.getElem?_set_self hkf] at hq
   cases hq
   rw [hx] at hy
   cases hy
   rw [if_pos (Nat.lt_succ_self _)]
   subst hz
   exact ⟨rfl,rfl,rfl,rfl,hm⟩
  ·rw [List.getElem?_set_ne hj] at hq
   have hthis:=h3 j y q hy hq
   have hkeep:∀ b,q.2.2.2.1.ownBlock = some b→b < W.heap.size→W'.heap[b]? = W.heap[b]?:=fun b hb hlt=>c.block b hlt (fun hmem=>by
    obtain ⟨q0,hq0,eq0⟩:=hpe j q hq
    obtain ⟨p0,hp0,ep0⟩:=hpe k p hp
    rw [eq0] at hb
    rcases List.mem_cons.1 hmem with rfl | hmem
    ·exact hg j q0 _ hq0 hb rfl
    ·rw [ep0] at hmem
     exact hj (ha k j p0 q0 b hp0 hq0 (by simpa using hmem) hb))
   by_cases hjk:j < k
   ·rw [if_pos hjk] at hthis
    rw [if_pos (by omega)]
    obtain ⟨a1,a2,a3,a4,a5⟩:=hthis
    exact ⟨a1,a2,a3,a4,own_stays a5 fun b hb=>hkeep b hb (own_lt a5 hb).2⟩
   ·rw [if_neg hjk] at hthis
    rw [if_neg (by omega)]
    exact own_stays hthis fun b hb=>hkeep b hb (own_lt hthis hb).2
theorem mkRel_end {l:List EI} {e f:List CE} {m:Int} {W:World} {v:Value} (hl:e.length = l.length) (h:MkRel l e m l.length f W) (ho:W.ownsRow 0 54 5 v l.length (flatE f)):MkEP v l m W :=
 ⟨f,ho,by rw [h.1,hl],fun j x p hx hp=>by
  have:=h.2.2 j x p hx hp
  rwa [if_pos (List.getElem?_eq_some_iff.1 hx).1] at this⟩
set_option maxHeartbeats 4000000 in
theorem markRateS_any (v:Value) (e:List CE) (l:List EI) (S:List Nat) (m:Int) (w:World) (hm:m+mkEL l ≤ 9223372036854775807) (hm0:0 ≤ m)
 (ho:w.ownsRow 0 54 5 v l.length (flatE e)) (hel:e.length = l.length) (hes:∀ (j:Nat) x p,l[j]? = some x→e[j]? = some p→CellE p x w) (hap:ApartE v e) (hTv:∀ b,v.ownBlock = some b→b ∈ S) (hTe:∀ p ∈ e,∀ b,p.2.2.2.1.ownBlock = some b→b ∈ S) :
 Calls Tryz.prog 122 #[v,.int .i64 m] w fun e' w'=>e' = .returned (.int .i64 (m+mkEL l))∧(∃ f,w'.ownsRow 0 54 5 v l.length (flatE f)∧MkRel l e m l.length f w')∧Chg S w w':=by
 have HEL:=Lib.hid hel
 have hln:=mkEL_nonneg l
 have hll:(l.length:Int) ≤ 9223372036854775807:=by have:=mkEL_len l;omega
 have HR0:=Lib.hid (mkRel_zero (m:=m) hes)
 have HAP:=Lib.hid hap
 have HTV:=Lib.hid hTv
 have HTE:=Lib.hid hTe
 clear hes hel hap hTv hTe
 obtain ⟨A,c,rfl⟩:=own_lenE ho
 go_enter Tryz.func122,Tryz.ntmps122
 go_wp2
 go_loopw [1,5] (fun a i wr=>∃ (k:Nat) (z:Int) (f:List CE),k ≤ l.length∧i = .int .i64 k∧a = .int .i64 z∧Hid (z = m+mkEL (l.take k))∧wr.ownsRow 0 54 5 (.slice A l.length c) l.length (flatE f)∧Hid (MkRel l e m k f wr)∧Chg S w wr) (fun _ i _=>l.length - (intOf i).toNat)
 case atStart=>exact ⟨0,m,e,Nat.zero_le _,rfl,rfl,Lib.hid (by rw [List.take_zero];show _ = _+(0:Int);omega),ho,HR0,Chg.refl _ _⟩
 case round =>
  clear ho HR0
  obtain ⟨k,z,f,hk,rfl,rfl,HZ,ho,HRL,hc⟩:=hrel
  by_cases hlt:k < l.length
  ·obtain ⟨x,hxk⟩:∃ x,l[k]? = some x:=⟨_,List.getElem?_eq_getElem hlt⟩
   obtain ⟨g,cap,ev,_,hgl,_⟩:=own_form ho (by omega)
   cases ev
   have hfl:f.length = l.length:=HRL.out.1.trans HEL.out
   obtain ⟨p,hpk⟩:∃ p,f[k]? = some p:=⟨_,List.getElem?_eq_getElem (by omega)⟩
   have hxs:(flatE f).length = l.length * 5:=ho.1
   have HT:=Lib.hid (mkEL_take hxk)
   have HTL:=Lib.hid (mkEL_take_le l (k+1))
   have HT0:=Lib.hid (mkEL_nonneg (l.take k))
   have hoi:OwnI p.2.2.2.1 x.2.2.1.2 wr:=by
    have:=HRL.out.2.2 k x p hxk hpk
    rwa [if_neg (Nat.lt_irrefl _)] at this
   obtain ⟨p0,hp0⟩:∃ p0,e[k]? = some p0:=⟨_,List.getElem?_eq_getElem (by have:=HEL.out;omega)⟩
   have hpp:p.2.2.2.1 = p0.2.2.2.1:=HRL.out.2.1 k p0 p hp0 hpk
   have hgp:∀ b,p.2.2.2.1.ownBlock = some b→¬ g = b:=fun b hb he=>HAP.out.2 k p0 b hp0 (hpp ▸ hb) (by rw [he];rfl)
   have hgS:g ∈ S:=HTV.out g rfl
   have hpS:∀ b,p.2.2.2.1.ownBlock = some b→b ∈ S:=fun b hb=>HTE.out p0 (List.mem_of_getElem? hp0) b (hpp ▸ hb)
   have HSTEP:=Lib.hid (show ∀ W',Chg (g :: p.2.2.2.1.ownBlock.toList) wr W'→MarkI p.2.2.2.1 x.2.2.1.2 (z+1+1+1) W'→MkRel l e m (k+1) (f.set k (markB z,markB (z+1),((z+1+1) % 3 == 0),p.2.2.2.1,z+1+1+1+x.2.2.1.2.length)) W' from
    fun W' hcW hmW=>mkRel_step HRL.out HAP.out.1 (fun i q b hq hb he=>HAP.out.2 i q b hq hb (by rw [he];rfl)) hxk hpk hcW HZ.out hmW)
   have HFS:=Lib.hid (flatE_set hpk (markB z) (markB (z+1)) ((z+1+1) % 3 == 0) (z+1+1+1+x.2.2.1.2.length))
   have hx3:(flatE f)[k * 5+3]? = some p.2.2.2.1:=(flatE_get hpk).2.2.2.1
   have hzb:0 ≤ z∧z+4+x.2.2.1.2.length ≤ 9223372036854775807∧z+1+1+1+x.2.2.1.2.length+1 = m+mkEL (l.take (k+1)):=by
    have h1:=HZ.out
    have h2:=HT.out
    have h3:=HTL.out
    have h4:=HT0.out
    omega
   have hz0:0 ≤ z:=hzb.1
   have hz1:z+4+x.2.2.1.2.length ≤ 9223372036854775807:=hzb.2.1
   have HZ2:=Lib.hid hzb.2.2
   have HO:=Lib.hid ho
   have HC0:=Lib.hid hc
   have HX3:=Lib.hid hx3
   have HOI:=Lib.hid hoi
   have HGP:=Lib.hid hgp
   have HGS:=Lib.hid (And.intro hgS hpS)
   have HXS:=Lib.hid hxs
   have HC:=Lib.hid (Chg.refl (g :: p.2.2.2.1.ownBlock.toList) wr)
   generalize p.2.2.2.1 = P at *
   generalize flatE f = xs at *
   clear hc hzb HT HTL HT0 ho hx3 hoi hgp hgS hpS HZ HRL hfl hpk hpp hxk hgl
   go_wp2_with fail
   refine (markText_any z _ (by omega)).mono ?_
   rintro e' w1 ⟨rfl,b1⟩
   have ho1:=own_below HO.out b1
   have hcell0:=ho1.cellAt (k * 5) (by omega)
   rw [List.getElem?_eq_getElem (by omega)] at hcell0
   have hfr0:=ho1.frozenAt (k * 5)
   obtain ⟨ho2,_⟩:=ho1.stored (k * 5) (.string (markB z))
   have H1:=Lib.hid ho2
   have H3:=Lib.hid (show OwnI P x.2.2.1.2 (w1.setCell ⟨g,k * 5,none⟩ (.string (markB z))) from own_stays (own_below HOI.out b1) fun i hi=>by
    rw [Below.heap_setCell _ _ _ _ (Ne.symm (HGP.out i hi))])
   have HC1:=Lib.hid ((HC.out.trans (Chg.of_below b1)).setCell (p:=⟨g,k * 5,none⟩) (List.mem_cons_self ..) (.string (markB z)))
   clear ho1 ho2 HO HC HOI b1
   generalize hM:markB z = M at *
   go_wp2_with fail
   clear hcell0 hfr0
   refine (markText_any (z+1) _ (by omega)).mono ?_
   rintro e' w2 ⟨rfl,b2⟩
   have ho3:=own_below H1.out b2
   have hcell1:=ho3.cellAt (k * 5+1) (by omega)
   have hcell2:=ho3.cellAt (k * 5+2) (by omega)
   rw [List.getElem?_eq_getElem (by rw [List.length_set];omega)] at hcell1 hcell2
   have hcell3:=ho3.cellAt (k * 5+3) (by omega)
   rw [List.getElem?_set_ne (by omega),HX3.out] at hcell3
   have hfr1:=ho3.frozenAt (k * 5+1)
   have hfr2:=ho3.frozenAt (k * 5+2)
   obtain ⟨ho4,_⟩:=ho3.stored (k * 5+1) (.string (markB (z+1)))
   obtain ⟨ho5,_⟩:=ho4.stored (k * 5+2) (.bool ((z+1+1) % 3 == 0))
   have K1:=Lib.hid ho5
   have K3:=Lib.hid (show ((w2.setCell ⟨g,k * 5+1,none⟩ (.string (markB (z+1)))).setCell ⟨g,k * 5+2,none⟩ (.bool ((z+1+1) % 3 == 0))).ownsRow 0 3 1 P x.2.2.1.2.length (intsV x.2.2.1.2) from own_stays (own_below H3.out b2) fun i hi=>by
    rw [Below.heap_setCell _ _ _ _ (Ne.symm (HGP.out i hi)),Below.heap_setCell _ _ _ _ (Ne.symm (HGP.out i hi))])
   have KC:=Lib.hid (((HC1.out.trans (Chg.of_below b2)).setCell (p:=⟨g,k * 5+1,none⟩) (List.mem_cons_self ..) (.string (markB (z+1)))).setCell (p:=⟨g,k * 5+2,none⟩) (List.mem_cons_self ..) (.bool ((z+1+1) % 3 == 0)))
   clear ho3 ho4 ho5 H1 H3 HC1 b2
   generalize hM2:markB (z+1) = M2 at *
   go_wp2_with fail
   with_reducible refine (markIntS_any P x.2.2.1.2.length (intsV x.2.2.1.2) 0 (z+1+1+1) _ (by omega) (by omega) K3.out).mono ?_
   rintro e' w3 ⟨rfl,o2,g2⟩
   clear hcell1 hcell2 hcell3 hfr1 hfr2
   have hlt2:=(own_lt K1.out (g:=g) rfl).2
   have ho6:w3.ownsRow 0 54 5 (.slice (some ⟨g,0,none⟩) l.length c) l.length (((xs.set (k * 5) (.string M)).set (k * 5+1) (.string M2)).set (k * 5+2) (.bool ((z+1+1) % 3 == 0))):=own_stays K1.out fun i hi=>by
    cases hi
    exact g2.block g hlt2 (fun e=>HGP.out g e.symm rfl)
   have hc2:=KC.out.trans ((Chg.of_grown g2).more (T:=P.ownBlock.toList) fun i hi=>List.mem_cons_of_mem _ hi)
   have hcell4:=ho6.cellAt (k * 5+4) (by omega)
   rw [List.getElem?_eq_getElem (by rw [List.length_set,List.length_set,List.length_set];omega)] at hcell4
   have hfr4:=ho6.frozenAt (k * 5+4)
   obtain ⟨ho7,_⟩:=ho6.stored (k * 5+4) (.int .i64 (z+1+1+1+x.2.2.1.2.length))
   have HC7:=Lib.hid (hc2.setCell (p:=⟨g,k * 5+4,none⟩) (List.mem_cons_self ..) (.int .i64 (z+1+1+1+x.2.2.1.2.length)))
   have HM7:=Lib.hid (show MarkI P x.2.2.1.2 (z+1+1+1) (w3.setCell ⟨g,k * 5+4,none⟩ (.int .i64 (z+1+1+1+x.2.2.1.2.length))) from own_stays o2 fun i hi=>by
    rw [Below.heap_setCell _ _ _ _ (Ne.symm (HGP.out i hi))])
   have HR7:=Lib.hid (HSTEP.out _ HC7.out HM7.out)
   have HO7:=Lib.hid (HFS.out ▸ ho7)
   have HS7:=Lib.hid (HC0.out.trans (HC7.out.more fun i hi=>by
    rcases List.mem_cons.1 hi with rfl | hi
    ·exact HGS.out.1
    ·exact HGS.out.2 i (by simpa using hi)))
   clear ho6 ho7 hc2 g2 o2 K1 K3 KC HSTEP HFS HC7 HM7
   go_wp2
   go_roundw
   case rel=>exact ⟨k+1,_,_,by omega,by go_num,rfl,HZ2,HO7.out,HR7,HS7.out⟩
   case measure=>simp [intOf];omega
  ·obtain rfl:k = l.length:=by omega
   have HV:=Lib.hid (show m+mkEL l = z by
    have h3:=HZ.out
    rw [List.take_length] at h3
    omega)
   go_wp2
   go_ret
   exact ⟨ret_int HV.out.symm,⟨f,ho,HRL.out⟩,hc⟩
instance decEqT:DecidableEq TI:=fun x y=>@instDecidableEqProd _ _ inferInstance (fun _ _=>inferInstance) x y
theorem ownEL_at {v:Value} {l:List EI} {lo hi:Nat} {w:World} (h:OwnEL v l lo hi w):At (rangeE lo hi) (OwnEL v l lo hi) w:=by
 have hh:=h
 obtain ⟨g,e,rfl,h1,h2,h3,h4,h5⟩:=hh
 refine ⟨h,fun i hi=>by have:=rangeE_mem hi;omega,fun w' hk=>?_⟩
 have hz:hi ≤ w'.heap.size:=by
  have hm:=hk (hi - 1) (mem_rangeE (by omega) (by omega))
  rw [Array.getElem?_eq_getElem (show hi - 1 < w.heap.size by omega)] at hm
  have:=(Array.getElem?_eq_some_iff.1 hm).1
  omega
 exact ⟨g,e,rfl,h1,h2,hz,own_stays h4 fun i hi=>by cases hi;exact hk g (mem_rangeE h1 h2),h5.stays fun i hi hi2=>hk i (mem_rangeE (by omega) hi2)⟩
def OwnT (v:Value) (q:TI) (w:World):Prop:=∃ u,v = .agg #[.string q.1,u]∧OwnEP u q.2 w
def RdT (w:World) (v:Value) (q:TI):Prop:=∃ u,v = .agg #[.string q.1,u]∧RdEL w u q.2
theorem OwnT.rd {v:Value} {q:TI} {w:World} (h:OwnT v q w):RdT w v q:=by
 obtain ⟨u,rfl,o⟩:=h
 exact ⟨u,rfl,o.ownR.rd⟩
theorem RdT.below {w W:World} {v:Value} {q:TI} (h:RdT w v q) (hb:Below w.heap.size w W):RdT W v q:=by
 obtain ⟨u,rfl,o⟩:=h
 exact ⟨u,rfl,o.below hb⟩
def szT (q:TI):Int:=q.1.size+(q.2.length+szEL q.2)
def mkT (q:TI):Int:=mkEL q.2
def capT (q:TI):Prop:=q.1.size ≤ 9223372036854775807∧q.2.length ≤ 9223372036854775807∧∀ x ∈ q.2,capE x
theorem szT_nonneg (q:TI):0 ≤ szT q:=by have:=szEL_nonneg q.2;unfold szT;omega
theorem szT_mem {q:TI} (h:szT q ≤ 1048576):q.2.length ≤ 1048576∧∀ x ∈ q.2,szE x ≤ 1048576:=by
 have h0:=szEL_nonneg q.2
 unfold szT at h
 exact ⟨by omega,fun x hx=>by have:=szEL_mem hx;omega⟩
theorem capT_of {q:TI} (h:szT q ≤ 1048576):capT q:=by
 obtain ⟨h1,h2⟩:=szT_mem h
 have h0:=szEL_nonneg q.2
 refine ⟨?_,by omega,fun x hx=>capE_of (h2 x hx)⟩
 unfold szT at h
 omega
theorem rdT_form {v:Value} {q:TI} {w:World} (h:RdT w v q):∃ A c,v = .agg #[.string q.1,.slice A q.2.length c]:=by
 obtain ⟨u,rfl,o⟩:=h
 obtain ⟨A,c,rfl,_⟩:=o
 exact ⟨A,c,rfl⟩
theorem ownT_form {v:Value} {q:TI} {w:World} (h:OwnT v q w):∃ A c,v = .agg #[.string q.1,.slice A q.2.length c]:=rdT_form h.rd
theorem ownT_open {u c:Value} {q:TI} {w:World} (h:OwnT (.agg #[c,u]) q w):OwnEP u q.2 w:=by
 obtain ⟨u',e,hu⟩:=h
 injection e with e
 simp at e
 obtain ⟨_,e2⟩:=e
 subst e2
 exact hu
theorem rdT_open {u c:Value} {q:TI} {w:World} (h:RdT w (.agg #[c,u]) q):RdEL w u q.2:=by
 obtain ⟨u',e,hu⟩:=h
 injection e with e
 simp at e
 obtain ⟨_,e2⟩:=e
 subst e2
 exact hu
theorem mkEL_le (l:List EI):mkEL l ≤ 4 * (l.length+szEL l):=by
 induction l with
 | nil=>exact Int.le_refl _
 | cons x l ih =>
   show 4+(x.2.2.1.2.length:Int)+mkEL l ≤ 4 * (((l.length+1:Nat):Int)+(szE x+szEL l))
   have:(x.2.2.1.2.length:Int) ≤ szE x:=by unfold szE szD szS szI;omega
   have h0:=szE_nonneg x
   omega
theorem mkT_range (q:TI):0 ≤ mkT q∧mkT q ≤ 4 * szT q:=by
 have h1:=mkEL_nonneg q.2
 have h2:=mkEL_le q.2
 unfold mkT szT
 omega
def capTS (q:TI):Prop:=capT q∧q.2.length ≤ 1099511627776
theorem capTS_of {q:TI} (h:szT q ≤ 1048576):capTS q:=⟨capT_of h,by have:=(szT_mem h).1;omega⟩
set_option maxHeartbeats 1000000 in
theorem szT_cal (v:Value) (x:TI) (left:Int) (w:World) (hl:capT x) (h0:0 ≤ left) (h1:left ≤ 1048576) (h:RdT w v x):Calls Tryz.prog 46 #[v,.int .i64 left] w (Postn (leftI left (szT x)) w):=by
 obtain ⟨A,c,rfl⟩:=rdT_form h
 have hb:=below_al (Below.refl w.heap.size w) (.cells #[.string x.1,.slice A x.2.length c] 78)
 have kx:=box_new w #[.string x.1,.slice A x.2.length c] 78
 have kx_c0:=kx.here.cell 0 _ rfl
 have kx_c1:=kx.here.cell 1 _ rfl
 obtain ⟨hl1,hl2,hl3⟩:=hl
 have hd0:=szEL_nonneg x.2
 have HSD:=Lib.hid (fun (z:Int) (hz0:0 ≤ z) (hz1:z ≤ 1048576)=>szRateS_any (.slice A x.2.length c) x.2 z _ (by omega) hl3 hz0 hz1 ((rdT_open h).below hb))
 clear h hl3
 by_cases hs:left - x.1.size < 0
 ·have HV:=Lib.hid (show leftI left (szT x) = -1 by unfold leftI szT;rw [if_pos (by omega)])
  have hw:IntKind.i64.wrap (left - (x.1.size:Int)) = left - x.1.size:=IntWalk.i64_in _ (by omega)
  have hneg:decide (left - (x.1.size:Int) < 0) = true:=decide_eq_true hs
  clear hs kx HSD
  go_enter Tryz.func46,Tryz.ntmps46
  go_wp2
  go_ret
  exact ⟨ret_int HV.out.symm,hb⟩
 ·obtain ⟨z0,hz0⟩:∃ z0:Int,left - x.1.size = z0:=⟨_,rfl⟩
  have hw:IntKind.i64.wrap (left - (x.1.size:Int)) = z0:=by rw [IntWalk.i64_in _ (by omega)];exact hz0
  have hneg0:decide (z0 < 0) = false:=decide_eq_false (by omega)
  have HZ:=Lib.hid (show 0 ≤ z0∧z0 ≤ 1048576 by omega)
  have HLL:=Lib.hid (show leftI left (szT x) = leftI z0 (x.2.length+szEL x.2) by unfold leftI szT;rw [show left - ((x.1.size:Int)+(x.2.length+szEL x.2)) = z0 - (x.2.length+szEL x.2) by omega])
  clear hs hz0
  go_enter Tryz.func46,Tryz.ntmps46
  go_wp2_with fail
  clear kx_c0 kx_c1 kx
  refine (HSD.out z0 HZ.out.1 HZ.out.2).mono ?_
  rintro e w1 ⟨rfl,b1⟩
  have bb1:=Lib.hid (Below.next hb b1)
  have hq:leftI z0 (x.2.length+szEL x.2) < 0∧leftI z0 (x.2.length+szEL x.2) = -1 ∨ ¬ leftI z0 (x.2.length+szEL x.2) < 0:=by unfold leftI;split <;> omega
  generalize leftI z0 (x.2.length+szEL x.2) = z at *
  clear hb b1 HZ HSD
  rcases hq with ⟨h2,h3⟩ | h2
  ·have hneg:decide (z < 0) = true:=decide_eq_true h2
   have H3:=Lib.hid h3
   clear h2 h3
   go_wp2
   go_ret
   exact ⟨ret_int (H3.out.symm.trans HLL.out.symm),bb1.out⟩
  ·have hneg:decide (z < 0) = false:=decide_eq_false h2
   clear h2
   go_wp2
   go_ret
   exact ⟨ret_int HLL.out.symm,bb1.out⟩
set_option maxHeartbeats 1000000 in
theorem eqT_cal (u v:Value) (x y:TI) (w:World) (hz:capTS x) (hu:RdT w u x) (hv:RdT w v y):Calls Tryz.prog 50 #[u,v] w (Postb (decide (x = y)) w):=by
 obtain ⟨Ap,cp,rfl⟩:=rdT_form hu
 obtain ⟨Aq,cq,rfl⟩:=rdT_form hv
 have hb:Below w.heap.size w ((w.alloc (.cells #[.string x.1,.slice Ap x.2.length cp] 25)).alloc (.cells #[.string y.1,.slice Aq y.2.length cq] 25)):=below_al (below_al (Below.refl _ _) _) _
 have kx:=(box_new w #[.string x.1,.slice Ap x.2.length cp] 25).below (below_al (Below.refl _ _) (.cells #[.string y.1,.slice Aq y.2.length cq] 25))
 have ky:=box_new (w.alloc (.cells #[.string x.1,.slice Ap x.2.length cp] 25)) #[.string y.1,.slice Aq y.2.length cq] 25
 rw [show (w.alloc (.cells #[.string x.1,.slice Ap x.2.length cp] 25)).heap.size = w.heap.size+1 by simp] at ky
 have kx_c0:=kx.here.cell 0 _ rfl
 have kx_c1:=kx.here.cell 1 _ rfl
 have ky_c0:=ky.here.cell 0 _ rfl
 have ky_c1:=ky.here.cell 1 _ rfl
 have HE:=Lib.hid (eqRateS_any (.slice Ap x.2.length cp) (.slice Aq y.2.length cq) x.2 y.2 _ (by have:=hz.2;omega) hz.1.2.2 ((rdT_open hu).below hb) ((rdT_open hv).below hb))
 have HB:=Lib.hid hb
 clear kx ky hb hu hv hz
 by_cases h1:x.1 = y.1
 ·have HV:=Lib.hid (show decide (x = y) = decide (x.2 = y.2) from decide_eq_decide.2 ⟨fun e=>by rw [e],fun e=>Prod.ext h1 e⟩)
  rw [← h1] at ky_c0 HE HB
  have H1:=Lib.hid h1
  clear h1
  go_enter Tryz.func50,Tryz.ntmps50
  rw [← H1.out]
  go_wp2_with fail
  refine HE.out.mono ?_
  rintro e w1 ⟨rfl,b1⟩
  have bb1:=Lib.hid (Below.next HB.out b1)
  clear kx_c0 kx_c1 ky_c0 ky_c1 b1
  by_cases h3:x.2 = y.2
  ·rw [decide_eq_true h3] at HV ⊢
   clear h3
   go_wp2
   go_ret
   exact ⟨ret_bool HV.out.symm,bb1.out⟩
  ·rw [decide_eq_false h3] at HV ⊢
   clear h3
   go_wp2
   go_ret
   exact ⟨ret_bool HV.out.symm,bb1.out⟩
 ·have hne:=bytes_neC h1
  have hne2:(x.1.toList != y.1.toList) = true:=by rw [bne,hne];rfl
  have HV:=Lib.hid (show decide (x = y) = false from decide_eq_false (fun e=>h1 (by rw [e])))
  clear h1 HE
  go_enter Tryz.func50,Tryz.ntmps50
  go_wp2
  go_ret
  exact ⟨ret_bool HV.out.symm,HB.out⟩
theorem newEL_at {l:List EI} {w w':World} {e:Ending} (h:NewEL l w e w'):∃ v S,e = .returned v∧At S (OwnEP v l) w'∧Within S w.heap.size w'.heap.size∧Below w.heap.size w w'∧∃ A c,v = .slice A l.length c:=by
 obtain ⟨v,rfl,o,b⟩:=h
 refine ⟨v,_,rfl,(ownEL_at o).imp fun _ k=>k.own,fun i hi=>rangeE_mem hi,b,?_⟩
 obtain ⟨g,e,rfl,_⟩:=o
 exact ⟨_,_,rfl⟩
set_option maxHeartbeats 2000000 in
theorem toT_new (v:Value) (x:TI) (w:World) (hz:szT x ≤ 1048576) (h:RdT w v x):Calls Tryz.prog 48 #[v] w (NewV (fun u=>OwnT u x) w):=by
 obtain ⟨hl,hx⟩:=szT_mem hz
 obtain ⟨A,c,rfl⟩:=rdT_form h
 have h3:=alloc3 w (.cells #[.string x.1,.slice A x.2.length c] 78) (.cells #[.string ⟨#[]⟩,.slice none 0 0] 25) (.cells #[.string x.1,.slice none 0 0] 25)
 have hb3:=below3 w (.cells #[.string x.1,.slice A x.2.length c] 78) (.cells #[.string ⟨#[]⟩,.slice none 0 0] 25) (.cells #[.string x.1,.slice none 0 0] 25)
 obtain ⟨W0,hW0⟩:∃ W0,W0 = (((w.alloc (.cells #[.string x.1,.slice A x.2.length c] 78)).alloc (.cells #[.string ⟨#[]⟩,.slice none 0 0] 25)).alloc (.cells #[.string x.1,.slice none 0 0] 25)):=⟨_,rfl⟩
 rw [← hW0] at h3 hb3
 have kb:At [w.heap.size] (BoxAt w.heap.size #[.string x.1,.slice A x.2.length c] 78) W0:=box_at h3.1
 have kr:At [w.heap.size+1] (BoxAt (w.heap.size+1) #[.string ⟨#[]⟩,.slice none 0 0] 25) W0:=box_at h3.2.1
 have ko:At [w.heap.size+1+1] (BoxAt (w.heap.size+1+1) #[.string x.1,.slice none 0 0] 25) W0:=box_at h3.2.2.1
 have hz0:W0.heap.size = w.heap.size+3:=h3.2.2.2
 have HW:=Lib.hid hW0
 clear h3 hW0
 have kb_c0:=kb.here.cell 0 _ rfl
 have kb_c1:=kb.here.cell 1 _ rfl
 go_enter Tryz.func48,Tryz.ntmps48
 go_wp2_with fail
 rw [← HW.out]
 refine (toRateS_any (.slice A x.2.length c) x.2 _ hl hx ((rdT_open h).below hb3)).mono ?_
 intro e w1 hnew
 obtain ⟨u,Su,rfl,o1,l1,b1,Au,cu,rfl⟩:=newEL_at hnew
 clear hnew
 have bb1:=Below.next hb3 b1
 replace kb:=kb.below b1
 replace kr:=kr.below b1
 replace ko:=ko.below b1
 have HR:=Lib.hid (newV_chgM (φ:=fun u=>OwnT u x) (v:=.agg #[.string x.1,.slice Au x.2.length cu]) (T:=[w.heap.size+1,w.heap.size+1+1]) (o1.imp fun _ h=>(⟨_,rfl,h⟩:OwnT _ x _)) (fun i hi hm=>by have:=(l1 i hi).1;simp at hm;omega) (fun i hi=>by simp at hi;omega) (fun i hi=>by have:=(l1 i hi).1;omega) bb1)
 have ko_c0:=ko.here.cell 0 _ rfl
 have ko_c1:=ko.here.cell 1 _ rfl
 have ko_f0:=Lib.frozen_of_heap ko.here 0
 have ko_f1:=Lib.frozen_of_heap ko.here 1
 have kr_c0:=kr.here.cell 0 _ rfl
 have kr_c1:=kr.here.cell 1 _ rfl
 have kr_f0:=Lib.frozen_of_heap kr.here 0
 have kr_f1:=Lib.frozen_of_heap kr.here 1
 clear kb kr ko o1 b1 bb1 h kb_c0 kb_c1
 go_wp2
 refine bodyPost_ret (v:=.agg #[.string x.1,.slice Au x.2.length cu]) (by simp [results,Tryz.results48,go_sem,kr_c0,kr_c1]) rfl ?_
 refine HR.out _ ?_
 repeat (first | with_reducible exact Chg.refl _ _ | with_reducible refine Chg.setCell ?_ (by simp) _)
def MarkT (v:Value) (x:TI) (m:Int) (w:World):Prop:=∃ u,v = .agg #[.string x.1,u]∧MkEP u x.2 m w
theorem mkRel_at {l:List EI} {e f:List CE} {m:Int} {W:World} {v:Value} {S:List Nat} (hl:e.length = l.length) (h:MkRel l e m l.length f W) (ho:W.ownsRow 0 54 5 v l.length (flatE f)) (h7:∀ b,v.ownBlock = some b→b ∈ S) (h8:∀ p ∈ e,∀ b,p.2.2.2.1.ownBlock = some b→b ∈ S)
 (hS:∀ g ∈ S,g < W.heap.size):At S (MkEP v l m) W :=
 ⟨mkRel_end hl h ho,hS,fun w' hk=>⟨f,own_stays ho fun g hg=>hk g (h7 g hg),by rw [h.1,hl],fun j x p hx hp=>by
  have h3:=h.2.2 j x p hx hp
  rw [if_pos (List.getElem?_eq_some_iff.1 hx).1] at h3
  obtain ⟨a1,a2,a3,a4,a5⟩:=h3
  refine ⟨a1,a2,a3,a4,own_stays a5 fun g hg=>hk g ?_⟩
  have hj:=(List.getElem?_eq_some_iff.1 hp).1
  have hje:j < e.length:=by have:=h.1;omega
  have:=h.2.1 j _ p (List.getElem?_eq_getElem hje) hp
  exact h8 _ (List.getElem_mem hje) g (this ▸ hg)⟩⟩
set_option maxHeartbeats 1000000 in
theorem markT_cal (v:Value) (x:TI) (S:List Nat) (m:Int) (w:World) (hm:m+mkT x ≤ 9223372036854775807) (hm0:0 ≤ m) (h:At S (OwnT v x) w) :
 Calls Tryz.prog 51 #[v,.int .i64 m] w fun e w'=>e = .returned (.int .i64 (m+mkT x))∧At S (MarkT v x m) w'∧Chg S w w':=by
 obtain ⟨A,c,rfl⟩:=ownT_form h.here
 have hbx:=below_al (Below.refl w.heap.size w) (.cells #[.string x.1,.slice A x.2.length c] 25)
 have kx:=box_new w #[.string x.1,.slice A x.2.length c] 25
 have ax:At S (OwnEP (.slice A x.2.length c) x.2) _:=(h.below hbx).imp fun _ k=>ownT_open k
 obtain ⟨e,h4,hl,h5,h6,h7,h8⟩:=atEP_mem ax
 have kx_c0:=kx.here.cell 0 _ rfl
 have kx_c1:=kx.here.cell 1 _ rfl
 have HZ:=Lib.hid (show mkT x = mkEL x.2 from rfl)
 have HBX:=Lib.hid hbx
 have HLT:=Lib.hid h.lt
 have HM:=Lib.hid (markRateS_any _ e x.2 S m _ hm hm0 h4 hl h5 h6 h7 h8)
 have H7:=Lib.hid h7
 have H8:=Lib.hid h8
 have HL:=Lib.hid hl
 clear h kx ax h4 hl h5 h6 h7 h8
 go_enter Tryz.func51,Tryz.ntmps51
 go_wp2_with fail
 clear kx_c0 kx_c1
 refine HM.out.mono ?_
 rintro e' w1 ⟨rfl,⟨f,hf,hfr⟩,c1⟩
 have hchg:=Lib.hid ((Chg.of_below HBX.out).trans c1:Chg S w w1)
 have hall:=Lib.hid ((mkRel_at HL.out hfr hf H7.out H8.out (fun i hi=>Nat.lt_of_lt_of_le (HLT.out i hi) hchg.out.size)).imp fun _ k=>(⟨_,rfl,k⟩:MarkT (.agg #[.string x.1,.slice A x.2.length c]) x m _))
 clear c1 HM hf hfr
 go_wp2
 go_ret
 exact ⟨ret_int (by rw [HZ.out]),hall.out,hchg.out⟩
def RdML (w:World) (v:Value) (l:List MI):Prop :=
 ∃ A c,v = .slice A l.length c∧∀ (j:Nat) x,l[j]? = some x→∃ a u,A = some a∧a.block < w.heap.size∧w.cell? (a.add (j * 3)) = some (.string x.1)∧w.cell? ⟨(a.add (j * 3)).block,(a.add (j * 3)).off+1,none⟩ = some (.bool x.2.1)∧w.cell? ⟨(a.add (j * 3)).block,(a.add (j * 3)).off+2,none⟩ = some u∧Row w 0 w.heap.size u (intsV x.2.2)
theorem cell_keep3 {w w':World} {a:Addr} (hb:Below w.heap.size w w') (h:a.block < w.heap.size) (j i:Nat):w'.cell? ⟨(a.add (j * 3)).block,(a.add (j * 3)).off+i,none⟩ = w.cell? ⟨(a.add (j * 3)).block,(a.add (j * 3)).off+i,none⟩ :=
 hb.cell (by show (a.add (j * 3)).block < _;rw [block_add];exact h)
theorem cell_keep3' {w w':World} {a:Addr} (hb:Below w.heap.size w w') (h:a.block < w.heap.size) (j:Nat):w'.cell? (a.add (j * 3)) = w.cell? (a.add (j * 3)):=hb.cell (by rw [block_add];exact h)
theorem RdML.below {w w':World} {v:Value} {l:List MI} (h:RdML w v l) (hb:Below w.heap.size w w'):RdML w' v l:=by
 obtain ⟨A,c,rfl,h⟩:=h
 refine ⟨A,c,rfl,fun j x hj=>?_⟩
 obtain ⟨a,u,rfl,h1,h2,h3,h4,h5⟩:=h j x hj
 exact ⟨a,u,rfl,Nat.lt_of_lt_of_le h1 hb.size,(cell_keep3' hb h1 j).trans h2,(cell_keep3 hb h1 j 1).trans h3,(cell_keep3 hb h1 j 2).trans h4,(h5.below hb (Nat.le_refl _)).wide (Nat.le_refl _) hb.size⟩
def szML:List MI→Int
 | []=>0
 | x :: l=>szM x+szML l
theorem szML_nonneg (l:List MI):0 ≤ szML l:=by
 induction l with
 | nil=>exact Int.le_refl _
 | cons x l ih=>show 0 ≤ szM x+szML l;have:=szM_nonneg x;omega
theorem szML_append (l r:List MI):szML (l ++ r) = szML l+szML r:=by
 induction l with
 | nil=>show szML r = 0+szML r;omega
 | cons x l ih=>show szM x+szML (l ++ r) = szM x+szML l+szML r;rw [ih];omega
theorem szML_take {l:List MI} {j:Nat} {x:MI} (h:l[j]? = some x):szML (l.take (j+1)) = szML (l.take j)+szM x:=by
 have hj:=(List.getElem?_eq_some_iff.1 h).1
 have e:l[j] = x:=(List.getElem?_eq_some_iff.1 h).2
 rw [List.take_succ_eq_append_getElem hj,szML_append,e]
 show _+(szM x+0) = _
 omega
theorem szML_take_le (l:List MI) (j:Nat):szML (l.take j) ≤ szML l:=by
 have:=szML_append (l.take j) (l.drop j)
 rw [List.take_append_drop] at this
 have:=szML_nonneg (l.drop j)
 omega
set_option maxHeartbeats 1000000 in
theorem szMoneyS_any (v:Value) (l:List MI) (left:Int) (w:World) (hl:l.length ≤ 9223372036854775807) (hx:∀ x ∈ l,capM x) (h0:0 ≤ left) (h1:left ≤ 1048576) (h:RdML w v l) :
 Calls Tryz.prog 62 #[v,.int .i64 left] w fun e w'=>e = .returned (.int .i64 (leftI left (l.length+szML l)))∧Below w.heap.size w w':=by
 obtain ⟨A,c,rfl,hc⟩:=h
 by_cases hn:left - l.length < 0
 ·have hp:=szML_nonneg l
  have HV:=Lib.hid (show leftI left (l.length+szML l) = -1 by unfold leftI;rw [if_pos (by omega)])
  clear hp
  go_enter Tryz.func62,Tryz.ntmps62
  go_wp2
  go_ret
  exact ⟨ret_int HV.out.symm,Below.refl _ _⟩
 ·go_enter Tryz.func62,Tryz.ntmps62
  go_wp2
  go_loopw [1,5] (fun a i wr=>∃ (j:Nat) (z:Int),j ≤ l.length∧i = .int .i64 j∧a = .int .i64 z∧0 ≤ z∧z ≤ 1048576∧Hid (z = left - l.length - szML (l.take j))∧Below w.heap.size w wr) (fun _ i _=>l.length - (intOf i).toNat)
  case atStart=>exact ⟨0,left - l.length,by omega,rfl,rfl,by omega,by omega,Lib.hid (by rw [List.take_zero];show _ = _ - (0:Int);omega),Below.refl _ _⟩
  case round =>
   obtain ⟨j,z,hj,rfl,rfl,hz0,hz1,HZ,hb⟩:=hrel
   by_cases hlt:j < l.length
   ·obtain ⟨x,hxj⟩:∃ x,l[j]? = some x:=⟨_,List.getElem?_eq_getElem hlt⟩
    obtain ⟨a,u,rfl,ha,hc0,hc1,hc2,hr⟩:=hc j x hxj
    have hxl:=hx x (List.mem_of_getElem? hxj)
    have k0:=(cell_keep3' hb ha j).trans hc0
    have k1:=(cell_keep3 hb ha j 1).trans hc1
    have k2:=(cell_keep3 hb ha j 2).trans hc2
    obtain ⟨A1,c1,rfl⟩:=row_form hr
    rw [intsV_length] at hc2 k2 hr
    go_wp2_with fail
    refine (szM_cal _ x z _ hxl hz0 hz1 (RdM.below ⟨_,rfl,hr⟩ hb)).mono ?_
    rintro e w1 ⟨rfl,b1⟩
    have bb1:=Below.next hb b1
    have hs0:=szM_nonneg x
    have HT:=Lib.hid (szML_take hxj)
    have HTL:=Lib.hid (szML_take_le l (j+1))
    clear hc0 hc1 hc2 k0 k1 k2 hc hxl hr
    by_cases hv:z - szM x < 0
    ·have HV:=Lib.hid (show leftI left (l.length+szML l) = -1 by
      have h1:=HT.out
      have h2:=HTL.out
      have h3:=HZ.out
      unfold leftI;rw [if_pos (by omega)])
     rw [show leftI z (szM x) = -1 by unfold leftI;rw [if_pos hv]]
     clear hv hs0
     go_wp2
     go_ret
     exact ⟨ret_int HV.out.symm,bb1⟩
    ·rw [show leftI z (szM x) = z - szM x by unfold leftI;rw [if_neg hv]]
     have hnb:decide (z - szM x < 0) = false:=decide_eq_false hv
     obtain ⟨z1,hz1e⟩:∃ z1,z1 = z - szM x:=⟨_,rfl⟩
     rw [← hz1e] at hnb ⊢
     have HE:=Lib.hid (show z1 = left - l.length - szML (l.take (j+1))∧0 ≤ z1∧z1 ≤ 1048576 by
      have h1:=HT.out
      have h3:=HZ.out
      omega)
     clear hv hs0 hz1e
     go_wp2
     go_roundw
     case rel=>exact ⟨j+1,z1,by omega,by go_num,rfl,HE.out.2.1,HE.out.2.2,Lib.hid HE.out.1,bb1⟩
     case measure=>simp [intOf];omega
   ·obtain rfl:j = l.length:=by omega
    have HV:=Lib.hid (show leftI left (l.length+szML l) = z by
     have h3:=HZ.out
     rw [List.take_length] at h3
     unfold leftI;rw [if_neg (by omega)];omega)
    clear hc
    go_wp2
    go_ret
    exact ⟨ret_int HV.out.symm,hb⟩
theorem add_ownM (g m:Nat):(⟨g,0,none⟩:Addr).add m = ⟨g,m,none⟩:=by
 unfold Addr.add
 split
 ·rename_i h;rw [h]
 ·simp
def flatM:List (ByteArray × Bool × Value)→List Value
 | []=>[]
 | p :: r=>.string p.1 :: .bool p.2.1 :: p.2.2 :: flatM r
theorem flatM_append (e f:List (ByteArray × Bool × Value)):flatM (e ++ f) = flatM e ++ flatM f:=by
 induction e with
 | nil=>rfl
 | cons p r ih=>show _ :: _ :: _ :: flatM (r ++ f) = _;rw [ih];rfl
theorem flatM_get {e:List (ByteArray × Bool × Value)} {j:Nat} {p:ByteArray × Bool × Value} (h:e[j]? = some p):(flatM e)[j * 3]? = some (.string p.1)∧(flatM e)[j * 3+1]? = some (.bool p.2.1)∧(flatM e)[j * 3+2]? = some p.2.2:=by
 induction e generalizing j with
 | nil=>simp at h
 | cons q r ih =>
   cases j with
   | zero =>
     have:q = p:=by simpa using h
     subst this
     exact ⟨rfl,rfl,rfl⟩
   | succ j =>
     have:=ih (j:=j) (by simpa using h)
     rw [show (j+1) * 3 = j * 3+1+1+1 by omega]
     exact this
theorem set_three (xs:List Value) (k:Nat) (a b c:Value) (h:k * 3+2 < xs.length):(((xs.set (k * 3) a).set (k * 3+1) b).set (k * 3+2) c).take ((k+1) * 3) = xs.take (k * 3) ++ [a,b,c]:=by
 rw [show (k+1) * 3 = k * 3+1+1+1 by omega,List.take_succ_eq_append_getElem (by simp;omega),List.take_succ_eq_append_getElem (by simp;omega),List.take_succ_eq_append_getElem (by simp;omega),
  List.take_set_of_le (by omega),List.take_set_of_le (by omega),List.take_set_of_le (by omega),List.append_assoc,List.append_assoc]
 simp
def OwnMs (w:World):Nat→List MI→List (ByteArray × Bool × Value)→Nat→Prop
 | lo,[],[],hi=>lo ≤ hi
 | lo,x :: l,p :: e,hi=>∃ mid,lo ≤ mid∧p.1 = x.1∧p.2.1 = x.2.1∧w.ownsRow lo 3 1 p.2.2 x.2.2.length (intsV x.2.2)∧(∀ b,p.2.2.ownBlock = some b→b < mid)∧OwnMs w mid l e hi
 | _,_,_,_=>False
theorem OwnMs.le {w:World} {lo hi:Nat} {l:List MI} {e:List (ByteArray × Bool × Value)} (h:OwnMs w lo l e hi):lo ≤ hi:=by
 induction l generalizing lo e with
 | nil=>cases e with | nil=>exact h | cons _ _=>exact h.elim
 | cons x l ih=>cases e with | nil=>exact h.elim | cons p e=>obtain ⟨mid,h1,_,_,_,_,h2⟩:=h;exact Nat.le_trans h1 (ih h2)
theorem OwnMs.length {w:World} {lo hi:Nat} {l:List MI} {e:List (ByteArray × Bool × Value)} (h:OwnMs w lo l e hi):e.length = l.length:=by
 induction l generalizing lo e with
 | nil=>cases e with | nil=>rfl | cons _ _=>exact h.elim
 | cons x l ih=>cases e with | nil=>exact h.elim | cons p e=>obtain ⟨mid,_,_,_,_,_,h2⟩:=h;simp [ih h2]
theorem OwnMs.stays {w w':World} {lo hi:Nat} {l:List MI} {e:List (ByteArray × Bool × Value)} (h:OwnMs w lo l e hi) (hk:∀ i,lo ≤ i→i < hi→w'.heap[i]? = w.heap[i]?):OwnMs w' lo l e hi:=by
 induction l generalizing lo e with
 | nil=>cases e with | nil=>exact h | cons _ _=>exact h.elim
 | cons x l ih =>
   cases e with
   | nil=>exact h.elim
   | cons p e =>
     obtain ⟨mid,h1,h2,h2',h3,h4,h5⟩:=h
     have hle:=h5.le
     exact ⟨mid,h1,h2,h2',own_stays h3 fun i hi=>hk i (own_lt h3 hi).1 (Nat.lt_of_lt_of_le (h4 i hi) hle),h4,ih h5 fun i hi hi2=>hk i (by omega) hi2⟩
theorem OwnMs.wide {w:World} {lo hi hi':Nat} {l:List MI} {e:List (ByteArray × Bool × Value)} (h:OwnMs w lo l e hi) (hh:hi ≤ hi'):OwnMs w lo l e hi':=by
 induction l generalizing lo e with
 | nil=>cases e with | nil=>exact Nat.le_trans h hh | cons _ _=>exact h.elim
 | cons x l ih=>cases e with | nil=>exact h.elim | cons p e=>obtain ⟨mid,h1,h2,h2',h3,h4,h5⟩:=h;exact ⟨mid,h1,h2,h2',h3,h4,ih h5⟩
theorem OwnMs.snoc {w:World} {lo mid hi:Nat} {l:List MI} {e:List (ByteArray × Bool × Value)} {x:MI} {u:Value} (h:OwnMs w lo l e mid) (o:w.ownsRow mid 3 1 u x.2.2.length (intsV x.2.2)) (hu:∀ b,u.ownBlock = some b→b < hi) (hh:mid ≤ hi):OwnMs w lo (l ++ [x]) (e ++ [(x.1,x.2.1,u)]) hi:=by
 induction l generalizing lo e with
 | nil =>
   cases e with
   | nil =>
     have hm:lo ≤ mid:=h
     exact ⟨hi,Nat.le_trans hm hh,rfl,rfl,own_low o hm,hu,Nat.le_refl _⟩
   | cons _ _=>exact h.elim
 | cons y l ih=>cases e with | nil=>exact h.elim | cons p e=>obtain ⟨m,h1,h2,h2',h3,h4,h5⟩:=h;exact ⟨m,h1,h2,h2',h3,h4,ih h5⟩
theorem OwnMs.at_ {w:World} {lo hi:Nat} {l:List MI} {e:List (ByteArray × Bool × Value)} (h:OwnMs w lo l e hi) {j:Nat} {x:MI} (hx:l[j]? = some x):∃ u,e[j]? = some (x.1,x.2.1,u)∧OwnI u x.2.2 w:=by
 induction l generalizing lo e j with
 | nil=>simp at hx
 | cons y l ih =>
   cases e with
   | nil=>exact h.elim
   | cons p e =>
     obtain ⟨m,h1,h2,h2',h3,h4,h5⟩:=h
     cases j with
     | zero =>
       have:y = x:=by simpa using hx
       subst this
       exact ⟨p.2.2,by rw [← h2,← h2'];rfl,own_zero h3⟩
     | succ j=>exact ih h5 (by simpa using hx)
def OwnML (v:Value) (l:List MI) (lo hi:Nat) (w:World):Prop :=
 ∃ g e,v = .slice (some ⟨g,0,none⟩) l.length l.length∧lo ≤ g∧g < hi∧hi ≤ w.heap.size∧w.ownsRow lo 32 3 v l.length (flatM e)∧OwnMs w (g+1) l e hi
theorem OwnML.stays {v:Value} {l:List MI} {lo hi:Nat} {w w':World} (h:OwnML v l lo hi w) (hk:∀ i,lo ≤ i→i < hi→w'.heap[i]? = w.heap[i]?) (hz:w.heap.size ≤ w'.heap.size):OwnML v l lo hi w':=by
 obtain ⟨g,e,rfl,h1,h2,h3,h4,h5⟩:=h
 exact ⟨g,e,rfl,h1,h2,Nat.le_trans h3 hz,own_stays h4 fun i hi=>by cases hi;exact hk g h1 h2,h5.stays fun i hi hi2=>hk i (by omega) hi2⟩
theorem OwnML.below {v:Value} {l:List MI} {lo hi:Nat} {w w':World} (h:OwnML v l lo hi w) (hb:Below w.heap.size w w'):OwnML v l lo hi w':=by
 have hh:=h
 obtain ⟨_,_,_,_,_,h3,_,_⟩:=hh
 exact h.stays (fun i _ hi=>hb.block i (by omega)) hb.size
theorem OwnML.rd {v:Value} {l:List MI} {lo hi:Nat} {w:World} (h:OwnML v l lo hi w):RdML w v l:=by
 obtain ⟨g,e,rfl,h1,h2,h3,h4,h5⟩:=h
 refine ⟨_,_,rfl,fun j x hj=>?_⟩
 have hjl:=(List.getElem?_eq_some_iff.1 hj).1
 obtain ⟨u,he,ho⟩:=h5.at_ hj
 have hf:=flatM_get he
 refine ⟨⟨g,0,none⟩,u,rfl,by show g < _;omega,?_,?_,?_,ho.row⟩
 ·have:=h4.cellAt (j * 3) (by omega)
  rw [hf.1] at this
  rw [add_ownM]
  exact this
 ·have:=h4.cellAt (j * 3+1) (by omega)
  rw [hf.2.1] at this
  rw [add_ownM]
  exact this
 ·have:=h4.cellAt (j * 3+2) (by omega)
  rw [hf.2.2] at this
  rw [add_ownM]
  exact this
theorem own_high {w:World} {base B n size:Nat} {e:TypeId} {v:Value} {xs:List Value} (h:w.ownsRow base e size v n xs) (hb:∀ g,v.ownBlock = some g→B ≤ g):w.ownsRow B e size v n xs:=by
 obtain ⟨hl,h | ⟨g,cap,cur,rfl,_,r⟩⟩:=h
 ·exact ⟨hl,.inl h⟩
 ·exact ⟨hl,.inr ⟨g,cap,cur,rfl,hb g rfl,r⟩⟩
theorem newM_own {x:MI} {w w':World} {S:List Nat} {c0 c1 u:Value} (o:At S (OwnM (.agg #[c0,c1,u]) x) w') (l:Within S w.heap.size w'.heap.size):w'.ownsRow w.heap.size 3 1 u x.2.2.length (intsV x.2.2)∧∀ b,u.ownBlock = some b→b < w'.heap.size:=by
 have hm:=at_ints_mem o (fun w' k=>ownM_open k)
 exact ⟨own_high (ownM_open o.here) fun g hg=>(l g (hm g hg)).1,fun b hb=>(l b (hm b hb)).2⟩
theorem moneyInfo:(Tryz.prog.info? 32).map (fun i=>(i.zero,i.size,i.bytes)) = some (some (.agg #[.string ⟨#[]⟩,.bool false,.slice none 0 0]),3,48):=by kernel_rfl
theorem make_money (n:Nat) (hn:n ≤ 1099511627776) (W:World) :
 (Instr.makeSlice 72 (.int .i64 (n:Int)) (.int .i64 (n:Int))).run Tryz.prog W = .ok (.slice (some ⟨W.heap.size,0,none⟩) n n) (W.alloc (.cells (madeCells #[.string ⟨#[]⟩,.bool false,.slice none 0 0] (n * 3)) 32)):=by
 obtain ⟨i0,hi,hz0,hz1,hz2⟩:=info_parts moneyInfo
 have h:=run_make (P:=Tryz.prog) W 72 32 i0 (.agg #[.string ⟨#[]⟩,.bool false,.slice none 0 0]) Tryz.underlying72 hi hz0 .i64 .i64 (n:Int) (n:Int) (by omega) (by omega) (by rw [hz2];omega) (by omega)
 rw [hz1,Int.toNat_natCast] at h
 exact h
def NewML (l:List MI) (w:World) (e:Ending) (w':World):Prop:=∃ v,e = .returned v∧OwnML v l w.heap.size w'.heap.size w'∧Below w.heap.size w w'
set_option maxHeartbeats 1000000 in
theorem toMoneyS_any (v:Value) (l:List MI) (w:World) (hl:l.length ≤ 1048576) (hx:∀ x ∈ l,szM x ≤ 1048576) (h:RdML w v l) :
 Calls Tryz.prog 64 #[v] w (NewML l w):=by
 obtain ⟨A,c,rfl,hc⟩:=h
 have HC:=Lib.hid hc
 have hmk:=make_money l.length (by omega)
 clear hc
 go_enter Tryz.func64,Tryz.ntmps64
 go_wp2
 go_loopw [4] (fun i wr=>∃ (k:Nat) (xs:List Value) (e:List (ByteArray × Bool × Value)),k ≤ l.length∧i = .int .i64 k∧wr.ownsRow w.heap.size 32 3 (.slice (some ⟨w.heap.size,0,none⟩) l.length l.length) l.length xs∧Hid (xs.take (k * 3) = flatM e)∧OwnMs wr (w.heap.size+1) (l.take k) e wr.heap.size∧Below w.heap.size w wr) (fun i _=>l.length - (intOf i).toNat)
 case atStart =>
  have h:=World.ownsRow_lit (e:=32) (size:=3) (base:=w.heap.size) w (madeCells #[.string ⟨#[]⟩,.bool false,.slice none 0 0] (l.length * 3)) l.length (Nat.le_refl _) (by unfold maxLen;omega) (by rw [size_madeCells])
  exact ⟨0,_,[],Nat.zero_le _,rfl,h,Lib.hid (by rw [Nat.zero_mul,List.take_zero];rfl),by rw [List.take_zero];show _ ≤ _;simp,(Below.refl _ _).alloc (Nat.le_refl _) _⟩
 case round =>
  obtain ⟨k,xs,e,hk,rfl,ho,HX,hes,hb⟩:=hrel
  by_cases hlt:k < l.length
  ·obtain ⟨x,hxk⟩:∃ x,l[k]? = some x:=⟨_,List.getElem?_eq_getElem hlt⟩
   obtain ⟨a,u,rfl,ha,hc0,hc1,hc2,hr⟩:=HC.out k x hxk
   have hxl:=hx x (List.mem_of_getElem? hxk)
   have k0:=(cell_keep3' hb ha k).trans hc0
   have k1:=(cell_keep3 hb ha k 1).trans hc1
   have k2:=(cell_keep3 hb ha k 2).trans hc2
   obtain ⟨A1,c1,rfl⟩:=row_form hr
   rw [intsV_length] at hc2 k2 hr
   go_wp2_with fail
   refine (toM_new _ x _ hxl (RdM.below ⟨_,rfl,hr⟩ hb)).mono ?_
   rintro e' w1 ⟨u0,S1,rfl,o0,l0,b1⟩
   obtain ⟨A2,c2,rfl⟩:=ownM_form o0.here
   obtain ⟨o1,hu1⟩:=newM_own o0 l0
   have bb1:=Below.next hb b1
   have ho1:=own_below ho b1
   have hxs:=ho1.1
   have hcell0:=ho1.cellAt (k * 3) (by omega)
   have hcell1:=ho1.cellAt (k * 3+1) (by omega)
   have hcell2:=ho1.cellAt (k * 3+2) (by omega)
   rw [List.getElem?_eq_getElem (by omega)] at hcell0 hcell1 hcell2
   have hfr0:=ho1.frozenAt (k * 3)
   have hfr1:=ho1.frozenAt (k * 3+1)
   have hfr2:=ho1.frozenAt (k * 3+2)
   obtain ⟨ho2,hg2⟩:=ho1.stored (k * 3) (.string x.1)
   obtain ⟨ho3,hg3⟩:=ho2.stored (k * 3+1) (.bool x.2.1)
   obtain ⟨ho4,hg4⟩:=ho3.stored (k * 3+2) (.slice A2 x.2.2.length c2)
   have hlw:w.heap.size < wr.heap.size:=(own_lt ho (g:=w.heap.size) rfl).2
   have hes1:=OwnMs.snoc (hi:=w1.heap.size) (hes.stays fun i _ hi=>b1.block i hi) o1 hu1 b1.size
   have hes2:OwnMs (((w1.setCell ⟨w.heap.size,k * 3,none⟩ (.string x.1)).setCell ⟨w.heap.size,k * 3+1,none⟩ (.bool x.2.1)).setCell ⟨w.heap.size,k * 3+2,none⟩ (.slice A2 x.2.2.length c2)) (w.heap.size+1) (l.take (k+1)) (e ++ [(x.1,x.2.1,.slice A2 x.2.2.length c2)]) (((w1.setCell ⟨w.heap.size,k * 3,none⟩ (.string x.1)).setCell ⟨w.heap.size,k * 3+1,none⟩ (.bool x.2.1)).setCell ⟨w.heap.size,k * 3+2,none⟩ (.slice A2 x.2.2.length c2)).heap.size:=by
    rw [List.take_succ_eq_append_getElem hlt,(List.getElem?_eq_some_iff.1 hxk).2]
    refine (hes1.stays fun i hi _=>?_).wide (by simp [World.setCell])
    have hne:i ≠ w.heap.size:=by omega
    rw [Below.heap_setCell _ _ _ _ hne,Below.heap_setCell _ _ _ _ hne,Below.heap_setCell _ _ _ _ hne]
   have hb3:Below w.heap.size w (((w1.setCell ⟨w.heap.size,k * 3,none⟩ (.string x.1)).setCell ⟨w.heap.size,k * 3+1,none⟩ (.bool x.2.1)).setCell ⟨w.heap.size,k * 3+2,none⟩ (.slice A2 x.2.2.length c2)):=((bb1.setCell (p:=⟨w.heap.size,k * 3,none⟩) (Nat.le_refl _) _).setCell (p:=⟨w.heap.size,k * 3+1,none⟩) (Nat.le_refl _) _).setCell (p:=⟨w.heap.size,k * 3+2,none⟩) (Nat.le_refl _) _
   have HF:=Lib.hid (show (((xs.set (k * 3) (.string x.1)).set (k * 3+1) (.bool x.2.1)).set (k * 3+2) (.slice A2 x.2.2.length c2)).take ((k+1) * 3) = flatM (e ++ [(x.1,x.2.1,.slice A2 x.2.2.length c2)]) by
    rw [set_three xs k _ _ _ (by omega),HX.out,flatM_append];rfl)
   have H3:=Lib.hid ho4
   have HE2:=Lib.hid hes2
   have HB3:=Lib.hid hb3
   clear hes hes1 hes2 ho ho1 ho2 ho3 ho4 hg2 hg3 hg4 hb3 o1 o0 l0 hu1 k0 k1 k2 hc0 hc1 hc2 hr b1 bb1
   go_wp2
   go_roundw
   case rel=>exact ⟨k+1,_,_,by omega,by go_num,H3.out,HF,HE2.out,HB3.out⟩
   case measure=>simp [intOf];omega
  ·obtain rfl:k = l.length:=by omega
   have hxs:=ho.1
   have he:xs = flatM e:=by rw [← HX.out,List.take_of_length_le (by omega)]
   rw [List.take_length] at hes
   have hlw:w.heap.size < wr.heap.size:=(own_lt ho (g:=w.heap.size) rfl).2
   have HO:=Lib.hid (show OwnML (.slice (some ⟨w.heap.size,0,none⟩) l.length l.length) l w.heap.size wr.heap.size wr from ⟨w.heap.size,e,rfl,Nat.le_refl _,hlw,Nat.le_refl _,by rw [← he];exact ho,hes⟩)
   clear he hes hxs ho
   go_wp2
   go_ret
   exact ⟨_,rfl,HO.out,hb⟩
set_option maxHeartbeats 1000000 in
theorem eqMoneyS_any (va vb:Value) (ss ts:List MI) (w:World) (hl:ss.length ≤ 140737488355328) (hx:∀ x ∈ ss,capM x) (hra:RdML w va ss) (hrb:RdML w vb ts) :
 Calls Tryz.prog 65 #[va,vb] w fun e w'=>e = .returned (.bool (decide (ss = ts)))∧Below w.heap.size w w':=by
 obtain ⟨A,c,rfl,hA⟩:=hra
 obtain ⟨B,d,rfl,hB⟩:=hrb
 have HA:=Lib.hid hA
 have HB:=Lib.hid hB
 clear hA hB
 by_cases hlen:ss.length = ts.length
 ·have HL:=Lib.hid hlen
  have hbe:((ss.length:Int) != (ts.length:Int)) = false:=by simp [hlen]
  clear hlen
  go_enter Tryz.func65,Tryz.ntmps65
  go_wp2
  go_loopw [5] (fun i wr=>∃ k:Nat,k ≤ ss.length∧i = .int .i64 k∧Below w.heap.size w wr∧Hid (ss.take k = ts.take k)) (fun i _=>ss.length - (intOf i).toNat)
  case atStart=>exact ⟨0,Nat.zero_le _,rfl,Below.refl _ _,Lib.hid rfl⟩
  case round =>
   obtain ⟨k,hk,rfl,hb,HT⟩:=hrel
   by_cases hlt:k < ss.length
   ·have hlt2:k < ts.length:=by have:=HL.out;omega
    obtain ⟨a,u,rfl,ha,hc0,hc1,hc2,hr⟩:=HA.out k ss[k] (List.getElem?_eq_getElem hlt)
    obtain ⟨b,v,rfl,ha',hd0,hd1,hd2,hr'⟩:=HB.out k ts[k] (List.getElem?_eq_getElem hlt2)
    have hxl:=hx ss[k] (List.getElem_mem hlt)
    obtain ⟨A1,c1,rfl⟩:=row_form hr
    obtain ⟨B1,d1,rfl⟩:=row_form hr'
    rw [intsV_length] at hc2 hr hd2 hr'
    have HR:=Lib.hid (show ∀ W,Below w.heap.size w W→RdM W (.agg #[.string ss[k].1,.bool ss[k].2.1,.slice A1 ss[k].2.2.length c1]) ss[k] from fun W hb=>RdM.below ⟨_,rfl,hr⟩ hb)
    have HR':=Lib.hid (show ∀ W,Below w.heap.size w W→RdM W (.agg #[.string ts[k].1,.bool ts[k].2.1,.slice B1 ts[k].2.2.length d1]) ts[k] from fun W hb=>RdM.below ⟨_,rfl,hr'⟩ hb)
    have HCC:=Lib.hid (show a.block < w.heap.size∧b.block < w.heap.size∧w.cell? (a.add (k * 3)) = some (.string ss[k].1)∧w.cell? ⟨(a.add (k * 3)).block,(a.add (k * 3)).off+1,none⟩ = some (.bool ss[k].2.1)∧w.cell? ⟨(a.add (k * 3)).block,(a.add (k * 3)).off+2,none⟩ = some (.slice A1 ss[k].2.2.length c1)∧w.cell? (b.add (k * 3)) = some (.string ts[k].1)∧w.cell? ⟨(b.add (k * 3)).block,(b.add (k * 3)).off+1,none⟩ = some (.bool ts[k].2.1)∧w.cell? ⟨(b.add (k * 3)).block,(b.add (k * 3)).off+2,none⟩ = some (.slice B1 ts[k].2.2.length d1) from ⟨ha,ha',hc0,hc1,hc2,hd0,hd1,hd2⟩)
    have HTS:=Lib.hid (show (ss[k] = ts[k]→ss.take (k+1) = ts.take (k+1))∧(¬ ss[k] = ts[k]→¬ ss = ts) from ⟨take_same_succ HT.out hlt hlt2,ne_of_at hlt hlt2⟩)
    generalize ss[k] = x at *
    generalize ts[k] = y at *
    have KL:=Lib.hid (show ∀ W,Below w.heap.size w W→W.cell? (a.add (k * 3)) = some (.string x.1)∧W.cell? ⟨(a.add (k * 3)).block,(a.add (k * 3)).off+1,none⟩ = some (.bool x.2.1)∧W.cell? ⟨(a.add (k * 3)).block,(a.add (k * 3)).off+2,none⟩ = some (.slice A1 x.2.2.length c1)∧W.cell? (b.add (k * 3)) = some (.string y.1)∧W.cell? ⟨(b.add (k * 3)).block,(b.add (k * 3)).off+1,none⟩ = some (.bool y.2.1)∧W.cell? ⟨(b.add (k * 3)).block,(b.add (k * 3)).off+2,none⟩ = some (.slice B1 y.2.2.length d1)∧Hid (Below w.heap.size w W) from
     fun W hb=>by
      obtain ⟨h1,h2,h3,h4,h5,h6,h7,h8⟩:=HCC.out
      exact ⟨(cell_keep3' hb h1 k).trans h3,(cell_keep3 hb h1 k 1).trans h4,(cell_keep3 hb h1 k 2).trans h5,(cell_keep3' hb h2 k).trans h6,(cell_keep3 hb h2 k 1).trans h7,(cell_keep3 hb h2 k 2).trans h8,Lib.hid hb⟩)
    have HB0:=Lib.hid hb
    have HXL:=Lib.hid hxl
    clear hb hc0 hc1 hc2 hd0 hd1 hd2 hr hr' ha ha' hxl HCC
    go_wp2
    go_region_held3 (fun W=>W.cell? (a.add (k * 3)) = some (.string x.1)∧W.cell? ⟨(a.add (k * 3)).block,(a.add (k * 3)).off+1,none⟩ = some (.bool x.2.1)∧W.cell? ⟨(a.add (k * 3)).block,(a.add (k * 3)).off+2,none⟩ = some (.slice A1 x.2.2.length c1)∧W.cell? (b.add (k * 3)) = some (.string y.1)∧W.cell? ⟨(b.add (k * 3)).block,(b.add (k * 3)).off+1,none⟩ = some (.bool y.2.1)∧W.cell? ⟨(b.add (k * 3)).block,(b.add (k * 3)).off+2,none⟩ = some (.slice B1 y.2.2.length d1)∧Hid (Below w.heap.size w W))
     ((refine KL.out _ ?_;(first | exact HB1.out | exact HB0.out.drew | fail)))
     (first
       | (go_at_call 57;(have hBB:=(‹_∧_∧_∧_∧_∧_∧Hid (Below w.heap.size w _)›).2.2.2.2.2.2);(with_reducible refine (eqM_cal _ _ x y _ HXL.out (HR.out _ hBB.out) (HR'.out _ hBB.out)).mono ?_);rintro e w1 ⟨rfl,b1⟩;have HB1:=Lib.hid (Below.next hBB.out b1);clear hBB b1))
    by_cases he:x = y
    ·have hdt:decide (x = y) = true:=decide_eq_true he
     rw [hdt]
     have HE:=Lib.hid (HTS.out.1 he)
     clear hdt he
     go_wp2
     go_roundw
     case rel=>exact ⟨k+1,by omega,by go_num,HB1.out,HE⟩
     case measure=>simp [intOf];omega
    ·have hdt:decide (x = y) = false:=decide_eq_false he
     rw [hdt]
     have HE:=Lib.hid (HTS.out.2 he)
     clear hdt he
     go_wp2
     go_ret
     exact ⟨ret_bool (decide_eq_false HE.out).symm,HB1.out⟩
   ·go_wp2
    go_ret
    exact ⟨ret_bool (decide_eq_true (same_of_takes HT.out HL.out hlt)).symm,hb⟩
 ·have hbe:((ss.length:Int) != (ts.length:Int)) = true:=by simp;omega
  go_enter Tryz.func65,Tryz.ntmps65
  go_wp2
  go_ret
  exact ⟨ret_bool (decide_eq_false (fun e=>hlen (by rw [e]))).symm,Below.refl _ _⟩
def rangeM (lo hi:Nat):List Nat:=List.range' lo (hi - lo)
theorem mem_rangeM {lo hi g:Nat} (h:lo ≤ g) (h2:g < hi):g ∈ rangeM lo hi:=by
 unfold rangeM
 rw [List.mem_range'_1]
 omega
theorem rangeM_mem {lo hi g:Nat} (h:g ∈ rangeM lo hi):lo ≤ g∧g < hi:=by
 unfold rangeM at h
 rw [List.mem_range'_1] at h
 omega
theorem Chg.grownM {S:List Nat} {w w1 w2:World} {v:Value} (h:Chg S w w1) (hg:w1.grownBy w2 v.ownBlock) (hS:∀ b,v.ownBlock = some b→b ∈ S):Chg S w w2 :=
 h.trans ((Chg.of_grown hg).more fun g hg=>hS g (by simpa using hg))
def mkML:List MI→Int
 | []=>0
 | x :: l=>2+szS x.2+mkML l
theorem mkML_nonneg (l:List MI):0 ≤ mkML l:=by
 induction l with
 | nil=>exact Int.le_refl _
 | cons x l ih=>show 0 ≤ 2+szS x.2+mkML l;unfold szS szI;omega
theorem mkML_len (l:List MI):(l.length:Int) ≤ mkML l:=by
 induction l with
 | nil=>exact Int.le_refl _
 | cons x l ih=>show ((l.length+1:Nat):Int) ≤ 2+szS x.2+mkML l;unfold szS szI;omega
theorem mkML_append (l r:List MI):mkML (l ++ r) = mkML l+mkML r:=by
 induction l with
 | nil=>show mkML r = 0+mkML r;omega
 | cons x l ih=>show 2+szS x.2+mkML (l ++ r) = 2+szS x.2+mkML l+mkML r;rw [ih];omega
theorem mkML_take {l:List MI} {j:Nat} {x:MI} (h:l[j]? = some x):mkML (l.take (j+1)) = mkML (l.take j)+(2+szS x.2):=by
 have hj:=(List.getElem?_eq_some_iff.1 h).1
 have e:l[j] = x:=(List.getElem?_eq_some_iff.1 h).2
 rw [List.take_succ_eq_append_getElem hj,mkML_append,e]
 show _+(2+szS x.2+0) = _
 omega
theorem mkML_take_le (l:List MI) (j:Nat):mkML (l.take j) ≤ mkML l:=by
 have:=mkML_append (l.take j) (l.drop j)
 rw [List.take_append_drop] at this
 have:=mkML_nonneg (l.drop j)
 omega
set_option maxHeartbeats 1000000 in
theorem markMoneyS_any (v:Value) (l:List MI) (lo hi:Nat) (m:Int) (w:World) (hm:m+mkML l ≤ 9223372036854775807) (hm0:0 ≤ m) (h:OwnML v l lo hi w) :
 Calls Tryz.prog 66 #[v,.int .i64 m] w fun e w'=>e = .returned (.int .i64 (m+mkML l))∧Chg (rangeM lo hi) w w':=by
 obtain ⟨g,e,rfl,hg0,hg1,hsz,ho,hes⟩:=h
 have hel:=hes.length
 have HEL:=Lib.hid hel
 have hln:=mkML_nonneg l
 have hll:(l.length:Int) ≤ 9223372036854775807:=by have:=mkML_len l;omega
 go_enter Tryz.func66,Tryz.ntmps66
 go_wp2
 go_loopw [1,5] (fun a i wr=>∃ (k:Nat) (z:Int) (xs:List Value) (mid:Nat),k ≤ l.length∧i = .int .i64 k∧a = .int .i64 z∧Hid (z = m+mkML (l.take k))∧wr.ownsRow lo 32 3 (.slice (some ⟨g,0,none⟩) l.length l.length) l.length xs∧Hid (xs.drop (k * 3) = flatM (e.drop k))∧g < mid∧OwnMs wr mid (l.drop k) (e.drop k) hi∧Chg (rangeM lo hi) w wr) (fun _ i _=>l.length - (intOf i).toNat)
 case atStart=>exact ⟨0,m,_,g+1,Nat.zero_le _,rfl,rfl,Lib.hid (by rw [List.take_zero];show _ = _+(0:Int);omega),ho,Lib.hid (by rw [Nat.zero_mul];rfl),by omega,hes,Chg.refl _ _⟩
 case round =>
  clear ho hes
  obtain ⟨k,z,xs,mid,hk,rfl,rfl,HZ,ho,HX,hgm,hes,hc⟩:=hrel
  by_cases hlt:k < l.length
  ·obtain ⟨x,hxk⟩:∃ x,l[k]? = some x:=⟨_,List.getElem?_eq_getElem hlt⟩
   have hxs:=ho.1
   have HT:=Lib.hid (mkML_take hxk)
   have HTL:=Lib.hid (mkML_take_le l (k+1))
   have HT0:=Lib.hid (mkML_nonneg (l.take k))
   rw [List.drop_eq_getElem_cons hlt,List.drop_eq_getElem_cons (l:=e) (i:=k) (by rw [hel];exact hlt),(List.getElem?_eq_some_iff.1 hxk).2] at hes
   have hxd:=HX.out
   rw [List.drop_eq_getElem_cons (l:=e) (by rw [hel];exact hlt)] at hxd
   obtain ⟨mid2,hm1,hm2,hm2',hm3,hm4,hm5⟩:=hes
   generalize e[k]'(by rw [hel];exact hlt) = p at *
   have hx2:xs[k * 3+2]? = some p.2.2:=by
    have:(xs.drop (k * 3))[2]? = some p.2.2:=by rw [hxd];rfl
    rwa [List.getElem?_drop] at this
   have hxd2:xs.drop ((k+1) * 3) = flatM (e.drop (k+1)):=by
    rw [show (k+1) * 3 = k * 3+3 by omega,← List.drop_drop,hxd]
    rfl
   have hzb:0 ≤ z∧z+2+szS x.2 ≤ 9223372036854775807∧z+1+1+x.2.2.length = m+mkML (l.take (k+1)):=by
    have h1:=HZ.out
    have h2:=HT.out
    have h3:=HTL.out
    have h4:=HT0.out
    have h5:szS x.2 = x.2.2.length:=rfl
    omega
   have hs0:szS x.2 = x.2.2.length:=rfl
   have hz0:0 ≤ z:=hzb.1
   have hz1:z+2+x.2.2.length ≤ 9223372036854775807:=by omega
   have HZ2:=Lib.hid hzb.2.2
   have hb:∀ b,p.2.2.ownBlock = some b→b ∈ rangeM lo hi:=fun b hb=>mem_rangeM (by have:=(own_lt hm3 hb).1;omega) (by have:=hm4 b hb;have:=hm5.le;omega)
   have HO:=Lib.hid ho
   have HM3:=Lib.hid hm3
   have HM5:=Lib.hid hm5
   have HM4:=Lib.hid hm4
   have HB:=Lib.hid hb
   have HC0:=Lib.hid hc
   have HXD:=Lib.hid hxd2
   have HX2:=Lib.hid hx2
   clear hxd hm3 hm5 hm4 hb hc hzb HX HT HTL HT0 ho hxd2 hx2
   go_wp2_with fail
   refine (markText_any z _ (by omega)).mono ?_
   rintro e' w1 ⟨rfl,b1⟩
   have ho1:=own_below HO.out b1
   have hx2:=HX2.out
   have hcell0:=ho1.cellAt (k * 3) (by omega)
   have hcell1:=ho1.cellAt (k * 3+1) (by omega)
   rw [List.getElem?_eq_getElem (by omega)] at hcell0 hcell1
   have hcell2:=ho1.cellAt (k * 3+2) (by omega)
   rw [hx2] at hcell2
   have hfr0:=ho1.frozenAt (k * 3)
   have hfr1:=ho1.frozenAt (k * 3+1)
   obtain ⟨ho2,_⟩:=ho1.stored (k * 3) (.string (markB z))
   obtain ⟨ho3,_⟩:=ho2.stored (k * 3+1) (.bool ((z+1) % 3 == 0))
   have hz:=HC0.out.size
   have hm3':((w1.setCell ⟨g,k * 3,none⟩ (.string (markB z))).setCell ⟨g,k * 3+1,none⟩ (.bool ((z+1) % 3 == 0))).ownsRow mid 3 1 p.2.2 x.2.2.length (intsV x.2.2):=own_stays (own_below HM3.out b1) fun i hi=>by
    have hne:i ≠ g:=by have:=(own_lt HM3.out hi).1;omega
    rw [Below.heap_setCell _ _ _ _ hne,Below.heap_setCell _ _ _ _ hne]
   have hm5':OwnMs ((w1.setCell ⟨g,k * 3,none⟩ (.string (markB z))).setCell ⟨g,k * 3+1,none⟩ (.bool ((z+1) % 3 == 0))) mid2 (l.drop (k+1)) (e.drop (k+1)) hi:=HM5.out.stays fun i hi hi2=>by
    have hne:i ≠ g:=by omega
    rw [Below.heap_setCell _ _ _ _ hne,Below.heap_setCell _ _ _ _ hne]
    exact b1.block i (by omega)
   have hc':=((HC0.out.trans (Chg.of_below b1)).setCell (p:=⟨g,k * 3,none⟩) (mem_rangeM hg0 hg1) (.string (markB z))).setCell (p:=⟨g,k * 3+1,none⟩) (mem_rangeM hg0 hg1) (.bool ((z+1) % 3 == 0))
   have HX3:=Lib.hid (show ((xs.set (k * 3) (.string (markB z))).set (k * 3+1) (.bool ((z+1) % 3 == 0))).drop ((k+1) * 3) = flatM (e.drop (k+1)) by rw [List.drop_set_of_lt (by omega),List.drop_set_of_lt (by omega)];exact HXD.out)
   have H1:=Lib.hid ho3
   have H3:=Lib.hid hm3'
   have H5:=Lib.hid hm5'
   have HC:=Lib.hid hc'
   clear ho1 ho2 ho3 hm3' hm5' hc' b1 HO HC0 HM3 HM5
   generalize markB z = M at *
   go_wp2_with fail
   with_reducible refine (markIntS_any p.2.2 x.2.2.length (intsV x.2.2) mid (z+1+1) _ (by omega) (by omega) H3.out).mono ?_
   rintro e' w2 ⟨rfl,o2,g2⟩
   have hlt2:=(own_lt H1.out (g:=g) rfl).2
   have ho2:w2.ownsRow lo 32 3 (.slice (some ⟨g,0,none⟩) l.length l.length) l.length ((xs.set (k * 3) (.string M)).set (k * 3+1) (.bool ((z+1) % 3 == 0))):=own_stays H1.out fun i hi=>by
    cases hi
    refine g2.block g hlt2 (fun e=>?_)
    have:=(own_lt H3.out e.symm).1
    omega
   have hes2:OwnMs w2 mid2 (l.drop (k+1)) (e.drop (k+1)) hi:=H5.out.stays fun i hi hi2=>by
    refine g2.block i ?_ (fun e=>?_)
    ·have:=HC.out.size;omega
    ·have:=HM4.out i e.symm;omega
   have hc2:=HC.out.grownM g2 HB.out
   have HO2:=Lib.hid ho2
   have HE2:=Lib.hid hes2
   have HC2:=Lib.hid hc2
   clear ho2 hes2 hc2 g2 o2
   go_wp2
   go_roundw
   case rel=>exact ⟨k+1,_,_,mid2,by omega,by go_num,rfl,HZ2,HO2.out,HX3,by omega,HE2.out,HC2.out⟩
   case measure=>simp [intOf];omega
  ·obtain rfl:k = l.length:=by omega
   have HV:=Lib.hid (show m+mkML l = z by
    have h3:=HZ.out
    rw [List.take_length] at h3
    omega)
   go_wp2
   go_ret
   exact ⟨ret_int HV.out.symm,hc⟩
abbrev QI:Type:=SI × List Int
def zeroQ:QI:=(zeroS,[])
def okQ (q:QI):Bool:=okS q.1 && natOkB q.2 && decide (0 < q.2.length∧q.2.length ≤ 18∧q.1.2.length ≤ 18∧Nat.gcd (nval q.1.2).toNat (nval q.2).toNat = 1)
def lowQ (n:Bool) (a b:Nat):QI × Bool :=
 if b ≠ 0∧(limbs (a / Nat.gcd a b)).length ≤ 18∧(limbs (b / Nat.gcd a b)).length ≤ 18 then ((mkS n (limbs (a / Nat.gcd a b)),limbs (b / Nat.gcd a b)),true) else (zeroQ,false)
def numQ (q:QI):Int:=valS q.1
def denQ (q:QI):Nat:=(nval q.2).toNat
theorem okQ_parts {q:QI} (h:okQ q = true):okS q.1 = true∧natOkB q.2 = true∧0 < q.2.length∧q.2.length ≤ 18∧q.1.2.length ≤ 18∧Nat.gcd (nval q.1.2).toNat (nval q.2).toNat = 1:=by
 unfold okQ at h
 rw [Bool.and_eq_true,Bool.and_eq_true,decide_eq_true_eq] at h
 exact ⟨h.1.1,h.1.2,h.2.1,h.2.2.1,h.2.2.2.1,h.2.2.2.2⟩
def makeQ (x y:SI):QI × Bool:=if okS x = true∧okS y = true then lowQ (x.1 != y.1) (nval x.2).toNat (nval y.2).toNat else (zeroQ,false)
def addQ (r s:QI):QI × Bool:=if okQ r = true∧okQ s = true then lowQ (decide (numQ r * denQ s+numQ s * denQ r < 0)) (numQ r * denQ s+numQ s * denQ r).natAbs (denQ r * denQ s) else (zeroQ,false)
def negQ (r:QI):QI × Bool:=if okQ r = true then ((negS r.1,r.2),true) else (zeroQ,false)
def mulQ (r s:QI):QI × Bool:=if okQ r = true∧okQ s = true then lowQ (r.1.1 != s.1.1) ((nval r.1.2).toNat * (nval s.1.2).toNat) (denQ r * denQ s) else (zeroQ,false)
def divQ (r s:QI):QI × Bool:=if okQ r = true∧okQ s = true then lowQ (r.1.1 != s.1.1) ((nval r.1.2).toNat * denQ s) (denQ r * (nval s.1.2).toNat) else (zeroQ,false)
def subQ (r s:QI):QI × Bool:=if (negQ s).2 = true then addQ r (negQ s).1 else (zeroQ,false)
def oneQ:QI:=(zeroS,[1])
theorem denQ_pos {q:QI} (h:okQ q = true):0 < denQ q:=by
 have hp:=okQ_parts h
 have h1:=ok_ge hp.2.1 hp.2.2.1
 have h2:=bp_pos (q.2.length - 1)
 unfold denQ
 omega
theorem limbs_18 {n:Bool} {m:Nat} (h:(limbs m).length ≤ 18):mkS n (limbs m) = (n && decide (0 < (limbs m).length),limbs m):=by
 unfold mkS capL
 rw [if_neg (by omega)]
theorem lowQ_ok (n:Bool) (a b:Nat) (h:(lowQ n a b).2 = true):okQ (lowQ n a b).1 = true:=by
 unfold lowQ at h ⊢
 split
 ·rename_i hc
  obtain ⟨hb,h1,h2⟩:=hc
  have hg:0 < Nat.gcd a b:=Nat.gcd_pos_of_pos_right _ (by omega)
  have hbq:b / Nat.gcd a b ≠ 0:=by
   have:=Nat.div_pos (Nat.le_of_dvd (by omega) (Nat.gcd_dvd_right a b)) hg
   omega
  have hlb:0 < (limbs (b / Nat.gcd a b)).length:=by
   rcases Nat.eq_zero_or_pos (limbs (b / Nat.gcd a b)).length with h0 | h0
   ·exact absurd ((limbs_zero_iff _).1 h0) hbq
   ·exact h0
  have hs:okS (mkS n (limbs (a / Nat.gcd a b))) = true:=by rw [mkS_limbs];exact ofZ_ok _
  have e2:(mkS n (limbs (a / Nat.gcd a b))).2 = limbs (a / Nat.gcd a b):=by rw [limbs_18 h1]
  unfold okQ
  simp only
  rw [hs,limbs_okL _ (by omega),e2,limbs_val,limbs_val,Int.toNat_natCast,Int.toNat_natCast]
  simp only [Bool.true_and,decide_eq_true_eq]
  exact ⟨hlb,h2,h1,Nat.gcd_div_gcd_div_gcd_of_pos_right (by omega)⟩
 ·rename_i hc
  rw [if_neg hc] at h
  cases h
def OwnQ (v:Value) (q:QI) (w:World):Prop:=∃ u d,v = .agg #[.bool q.1.1,u,d]∧OwnI u q.1.2 w∧OwnI d q.2 w∧(∀ g,u.ownBlock = some g→d.ownBlock ≠ some g)
def MarkQ (v:Value) (q:QI) (m:Int) (w:World):Prop:=∃ u d,v = .agg #[.bool q.1.1,u,d]∧MarkI u q.1.2 m w∧MarkI d q.2 (m+szS q.1) w
def RdQ (w:World) (v:Value) (q:QI):Prop:=∃ u d,v = .agg #[.bool q.1.1,u,d]∧Row w 0 w.heap.size u (intsV q.1.2)∧Row w 0 w.heap.size d (intsV q.2)
def szQ (q:QI):Int:=szS q.1+szI q.2
theorem OwnQ.rd {v:Value} {q:QI} {w:World} (h:OwnQ v q w):RdQ w v q:=by
 obtain ⟨u,d,rfl,o,p,_⟩:=h
 exact ⟨u,d,rfl,o.row,p.row⟩
set_option maxHeartbeats 400000 in
theorem eqRat_at (u v:Value) (x y:QI) (w:World) (hl:x.1.2.length ≤ 9223372036854775807) (hl2:x.2.length ≤ 9223372036854775807) (hu:RdQ w u x) (hv:RdQ w v y) :
 Calls Tryz.prog 49 #[u,v] w fun e w'=>e = .returned (.bool (decide (x = y)))∧Below w.heap.size w w':=by
 obtain ⟨p,d,rfl,hp,hd⟩:=hu
 obtain ⟨q,f,rfl,hq,hf⟩:=hv
 obtain ⟨Ap,cp,rfl⟩:=row_form hp
 obtain ⟨Ad,cd,rfl⟩:=row_form hd
 obtain ⟨Aq,cq,rfl⟩:=row_form hq
 obtain ⟨Af,cf,rfl⟩:=row_form hf
 simp only [intsV_length] at hp hd hq hf ⊢
 have hb:Below w.heap.size w ((w.alloc (.cells #[.bool x.1.1,.slice Ap x.1.2.length cp,.slice Ad x.2.length cd] 36)).alloc (.cells #[.bool y.1.1,.slice Aq y.1.2.length cq,.slice Af y.2.length cf] 36)):=below_al (below_al (Below.refl _ _) _) _
 have kx:=(box_new w #[.bool x.1.1,.slice Ap x.1.2.length cp,.slice Ad x.2.length cd] 36).below (below_al (Below.refl _ _) (.cells #[.bool y.1.1,.slice Aq y.1.2.length cq,.slice Af y.2.length cf] 36))
 have ky:=box_new (w.alloc (.cells #[.bool x.1.1,.slice Ap x.1.2.length cp,.slice Ad x.2.length cd] 36)) #[.bool y.1.1,.slice Aq y.1.2.length cq,.slice Af y.2.length cf] 36
 rw [show (w.alloc (.cells #[.bool x.1.1,.slice Ap x.1.2.length cp,.slice Ad x.2.length cd] 36)).heap.size = w.heap.size+1 by simp] at ky
 go_enter Tryz.func49,Tryz.ntmps49
 go_wp2_with fail
 refine (eqSigned_at _ _ x.1 y.1 _ hl (rdS_below hp hb) (rdS_below hq hb)).mono ?_
 rintro e w1 ⟨rfl,b1⟩
 have bb1:=Below.next hb b1
 replace kx:=kx.below b1
 replace ky:=ky.below b1
 have cx2:=kx.here.cell 2 _ rfl
 have cy2:=ky.here.cell 2 _ rfl
 have hd1:=hd.below bb1 (Nat.le_refl _)
 have hf1:=hf.below bb1 (Nat.le_refl _)
 clear hp hq kx ky hd hf
 by_cases h1:x.1 = y.1
 ·rw [decide_eq_true h1]
  have H1:=Lib.hid h1
  clear h1
  go_wp2_with fail
  refine (eqIntS_any _ _ x.2 y.2 0 w.heap.size 0 w.heap.size _ hl2 hd1 hf1).mono ?_
  rintro e w2 ⟨rfl,n,rfl⟩
  by_cases h2:x.2 = y.2
  ·rw [decide_eq_true h2]
   have HV:=Lib.hid (show decide (x = y) = true from decide_eq_true (Prod.ext H1.out h2))
   clear h2
   go_wp2
   go_ret
   exact ⟨ret_bool HV.out.symm,below_drewN bb1 n⟩
  ·rw [decide_eq_false h2]
   have HV:=Lib.hid (show decide (x = y) = false from decide_eq_false (fun e=>h2 (by rw [e])))
   clear h2
   go_wp2
   go_ret
   exact ⟨ret_bool HV.out.symm,below_drewN bb1 n⟩
 ·rw [decide_eq_false h1]
  have HV:=Lib.hid (show decide (x = y) = false from decide_eq_false (fun e=>h1 (by rw [e])))
  clear h1
  go_wp2
  go_ret
  exact ⟨ret_bool HV.out.symm,bb1⟩
def partsB (u d:Value):List Nat:=u.ownBlock.toList ++ d.ownBlock.toList
theorem At.both {S T:List Nat} {φ ψ:World→Prop} {w:World} (h:At S φ w) (k:At T ψ w):At (S ++ T) (fun w=>φ w∧ψ w) w :=
 ⟨⟨h.here,k.here⟩,fun g hg=>by rcases List.mem_append.1 hg with hg | hg;exact h.lt g hg;exact k.lt g hg,
   fun w' hk=>⟨h.stays w' fun g hg=>hk g (List.mem_append_left _ hg),k.stays w' fun g hg=>hk g (List.mem_append_right _ hg)⟩⟩
set_option maxHeartbeats 400000 in
theorem markRat_at (u d:Value) (x:QI) (m:Int) (w:World) (hm:m+szQ x ≤ 9223372036854775807) (hm0:0 ≤ m) (ou:OwnI u x.1.2 w) (od:OwnI d x.2 w) (hap:∀ g,u.ownBlock = some g→d.ownBlock ≠ some g) :
 Calls Tryz.prog 52 #[.agg #[.bool x.1.1,u,d],.int .i64 m] w fun e w'=>e = .returned (.int .i64 (m+szQ x))∧At (partsB u d) (MarkQ (.agg #[.bool x.1.1,u,d]) x m) w'∧Chg (partsB u d) w w':=by
 obtain ⟨A,c,rfl⟩:=own_len ou
 obtain ⟨B,f,rfl⟩:=own_len od
 have hs0:0 ≤ szS x.1:=by unfold szS szI;omega
 have hs1:0 ≤ szI x.2:=by unfold szI;omega
 have HZ:=Lib.hid (show szQ x = szS x.1+szI x.2 from rfl)
 rw [HZ.out] at hm
 have hbx:=below_al (Below.refl w.heap.size w) (.cells #[.bool x.1.1,.slice A x.1.2.length c,.slice B x.2.length f] 36)
 have kx:=box_new w #[.bool x.1.1,.slice A x.1.2.length c,.slice B x.2.length f] 36
 have au:=(own_at' ou).below hbx
 have ad:=(own_at' od).below hbx
 have hltu:=(own_at' ou).lt
 have hltd:=(own_at' od).lt
 have dis:∀ g ∈ (Value.slice B x.2.length f).ownBlock.toList,g ∉ (Value.slice A x.1.2.length c).ownBlock.toList:=fun g hg hm=>hap g (by simpa using hm) (by simpa using hg)
 have DIS:=Lib.hid dis
 have HLU:=Lib.hid hltu
 have HLD:=Lib.hid hltd
 clear ou od hap dis hltu hltd
 go_enter Tryz.func52,Tryz.ntmps52
 go_wp2_with fail
 refine (markSigned_at _ x.1 _ m _ (by omega) hm0 (au.imp fun _ h=>OwnS.mk (x:=x.1) h)).mono ?_
 rintro e w1 ⟨rfl,mu,c1⟩
 replace ad:=ad.chg c1 DIS.out
 replace kx:=kx.chg c1 (fun i hi hm=>by have:=HLU.out i hm;simp at hi;omega)
 have cx2:=kx.here.cell 2 _ rfl
 have HC1:=Lib.hid c1
 have HMU:=Lib.hid mu
 clear kx c1 au mu
 go_wp2_with fail
 refine (markIntS_at _ x.2 _ (m+szS x.1) _ (by omega) (by omega) ad).mono ?_
 rintro e w2 ⟨rfl,md,c2⟩
 have mu2:=HMU.out.chg c2 (fun i hi hm=>DIS.out i hm hi)
 have hall:=Lib.hid (show At (partsB (.slice A x.1.2.length c) (.slice B x.2.length f)) (MarkQ (.agg #[.bool x.1.1,.slice A x.1.2.length c,.slice B x.2.length f]) x m) w2 from
  (At.both mu2 md).imp fun W hh=>by
    obtain ⟨⟨u',e1,hu'⟩,hd'⟩:=hh
    injection e1 with e1
    have e2:u' = .slice A x.1.2.length c:=by simpa using e1.symm
    rw [e2] at hu'
    exact ⟨_,_,rfl,hu',hd'⟩)
 have hchg:=Lib.hid (show Chg (partsB (.slice A x.1.2.length c) (.slice B x.2.length f)) w w2 from
  (Chg.of_below hbx).trans ((HC1.out.more fun g hg=>List.mem_append_left _ hg).trans (c2.more fun g hg=>List.mem_append_right _ hg)))
 clear md c2 mu2 ad HMU
 go_wp2
 go_ret
 exact ⟨ret_int (by rw [HZ.out];omega),hall.out,hchg.out⟩
set_option maxHeartbeats 400000 in
theorem heldRat_at (v:Value) (x:QI) (m:Int) (w:World) (hm:m+szQ x ≤ 9223372036854775807) (hm0:0 ≤ m) (h:MarkQ v x m w) :
 Calls Tryz.prog 53 #[v,.int .i64 m] w fun e w'=>e = .returned (.int .i64 (m+szQ x))∧Below w.heap.size w w':=by
 obtain ⟨u,d,rfl,ou,od⟩:=h
 obtain ⟨A,c,rfl⟩:=own_len ou
 obtain ⟨B,f,rfl⟩:=own_len od
 have hs0:0 ≤ szS x.1:=by unfold szS szI;omega
 have hs1:0 ≤ szI x.2:=by unfold szI;omega
 have HZ:=Lib.hid (show szQ x = szS x.1+szI x.2 from rfl)
 rw [HZ.out] at hm
 have hbx:=below_al (Below.refl w.heap.size w) (.cells #[.bool x.1.1,.slice A x.1.2.length c,.slice B x.2.length f] 36)
 have kx:=box_new w #[.bool x.1.1,.slice A x.1.2.length c,.slice B x.2.length f] 36
 have ou1:MarkS (.agg #[.bool x.1.1,.slice A x.1.2.length c]) x.1 m _:=⟨_,rfl,own_below ou hbx⟩
 have od1:=own_below od hbx
 clear ou od
 go_enter Tryz.func53,Tryz.ntmps53
 go_wp2_with fail
 refine (heldSigned_at _ x.1 m _ (by omega) hm0 ou1).mono ?_
 rintro e w1 ⟨rfl,b1⟩
 have bb1:=Below.next hbx b1
 replace kx:=kx.below b1
 replace od1:=own_below od1 b1
 have cx2:=kx.here.cell 2 _ rfl
 have hn1:decide (m+szS x.1 < 0) = false:=decide_eq_false (by omega)
 clear ou1 kx
 go_wp2_with fail
 refine (heldIntS_at _ x.2 (m+szS x.1) _ (by omega) (by omega) od1).mono ?_
 rintro e w2 ⟨rfl,b2⟩
 have bb2:=Below.next bb1 b2
 have hn2:decide (m+szS x.1+szI x.2 < 0) = false:=decide_eq_false (by omega)
 clear hn1
 go_wp2
 go_ret
 exact ⟨ret_int (by rw [HZ.out];omega),bb2⟩
def capQ (x:QI):Prop:=x.1.2.length ≤ 9223372036854775807∧x.2.length ≤ 9223372036854775807
theorem szQ_nonneg (x:QI):0 ≤ szQ x:=by unfold szQ szS szI;omega
theorem szQ_len {x:QI} (h:szQ x ≤ 1048576):x.1.2.length ≤ 1048576∧x.2.length ≤ 1048576:=by unfold szQ szS szI at h;omega
theorem capQ_of {x:QI} (h:szQ x ≤ 1048576):capQ x:=by have:=szQ_len h;unfold capQ;omega
theorem ownQ_form {v:Value} {x:QI} {w:World} (h:OwnQ v x w):∃ A c B d,v = .agg #[.bool x.1.1,.slice A x.1.2.length c,.slice B x.2.length d]:=by
 obtain ⟨u,d,rfl,o,p,_⟩:=h
 obtain ⟨A,c,rfl⟩:=own_len o
 obtain ⟨B,d,rfl⟩:=own_len p
 exact ⟨A,c,B,d,rfl⟩
theorem partsQ_at {u d:Value} {x:QI} {B C:Nat} {w:World} (ou:w.ownsRow B 3 1 u x.1.2.length (intsV x.1.2)) (od:w.ownsRow C 3 1 d x.2.length (intsV x.2)) (hap:∀ g,u.ownBlock = some g→d.ownBlock ≠ some g) :
 At (partsB u d) (OwnQ (.agg #[.bool x.1.1,u,d]) x) w:=(At.both (own_at' ou) (own_at' od)).imp fun _ h=>⟨u,d,rfl,h.1,h.2,hap⟩
theorem eqQ_cal (u v:Value) (x y:QI) (w:World) (hz:capQ x) (hu:RdQ w u x) (hv:RdQ w v y):Calls Tryz.prog 49 #[u,v] w (Postb (decide (x = y)) w) :=
 eqRat_at u v x y w hz.1 hz.2 hu hv
theorem ownQ_open {u d:Value} {c:Value} {x:QI} {w:World} (h:OwnQ (.agg #[c,u,d]) x w):c = .bool x.1.1∧OwnI u x.1.2 w∧OwnI d x.2 w∧(∀ g,u.ownBlock = some g→d.ownBlock ≠ some g):=by
 obtain ⟨u',d',e,hu,hd,hap⟩:=h
 injection e with e
 simp at e
 obtain ⟨e1,e2,e3⟩:=e
 subst e1 e2 e3
 exact ⟨rfl,hu,hd,hap⟩
theorem markQ_cal (v:Value) (x:QI) (S:List Nat) (m:Int) (w:World) (hm:m+szQ x ≤ 9223372036854775807) (hm0:0 ≤ m) (h:At S (OwnQ v x) w) :
 Calls Tryz.prog 52 #[v,.int .i64 m] w fun e w'=>e = .returned (.int .i64 (m+szQ x))∧At S (MarkQ v x m) w'∧Chg S w w':=by
 obtain ⟨u,d,rfl,ou,od,hap⟩:=h.here
 have hs:∀ g ∈ partsB u d,g ∈ S:=fun g hg=>by
  rcases List.mem_append.1 hg with hg | hg
  ·exact toList_own (at_ints_mem h fun w' k=>(ownQ_open k).2.1) g hg
  ·exact toList_own (at_ints_mem h fun w' k=>(ownQ_open k).2.2.1) g hg
 refine (markRat_at u d x m w hm hm0 ou od hap).mono fun e w' k=>?_
 obtain ⟨e1,k1,k2⟩:=k
 have hc:=k2.more hs
 exact ⟨e1,k1.more hs (fun g hg=>Nat.lt_of_lt_of_le (h.lt g hg) hc.size),hc⟩
theorem heldQ_cal (v:Value) (x:QI) (m:Int) (w:World) (hm:m+szQ x ≤ 9223372036854775807) (hm0:0 ≤ m) (h:MarkQ v x m w):Calls Tryz.prog 53 #[v,.int .i64 m] w (Postn (m+szQ x) w) :=
 heldRat_at v x m w hm hm0 h
def PostQb (R0:QI) (R1:Bool) (w:World) (e:Ending) (w':World):Prop :=
 ∃ (v:Value) (S:List Nat),e = .returned (.tuple #[v,.bool R1])∧At S (OwnQ v R0) w'∧Within S w.heap.size w'.heap.size∧Below w.heap.size w w'
def NewLocP (T U:TypeId) (φ ψ:Value→World→Prop) (W0:World) (s t:Value) (W:World):Prop :=
 ∃ (g h:Nat) (cs ds:Array Value) (S D:List Nat),s = .pointer (some ⟨g,0,none⟩)∧t = .pointer (some ⟨h,0,none⟩)∧At [g] (BoxAt g cs T) W∧At [h] (BoxAt h ds U) W∧At S (φ (.agg cs)) W∧At D (ψ (.agg ds)) W ∧
   (∀ i ∈ g :: S,i ∉ h :: D)∧g ∉ S∧h ∉ D∧Within (g :: S) W0.heap.size W.heap.size∧Within (h :: D) W0.heap.size W.heap.size∧Below W0.heap.size W0 W
section
variable {T U:TypeId} {φ ψ:Value→World→Prop} {W0 W W':World} {a b:World→Prop} {bs:List (Nat × Array Value × TypeId)} {cs ds:Array Value} {V:TypeId}
def BxP (bs:List (Nat × Array Value × TypeId)) (W0 W:World):Prop :=
 (bs.map fun x=>x.1).Nodup∧(∀ x ∈ bs,W0.heap.size ≤ x.1∧At [x.1] (BoxAt x.1 x.2.1 x.2.2) W)∧Below W0.heap.size W0 W
theorem BxP.lt (h:BxP bs W0 W):∀ x ∈ bs,x.1 < W.heap.size:=fun x hx=>(h.2.1 x hx).2.lt x.1 (by simp)
theorem BxP.nil_ (h:Below W0.heap.size W0 W):BxP [] W0 W:=⟨List.nodup_nil,fun _ hx=>absurd hx List.not_mem_nil,h⟩
theorem BxP.al (h:BxP bs W0 W) (cs:Array Value) (T:TypeId):BxP ((W.heap.size,cs,T) :: bs) W0 (W.alloc (.cells cs T)) :=
 ⟨List.nodup_cons.2 ⟨fun hm=>by
  obtain ⟨x,hx,e⟩:=List.mem_map.1 hm
  have h0:=h.lt x hx
  have e0:x.1 = W.heap.size:=e
  omega,h.1⟩,fun x hx=>by
  rcases List.mem_cons.1 hx with rfl | hx
  ·exact ⟨h.2.2.size,box_new _ _ _⟩
  ·exact ⟨(h.2.1 x hx).1,(h.2.1 x hx).2.below (below_al (Below.refl _ _) _)⟩,below_al h.2.2 _⟩
theorem BxP.al2 (h:BxP bs W0 W) (cs:Array Value) (T:TypeId) (ds:Array Value) (U:TypeId):BxP ((W.heap.size+1,ds,U) :: (W.heap.size,cs,T) :: bs) W0 ((W.alloc (.cells cs T)).alloc (.cells ds U)):=by
 have k:=(h.al cs T).al ds U
 rwa [show (W.alloc (.cells cs T)).heap.size = W.heap.size+1 by simp] at k
theorem BxP.call (h:BxP bs W0 W) (k:Below W.heap.size W W'):BxP bs W0 W':=⟨h.1,fun x hx=>⟨(h.2.1 x hx).1,(h.2.1 x hx).2.below k⟩,Below.next h.2.2 k⟩
def ReadyP (bs:List (Nat × Array Value × TypeId)) (W0 W:World) (a b:World→Prop):Prop :=
 BxP bs W0 W∧∃ S D,At S a W∧At D b W∧(∀ i ∈ S,i ∉ D)∧(∀ x ∈ bs,x.1 ∉ S∧x.1 ∉ D)∧(∀ i ∈ S,W0.heap.size ≤ i)∧(∀ i ∈ D,W0.heap.size ≤ i)
theorem ReadyP.of {S D:List Nat} (x:BxP bs W0 W) (k:Below W.heap.size W W') (o:At S a W') (q:At D b W') (hap:∀ i ∈ S,i ∉ D) (l:Within S W.heap.size W'.heap.size) (m:Within D W.heap.size W'.heap.size):ReadyP bs W0 W' a b :=
 ⟨x.call k,S,D,o,q,hap,fun y hy=>by
  have hl:=x.lt y hy
  exact ⟨fun hs=>by have:=(l _ hs).1;omega,fun hs=>by have:=(m _ hs).1;omega⟩,fun i hi=>by have:=(l i hi).1;have:=x.2.2.size;omega,fun i hi=>by have:=(m i hi).1;have:=x.2.2.size;omega⟩
theorem newLocP_of {g h:Nat} {S D:List Nat} (kb:BoxAt g cs T W') (kd:BoxAt h ds U W') (o:At S (φ (.agg cs)) W) (q:At D (ψ (.agg ds)) W) (hap:∀ i ∈ S,i ∉ D) (hgh:¬ g = h) (hgS:g ∉ S) (hgD:g ∉ D) (hhS:h ∉ S) (hhD:h ∉ D)
 (hg:W0.heap.size ≤ g) (hh:W0.heap.size ≤ h) (lS:∀ i ∈ S,W0.heap.size ≤ i) (lD:∀ i ∈ D,W0.heap.size ≤ i) (hc:Chg [g,h] W W') (hW:Below W0.heap.size W0 W) :
 NewLocP T U φ ψ W0 (.pointer (some ⟨g,0,none⟩)) (.pointer (some ⟨h,0,none⟩)) W':=by
 have dS:∀ i ∈ S,i ∉ [g,h]:=fun i hi hm=>by
  simp at hm
  rcases hm with rfl | rfl
  ·exact hgS hi
  ·exact hhS hi
 have dD:∀ i ∈ D,i ∉ [g,h]:=fun i hi hm=>by
  simp at hm
  rcases hm with rfl | rfl
  ·exact hgD hi
  ·exact hhD hi
 have oS:=o.chg hc dS
 have oD:=q.chg hc dD
 have h1:=(Array.getElem?_eq_some_iff.1 kb).1
 have h2:=(Array.getElem?_eq_some_iff.1 kd).1
 refine ⟨g,h,cs,ds,S,D,rfl,rfl,box_at kb,box_at kd,oS,oD,fun i hi hm=>?_,hgS,hhD,fun i hi=>?_,fun i hi=>?_,below_chg hW hc hW.size (fun i hi=>by simp at hi;omega)⟩
 ·rcases List.mem_cons.1 hi with rfl | hi <;> rcases List.mem_cons.1 hm with e | hm
  ·exact hgh e
  ·exact hgD hm
  ·subst e;exact hhS hi
  ·exact hap i hi hm
 ·rcases List.mem_cons.1 hi with rfl | hi
  ·exact ⟨hg,h1⟩
  ·exact ⟨lS i hi,oS.lt i hi⟩
 ·rcases List.mem_cons.1 hi with rfl | hi
  ·exact ⟨hh,h2⟩
  ·exact ⟨lD i hi,oD.lt i hi⟩
theorem locP_late (h:ReadyP [] W0 W (φ (.agg cs)) (ψ (.agg ds))):NewLocP T U φ ψ W0 (.pointer (some ⟨W.heap.size,0,none⟩)) (.pointer (some ⟨W.heap.size+1,0,none⟩)) ((W.alloc (.cells cs T)).alloc (.cells ds U)):=by
 obtain ⟨x,S,D,o,q,hap,_,lS,lD⟩:=h
 have k2:=box_new (W.alloc (.cells cs T)) ds U
 rw [show (W.alloc (.cells cs T)).heap.size = W.heap.size+1 by simp] at k2
 have k1:=(box_new W cs T).below (below_al (Below.refl _ _) (.cells ds U))
 have hz:=x.2.2.size
 exact newLocP_of k1.here k2.here o q hap (by omega) (fun h=>by have:=o.lt _ h;omega) (fun h=>by have:=q.lt _ h;omega) (fun h=>by have:=o.lt _ h;omega) (fun h=>by have:=q.lt _ h;omega) hz (by omega) lS lD (Chg.of_below (Below.next (below_al (Below.refl _ _) _) (below_al (Below.refl _ _) _))) x.2.2
theorem locP_late2 (h:ReadyP [] W0 W (φ (.agg cs)) (ψ (.agg ds))):NewLocP T U φ ψ W0 (.pointer (some ⟨W.heap.size+1,0,none⟩)) (.pointer (some ⟨W.heap.size,0,none⟩)) ((W.alloc (.cells ds U)).alloc (.cells cs T)):=by
 obtain ⟨x,S,D,o,q,hap,_,lS,lD⟩:=h
 have k2:=box_new (W.alloc (.cells ds U)) cs T
 rw [show (W.alloc (.cells ds U)).heap.size = W.heap.size+1 by simp] at k2
 have k1:=(box_new W ds U).below (below_al (Below.refl _ _) (.cells cs T))
 have hz:=x.2.2.size
 exact newLocP_of k2.here k1.here o q hap (by omega) (fun h=>by have:=o.lt _ h;omega) (fun h=>by have:=q.lt _ h;omega) (fun h=>by have:=o.lt _ h;omega) (fun h=>by have:=q.lt _ h;omega) (by omega) hz lS lD (Chg.of_below (Below.next (below_al (Below.refl _ _) _) (below_al (Below.refl _ _) _))) x.2.2
theorem ReadyP.symm {x y:Nat × Array Value × TypeId} (h:ReadyP [x,y] W0 W a b):ReadyP [y,x] W0 W a b:=by
 obtain ⟨⟨h1,h2,h3⟩,S,D,o,q,hap,hn,lS,lD⟩:=h
 refine ⟨⟨?_,fun z hz=>h2 z (by simp at hz ⊢;rcases hz with rfl | rfl <;> simp),h3⟩,S,D,o,q,hap,fun z hz=>hn z (by simp at hz ⊢;rcases hz with rfl | rfl <;> simp),lS,lD⟩
 simp at h1 ⊢
 omega
theorem ReadyP.one {g:Nat} {z0 z1 z2:Value} (h:ReadyP [(g,#[z0,z1,z2],V)] W0 W a b) :
 ((∀ o,(W.alloc o).cell? ⟨g,0,none⟩ = some z0)∧(∀ o,(W.alloc o).cell? ⟨g,1,none⟩ = some z1)∧(∀ o,(W.alloc o).cell? ⟨g,2,none⟩ = some z2))∧((∀ o,(W.alloc o).frozen? ⟨g,0,none⟩ = false)∧(∀ o,(W.alloc o).frozen? ⟨g,1,none⟩ = false)∧(∀ o,(W.alloc o).frozen? ⟨g,2,none⟩ = false)) ∧
   (W.cell? ⟨g,0,none⟩ = some z0∧W.cell? ⟨g,1,none⟩ = some z1∧W.cell? ⟨g,2,none⟩ = some z2)∧(W.frozen? ⟨g,0,none⟩ = false∧W.frozen? ⟨g,1,none⟩ = false∧W.frozen? ⟨g,2,none⟩ = false)∧(¬ g = W.heap.size∧¬ W.heap.size = g):=by
 have kk:=(h.1.2.1 (g,#[z0,z1,z2],V) (by simp)).2
 have hl:=h.1.lt (g,#[z0,z1,z2],V) (by simp)
 dsimp only at kk hl
 have k:=fun o=>(kk.below (below_al (Below.refl _ _) o)).here
 exact ⟨⟨fun o=>(k o).cell 0 _ rfl,fun o=>(k o).cell 1 _ rfl,fun o=>(k o).cell 2 _ rfl⟩,⟨fun o=>Lib.frozen_of_heap (k o) 0,fun o=>Lib.frozen_of_heap (k o) 1,fun o=>Lib.frozen_of_heap (k o) 2⟩,
  ⟨kk.here.cell 0 _ rfl,kk.here.cell 1 _ rfl,kk.here.cell 2 _ rfl⟩,⟨Lib.frozen_of_heap kk.here 0,Lib.frozen_of_heap kk.here 1,Lib.frozen_of_heap kk.here 2⟩,Nat.ne_of_lt hl,fun e=>Nat.ne_of_lt hl e.symm⟩
end
end Go.Proofs.YtehkknphcflofaaGreatDoor
namespace Go.Proofs.YtehkknphcflofaaGreatDoor
open Go.RowKit
def cntE (l:List EI) (a b:ByteArray):Nat:=l.countP fun r=>decide (r.1 = a) && decide (r.2.1 = b)
def differE (l:List EI):Bool:=l.all fun r=>decide (cntE l r.1 r.2.1 ≤ 1)
theorem countP_two {α:Type} {p:α→Bool} {l:List α} {i j:Nat} {x y:α} (h:i < j) (hx:l[i]? = some x) (hy:l[j]? = some y) (px:p x = true) (py:p y = true):2 ≤ l.countP p:=by
 induction l generalizing i j with
 | nil=>simp at hx
 | cons z l ih =>
   obtain ⟨j,rfl⟩:∃ k,j = k+1:=⟨j - 1,by omega⟩
   have hy':l[j]? = some y:=by simpa using hy
   rw [List.countP_cons]
   cases i with
   | zero =>
     obtain rfl:z = x:=by simpa using hx
     have:0 < l.countP p:=List.countP_pos_iff.2 ⟨y,List.mem_of_getElem? hy',py⟩
     rw [if_pos px]
     omega
   | succ i =>
     have:=ih (i:=i) (j:=j) (by omega) (by simpa using hx) hy'
     omega
theorem two_countP {α:Type} {p:α→Bool} {l:List α} (h:2 ≤ l.countP p):∃ (i j:Nat) (x y:α),i < j∧l[i]? = some x∧l[j]? = some y∧p x = true∧p y = true:=by
 induction l with
 | nil=>simp at h
 | cons z l ih =>
   rw [List.countP_cons] at h
   by_cases hz:p z = true
   ·rw [if_pos hz] at h
    obtain ⟨y,hy,py⟩:=List.countP_pos_iff.1 (show 0 < l.countP p by omega)
    obtain ⟨j,hj⟩:=List.mem_iff_getElem?.1 hy
    exact ⟨0,j+1,z,y,by omega,rfl,by simpa using hj,hz,py⟩
   ·rw [if_neg hz] at h
    obtain ⟨i,j,x,y,h1,h2,h3,h4,h5⟩:=ih (by omega)
    exact ⟨i+1,j+1,x,y,by omega,by simpa using h2,by simpa using h3,h4,h5⟩
theorem pair_is {r:EI} {a b:ByteArray}:((decide (r.1 = a) && decide (r.2.1 = b)) = true) ↔ (r.1 = a∧r.2.1 = b):=by simp
theorem atE_le {l:List EI} {i:Nat} {x:EI} {a b:ByteArray} (hx:l[i]? = some x) (hp:x.1 = a∧x.2.1 = b):atE l a b ≤ i:=by
 rcases Nat.lt_or_ge i (atE l a b) with h | h
 ·exfalso
  have:=List.not_of_lt_findIdx (xs:=l) (p:=fun r=>decide (r.1 = a) && decide (r.2.1 = b)) h
  rw [(List.getElem?_eq_some_iff.1 hx).2] at this
  simp at this
  exact this hp.1 hp.2
 ·exact h
theorem atE_has {l:List EI} {a b:ByteArray} (h:atE l a b < l.length):∃ x,l[atE l a b]? = some x∧x.1 = a∧x.2.1 = b:=by
 refine ⟨_,List.getElem?_eq_getElem h,?_⟩
 have:=List.findIdx_getElem (xs:=l) (p:=fun r:EI=>decide (r.1 = a) && decide (r.2.1 = b)) (w:=h)
 exact pair_is.1 this
theorem posE_self {l:List EI} {i:Nat} {x:EI} (hx:l[i]? = some x) (h:atE l x.1 x.2.1 = i):posE l x.1 x.2.1 = i:=by
 unfold posE
 rw [if_pos (by rw [h];exact (List.getElem?_eq_some_iff.1 hx).1),h]
theorem rows_differ (l:List EI):(List.range l.length).all (rowT l) = (l.all okE && differE l):=by
 rw [Bool.eq_iff_iff,Bool.and_eq_true,List.all_eq_true,List.all_eq_true]
 unfold differE
 rw [List.all_eq_true]
 constructor
 ·intro h
  have hr:∀ (i:Nat) x,l[i]? = some x→okE x = true∧posE l x.1 x.2.1 = i:=fun i x hx=>by
   have:=h i (List.mem_range.2 (List.getElem?_eq_some_iff.1 hx).1)
   rw [rowT_at hx,Bool.and_eq_true,decide_eq_true_eq] at this
   exact this
  refine ⟨fun x hx=>?_,fun x hx=>?_⟩
  ·obtain ⟨i,hi⟩:=List.mem_iff_getElem?.1 hx
   exact (hr i x hi).1
  ·rw [decide_eq_true_eq]
   rcases Nat.lt_or_ge 1 (cntE l x.1 x.2.1) with hc | hc
   ·exfalso
    obtain ⟨i,j,y,z,hij,hy,hz,py,pz⟩:=two_countP (show 2 ≤ l.countP _ from hc)
    have py:=pair_is.1 py
    have pz:=pair_is.1 pz
    have h1:=(hr j z hz).2
    rw [pz.1,pz.2] at h1
    have h2:=atE_le hy py
    unfold posE at h1
    split at h1 <;> omega
   ·exact hc
 ·rintro ⟨h1,h2⟩ i hi
  have hil:=List.mem_range.1 hi
  have hx:l[i]? = some l[i]:=List.getElem?_eq_getElem hil
  rw [rowT_at hx,h1 _ (List.getElem_mem hil),Bool.true_and,decide_eq_true_eq]
  refine posE_self hx ?_
  have hle:=atE_le hx ⟨rfl,rfl⟩
  rcases Nat.lt_or_eq_of_le hle with hlt | he
  ·exfalso
   obtain ⟨y,hy,py⟩:=atE_has (show atE l l[i].1 l[i].2.1 < l.length by omega)
   have:=countP_two (p:=fun r:EI=>decide (r.1 = l[i].1) && decide (r.2.1 = l[i].2.1)) hlt hy hx (pair_is.2 py) (pair_is.2 ⟨rfl,rfl⟩)
   have h3:=h2 _ (List.getElem_mem hil)
   rw [decide_eq_true_eq] at h3
   unfold cntE at h3
   omega
  ·exact he
theorem okT_pairs (t:TI):okT t = (knownC t.1 && (decide (t.2.length ≤ 12) && (t.2.all okE && differE t.2))):=by rw [okT_rows,rows_differ]
theorem cntE_take {l:List EI} {k:Nat} {x:EI} (h:l[k]? = some x) (a b:ByteArray):cntE (l.take (k+1)) a b = cntE (l.take k) a b+if x.1 = a∧x.2.1 = b then 1 else 0:=by
 have hj:=(List.getElem?_eq_some_iff.1 h).1
 unfold cntE
 rw [List.take_succ_eq_append_getElem hj,List.countP_append,(List.getElem?_eq_some_iff.1 h).2,List.countP_singleton]
 simp only [pair_is]
theorem cntE_le (l:List EI) (a b:ByteArray):cntE l a b ≤ l.length:=List.countP_le_length
theorem all_okE_bad {l:List EI} {x:EI} (h:x ∈ l) (hx:¬ okE x = true):l.all okE = false:=by
 rw [Bool.eq_false_iff]
 intro ha
 exact hx (List.all_eq_true.1 ha x h)
end Go.Proofs.YtehkknphcflofaaGreatDoor
