/-.-/
import Derived.Test.YthhkapcbocgcoaaGreatDoorKj01
set_option linter.unusedVariables false
set_option maxHeartbeats 6400000
set_option maxRecDepth 100000
namespace Go.Proofs.YthhkapcbocgcoaaGreatDoor
open Go.RowKit
def betB (n a b:Int):Bool:=decide (a<=n)&&decide (n<=b)
theorem zN (n a b:Int)(w:World) :
  Calls Tryz.prog 72 #[H n,H a,H b] w fun e w'=>e=ym (.bool (betB n a b))/\w'=w:=by
 go_enter Tryz.func72,Tryz.ntmps72;go_wp2
 all_goals go_ret
 all_goals exact⟨zp (by rw[Bool.eq_iff_iff];simp[betB];omega),rfl⟩
theorem gZ (n:Int)(w:World) :
  Calls Tryz.prog 119 #[H n] w fun e w'=>e=ym (.bool (betB n 1 2))/\w'=w:=by
 go_enter Tryz.func119,Tryz.ntmps119;go_wp2
 all_goals go_ret
 all_goals exact⟨zp (by rw[Bool.eq_iff_iff];simp[betB];omega),rfl⟩
theorem gY (n:Int)(w:World) :
  Calls Tryz.prog 120 #[H n] w fun e w'=>e=ym (.bool (betB n 0 1))/\w'=w:=by
 go_enter Tryz.func120,Tryz.ntmps120;go_wp2
 all_goals go_ret
 all_goals exact⟨zp (by rw[Bool.eq_iff_iff];simp[betB];omega),rfl⟩
def tagC (c:UInt8):Bool:=betB c.toNat 32 126
def tagB (s:ByteArray):Bool:=decide (s.size<=12)&&s.data.toList.all tagC
theorem drop_cons (s:ByteArray)(k:Nat)(h:k<s.size):s.data.toList.drop k=s[k]::s.data.toList.drop (k+1):=by
 rw[get_nat s k h];exact xd (by rw[data_len];exact h)
theorem tag_yes (s:ByteArray)(h:s.size<=12)(hk:s.data.toList.all tagC=true):tagB s=true:=by simp only[tagB,hk,decide_eq_true h,Bool.and_true]
theorem tag_long (s:ByteArray)(h:¬ s.size<=12):tagB s=false:=by simp only[tagB,decide_eq_false h,Bool.false_and]
theorem tag_no (s:ByteArray)(hk:s.data.toList.all tagC=false):tagB s=false:=by simp only[tagB,hk,Bool.and_false]
theorem isTag_any (s:ByteArray)(w:World)(hs:s.size<=maxLen) :
  Calls Tryz.prog 121 #[yk s] w fun e w'=>e=ym (.bool (tagB s))/\w'=w:=by
 unfold maxLen at hs
 by_cases hl:s.size<=12
 ·have hl':¬ ((12:Int)<s.size):=by omega
  go_enter Tryz.func121,Tryz.ntmps121;go_wp2_with fail
  go_loop [9] (fun i=>∃k:Nat,k<=s.size/\i=H k/\Hid (s.data.toList.all tagC=(s.data.toList.drop k).all tagC)) (fun i=>s.size-(intOf i).toNat)
  case atStart=>exact⟨0,Nat.zero_le _,rfl,by simp[Hid]⟩
  case round =>
   obtain⟨k,hk,rfl,R⟩:=hrel
   by_cases xM:k<s.size
   ·have uL:(k:Int)<s.size:=by omega
    have ji:=drop_cons s k xM;have hgen:∃c,c=s[k]:=⟨_,rfl⟩;obtain⟨c,hc⟩:=hgen
    have hw:betB (wrap64 (s[k].toNat:Int)) 32 126=tagC c:=by
     have hlt256:=UInt8.toNat_lt s[k];rw[hc,show wrap64 (s[k].toNat:Int)=(s[k].toNat:Int) by unfold wrap64;omega];rfl
    cases ht:tagC c
    ·rw[ht] at hw
     have HT:Hid (s.data.toList.all tagC=false):=by
      have:=U R;rw[ji,List.all_cons,<- hc,ht,Bool.false_and] at this;exact this
     clear ji hc ht;go_wp2_with fail;refine(zN (wrap64 (s[k].toNat:Int)) 32 126 w).mono ?_;rintro e w1 ⟨rfl,rfl⟩;go_wp2_with fail;go_ret;exact⟨zp (tag_no s (U HT)).symm,rfl⟩
    ·rw[ht] at hw
     have HN:Hid (s.data.toList.all tagC=(s.data.toList.drop (k+1)).all tagC):=by
      have:=U R;rw[ji,List.all_cons,<- hc,ht,Bool.true_and] at this;exact this
     clear ji hc ht;go_wp2_with fail;refine(zN (wrap64 (s[k].toNat:Int)) 32 126 w).mono ?_;rintro e w1 ⟨rfl,rfl⟩;go_wp2_with fail
     go_round
     case rel=>exact⟨k+1,by omega,by go_num,U HN⟩
     case measure=>simp[intOf];omega
   ·go_wp2_with fail;go_ret;have h:=U R;rw[xb (by rw[data_len];omega)] at h;exact⟨zp (tag_yes s hl (by rw[h];rfl)).symm,rfl⟩
 ·have hl':(12:Int)<s.size:=by omega
  go_enter Tryz.func121,Tryz.ntmps121;go_wp2_with fail;go_ret;exact⟨zp (tag_long s hl).symm,rfl⟩
def ordB (o:Od):Bool:=betB o.side 1 2&&betB o.life 0 1&&tagB o.tag&&betB o.ticks 1 1000000&&betB o.left 1 1000000
theorem orderOK_any (o:Od)(w:World)(hs:o.tag.size<=maxLen) :
  Calls Tryz.prog 74 #[.agg (yw o.id o.side o.ticks o.left o.life o.tag).toArray] w fun e w'=>e=ym (.bool (ordB o))/\yn w w':=by
 have HT:=Z (fun W=>isTag_any o.tag W hs);clear hs;cases D:betB o.side 1 2
 ·go_enter Tryz.func74,Tryz.ntmps74;go_wp2_with (first|(go_at_call 119;refine(gZ _ _).mono ?_;rintro e w' ⟨rfl,rfl⟩)|(go_at_call 120;refine(gY _ _).mono ?_;rintro e w' ⟨rfl,rfl⟩)|(go_at_call 121;refine(U HT _).mono ?_;rintro e w' ⟨rfl,rfl⟩)|(go_at_call 72;refine(zN _ _ _ _).mono ?_;rintro e w' ⟨rfl,rfl⟩));go_ret;exact⟨zp (by simp[ordB,D]),by go_grown⟩
 ·
  cases Y:betB o.life 0 1
  ·go_enter Tryz.func74,Tryz.ntmps74;go_wp2_with (first|(go_at_call 119;refine(gZ _ _).mono ?_;rintro e w' ⟨rfl,rfl⟩)|(go_at_call 120;refine(gY _ _).mono ?_;rintro e w' ⟨rfl,rfl⟩)|(go_at_call 121;refine(U HT _).mono ?_;rintro e w' ⟨rfl,rfl⟩)|(go_at_call 72;refine(zN _ _ _ _).mono ?_;rintro e w' ⟨rfl,rfl⟩));go_ret;exact⟨zp (by simp[ordB,D,Y]),by go_grown⟩
  ·
   cases h3:tagB o.tag
   ·go_enter Tryz.func74,Tryz.ntmps74;go_wp2_with (first|(go_at_call 119;refine(gZ _ _).mono ?_;rintro e w' ⟨rfl,rfl⟩)|(go_at_call 120;refine(gY _ _).mono ?_;rintro e w' ⟨rfl,rfl⟩)|(go_at_call 121;refine(U HT _).mono ?_;rintro e w' ⟨rfl,rfl⟩)|(go_at_call 72;refine(zN _ _ _ _).mono ?_;rintro e w' ⟨rfl,rfl⟩));go_ret;exact⟨zp (by simp[ordB,D,Y,h3]),by go_grown⟩
   ·
    cases h4:betB o.ticks 1 1000000
    ·go_enter Tryz.func74,Tryz.ntmps74;go_wp2_with (first|(go_at_call 119;refine(gZ _ _).mono ?_;rintro e w' ⟨rfl,rfl⟩)|(go_at_call 120;refine(gY _ _).mono ?_;rintro e w' ⟨rfl,rfl⟩)|(go_at_call 121;refine(U HT _).mono ?_;rintro e w' ⟨rfl,rfl⟩)|(go_at_call 72;refine(zN _ _ _ _).mono ?_;rintro e w' ⟨rfl,rfl⟩));go_ret;exact⟨zp (by simp[ordB,D,Y,h3,h4]),by go_grown⟩
    ·
     cases h5:betB o.left 1 1000000
     ·go_enter Tryz.func74,Tryz.ntmps74;go_wp2_with (first|(go_at_call 119;refine(gZ _ _).mono ?_;rintro e w' ⟨rfl,rfl⟩)|(go_at_call 120;refine(gY _ _).mono ?_;rintro e w' ⟨rfl,rfl⟩)|(go_at_call 121;refine(U HT _).mono ?_;rintro e w' ⟨rfl,rfl⟩)|(go_at_call 72;refine(zN _ _ _ _).mono ?_;rintro e w' ⟨rfl,rfl⟩));go_ret;exact⟨zp (by simp[ordB,D,Y,h3,h4,h5]),by go_grown⟩
     ·go_enter Tryz.func74,Tryz.ntmps74;go_wp2_with (first|(go_at_call 119;refine(gZ _ _).mono ?_;rintro e w' ⟨rfl,rfl⟩)|(go_at_call 120;refine(gY _ _).mono ?_;rintro e w' ⟨rfl,rfl⟩)|(go_at_call 121;refine(U HT _).mono ?_;rintro e w' ⟨rfl,rfl⟩)|(go_at_call 72;refine(zN _ _ _ _).mono ?_;rintro e w' ⟨rfl,rfl⟩));go_ret;exact⟨zp (by simp[ordB,D,Y,h3,h4,h5]),by go_grown⟩
theorem fI {w:World}{b o n:Nat}(h:w.there b o n)(j:Nat)(hj:j<n):∃v,w.cell? (J b (o+j))=some v/\w.frozen? (J b (o+j))=false:=by
 obtain⟨v,hv⟩:=Option.isSome_iff_exists.1 (h j hj).1;exact⟨v,hv,(h j hj).2⟩
theorem there6 {w:World}{b o:Nat}(h:w.there b o 6) :
  (∃v,w.cell? (J b o)=some v/\w.frozen? (J b o)=false)/\(∃v,w.cell? (J b (o+1))=some v/\w.frozen? (J b (o+1))=false) /\
  (∃v,w.cell? (J b (o+2))=some v/\w.frozen? (J b (o+2))=false)/\(∃v,w.cell? (J b (o+3))=some v/\w.frozen? (J b (o+3))=false) /\
  (∃v,w.cell? (J b (o+4))=some v/\w.frozen? (J b (o+4))=false)/\(∃v,w.cell? (J b (o+5))=some v/\w.frozen? (J b (o+5))=false):=
 ⟨fI h 0 (by omega),fI h 1 (by omega),fI h 2 (by omega),fI h 3 (by omega),fI h 4 (by omega),fI h 5 (by omega)⟩
theorem takeR {α:Type}(l:List α)(k:Nat)(c:α)(h:l[k]? = some c):l.take (k+1)=l.take k ++ [c]:=by
 obtain⟨hk,rfl⟩:=yH.1 h;rw[List.take_succ_eq_append_getElem hk]
theorem iJ {α:Type}{f:α->List Value}{sz B B':Nat}{w:World}{v:Value}{l:List α}(h:OwnR f sz B w v l)(hB:B'<=B):OwnR f sz B' w v l:=by
 obtain⟨a,cap,rfl,hl,h⟩:=h;refine⟨a,cap,rfl,hl,fun xr=>?_⟩;obtain⟨g,e1,e2,e3⟩:=h xr;exact⟨g,e1,yO hB e2,e3⟩
theorem Tryz.infoOrder:(Tryz.prog.info? 65).map (fun i=>(i.zero,i.size,i.bytes))=some (some (.agg (yw 0 0 0 0 0 ⟨#[]⟩).toArray),6,56):=by kernel_rfl
end Go.Proofs.YthhkapcbocgcoaaGreatDoor
