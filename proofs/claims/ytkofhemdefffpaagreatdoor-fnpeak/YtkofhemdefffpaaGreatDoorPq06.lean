/-.-/
import Derived.Test.YtkofhemdefffpaaGreatDoorPq05
set_option linter.unusedVariables false
set_option maxHeartbeats 6400000
set_option maxRecDepth 100000
namespace Go.Proofs.YtkofhemdefffpaaGreatDoor
open Go.RowKit
def C7o (b off n cap i:Nat):Nat->Value->Prop
 | 1,v=>v = .slice (some (Y b off)) n cap
 | 2,v=>v=H i
 | 3,v=>v = .slice (some (Y b off)) i cap
 | 5,v=>v = .slice (some (Y b off)) n cap
 | 6,v=>v=H i
 | 7,v=>v=H ((i:Int)+1)
 | 8,v=>∃ad c,v = .slice (some ad) (n-(i+1)) c/\(i+1<n->ad=(Y b (off+(i+1)*6)))
 | _,_=>True
theorem l04Drop_any (b off cap:Nat)(l:List Od)(i:Nat)(w:World)(hc:∀j c,l[j]? = some c->w.rangeAt b (off+j*6) c.vs)(K:b<w.heap.size)(hil:i<l.length)(xW:l.length<=cap)(hn:l.length<=1000) :
  Calls Tryz.prog 31 #[.slice (some (Y b off)) l.length cap,H i] w fun e w'=>∃v',e = .returned v'/\ORow w' w.heap.size v' (l.take i++l.drop (i+1))/\yp w w':=by
 obtain⟨i0,uo,ub,xX,uh⟩:=info_parts Tryz.infoOrder;have HC:=U hc;clear hc;have hicp:i<=cap:=by omega
 have hi1:i+1<=l.length:=by omega
 have hi1':(i:Int)+1<=l.length:=by omega
 have qR:(i:Int)<l.length:=by omega
 have hige:(0:Int)<=i:=by omega
 have hlcp:(l.length:Int)<=cap:=by omega
 have h0i:(0:Int)<=(i:Int)+1:=by omega
 go_enter Tryz.func31,Tryz.ntmps31;go_wp2_with fail;refine iS (R7A (.slice none 0 0) w (C7o b off l.length cap i) (l.take i) (l.take i++l.drop (i+1)) (fun f=>{ tmps:=#[.slice (some (Y b off)) l.length cap,H i,M,M,f 10,f 0,f 1,f 2,f 3,f 4,f 5,f 6,f 7,f 8,f 9],defers:=[] })) (by kernel_rfl) ?_ ?_ ?_
 ·exact⟨fun j=>if j=10 then .slice none 0 0 else M,rfl,⟨⟨rfl,rfl,rfl,Nat.le_refl _,fun _ _=>rfl⟩,fun j hj=>by rw[yJ] at hj;split at hj <;> simp at hj,fun _=>rfl,by simp,by simp,by simp,by simp,by simp,by simp,by simp⟩⟩
 ·rintro x md V ⟨f,rfl,hR⟩ hx xY;have xq:=eM xY hx (acyc _ (by kernel_rfl));have k9:x[9]? = some true:=xq 9 (by simp);have k10:x[10]? = some true:=xq 10 (by simp);have bC:=U (hR.m9 k9);have vQ:f 10=f 9:=hR.m10 k10;have xI:=U hR.bel;simp only[vQ];generalize f 9=v9 at bC |-;clear hR xq k9 k10 vQ xY hx;go_wp2_with fail;go_ret;exact⟨_,rfl,O bC,O xI⟩
 ·rintro x md V i' o' ⟨f,rfl,hR⟩ hx D xA X;have qI:=U hR
  match i',D with
  | 0,D =>
   cases D;clear hR X;go_simp;exact⟨upd f 0 (.slice (some (Y V.heap.size 0)) 0 0),by simp[upd],r7_0 (O qI) xA (fun _=>trivial)⟩
  | 1,D =>
   cases D;clear hR X;go_simp;exact⟨upd f 1 (.slice (some (Y b off)) l.length cap),by simp[upd],eI (O qI) 1 _ rfl (by decide) (by decide) (by decide) (by decide)⟩
  | 2,D =>
   cases D;clear hR X;go_simp;exact⟨upd f 2 (H i),by simp[upd],eI (O qI) 2 _ rfl (by decide) (by decide) (by decide) (by decide)⟩
  | 3,D =>
   cases D;have g1:C7o b off l.length cap i 1 (f 1):=hR.c 1 (yf X 1 rfl);have g2:C7o b off l.length cap i 2 (f 2):=hR.c 2 (yf X 2 rfl);simp only[C7o] at g1 g2;clear hR X;go_simp;exact⟨upd f 3 (.slice (some (Y b off)) i cap),by simp[upd,g1,g2],eI (O qI) 3 _ rfl (by decide) (by decide) (by decide) (by decide)⟩
  | 4,D =>
   cases D;have g3:C7o b off l.length cap i 3 (f 3):=hR.c 3 (yf X 3 rfl);have k0:x[0]? = some true:=X ⟨0,.data⟩ (by simp) rfl;have HCV:Hid (∀j c,l[j]? = some c->V.rangeAt b (off+j*6) c.vs):=fun j c hj=>zf (O HC j c hj) hR.bel K;simp only[C7o] at g3;clear hR X;rw[if_pos (by rfl)];refine wp_append_own V (.tmp 5) (.tmp 8) 29 rfl w.heap.size 71 i0 _ 6 56 Tryz.underlying29 uo ub xX uh rfl (by decide) (f 0) 0 [] rfl ((O qI).m0 k0 xA) (Y b off) i cap ((l.take i).flatMap Od.vs) g3 (by rw[dT Od.len,List.length_take];congr 1;omega) (by simpa using ia (W:=V) (g:=b) (off:=off) (l:=l) (O HCV) 0 i) (fQ _) (by unfold maxLen;omega) (by omega) (O qI).bel.size ?_;intro v' w' xu uN _;refine⟨upd f 4 v',rfl,r7_4 (O qI) k0 xA (fun _=>trivial) ?_ uN⟩;have xC:(l.take i).length=0+i:=by rw[List.length_take];omega
   show w'.ownsRow _ _ _ _ (l.take i).length _;rw[xC];simpa using xu
  | 5,D =>
   cases D;clear hR X;go_simp;exact⟨upd f 5 (.slice (some (Y b off)) l.length cap),by simp[upd],eI (O qI) 5 _ rfl (by decide) (by decide) (by decide) (by decide)⟩
  | 6,D =>
   cases D;clear hR X;go_simp;exact⟨upd f 6 (H i),by simp[upd],eI (O qI) 6 _ rfl (by decide) (by decide) (by decide) (by decide)⟩
  | 7,D =>
   cases D;have g6:C7o b off l.length cap i 6 (f 6):=hR.c 6 (yf X 6 rfl);simp only[C7o] at g6;have hwr:IntKind.i64.wrap ((i:Int)+1)=(i:Int)+1:=by rw[IntKind.wrap_i64];omega
   clear hR X;go_simp;exact⟨upd f 7 (H ((i:Int)+1)),by simp[upd,g6],eI (O qI) 7 _ rfl (by decide) (by decide) (by decide) (by decide)⟩
  | 8,D =>
   cases D;have g5:C7o b off l.length cap i 5 (f 5):=hR.c 5 (yf X 5 rfl);have g7:C7o b off l.length cap i 7 (f 7):=hR.c 7 (yf X 7 rfl);simp only[C7o] at g5 g7;clear hR X
   by_cases hcp:cap=i+1
   ·subst hcp;go_simp;exact⟨upd f 8 (.slice (some (Y b off)) (l.length-(i+1)) 0),by simp[upd,g5,g7];omega,eI (O qI) 8 _ ⟨_,_,rfl,fun h=>by omega⟩ (by decide) (by decide) (by decide) (by decide)⟩
   ·rw[if_pos (by rfl)];unfold Oper.wp;go_simp;exact⟨upd f 8 (.slice (some (Y b (off+(i+1)*6))) (l.length-(i+1)) (cap-(i+1))),by simp[upd,g5,g7],eI (O qI) 8 _ ⟨_,_,rfl,fun h=>rfl⟩ (by decide) (by decide) (by decide) (by decide)⟩
  | 9,D =>
   cases D;have g8:C7o b off l.length cap i 8 (f 8):=hR.c 8 (yf X 8 rfl);have k4:x[4]? = some true:=X ⟨4,.data⟩ (by simp) rfl;have HCV:Hid (∀j c,l[j]? = some c->V.rangeAt b (off+j*6) c.vs):=fun j c hj=>zf (O HC j c hj) hR.bel K;obtain⟨ad8,c8,g8,had⟩:=g8;clear hR X
   have hsrc8:∀j u,((l.drop (i+1)).flatMap Od.vs)[j]? = some u->V.cell? (ad8.add j)=some u:=by
    intro j u hu
    by_cases xK:i+1<l.length
    ·rw[had xK];have:=ia (W:=V) (g:=b) (off:=off) (l:=l) (O HCV) (i+1) (l.length-(i+1)) j u (by rw[xa (by simp)];exact hu);simpa using this
    ·rw[xb (by omega)] at hu;simp at hu
   rw[if_pos (by rfl)];refine wp_append_own V (.tmp 9) (.tmp 13) 29 rfl w.heap.size 71 i0 _ 6 56 Tryz.underlying29 uo ub xX uh rfl (by decide) (f 4) (l.take i).length ((l.take i).flatMap Od.vs) rfl ((O qI).m4 k4 xA) ad8 (l.length-(i+1)) c8 ((l.drop (i+1)).flatMap Od.vs) g8 (by rw[dT Od.len,List.length_drop]) hsrc8 (fQ _) (by unfold maxLen;rw[List.length_take];omega) (by rw[List.length_take];omega) (O qI).bel.size ?_;intro v' w' xu uN _;refine⟨upd f 9 v',rfl,r7_9 (O qI) k4 xA (fun _=>trivial) ?_ uN⟩;show w'.ownsRow _ _ _ _ (l.take i++l.drop (i+1)).length _;rw[yQ,List.length_drop,List.flatMap_append];exact xu
  | 10,D =>
   cases D
   have hA:∀j,j<10->x[j]? = some true:=fun j hj=>X ⟨j,.phase⟩ (by
    match j,hj with
    | 0,_=>simp
    | 1,_=>simp
    | 2,_=>simp
    | 3,_=>simp
    | 4,_=>simp
    | 5,_=>simp
    | 6,_=>simp
    | 7,_=>simp
    | 8,_=>simp
    | 9,_=>simp
    | n+10,h=>omega) rfl
   clear hR X;go_simp;exact⟨upd f 10 (f 9),by simp[upd],r7_10 (O qI) hA xA (fun _=>trivial)⟩
  | n+11,D=>simp at D
theorem eK (n a b:Int)(w:World) :
  Calls Tryz.prog 24 #[H n,H a,H b] w fun e w'=>e = .returned (.bool (betB n a b))/\w'=w:=by
 go_enter Tryz.func24,Tryz.ntmps24;go_wp2
 all_goals go_ret
 all_goals exact⟨zB (by rw[Bool.eq_iff_iff];simp[betB];omega),rfl⟩
theorem l03Tag_any (s:ByteArray)(w:World)(hs:s.size<=maxLen) :
  Calls Tryz.prog 50 #[yl s] w fun e w'=>e = .returned (.bool (tagB s))/\w'=w:=by
 unfold maxLen at hs
 by_cases hl:s.size<=12
 ·have hl':¬ ((12:Int)<s.size):=by omega
  go_enter Tryz.func50,Tryz.ntmps50;go_wp2_with fail
  go_loop [3] (fun i=>∃k:Nat,k<=s.size/\i=H k/\Hid (s.data.toList.all tagC=(s.data.toList.drop k).all tagC)) (fun i=>s.size-(intOf i).toNat)
  case atStart=>exact⟨0,Nat.zero_le _,rfl,by simp[Hid]⟩
  case round =>
   obtain⟨k,E,rfl,X⟩:=hrel
   by_cases xK:k<s.size
   ·have ux:(k:Int)<s.size:=by omega
    have jm:=drop_cons s k xK;have hw:betB (s[k].toNat:Int) 32 126=tagC s[k]:=rfl;cases ht:tagC s[k]
    ·have HT:Hid (s.data.toList.all tagC=false):=by
      have:=O X;rw[jm,List.all_cons,ht,Bool.false_and] at this;exact this
     rw[ht] at hw
     have hor:(s[k].toNat:Int)<32\/(32<=(s[k].toNat:Int)/\(126:Int)<s[k].toNat):=by
      simp[betB] at hw;omega
     clear jm ht hw;rcases hor with h32|⟨h32,h126⟩
     ·have hd:decide ((s[k].toNat:Int)<32)=true:=by simpa using h32
      go_wp2_with fail;go_ret;exact⟨zB (tag_no s (O HT)).symm,rfl⟩
     ·have hd:decide ((s[k].toNat:Int)<32)=false:=by simpa using h32
      go_wp2_with fail;go_ret;exact⟨zB (tag_no s (O HT)).symm,rfl⟩
    ·have HN:Hid (s.data.toList.all tagC=(s.data.toList.drop (k+1)).all tagC):=by
      have:=O X;rw[jm,List.all_cons,ht,Bool.true_and] at this;exact this
     rw[ht] at hw
     have hor:32<=(s[k].toNat:Int)/\(s[k].toNat:Int)<=126:=by
      simp[betB] at hw;omega
     obtain⟨h32,h126⟩:=hor;have hd:decide ((s[k].toNat:Int)<32)=false:=by simpa using h32
     have hd2:¬ ((126:Int)<s[k].toNat):=by omega
     clear jm ht hw;go_wp2_with fail
     go_round
     case rel=>exact⟨k+1,by omega,by go_num,O HN⟩
     case measure=>simp[intOf];omega
   ·go_wp2_with fail;go_ret;have h:=O X;rw[xb (by rw[data_len];omega)] at h;exact⟨zB (tag_yes s hl (by rw[h];rfl)).symm,rfl⟩
 ·have hl':(12:Int)<s.size:=by omega
  go_enter Tryz.func50,Tryz.ntmps50;go_wp2_with fail;go_ret;exact⟨zB (tag_long s hl).symm,rfl⟩
theorem l03Order_any (o:Od)(w:World)(hs:o.tag.size<=maxLen) :
  Calls Tryz.prog 25 #[.agg (yx o.id o.side o.ticks o.left o.life o.tag).toArray] w fun e w'=>e = .returned (.bool (ordB o))/\yp w w':=by
 have HT:=U (fun W=>l03Tag_any o.tag W hs);clear hs;cases Z:betB o.side 1 2
 ·go_enter Tryz.func25,Tryz.ntmps25;go_wp2_with (first|(go_at_call 50;refine(O HT _).mono ?_;rintro e w' ⟨rfl,rfl⟩)|(go_at_call 24;refine(eK _ _ _ _).mono ?_;rintro e w' ⟨rfl,rfl⟩));go_ret;exact⟨zB (by simp[ordB,Z]),by go_grown⟩
 ·
  cases h4:betB o.ticks 1 1000000
  ·go_enter Tryz.func25,Tryz.ntmps25;go_wp2_with (first|(go_at_call 50;refine(O HT _).mono ?_;rintro e w' ⟨rfl,rfl⟩)|(go_at_call 24;refine(eK _ _ _ _).mono ?_;rintro e w' ⟨rfl,rfl⟩));go_ret;exact⟨zB (by simp[ordB,Z,h4]),by go_grown⟩
  ·
   cases h5:betB o.left 1 1000000
   ·go_enter Tryz.func25,Tryz.ntmps25;go_wp2_with (first|(go_at_call 50;refine(O HT _).mono ?_;rintro e w' ⟨rfl,rfl⟩)|(go_at_call 24;refine(eK _ _ _ _).mono ?_;rintro e w' ⟨rfl,rfl⟩));go_ret;exact⟨zB (by simp[ordB,Z,h4,h5]),by go_grown⟩
   ·
    cases Q:betB o.life 0 1
    ·go_enter Tryz.func25,Tryz.ntmps25;go_wp2_with (first|(go_at_call 50;refine(O HT _).mono ?_;rintro e w' ⟨rfl,rfl⟩)|(go_at_call 24;refine(eK _ _ _ _).mono ?_;rintro e w' ⟨rfl,rfl⟩));go_ret;exact⟨zB (by simp[ordB,Z,h4,h5,Q]),by go_grown⟩
    ·
     cases I:tagB o.tag
     ·go_enter Tryz.func25,Tryz.ntmps25;go_wp2_with (first|(go_at_call 50;refine(O HT _).mono ?_;rintro e w' ⟨rfl,rfl⟩)|(go_at_call 24;refine(eK _ _ _ _).mono ?_;rintro e w' ⟨rfl,rfl⟩));go_ret;exact⟨zB (by simp[ordB,Z,h4,h5,Q,I]),by go_grown⟩
     ·go_enter Tryz.func25,Tryz.ntmps25;go_wp2_with (first|(go_at_call 50;refine(O HT _).mono ?_;rintro e w' ⟨rfl,rfl⟩)|(go_at_call 24;refine(eK _ _ _ _).mono ?_;rintro e w' ⟨rfl,rfl⟩));go_ret;exact⟨zB (by simp[ordB,Z,h4,h5,Q,I]),by go_grown⟩
end Go.Proofs.YtkofhemdefffpaaGreatDoor
