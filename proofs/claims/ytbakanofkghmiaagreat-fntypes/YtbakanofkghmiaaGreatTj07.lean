/-
  The engine's small functions, by the program: proved by walking them.
-/
import Derived.Test.YtbakanofkghmiaaGreatTj06
set_option linter.unusedVariables false
set_option maxHeartbeats 6400000
set_option maxRecDepth 100000
namespace Go.Proofs.YtbakanofkghmiaaGreat
open Go.RowKit
def tkR (x:Nat):Nat:=(FloatKind.f64.format.mul x 4616189618054758400).getD 0
def tkN (x:Nat):Int:=((FloatKind.f64.decode (tkR x)).toInt .zero).getD 0
def tkOk (x:Nat):Bool:=(FloatKind.f64.format.order x 0 == some Ordering.gt) && ((FloatKind.f64.format.order x 4687829947429945344 == some Ordering.lt) || (FloatKind.f64.format.order x 4687829947429945344 == some Ordering.eq)) &&
 (FloatKind.f64.format.order (floatOfInt .f64 (tkN x)) (tkR x) == some Ordering.eq)
def tk (x:Nat):Int:=if tkOk x = true then tkN x else 0
theorem cR (x:Nat) (w:World) :
  Calls Tryz.prog 19 #[yi x] w fun e w'=>e = yl (.tuple #[H (tk x),.bool (tkOk x)])∧w' = w:=by
 by_cases h0:FloatKind.f64.format.order x 0 = some Ordering.gt
 ·by_cases Q:FloatKind.f64.format.order x 4687829947429945344 = some Ordering.lt ∨ FloatKind.f64.format.order x 4687829947429945344 = some Ordering.eq
  ·obtain ⟨r,n,jq,pj,hn⟩:=price_four h0 Q
   have hn':(n:Int) < 9007199254740992:=by omega
   have eR:tkR x = r:=by unfold tkR; rw [show FloatKind.f64.format.mul x 4616189618054758400 = some r from jq]; rfl
   have eN:tkN x = n:=by unfold tkN; rw [eR,show (FloatKind.f64.decode r).toInt .zero = some (n:Int) from pj]; rfl
   have b0:(FloatKind.f64.format.order x 0 == some Ordering.gt) = true:=by rw [h0]; rfl
   have hm:∀ W,(binOp .mul 41 (yi x) (yi 4616189618054758400)).run Tryz.prog W = .ok (yi r) W:=fun W=>by
    have:FloatKind.f64.format.mul x 4616189618054758400 = some r:=jq
    simp [binOp,Op.floatArith,this]
   have hc:∀ W,(convert 41 3 (yi r)).run Tryz.prog W = .ok (H n) W:=fun W=>by
    have N:(FloatKind.f64.decode r).toInt .zero = some (n:Int):=pj
    have F:IntKind.i64.min ≤ (n:Int)∧(n:Int) ≤ IntKind.i64.max:=by
     rw [show IntKind.i64.min = -9223372036854775808 by decide,show IntKind.i64.max = 9223372036854775807 by decide]; omega
    simp [convert,run_underlying Tryz.underlying41,run_underlying Tryz.underlying3,Conv.floatToInt,N,F.1]
    intro h
    omega
   have qq:((FloatKind.f64.format.order x 4687829947429945344 == some Ordering.lt) || (FloatKind.f64.format.order x 4687829947429945344 == some Ordering.eq)) = true:=by
    rcases Q with Q | Q <;> rw [Q] <;> rfl
   have vS:tkOk x = (FloatKind.f64.format.order (floatOfInt .f64 n) r == some Ordering.eq):=by unfold tkOk; rw [eN,eR,b0,qq]; rfl
   clear jq pj h0 qq
   cases he:(FloatKind.f64.format.order (floatOfInt .f64 n) r == some Ordering.eq)
   all_goals
    have he2:(FloatKind.f64.format.order (floatOfInt .f64 n) r != some Ordering.eq) = !(FloatKind.f64.format.order (floatOfInt .f64 n) r == some Ordering.eq):=rfl
    rw [he] at he2
    rw [he] at vS
   ·have HT:Hid (tk x = 0∧tkOk x = false):=⟨by unfold tk; rw [vS]; rfl,vS⟩
    clear vS eN eR
    rcases Q with Q | Q
    ·have b1:(FloatKind.f64.format.order x 4687829947429945344 == some Ordering.lt) = true:=by rw [Q]; rfl
     have b2:(FloatKind.f64.format.order x 4687829947429945344 == some Ordering.eq) = false:=by rw [Q]; rfl
     clear Q
     go_enter Tryz.func19,Tryz.ntmps19
     go_wp2
     go_ret2
     exact ⟨by rw [(U HT).1,(U HT).2]; rfl,rfl⟩
    ·have b1:(FloatKind.f64.format.order x 4687829947429945344 == some Ordering.lt) = false:=by rw [Q]; rfl
     have b2:(FloatKind.f64.format.order x 4687829947429945344 == some Ordering.eq) = true:=by rw [Q]; rfl
     clear Q
     go_enter Tryz.func19,Tryz.ntmps19
     go_wp2
     go_ret2
     exact ⟨by rw [(U HT).1,(U HT).2]; rfl,rfl⟩
   ·have HT:Hid (tk x = n∧tkOk x = true):=⟨by unfold tk; rw [vS,eN]; rfl,vS⟩
    clear vS eN eR
    rcases Q with Q | Q
    ·have b1:(FloatKind.f64.format.order x 4687829947429945344 == some Ordering.lt) = true:=by rw [Q]; rfl
     have b2:(FloatKind.f64.format.order x 4687829947429945344 == some Ordering.eq) = false:=by rw [Q]; rfl
     clear Q
     go_enter Tryz.func19,Tryz.ntmps19
     go_wp2
     go_ret2
     exact ⟨by rw [(U HT).1,(U HT).2]; rfl,rfl⟩
    ·have b1:(FloatKind.f64.format.order x 4687829947429945344 == some Ordering.lt) = false:=by rw [Q]; rfl
     have b2:(FloatKind.f64.format.order x 4687829947429945344 == some Ordering.eq) = true:=by rw [Q]; rfl
     clear Q
     go_enter Tryz.func19,Tryz.ntmps19
     go_wp2
     go_ret2
     exact ⟨by rw [(U HT).1,(U HT).2]; rfl,rfl⟩
  ·have b0:(FloatKind.f64.format.order x 0 == some Ordering.gt) = true:=by rw [h0]; rfl
   have b1:(FloatKind.f64.format.order x 4687829947429945344 == some Ordering.lt) = false:=by rw [xb]; exact fun h=>Q (.inl h)
   have b2:(FloatKind.f64.format.order x 4687829947429945344 == some Ordering.eq) = false:=by rw [xb]; exact fun h=>Q (.inr h)
   have vS:tkOk x = false:=by unfold tkOk; rw [b0,b1,b2]; rfl
   have HT:Hid (tk x = 0∧tkOk x = false):=⟨by unfold tk; rw [vS]; rfl,vS⟩
   clear h0 Q vS
   go_enter Tryz.func19,Tryz.ntmps19
   go_wp2
   go_ret2
   exact ⟨by rw [(U HT).1,(U HT).2]; rfl,rfl⟩
 ·have b0:(FloatKind.f64.format.order x 0 == some Ordering.gt) = false:=by rw [xb]; exact h0
  have vS:tkOk x = false:=by unfold tkOk; rw [b0]; rfl
  have HT:Hid (tk x = 0∧tkOk x = false):=⟨by unfold tk; rw [vS]; rfl,vS⟩
  clear h0 vS
  go_enter Tryz.func19,Tryz.ntmps19
  go_wp2
  go_ret2
  exact ⟨by rw [(U HT).1,(U HT).2]; rfl,rfl⟩
def insT (s:Bool) (k:Int):List Int→List Int
 | []=>[k]
 | a :: r=>if bt s k a then k :: a :: r else if k = a then a :: r else a :: insT s k r
theorem insT_mem (s:Bool) (k x:Int):∀ T:List Int,x ∈ insT s k T ↔ x = k ∨ x ∈ T
 | []=>by simp [insT]
 | a :: r=>by
  rw [insT]
  split
  ·simp
  ·split
   ·next h=>subst h; simp
   ·simp [insT_mem s k x r]; constructor
    ·rintro (h | h | h) <;> simp [h]
    ·rintro (h | h | h) <;> simp [h]
theorem insT_sorted (s:Bool) (k:Int):∀ T:List Int,T.Pairwise (bt s)→(insT s k T).Pairwise (bt s)
 | [],_=>by simp [insT]
 | a :: r,h=>by
  obtain ⟨p1,p2⟩:=List.pairwise_cons.1 h
  rw [insT]
  split
  ·next hk=>exact List.pairwise_cons.2 ⟨fun x hx=>by
    rcases List.mem_cons.1 hx with rfl | hx
    ·exact hk
    ·exact bt_trans hk (p1 x hx),h⟩
  ·next hk =>
   split
   ·exact h
   ·next xA =>
    refine List.pairwise_cons.2 ⟨fun x hx=>?_,insT_sorted s k r p2⟩
    rcases (insT_mem s k x r).1 hx with rfl | hx
    ·rcases bt_total s x a with Q | Q | Q
     ·exact absurd Q hk
     ·exact absurd Q xA
     ·exact Q
    ·exact p1 x hx
def tks (s:Bool):List Od→List Int
 | []=>[]
 | o :: r=>insT s o.ticks (tks s r)
theorem bP (s:Bool):∀ seq:List Od,IsT s seq (tks s seq)
 | []=>⟨by simp [tks],by simp [tks]⟩
 | o :: r=>by
  have ih:=bP s r
  refine ⟨insT_sorted s _ _ ih.sorted,fun k=>?_⟩
  rw [tks,insT_mem,ih.mem]
  constructor
  ·rintro (rfl | ⟨o',Q,N⟩)
   ·exact ⟨o,by simp,rfl⟩
   ·exact ⟨o',by simp [Q],N⟩
  ·rintro ⟨o',Q,N⟩
   rcases List.mem_cons.1 Q with rfl | Q
   ·exact .inl N.symm
   ·exact .inr ⟨o',Q,N⟩
theorem dk {s:Bool}:∀ {hR B:List Int},hR.Pairwise (bt s)→B.Pairwise (bt s)→(∀ k,k ∈ hR ↔ k ∈ B)→hR = B
 | [],B,_,_,h=>by
  cases B with
  | nil=>rfl
  | cons b r=>exact absurd ((h b).2 (by simp)) (by simp)
 | a :: hR,[],_,_,h=>absurd ((h a).1 (by simp)) (by simp)
 | a :: hR,b :: B,hA,hB,h=>by
  obtain ⟨p1,p2⟩:=List.pairwise_cons.1 hA
  obtain ⟨q1,q2⟩:=List.pairwise_cons.1 hB
  have hab:a = b:=by
   rcases List.mem_cons.1 ((h a).1 (by simp)) with e | e
   ·exact e
   ·rcases List.mem_cons.1 ((h b).2 (by simp)) with e' | e'
    ·exact e'.symm
    ·exact absurd (p1 b e') (bt_asymm (q1 a e))
  subst hab
  rw [dk p2 q2 fun k=>⟨fun hk=>?_,fun hk=>?_⟩]
  ·rcases List.mem_cons.1 ((h k).1 (by simp [hk])) with e | e
   ·subst e; exact absurd (p1 _ hk) (bt_irr _ _)
   ·exact e
  ·rcases List.mem_cons.1 ((h k).2 (by simp [hk])) with e | e
   ·subst e; exact absurd (q1 _ hk) (bt_irr _ _)
   ·exact e
theorem isT_unique {s:Bool} {seq:List Od} {hR:List Int} (hA:IsT s seq hR):hR = tks s seq :=
 dk hA.sorted (bP s seq).sorted fun k=>(hA.mem k).trans ((bP s seq).mem k).symm
structure Lv where
 side:Int
 ticks:Int
 qty:Int
 count:Int
def Lv.vs (n:Lv):List Value:=[H n.side,H n.ticks,H n.qty,H n.count]
theorem Lv.len (o:Lv):o.vs.length = 4:=rfl
def lvAt (sd:Int) (seq:List Od) (k:Int):Lv:=⟨sd,k,sumL (atK seq k),(atK seq k).length⟩
def pU (s:Bool) (sd:Int) (seq:List Od):List Lv:=(tks s seq).map (lvAt sd seq)
def quOf (s:Bool) (seq:List Od):List Od:=(tks s seq).flatMap (atK seq)
def Nd.lv (n:Nd):Lv:=⟨n.side,n.ticks,n.qty,n.count⟩
theorem cU {s:Bool} {S:TS} {t:Tr} {sd:Int} {seq:List Od} (hi:TI s S t) (hq:QI S t sd seq):(t.hs.map fun h=>(S.nd h).lv) = pU s sd seq:=by
 rw [pU,← isT_unique (isT_of hi hq),List.map_map]
 refine List.map_congr_left fun h hh=>?_
 have hQ:=hq.q h hh
 show Lv.mk _ _ _ _ = Lv.mk _ _ _ _
 rw [hQ.side,hQ.qty,hQ.cnt]
theorem tree_orders {s:Bool} {S:TS} {t:Tr} {sd:Int} {seq:List Od} (hi:TI s S t) (hq:QI S t sd seq):(t.hs.flatMap fun h=>(qs seq (S.nd h).ticks).map fun i=>(S.qo i).od) = quOf s seq:=by
 rw [quOf,← isT_unique (isT_of hi hq),List.flatMap_map]
 rw [List.flatMap_def,List.flatMap_def]
 congr 1
 refine List.map_congr_left fun h hh=>?_
 exact qsF_map _ _ seq 1 (fun i o Z=>hq.od i o Z)
def zOdv:Value:=.agg (yu 0 0 0 0 0 ⟨#[]⟩).toArray
def frOf (q:List Od):Value:=match q.head? with
 | some o=>.tuple #[o.val,.bool true]
 | none=>.tuple #[zOdv,.bool false]
def betB (n a b:Int):Bool:=decide (a ≤ n) && decide (n ≤ b)
theorem cP (n a b:Int) (w:World) :
  Calls Tryz.prog 35 #[H n,H a,H b] w fun e w'=>e = yl (.bool (betB n a b))∧w' = w:=by
 go_enter Tryz.func35,Tryz.ntmps35
 go_wp2
 all_goals go_ret
 all_goals exact ⟨zy (by rw [Bool.eq_iff_iff]; simp [betB]; omega),rfl⟩
theorem isSide_any (n:Int) (w:World) :
  Calls Tryz.prog 72 #[H n] w fun e w'=>e = yl (.bool (betB n 1 2))∧w' = w:=by
 go_enter Tryz.func72,Tryz.ntmps72
 go_wp2
 all_goals go_ret
 all_goals exact ⟨zy (by rw [Bool.eq_iff_iff]; simp [betB]; omega),rfl⟩
theorem isLife_any (n:Int) (w:World) :
  Calls Tryz.prog 73 #[H n] w fun e w'=>e = yl (.bool (betB n 0 1))∧w' = w:=by
 go_enter Tryz.func73,Tryz.ntmps73
 go_wp2
 all_goals go_ret
 all_goals exact ⟨zy (by rw [Bool.eq_iff_iff]; simp [betB]; omega),rfl⟩
def tagC (c:UInt8):Bool:=betB c.toNat 32 126
def tagB (s:ByteArray):Bool:=decide (s.size ≤ 12) && s.data.toList.all tagC
theorem drop_cons (s:ByteArray) (k:Nat) (h:k < s.size):s.data.toList.drop k = s[k] :: s.data.toList.drop (k + 1):=by
 rw [get_nat s k h]
 exact xa (by rw [data_len]; exact h)
theorem tag_yes (s:ByteArray) (h:s.size ≤ 12) (hk:s.data.toList.all tagC = true):tagB s = true:=by simp only [tagB,hk,decide_eq_true h,Bool.and_true]
theorem tag_long (s:ByteArray) (h:¬ s.size ≤ 12):tagB s = false:=by simp only [tagB,decide_eq_false h,Bool.false_and]
theorem tag_no (s:ByteArray) (hk:s.data.toList.all tagC = false):tagB s = false:=by simp only [tagB,hk,Bool.and_false]
theorem isTag_any (s:ByteArray) (w:World) (hs:s.size ≤ maxLen) :
  Calls Tryz.prog 74 #[yj s] w fun e w'=>e = yl (.bool (tagB s))∧w' = w:=by
 unfold maxLen at hs
 by_cases hl:s.size ≤ 12
 ·have hl':¬ ((12:Int) < s.size):=by omega
  go_enter Tryz.func74,Tryz.ntmps74
  go_wp2_with fail
  go_loop [9] (fun i=>∃ k:Nat,k ≤ s.size∧i = H k∧Hid (s.data.toList.all tagC = (s.data.toList.drop k).all tagC)) (fun i=>s.size - (intOf i).toNat)
  case atStart=>exact ⟨0,Nat.zero_le _,rfl,by simp [Hid]⟩
  case round =>
   obtain ⟨k,hk,rfl,G⟩:=hrel
   by_cases xH:k < s.size
   ·have uu:(k:Int) < s.size:=by omega
    have hdr:=drop_cons s k xH
    have hgen:∃ c,c = s[k]:=⟨_,rfl⟩
    obtain ⟨c,hc⟩:=hgen
    have hw:betB (wrap64 (s[k].toNat:Int)) 32 126 = tagC c:=by
     have hlt256:=UInt8.toNat_lt s[k]
     rw [hc,show wrap64 (s[k].toNat:Int) = (s[k].toNat:Int) by unfold wrap64; omega]; rfl
    cases ht:tagC c
    ·rw [ht] at hw
     have HT:Hid (s.data.toList.all tagC = false):=by
      have:=U G
      rw [hdr,List.all_cons,← hc,ht,Bool.false_and] at this
      exact this
     clear hdr hc ht
     go_wp2_with fail
     refine (cP (wrap64 (s[k].toNat:Int)) 32 126 w).mono ?_
     rintro e w1 ⟨rfl,rfl⟩
     go_wp2_with fail
     go_ret
     exact ⟨zy (tag_no s (U HT)).symm,rfl⟩
    ·rw [ht] at hw
     have HN:Hid (s.data.toList.all tagC = (s.data.toList.drop (k + 1)).all tagC):=by
      have:=U G
      rw [hdr,List.all_cons,← hc,ht,Bool.true_and] at this
      exact this
     clear hdr hc ht
     go_wp2_with fail
     refine (cP (wrap64 (s[k].toNat:Int)) 32 126 w).mono ?_
     rintro e w1 ⟨rfl,rfl⟩
     go_wp2_with fail
     go_round
     case rel=>exact ⟨k + 1,by omega,by go_num,U HN⟩
     case measure=>simp [intOf]; omega
   ·go_wp2_with fail
    go_ret
    have h:=U G
    rw [yY (by rw [data_len]; omega)] at h
    exact ⟨zy (tag_yes s hl (by rw [h]; rfl)).symm,rfl⟩
 ·have hl':(12:Int) < s.size:=by omega
  go_enter Tryz.func74,Tryz.ntmps74
  go_wp2_with fail
  go_ret
  exact ⟨zy (tag_long s hl).symm,rfl⟩
end Go.Proofs.YtbakanofkghmiaaGreat
