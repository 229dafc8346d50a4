/-
  The prices of orders in one canonical list, and the queue and the levels by it, as pure data; no function walked.
-/
import Derived.Test.YtfoabgghlnjjoaaGreatSj04
namespace Go.Proofs.YtfoabgghlnjjoaaGreat
open Go.RowKit

def insT (s:Bool) (k:Int):List Int→List Int
  | []=>[k]
  | a :: r=>if bt s k a then k :: a :: r else if k = a then a :: r else a :: insT s k r
theorem insT_mem (s:Bool) (k x:Int):∀ T:List Int,x ∈ insT s k T ↔ x = k ∨ x ∈ T
  | []=>by simp [insT]
  | a :: r=>by
    rw [insT]
    split
    · simp
    · split
      · next h=>subst h; simp
      · simp [insT_mem s k x r]; constructor
        · rintro (h | h | h) <;> simp [h]
        · rintro (h | h | h) <;> simp [h]
theorem insT_sorted (s:Bool) (k:Int):∀ T:List Int,T.Pairwise (bt s)→(insT s k T).Pairwise (bt s)
  | [],_=>by simp [insT]
  | a :: r,h=>by
    obtain ⟨p1,p2⟩:=List.pairwise_cons.1 h
    rw [insT]
    split
    · next hk=>exact List.pairwise_cons.2 ⟨fun x hx=>by
        rcases List.mem_cons.1 hx with rfl | hx
        · exact hk
        · exact bt_trans hk (p1 x hx),h⟩
    · next hk =>
      split
      · exact h
      · next hne =>
        refine List.pairwise_cons.2 ⟨fun x hx=>?_,insT_sorted s k r p2⟩
        rcases (insT_mem s k x r).1 hx with rfl | hx
        · rcases bt_total s x a with h1 | h1 | h1
          · exact absurd h1 hk
          · exact absurd h1 hne
          · exact h1
        · exact p1 x hx
def tks (s:Bool):List Od→List Int
  | []=>[]
  | o :: r=>insT s o.ticks (tks s r)
theorem zbS (s:Bool):∀ seq:List Od,IsT s seq (tks s seq)
  | []=>⟨by simp [tks],by simp [tks]⟩
  | o :: r=>by
    have ih:=zbS s r
    refine ⟨insT_sorted s _ _ ih.sorted,fun k=>?_⟩
    rw [tks,insT_mem,ih.mem]
    constructor
    · rintro (rfl | ⟨o',h1,h2⟩)
      · exact ⟨o,by simp,rfl⟩
      · exact ⟨o',by simp [h1],h2⟩
    · rintro ⟨o',h1,h2⟩
      rcases List.mem_cons.1 h1 with rfl | h1
      · exact .inl h2.symm
      · exact .inr ⟨o',h1,h2⟩
theorem zcB {s:Bool}:∀ {A B:List Int},A.Pairwise (bt s)→B.Pairwise (bt s)→(∀ k,k ∈ A ↔ k ∈ B)→A = B
  | [],B,_,_,h=>by
    cases B with
    | nil=>rfl
    | cons b r=>exact absurd ((h b).2 (by simp)) (by simp)
  | a :: A,[],_,_,h=>absurd ((h a).1 (by simp)) (by simp)
  | a :: A,b :: B,hA,hB,h=>by
    obtain ⟨p1,p2⟩:=List.pairwise_cons.1 hA
    obtain ⟨q1,q2⟩:=List.pairwise_cons.1 hB
    have hab:a = b:=by
      rcases List.mem_cons.1 ((h a).1 (by simp)) with e | e
      · exact e
      · rcases List.mem_cons.1 ((h b).2 (by simp)) with e' | e'
        · exact e'.symm
        · exact absurd (p1 b e') (bt_asymm (q1 a e))
    subst hab
    rw [zcB p2 q2 fun k=>⟨fun hk=>?_,fun hk=>?_⟩]
    · rcases List.mem_cons.1 ((h k).1 (by simp [hk])) with e | e
      · subst e; exact absurd (p1 _ hk) (bt_irr _ _)
      · exact e
    · rcases List.mem_cons.1 ((h k).2 (by simp [hk])) with e | e
      · subst e; exact absurd (q1 _ hk) (bt_irr _ _)
      · exact e
theorem isT_unique {s:Bool} {seq:List Od} {A:List Int} (hA:IsT s seq A):A = tks s seq :=
  zcB hA.sorted (zbS s seq).sorted fun k=>(hA.mem k).trans ((zbS s seq).mem k).symm
structure Lv where
  side:Int
  ticks:Int
  qty:Int
  count:Int
def Lv.vs (n:Lv):List Value:=[.int .i64 n.side,.int .i64 n.ticks,.int .i64 n.qty,.int .i64 n.count]
theorem Lv.len (o:Lv):o.vs.length = 4:=rfl
def lvAt (sd:Int) (seq:List Od) (k:Int):Lv:=⟨sd,k,sumL (atK seq k),(atK seq k).length⟩
def zaA (s:Bool) (sd:Int) (seq:List Od):List Lv:=(tks s seq).map (lvAt sd seq)
def quOf (s:Bool) (seq:List Od):List Od:=(tks s seq).flatMap (atK seq)
def Nd.lv (n:Nd):Lv:=⟨n.side,n.ticks,n.qty,n.count⟩
theorem zcb {s:Bool} {S:TS} {t:Tr} {sd:Int} {seq:List Od} (hi:TI s S t) (hq:QI S t sd seq):(t.hs.map fun h=>(S.nd h).lv) = zaA s sd seq:=by
  rw [zaA,← isT_unique (isT_of hi hq),List.map_map]
  refine List.map_congr_left fun h hh=>?_
  have hQ:=hq.q h hh
  show Lv.mk _ _ _ _ = Lv.mk _ _ _ _
  rw [hQ.side,hQ.qty,hQ.cnt]
theorem tree_orders {s:Bool} {S:TS} {t:Tr} {sd:Int} {seq:List Od} (hi:TI s S t) (hq:QI S t sd seq):(t.hs.flatMap fun h=>(qs seq (S.nd h).ticks).map fun i=>(S.qo i).od) = quOf s seq:=by
  rw [quOf,← isT_unique (isT_of hi hq),List.flatMap_map]
  rw [List.flatMap_def,List.flatMap_def]
  congr 1
  refine List.map_congr_left fun h hh=>?_
  exact qsF_map _ _ seq 1 (fun i o ho=>hq.od i o ho)
def zOdv:Value:=.agg #[.int .i64 0,.int .i64 0,.int .i64 0,.int .i64 0,.int .i64 0,.string ⟨#[]⟩]
def frOf (q:List Od):Value:=match q.head? with
  | some o=>.tuple #[o.val,.bool true]
  | none=>.tuple #[zOdv,.bool false]
end Go.Proofs.YtfoabgghlnjjoaaGreat
/-
  What the small functions that ask whether an order is right return, of the program and of the model: proved by walking them.
-/
namespace Go.Proofs.YtfoabgghlnjjoaaGreat
open Go.RowKit
set_option linter.unusedVariables false

def betB (n a b:Int):Bool:=decide (a ≤ n) && decide (n ≤ b)
theorem zJ (n a b:Int) (w:World) :
    Calls Tryz.prog 72 #[.int .i64 n,.int .i64 a,.int .i64 b] w fun e w'=>e = .returned (.bool (betB n a b))∧w' = w:=by
  go_enter Tryz.func72,Tryz.ntmps72
  go_wp2
  all_goals go_ret
  all_goals exact ⟨zl (by rw [Bool.eq_iff_iff]; simp [betB]; omega),rfl⟩
theorem zw (n a b:Int) (w:World) :
    Calls Tryz.prog 59 #[.int .i64 n,.int .i64 a,.int .i64 b] w fun e w'=>e = .returned (.bool (betB n a b))∧w' = w:=by
  go_enter Tryz.func59,Tryz.ntmps59
  go_wp2
  all_goals go_ret
  all_goals exact ⟨zl (by rw [Bool.eq_iff_iff]; simp [betB]; omega),rfl⟩
theorem zbc (n:Int) (w:World) :
    Calls Tryz.prog 104 #[.int .i64 n] w fun e w'=>e = .returned (.bool (betB n 1 2))∧w' = w:=by
  go_enter Tryz.func104,Tryz.ntmps104
  go_wp2
  all_goals go_ret
  all_goals exact ⟨zl (by rw [Bool.eq_iff_iff]; simp [betB]; omega),rfl⟩
theorem zbb (n:Int) (w:World) :
    Calls Tryz.prog 105 #[.int .i64 n] w fun e w'=>e = .returned (.bool (betB n 0 1))∧w' = w:=by
  go_enter Tryz.func105,Tryz.ntmps105
  go_wp2
  all_goals go_ret
  all_goals exact ⟨zl (by rw [Bool.eq_iff_iff]; simp [betB]; omega),rfl⟩
def tagC (c:UInt8):Bool:=betB c.toNat 32 126
def tagB (s:ByteArray):Bool:=decide (s.size ≤ 12) && s.data.toList.all tagC
theorem drop_cons (s:ByteArray) (k:Nat) (h:k < s.size):s.data.toList.drop k = s[k] :: s.data.toList.drop (k + 1):=by
  rw [get_nat s k h]
  exact List.drop_eq_getElem_cons (by rw [data_len]; exact h)
theorem tag_yes (s:ByteArray) (h:s.size ≤ 12) (hk:s.data.toList.all tagC = true):tagB s = true:=by simp only [tagB,hk,decide_eq_true h,Bool.and_true]
theorem tag_long (s:ByteArray) (h:¬ s.size ≤ 12):tagB s = false:=by simp only [tagB,decide_eq_false h,Bool.false_and]
theorem tag_no (s:ByteArray) (hk:s.data.toList.all tagC = false):tagB s = false:=by simp only [tagB,hk,Bool.and_false]
set_option maxHeartbeats 400000 in
theorem isTag_any (s:ByteArray) (w:World) (hs:s.size ≤ maxLen) :
    Calls Tryz.prog 106 #[.string s] w fun e w'=>e = .returned (.bool (tagB s))∧w' = w:=by
  unfold maxLen at hs
  by_cases hl:s.size ≤ 12
  · have hl':¬ ((12:Int) < s.size):=by omega
    go_enter Tryz.func106,Tryz.ntmps106
    go_wp2_with fail
    go_loop [9] (fun i=>∃ k:Nat,k ≤ s.size∧i = .int .i64 k∧Hid (s.data.toList.all tagC = (s.data.toList.drop k).all tagC)) (fun i=>s.size - (intOf i).toNat)
    case atStart=>exact ⟨0,Nat.zero_le _,rfl,by simp [Hid]⟩
    case round =>
      obtain ⟨k,hk,rfl,hall⟩:=hrel
      by_cases hlt:k < s.size
      · have hlt':(k:Int) < s.size:=by omega
        have hdr:=drop_cons s k hlt
        have hgen:∃ c,c = s[k]:=⟨_,rfl⟩
        obtain ⟨c,hc⟩:=hgen
        have hw:betB (wrap64 (s[k].toNat:Int)) 32 126 = tagC c:=by
          have hlt256:=UInt8.toNat_lt s[k]
          rw [hc,show wrap64 (s[k].toNat:Int) = (s[k].toNat:Int) by unfold wrap64; omega]; rfl
        cases ht:tagC c
        · rw [ht] at hw
          have HT:Hid (s.data.toList.all tagC = false):=by
            have:=za hall
            rw [hdr,List.all_cons,← hc,ht,Bool.false_and] at this
            exact this
          clear hdr hc ht
          go_wp2_with fail
          refine (zJ (wrap64 (s[k].toNat:Int)) 32 126 w).mono ?_
          rintro e w1 ⟨rfl,rfl⟩
          go_wp2_with fail
          go_ret
          exact ⟨zl (tag_no s (za HT)).symm,rfl⟩
        · rw [ht] at hw
          have HN:Hid (s.data.toList.all tagC = (s.data.toList.drop (k + 1)).all tagC):=by
            have:=za hall
            rw [hdr,List.all_cons,← hc,ht,Bool.true_and] at this
            exact this
          clear hdr hc ht
          go_wp2_with fail
          refine (zJ (wrap64 (s[k].toNat:Int)) 32 126 w).mono ?_
          rintro e w1 ⟨rfl,rfl⟩
          go_wp2_with fail
          go_round
          case rel=>exact ⟨k + 1,by omega,by go_num,za HN⟩
          case measure=>simp [intOf]; omega
      · go_wp2_with fail
        go_ret
        have h:=za hall
        rw [List.drop_of_length_le (by rw [data_len]; omega)] at h
        exact ⟨zl (tag_yes s hl (by rw [h]; rfl)).symm,rfl⟩
  · have hl':(12:Int) < s.size:=by omega
    go_enter Tryz.func106,Tryz.ntmps106
    go_wp2_with fail
    go_ret
    exact ⟨zl (tag_long s hl).symm,rfl⟩
set_option maxHeartbeats 400000 in
theorem l03Tag_any (s:ByteArray) (w:World) (hs:s.size ≤ maxLen) :
    Calls Tryz.prog 96 #[.string s] w fun e w'=>e = .returned (.bool (tagB s))∧w' = w:=by
  unfold maxLen at hs
  by_cases hl:s.size ≤ 12
  · have hl':¬ ((12:Int) < s.size):=by omega
    go_enter Tryz.func96,Tryz.ntmps96
    go_wp2_with fail
    go_loop [3] (fun i=>∃ k:Nat,k ≤ s.size∧i = .int .i64 k∧Hid (s.data.toList.all tagC = (s.data.toList.drop k).all tagC)) (fun i=>s.size - (intOf i).toNat)
    case atStart=>exact ⟨0,Nat.zero_le _,rfl,by simp [Hid]⟩
    case round =>
      obtain ⟨k,hk,rfl,hall⟩:=hrel
      by_cases hlt:k < s.size
      · have hlt':(k:Int) < s.size:=by omega
        have hdr:=drop_cons s k hlt
        have hw:betB (s[k].toNat:Int) 32 126 = tagC s[k]:=rfl
        cases ht:tagC s[k]
        · have HT:Hid (s.data.toList.all tagC = false):=by
            have:=za hall
            rw [hdr,List.all_cons,ht,Bool.false_and] at this
            exact this
          rw [ht] at hw
          have hor:(s[k].toNat:Int) < 32 ∨ (32 ≤ (s[k].toNat:Int)∧(126:Int) < s[k].toNat):=by
            simp [betB] at hw; omega
          clear hdr ht hw
          rcases hor with h32 | ⟨h32,h126⟩
          · have hd:decide ((s[k].toNat:Int) < 32) = true:=by simpa using h32
            go_wp2_with fail
            go_ret
            exact ⟨zl (tag_no s (za HT)).symm,rfl⟩
          · have hd:decide ((s[k].toNat:Int) < 32) = false:=by simpa using h32
            go_wp2_with fail
            go_ret
            exact ⟨zl (tag_no s (za HT)).symm,rfl⟩
        · have HN:Hid (s.data.toList.all tagC = (s.data.toList.drop (k + 1)).all tagC):=by
            have:=za hall
            rw [hdr,List.all_cons,ht,Bool.true_and] at this
            exact this
          rw [ht] at hw
          have hor:32 ≤ (s[k].toNat:Int)∧(s[k].toNat:Int) ≤ 126:=by
            simp [betB] at hw; omega
          obtain ⟨h32,h126⟩:=hor
          have hd:decide ((s[k].toNat:Int) < 32) = false:=by simpa using h32
          have hd2:¬ ((126:Int) < s[k].toNat):=by omega
          clear hdr ht hw
          go_wp2_with fail
          go_round
          case rel=>exact ⟨k + 1,by omega,by go_num,za HN⟩
          case measure=>simp [intOf]; omega
      · go_wp2_with fail
        go_ret
        have h:=za hall
        rw [List.drop_of_length_le (by rw [data_len]; omega)] at h
        exact ⟨zl (tag_yes s hl (by rw [h]; rfl)).symm,rfl⟩
  · have hl':(12:Int) < s.size:=by omega
    go_enter Tryz.func96,Tryz.ntmps96
    go_wp2_with fail
    go_ret
    exact ⟨zl (tag_long s hl).symm,rfl⟩
def ordB (o:Od):Bool:=betB o.side 1 2 && betB o.life 0 1 && tagB o.tag && betB o.ticks 1 1000000 && betB o.left 1 1000000
set_option maxHeartbeats 800000 in
theorem orderOK_any (o:Od) (w:World) (hs:o.tag.size ≤ maxLen) :
    Calls Tryz.prog 74 #[.agg #[.int .i64 o.id,.int .i64 o.side,.int .i64 o.ticks,.int .i64 o.left,.int .i64 o.life,.string o.tag]] w fun e w'=>e = .returned (.bool (ordB o))∧Below w.heap.size w w':=by
  have HT:=hide (fun W=>isTag_any o.tag W hs)
  clear hs
  cases h1:betB o.side 1 2
  · go_enter Tryz.func74,Tryz.ntmps74
    go_wp2_with (first | (go_at_call 104; refine (zbc _ _).mono ?_; rintro e w' ⟨rfl,rfl⟩) | (go_at_call 105; refine (zbb _ _).mono ?_; rintro e w' ⟨rfl,rfl⟩) | (go_at_call 106; refine (za HT _).mono ?_; rintro e w' ⟨rfl,rfl⟩) | (go_at_call 72; refine (zJ _ _ _ _).mono ?_; rintro e w' ⟨rfl,rfl⟩))
    go_ret
    exact ⟨zl (by simp [ordB,h1]),by go_grown⟩
  ·
    cases h2:betB o.life 0 1
    · go_enter Tryz.func74,Tryz.ntmps74
      go_wp2_with (first | (go_at_call 104; refine (zbc _ _).mono ?_; rintro e w' ⟨rfl,rfl⟩) | (go_at_call 105; refine (zbb _ _).mono ?_; rintro e w' ⟨rfl,rfl⟩) | (go_at_call 106; refine (za HT _).mono ?_; rintro e w' ⟨rfl,rfl⟩) | (go_at_call 72; refine (zJ _ _ _ _).mono ?_; rintro e w' ⟨rfl,rfl⟩))
      go_ret
      exact ⟨zl (by simp [ordB,h1,h2]),by go_grown⟩
    ·
      cases h3:tagB o.tag
      · go_enter Tryz.func74,Tryz.ntmps74
        go_wp2_with (first | (go_at_call 104; refine (zbc _ _).mono ?_; rintro e w' ⟨rfl,rfl⟩) | (go_at_call 105; refine (zbb _ _).mono ?_; rintro e w' ⟨rfl,rfl⟩) | (go_at_call 106; refine (za HT _).mono ?_; rintro e w' ⟨rfl,rfl⟩) | (go_at_call 72; refine (zJ _ _ _ _).mono ?_; rintro e w' ⟨rfl,rfl⟩))
        go_ret
        exact ⟨zl (by simp [ordB,h1,h2,h3]),by go_grown⟩
      ·
        cases h4:betB o.ticks 1 1000000
        · go_enter Tryz.func74,Tryz.ntmps74
          go_wp2_with (first | (go_at_call 104; refine (zbc _ _).mono ?_; rintro e w' ⟨rfl,rfl⟩) | (go_at_call 105; refine (zbb _ _).mono ?_; rintro e w' ⟨rfl,rfl⟩) | (go_at_call 106; refine (za HT _).mono ?_; rintro e w' ⟨rfl,rfl⟩) | (go_at_call 72; refine (zJ _ _ _ _).mono ?_; rintro e w' ⟨rfl,rfl⟩))
          go_ret
          exact ⟨zl (by simp [ordB,h1,h2,h3,h4]),by go_grown⟩
        ·
          cases h5:betB o.left 1 1000000
          · go_enter Tryz.func74,Tryz.ntmps74
            go_wp2_with (first | (go_at_call 104; refine (zbc _ _).mono ?_; rintro e w' ⟨rfl,rfl⟩) | (go_at_call 105; refine (zbb _ _).mono ?_; rintro e w' ⟨rfl,rfl⟩) | (go_at_call 106; refine (za HT _).mono ?_; rintro e w' ⟨rfl,rfl⟩) | (go_at_call 72; refine (zJ _ _ _ _).mono ?_; rintro e w' ⟨rfl,rfl⟩))
            go_ret
            exact ⟨zl (by simp [ordB,h1,h2,h3,h4,h5]),by go_grown⟩
          · go_enter Tryz.func74,Tryz.ntmps74
            go_wp2_with (first | (go_at_call 104; refine (zbc _ _).mono ?_; rintro e w' ⟨rfl,rfl⟩) | (go_at_call 105; refine (zbb _ _).mono ?_; rintro e w' ⟨rfl,rfl⟩) | (go_at_call 106; refine (za HT _).mono ?_; rintro e w' ⟨rfl,rfl⟩) | (go_at_call 72; refine (zJ _ _ _ _).mono ?_; rintro e w' ⟨rfl,rfl⟩))
            go_ret
            exact ⟨zl (by simp [ordB,h1,h2,h3,h4,h5]),by go_grown⟩
set_option maxHeartbeats 800000 in
theorem l03Order_any (o:Od) (w:World) (hs:o.tag.size ≤ maxLen) :
    Calls Tryz.prog 60 #[.agg #[.int .i64 o.id,.int .i64 o.side,.int .i64 o.ticks,.int .i64 o.left,.int .i64 o.life,.string o.tag]] w fun e w'=>e = .returned (.bool (ordB o))∧Below w.heap.size w w':=by
  have HT:=hide (fun W=>l03Tag_any o.tag W hs)
  clear hs
  cases h1:betB o.side 1 2
  · go_enter Tryz.func60,Tryz.ntmps60
    go_wp2_with (first | (go_at_call 96; refine (za HT _).mono ?_; rintro e w' ⟨rfl,rfl⟩) | (go_at_call 59; refine (zw _ _ _ _).mono ?_; rintro e w' ⟨rfl,rfl⟩))
    go_ret
    exact ⟨zl (by simp [ordB,h1]),by go_grown⟩
  ·
    cases h4:betB o.ticks 1 1000000
    · go_enter Tryz.func60,Tryz.ntmps60
      go_wp2_with (first | (go_at_call 96; refine (za HT _).mono ?_; rintro e w' ⟨rfl,rfl⟩) | (go_at_call 59; refine (zw _ _ _ _).mono ?_; rintro e w' ⟨rfl,rfl⟩))
      go_ret
      exact ⟨zl (by simp [ordB,h1,h4]),by go_grown⟩
    ·
      cases h5:betB o.left 1 1000000
      · go_enter Tryz.func60,Tryz.ntmps60
        go_wp2_with (first | (go_at_call 96; refine (za HT _).mono ?_; rintro e w' ⟨rfl,rfl⟩) | (go_at_call 59; refine (zw _ _ _ _).mono ?_; rintro e w' ⟨rfl,rfl⟩))
        go_ret
        exact ⟨zl (by simp [ordB,h1,h4,h5]),by go_grown⟩
      ·
        cases h2:betB o.life 0 1
        · go_enter Tryz.func60,Tryz.ntmps60
          go_wp2_with (first | (go_at_call 96; refine (za HT _).mono ?_; rintro e w' ⟨rfl,rfl⟩) | (go_at_call 59; refine (zw _ _ _ _).mono ?_; rintro e w' ⟨rfl,rfl⟩))
          go_ret
          exact ⟨zl (by simp [ordB,h1,h4,h5,h2]),by go_grown⟩
        ·
          cases h3:tagB o.tag
          · go_enter Tryz.func60,Tryz.ntmps60
            go_wp2_with (first | (go_at_call 96; refine (za HT _).mono ?_; rintro e w' ⟨rfl,rfl⟩) | (go_at_call 59; refine (zw _ _ _ _).mono ?_; rintro e w' ⟨rfl,rfl⟩))
            go_ret
            exact ⟨zl (by simp [ordB,h1,h4,h5,h2,h3]),by go_grown⟩
          · go_enter Tryz.func60,Tryz.ntmps60
            go_wp2_with (first | (go_at_call 96; refine (za HT _).mono ?_; rintro e w' ⟨rfl,rfl⟩) | (go_at_call 59; refine (zw _ _ _ _).mono ?_; rintro e w' ⟨rfl,rfl⟩))
            go_ret
            exact ⟨zl (by simp [ordB,h1,h4,h5,h2,h3]),by go_grown⟩
end Go.Proofs.YtfoabgghlnjjoaaGreat
