/-
  The prices of orders in one canonical list, and the queue and the levels by it, as pure data; no function walked.
-/
import Derived.Test.YtfoabgghlnjjoaaGreatRj04
namespace Go.Proofs.YtfoabgghlnjjoaaGreat
open Go.RowKit

def insT (s:Bool) (k:Int):List Int→List Int
  | []=>[k]
  | a :: r=>if bt s k a then k :: a :: r else if k = a then a :: r else a :: insT s k r
theorem insT_mem (s:Bool) (k x:Int):∀ T:List Int,x ∈ insT s k T ↔ x = k ∨ x ∈ T
  | []=>by simp [insT]
  | a :: r=>by
    rw [insT]
    split
    · simp
    · split
      · next h=>subst h; simp
      · simp [insT_mem s k x r]; constructor
        · rintro (h | h | h) <;> simp [h]
        · rintro (h | h | h) <;> simp [h]
theorem insT_sorted (s:Bool) (k:Int):∀ T:List Int,T.Pairwise (bt s)→(insT s k T).Pairwise (bt s)
  | [],_=>by simp [insT]
  | a :: r,h=>by
    obtain ⟨p1,p2⟩:=List.pairwise_cons.1 h
    rw [insT]
    split
    · next hk=>exact List.pairwise_cons.2 ⟨fun x hx=>by
        rcases List.mem_cons.1 hx with rfl | hx
        · exact hk
        · exact bt_trans hk (p1 x hx),h⟩
    · next hk =>
      split
      · exact h
      · next hne =>
        refine List.pairwise_cons.2 ⟨fun x hx=>?_,insT_sorted s k r p2⟩
        rcases (insT_mem s k x r).1 hx with rfl | hx
        · rcases bt_total s x a with h1 | h1 | h1
          · exact absurd h1 hk
          · exact absurd h1 hne
          · exact h1
        · exact p1 x hx
def tks (s:Bool):List Od→List Int
  | []=>[]
  | o :: r=>insT s o.ticks (tks s r)
theorem zcn (s:Bool):∀ seq:List Od,IsT s seq (tks s seq)
  | []=>⟨by simp [tks],by simp [tks]⟩
  | o :: r=>by
    have ih:=zcn s r
    refine ⟨insT_sorted s _ _ ih.sorted,fun k=>?_⟩
    rw [tks,insT_mem,ih.mem]
    constructor
    · rintro (rfl | ⟨o',h1,h2⟩)
      · exact ⟨o,by simp,rfl⟩
      · exact ⟨o',by simp [h1],h2⟩
    · rintro ⟨o',h1,h2⟩
      rcases List.mem_cons.1 h1 with rfl | h1
      · exact .inl h2.symm
      · exact .inr ⟨o',h1,h2⟩
theorem zcj {s:Bool}:∀ {A B:List Int},A.Pairwise (bt s)→B.Pairwise (bt s)→(∀ k,k ∈ A ↔ k ∈ B)→A = B
  | [],B,_,_,h=>by
    cases B with
    | nil=>rfl
    | cons b r=>exact absurd ((h b).2 (by simp)) (by simp)
  | a :: A,[],_,_,h=>absurd ((h a).1 (by simp)) (by simp)
  | a :: A,b :: B,hA,hB,h=>by
    obtain ⟨p1,p2⟩:=List.pairwise_cons.1 hA
    obtain ⟨q1,q2⟩:=List.pairwise_cons.1 hB
    have hab:a = b:=by
      rcases List.mem_cons.1 ((h a).1 (by simp)) with e | e
      · exact e
      · rcases List.mem_cons.1 ((h b).2 (by simp)) with e' | e'
        · exact e'.symm
        · exact absurd (p1 b e') (bt_asymm (q1 a e))
    subst hab
    rw [zcj p2 q2 fun k=>⟨fun hk=>?_,fun hk=>?_⟩]
    · rcases List.mem_cons.1 ((h k).1 (by simp [hk])) with e | e
      · subst e; exact absurd (p1 _ hk) (bt_irr _ _)
      · exact e
    · rcases List.mem_cons.1 ((h k).2 (by simp [hk])) with e | e
      · subst e; exact absurd (q1 _ hk) (bt_irr _ _)
      · exact e
theorem isT_unique {s:Bool} {seq:List Od} {A:List Int} (hA:IsT s seq A):A = tks s seq :=
  zcj hA.sorted (zcn s seq).sorted fun k=>(hA.mem k).trans ((zcn s seq).mem k).symm
structure Lv where
  side:Int
  ticks:Int
  qty:Int
  count:Int
def Lv.vs (n:Lv):List Value:=[.int .i64 n.side,.int .i64 n.ticks,.int .i64 n.qty,.int .i64 n.count]
theorem Lv.len (o:Lv):o.vs.length = 4:=rfl
def lvAt (sd:Int) (seq:List Od) (k:Int):Lv:=⟨sd,k,sumL (atK seq k),(atK seq k).length⟩
def zbi (s:Bool) (sd:Int) (seq:List Od):List Lv:=(tks s seq).map (lvAt sd seq)
def quOf (s:Bool) (seq:List Od):List Od:=(tks s seq).flatMap (atK seq)
def Nd.lv (n:Nd):Lv:=⟨n.side,n.ticks,n.qty,n.count⟩
theorem zbO {s:Bool} {S:TS} {t:Tr} {sd:Int} {seq:List Od} (hi:TI s S t) (hq:QI S t sd seq):(t.hs.map fun h=>(S.nd h).lv) = zbi s sd seq:=by
  rw [zbi,← isT_unique (isT_of hi hq),List.map_map]
  refine List.map_congr_left fun h hh=>?_
  have hQ:=hq.q h hh
  show Lv.mk _ _ _ _ = Lv.mk _ _ _ _
  rw [hQ.side,hQ.qty,hQ.cnt]
theorem tree_orders {s:Bool} {S:TS} {t:Tr} {sd:Int} {seq:List Od} (hi:TI s S t) (hq:QI S t sd seq):(t.hs.flatMap fun h=>(qs seq (S.nd h).ticks).map fun i=>(S.qo i).od) = quOf s seq:=by
  rw [quOf,← isT_unique (isT_of hi hq),List.flatMap_map]
  rw [List.flatMap_def,List.flatMap_def]
  congr 1
  refine List.map_congr_left fun h hh=>?_
  exact qsF_map _ _ seq 1 (fun i o ho=>hq.od i o ho)
def zOdv:Value:=.agg #[.int .i64 0,.int .i64 0,.int .i64 0,.int .i64 0,.int .i64 0,.string ⟨#[]⟩]
def frOf (q:List Od):Value:=match q.head? with
  | some o=>.tuple #[o.val,.bool true]
  | none=>.tuple #[zOdv,.bool false]
end Go.Proofs.YtfoabgghlnjjoaaGreat
namespace Go.Proofs.YtfoabgghlnjjoaaGreat
open Go.RowKit
set_option linter.unusedVariables false

def betB (n a b:Int):Bool:=decide (a ≤ n) && decide (n ≤ b)
theorem zaN (n a b:Int) (w:World) :
    Calls Tryz.prog 72 #[.int .i64 n,.int .i64 a,.int .i64 b] w fun e w'=>e = .returned (.bool (betB n a b))∧w' = w:=by
  go_enter Tryz.func72,Tryz.ntmps72
  go_wp2
  all_goals go_ret
  all_goals exact ⟨zF (by rw [Bool.eq_iff_iff]; simp [betB]; omega),rfl⟩
theorem zI (n a b:Int) (w:World) :
    Calls Tryz.prog 59 #[.int .i64 n,.int .i64 a,.int .i64 b] w fun e w'=>e = .returned (.bool (betB n a b))∧w' = w:=by
  go_enter Tryz.func59,Tryz.ntmps59
  go_wp2
  all_goals go_ret
  all_goals exact ⟨zF (by rw [Bool.eq_iff_iff]; simp [betB]; omega),rfl⟩
theorem isSide_any (n:Int) (w:World) :
    Calls Tryz.prog 104 #[.int .i64 n] w fun e w'=>e = .returned (.bool (betB n 1 2))∧w' = w:=by
  go_enter Tryz.func104,Tryz.ntmps104
  go_wp2
  all_goals go_ret
  all_goals exact ⟨zF (by rw [Bool.eq_iff_iff]; simp [betB]; omega),rfl⟩
theorem isLife_any (n:Int) (w:World) :
    Calls Tryz.prog 105 #[.int .i64 n] w fun e w'=>e = .returned (.bool (betB n 0 1))∧w' = w:=by
  go_enter Tryz.func105,Tryz.ntmps105
  go_wp2
  all_goals go_ret
  all_goals exact ⟨zF (by rw [Bool.eq_iff_iff]; simp [betB]; omega),rfl⟩
def tagC (c:UInt8):Bool:=betB c.toNat 32 126
def tagB (s:ByteArray):Bool:=decide (s.size ≤ 12) && s.data.toList.all tagC
theorem drop_cons (s:ByteArray) (k:Nat) (h:k < s.size):s.data.toList.drop k = s[k] :: s.data.toList.drop (k + 1):=by
  rw [get_nat s k h]
  exact List.drop_eq_getElem_cons (by rw [data_len]; exact h)
theorem tag_yes (s:ByteArray) (h:s.size ≤ 12) (hk:s.data.toList.all tagC = true):tagB s = true:=by simp only [tagB,hk,decide_eq_true h,Bool.and_true]
theorem tag_long (s:ByteArray) (h:¬ s.size ≤ 12):tagB s = false:=by simp only [tagB,decide_eq_false h,Bool.false_and]
theorem tag_no (s:ByteArray) (hk:s.data.toList.all tagC = false):tagB s = false:=by simp only [tagB,hk,Bool.and_false]
set_option maxHeartbeats 400000 in
theorem isTag_any (s:ByteArray) (w:World) (hs:s.size ≤ maxLen) :
    Calls Tryz.prog 106 #[.string s] w fun e w'=>e = .returned (.bool (tagB s))∧w' = w:=by
  unfold maxLen at hs
  by_cases hl:s.size ≤ 12
  · have hl':¬ ((12:Int) < s.size):=by omega
    go_enter Tryz.func106,Tryz.ntmps106
    go_wp2_with fail
    go_loop [9] (fun i=>∃ k:Nat,k ≤ s.size∧i = .int .i64 k∧Hid (s.data.toList.all tagC = (s.data.toList.drop k).all tagC)) (fun i=>s.size - (intOf i).toNat)
    case atStart=>exact ⟨0,Nat.zero_le _,rfl,by simp [Hid]⟩
    case round =>
      obtain ⟨k,hk,rfl,hall⟩:=hrel
      by_cases hlt:k < s.size
      · have hlt':(k:Int) < s.size:=by omega
        have hdr:=drop_cons s k hlt
        have hgen:∃ c,c = s[k]:=⟨_,rfl⟩
        obtain ⟨c,hc⟩:=hgen
        have hw:betB (wrap64 (s[k].toNat:Int)) 32 126 = tagC c:=by
          have hlt256:=UInt8.toNat_lt s[k]
          rw [hc,show wrap64 (s[k].toNat:Int) = (s[k].toNat:Int) by unfold wrap64; omega]; rfl
        cases ht:tagC c
        · rw [ht] at hw
          have HT:Hid (s.data.toList.all tagC = false):=by
            have:=za hall
            rw [hdr,List.all_cons,← hc,ht,Bool.false_and] at this
            exact this
          clear hdr hc ht
          go_wp2_with fail
          refine (zaN (wrap64 (s[k].toNat:Int)) 32 126 w).mono ?_
          rintro e w1 ⟨rfl,rfl⟩
          go_wp2_with fail
          go_ret
          exact ⟨zF (tag_no s (za HT)).symm,rfl⟩
        · rw [ht] at hw
          have HN:Hid (s.data.toList.all tagC = (s.data.toList.drop (k + 1)).all tagC):=by
            have:=za hall
            rw [hdr,List.all_cons,← hc,ht,Bool.true_and] at this
            exact this
          clear hdr hc ht
          go_wp2_with fail
          refine (zaN (wrap64 (s[k].toNat:Int)) 32 126 w).mono ?_
          rintro e w1 ⟨rfl,rfl⟩
          go_wp2_with fail
          go_round
          case rel=>exact ⟨k + 1,by omega,by go_num,za HN⟩
          case measure=>simp [intOf]; omega
      · go_wp2_with fail
        go_ret
        have h:=za hall
        rw [List.drop_of_length_le (by rw [data_len]; omega)] at h
        exact ⟨zF (tag_yes s hl (by rw [h]; rfl)).symm,rfl⟩
  · have hl':(12:Int) < s.size:=by omega
    go_enter Tryz.func106,Tryz.ntmps106
    go_wp2_with fail
    go_ret
    exact ⟨zF (tag_long s hl).symm,rfl⟩
set_option maxHeartbeats 400000 in
theorem l03Tag_any (s:ByteArray) (w:World) (hs:s.size ≤ maxLen) :
    Calls Tryz.prog 96 #[.string s] w fun e w'=>e = .returned (.bool (tagB s))∧w' = w:=by
  unfold maxLen at hs
  by_cases hl:s.size ≤ 12
  · have hl':¬ ((12:Int) < s.size):=by omega
    go_enter Tryz.func96,Tryz.ntmps96
    go_wp2_with fail
    go_loop [3] (fun i=>∃ k:Nat,k ≤ s.size∧i = .int .i64 k∧Hid (s.data.toList.all tagC = (s.data.toList.drop k).all tagC)) (fun i=>s.size - (intOf i).toNat)
    case atStart=>exact ⟨0,Nat.zero_le _,rfl,by simp [Hid]⟩
    case round =>
      obtain ⟨k,hk,rfl,hall⟩:=hrel
      by_cases hlt:k < s.size
      · have hlt':(k:Int) < s.size:=by omega
        have hdr:=drop_cons s k hlt
        have hw:betB (s[k].toNat:Int) 32 126 = tagC s[k]:=rfl
        cases ht:tagC s[k]
        · have HT:Hid (s.data.toList.all tagC = false):=by
            have:=za hall
            rw [hdr,List.all_cons,ht,Bool.false_and] at this
            exact this
          rw [ht] at hw
          have hor:(s[k].toNat:Int) < 32 ∨ (32 ≤ (s[k].toNat:Int)∧(126:Int) < s[k].toNat):=by
            simp [betB] at hw; omega
          clear hdr ht hw
          rcases hor with h32 | ⟨h32,h126⟩
          · have hd:decide ((s[k].toNat:Int) < 32) = true:=by simpa using h32
            go_wp2_with fail
            go_ret
            exact ⟨zF (tag_no s (za HT)).symm,rfl⟩
          · have hd:decide ((s[k].toNat:Int) < 32) = false:=by simpa using h32
            go_wp2_with fail
            go_ret
            exact ⟨zF (tag_no s (za HT)).symm,rfl⟩
        · have HN:Hid (s.data.toList.all tagC = (s.data.toList.drop (k + 1)).all tagC):=by
            have:=za hall
            rw [hdr,List.all_cons,ht,Bool.true_and] at this
            exact this
          rw [ht] at hw
          have hor:32 ≤ (s[k].toNat:Int)∧(s[k].toNat:Int) ≤ 126:=by
            simp [betB] at hw; omega
          obtain ⟨h32,h126⟩:=hor
          have hd:decide ((s[k].toNat:Int) < 32) = false:=by simpa using h32
          have hd2:¬ ((126:Int) < s[k].toNat):=by omega
          clear hdr ht hw
          go_wp2_with fail
          go_round
          case rel=>exact ⟨k + 1,by omega,by go_num,za HN⟩
          case measure=>simp [intOf]; omega
      · go_wp2_with fail
        go_ret
        have h:=za hall
        rw [List.drop_of_length_le (by rw [data_len]; omega)] at h
        exact ⟨zF (tag_yes s hl (by rw [h]; rfl)).symm,rfl⟩
  · have hl':(12:Int) < s.size:=by omega
    go_enter Tryz.func96,Tryz.ntmps96
    go_wp2_with fail
    go_ret
    exact ⟨zF (tag_long s hl).symm,rfl⟩
end Go.Proofs.YtfoabgghlnjjoaaGreat
namespace Go.Proofs.YtfoabgghlnjjoaaGreat
open Go.RowKit
set_option linter.unusedVariables false

theorem better_b (a c:Int) (w:World) :
    Calls Tryz.prog 177 #[.agg #[],.int .i64 a,.int .i64 c] w fun e w'=>e = .returned (.bool (decide (c < a)))∧w.grownBy w' none:=by
  go_enter Tryz.func177,Tryz.ntmps177
  go_wp2_with fail
  go_ret
  exact ⟨rfl,World.grownBy_alloc _ _ _⟩
theorem method_b (w:World):Sem.run Tryz.prog (method 327 155 (.agg #[]) "loop.example/g00092/impl.better") w = .ok (177,.agg #[]) w:=by kernel_rfl
theorem part_b {w:World} {b:Nat} (h:∃ cur,w.heap[b]? = some (.cells cur 196 (0,0))):Sem.run Tryz.prog (partAt ⟨b,0,none⟩ 0 0) w = .ok ⟨b,0,none⟩ w:=by
  obtain ⟨cur,h⟩:=h
  have hc:Tryz.prog.cellsOf 196 = 318:=by kernel_rfl
  have hy:byteOfCell Tryz.prog Tryz.prog.depth 196 0 = some 0:=by kernel_rfl
  have hs:w.shape? b = some (196,cur.size):=by simp [World.shape?,h]
  simp [partAt,byteOf,noView,viewAt,hs,hc,hy]
set_option maxRecDepth 100000 in
set_option maxHeartbeats 400000 in
theorem levelFor_b (b:Nat) (S:TS) (t:Tr) (o:Od) (w:World) (hT:TM 196 w b S) (hi:TI true S t) (hlc:S.lc < 20) :
    Calls Tryz.prog 153 #[.pointer (some ⟨b,0,none⟩),.agg #[.int .i64 o.id,.int .i64 o.side,.int .i64 o.ticks,.int .i64 o.left,.int .i64 o.life,.string o.tag]] w fun e w' =>
      ∃ (h:Nat),e = .returned (.int .i64 h)∧LFEnd true 196 b S t o w h w':=by
  have HT:=hide hT
  have HI:=hide hi
  clear hT hi
  go_enter Tryz.func153,Tryz.ntmps153
  go_wp2_with fail
  have HW:Hid (∃ W,W = (w.alloc (Obj.cells #[.int .i64 o.id,.int .i64 o.side,.int .i64 o.ticks,.int .i64 o.left,.int .i64 o.life,.string o.tag] 100))∧W.rangeAt w.heap.size 0 o.vs∧TM 196 W b S∧w.grownBy W (some b)∧w.heap.size < W.heap.size∧b ≠ w.heap.size) :=
    ⟨_,rfl,zg w o.vs _,zam (za HT) (Below.heap_alloc w _ _ (tm_lt (za HT))),World.grownBy_alloc _ _ _,by rw [zf]; omega,by have:=tm_lt (za HT); omega⟩
  obtain ⟨W,hW,hWW⟩:=za HW
  rw [← hW]
  have HW2:=hide hWW
  clear hW hWW HW HT
  go_loopg [5] (t.hs.length) (fun k p wr=>LFI true b S t o.ticks W k p wr)
  case atStart=>exact ⟨[],t,rfl,Nat.le_refl _,way_start (za HI) _,World.grownBy.refl _ _⟩
  case round =>
    obtain ⟨c,u,rfl,hk,hw,hg⟩:=hrel
    have HWay:=hide hw
    have HG:=hide hg
    have HK:=hide hk
    have hT:=zcg (za HW2).2.1 hg (by simp)
    have c0:=cur_cell hT (zV c) (cur_ok (za HI) hw hlc)
    obtain ⟨o0,o1,o2,o3,o4,o5⟩:=zC (zr (za HW2).1 hg (za HW2).2.2.2.1 (by simp))
    clear hk hw hg
    by_cases ha:S.rd (zV c) = 0
    · have hr0:=hT.lc
      have hf:=hT.fr
      have HA0:=hide ha
      rw [ha] at c0
      have hlc':(S.lc:Int) < 20:=by omega
      have e1:((S.lc + 1:Nat):Int) = (S.lc:Int) + 1:=by omega
      have hok:=cur_ok (za HI) (za HWay) hlc
      have t1:=tm_lc hT (S.lc + 1)
      have t2:=tm_cur t1 (zV c) hok (S.lc + 1)
      rw [e1] at t1 t2
      have d2:_ = _:=(cur_cell t1 (zV c) hok).trans (congrArg (fun x:Nat=>some (Value.int .i64 x)) (show TS.rd _ (zV c) = 0 from by rw [← ha]; cases (zV c) <;> rfl))
      have d3:_ = _:=t2.lc
      rw [(wr_same _ _ _).1] at d3
      simp only [e1] at d3
      have g1:=t1.fr
      have g2:=t2.fr
      obtain ⟨n0,n1,n2,n3,-⟩:=zN (t2.nd (S.lc + 1) (by omega))
      have hb:b ≠ w.heap.size:=(za HW2).2.2.2.2
      have p1:((wr.setCell ⟨b,1,none⟩ (.int .i64 ((S.lc:Int) + 1))).setCell ⟨b,(zV c).off,none⟩ (.int .i64 ((S.lc:Int) + 1))).cell? ⟨w.heap.size,0 + 1,none⟩ = some (.int .i64 o.side):=by
        rw [World.cell?_setCell_other _ _ _ _ (fun e=>hb (congrArg Addr.block e)),World.cell?_setCell_other _ _ _ _ (fun e=>hb (congrArg Addr.block e))]; exact o1
      have p2:((wr.setCell ⟨b,1,none⟩ (.int .i64 ((S.lc:Int) + 1))).setCell ⟨b,(zV c).off,none⟩ (.int .i64 ((S.lc:Int) + 1))).cell? ⟨w.heap.size,0 + 2,none⟩ = some (.int .i64 o.ticks):=by
        rw [World.cell?_setCell_other _ _ _ _ (fun e=>hb (congrArg Addr.block e)),World.cell?_setCell_other _ _ _ _ (fun e=>hb (congrArg Addr.block e))]; exact o2
      have HT2:=hide t2
      have HB:=hide hb
      clear ha hT t1 t2 hok hb
      go_wp2_with fail
      have HG4:Hid (wr.grownBy ((wr.setCell ⟨b,1,none⟩ (.int .i64 ((S.lc:Int) + 1))).setCell ⟨b,(zV c).off,none⟩ (.int .i64 ((S.lc:Int) + 1))) (some b)):=zO (zO (World.grownBy.refl _ _) _ _) _ _
      generalize hW4:((wr.setCell ⟨b,1,none⟩ (.int .i64 ((S.lc:Int) + 1))).setCell ⟨b,(zV c).off,none⟩ (.int .i64 ((S.lc:Int) + 1))) = W4 at *
      rw [← e1] at d3
      obtain ⟨m,hm⟩:∃ m,m = S.lc + 1:=⟨_,rfl⟩
      rw [← hm] at d3 n0 n1 n2 n3
      have hm21:(m:Int) < 21:=by omega
      have HM:=hide hm
      clear hW4 hm e1 d2 hr0 hf g1 c0 o0 o1 o2 o3 o4 o5 hlc'
      go_region
      have t3:=za HT2
      have t4:=zbj t3 (S.lc + 1) 0 (by omega) (by omega) (.int .i64 o.side) { (TS.nd _ (S.lc + 1)) with side:=o.side } rfl _ rfl
      have t5:=zbj t4 (S.lc + 1) 1 (by omega) (by omega) (.int .i64 o.ticks) { (TS.nd _ (S.lc + 1)) with ticks:=o.ticks } rfl _ rfl
      have t6:=zbj t5 (S.lc + 1) 2 (by omega) (by omega) (.int .i64 0) { (TS.nd _ (S.lc + 1)) with qty:=0 } rfl _ rfl
      have t7:=zbj t6 (S.lc + 1) 3 (by omega) (by omega) (.int .i64 0) { (TS.nd _ (S.lc + 1)) with count:=0 } rfl _ rfl
      have HG7:=hide (gr_drew (zO (zO (zO (zO (za HG4) (2 + m * 8) (.int .i64 o.side)) (2 + m * 8 + 1) (.int .i64 o.ticks)) (2 + m * 8 + 2) (.int .i64 0)) (2 + m * 8 + 3) (.int .i64 0)))
      rw [← za HM] at t7
      simp only [zbP,zp] at t7
      have hS:_ = S.grow (zV c) o.side o.ticks:=grow_eq S (zV c) o m (za HM)
      rw [hS] at t7
      have d7:_ = some (Value.int .i64 (m:Int)):=t7.lc.trans (by rw [za HM]; rfl)
      have HT7:=hide t7
      clear t3 t4 t5 t6 t7 n0 n1 n2 n3 d3 p1 p2
      generalize (((W4.setCell ⟨b,2 + m * 8,none⟩ (.int .i64 o.side)).setCell ⟨b,2 + m * 8 + 1,none⟩ (.int .i64 o.ticks)).setCell ⟨b,2 + m * 8 + 2,none⟩ (.int .i64 0)).setCell ⟨b,2 + m * 8 + 3,none⟩ (.int .i64 0) = W7 at *
      go_wp2_with fail
      go_ret
      exact ⟨m,rfl,_,zam (za HT7) rfl,(za HW2).2.2.1.trans (((za HG).but _).trans (za HG7)),.inr ⟨c,u,za HWay,za HA0,za HM,rfl⟩⟩
    · have ham:=way_at (za HWay) rfl ha
      have har:=(za HI).range _ ham
      obtain ⟨a,hae⟩:∃ a,a = S.rd (zV c):=⟨_,rfl⟩
      rw [← hae] at c0 ha ham har
      have HAE:=hide hae
      have ha':¬ ((a:Int) = 0):=by omega
      have ha21:(a:Int) < 21:=by omega
      obtain ⟨n0,n1,n2,n3,n4,n5,n6,n7⟩:=zN (hT.nd a (by omega))
      have HTM:=hide hT
      have hpt:∀ w',wr.grownBy w' none→Sem.run Tryz.prog (partAt ⟨b,0,none⟩ 0 0) w' = .ok ⟨b,0,none⟩ w':=fun w' h=>part_b (zcg (za HTM) h (by simp)).obj
      have HPT:=hide hpt
      have HN1:=hide (fun w' (h:wr.grownBy w' none)=>h.cell n1 (by simp))
      have HO2:=hide (fun w' (h:wr.grownBy w' none)=>h.cell o2 (by simp))
      clear hae hT hpt
      go_wp2_with fail
      go_quiet (fail)
      go_wp2_with fail
      refine zar (W:=wr) (by kernel_rfl) (by kernel_rfl) ⟨rfl,rfl,rfl,Nat.le_refl _,fun _ _ _=>rfl⟩ ?_
      iterate 12 (
        refine zag (v:=?_) ?_ ?_ ?_
        rotate_left
        · rfl
        · intro w' hw'
          have f1:=za HN1 w' hw'
          have f2:=za HO2 w' hw'
          have f3:=za HPT w' hw'
          go_simp
          try rfl
        intro K hK
        go_simp
        refine hK _ ?_
        clear hK K)
      refine zag (v:=.bool (decide ((S.nd a).ticks < o.ticks))) ?_ ?_ ?_
      · rfl
      · intro w' hw'
        have hm:=method_b w'
        go_simp
        refine (better_b _ _ _).mono ?_
        rintro e w3 ⟨rfl,hg3⟩
        exact ⟨rfl,hw'.trans hg3⟩
      intro K hK
      go_simp
      refine hK _ ?_
      clear hK K
      refine zag (v:=?_) ?_ ?_ ?_
      rotate_left
      · rfl
      · intro w' hw'
        go_simp
        try rfl
      intro K hK
      go_simp
      refine hK _ ?_
      clear hK K
      refine wpQuiet_nil ?_
      intro w2 hg2
      have HG2:=hide hg2
      clear hg2
      by_cases h1:(S.nd a).ticks < o.ticks
      · have h1':decide ((S.nd a).ticks < o.ticks) = true:=by simpa using h1
        go_wp2_with fail
        obtain ⟨l,r,rfl,hw2⟩:=way_be (za HI) (za HWay) (za HAE).symm ha h1
        go_roundg (l.hs.length)
        case measure=>have:=za HK; simp [Tr.hs] at this; omega
        case rel=>exact ⟨_,l,rfl,Nat.le_refl _,hw2,(za HG).trans (za HG2)⟩
      · have h1':decide ((S.nd a).ticks < o.ticks) = false:=by simpa using h1
        go_wp2_with fail
        refine zar (W:=wr) (by kernel_rfl) (by kernel_rfl) (za HG2) ?_
        iterate 12 (
          refine zag (v:=?_) ?_ ?_ ?_
          rotate_left
          · rfl
          · intro w' hw'
            have f1:=za HN1 w' hw'
            have f2:=za HO2 w' hw'
            have f3:=za HPT w' hw'
            go_simp
            try rfl
          intro K hK
          go_simp
          refine hK _ ?_
          clear hK K)
        refine zag (v:=.bool (decide (o.ticks < (S.nd a).ticks))) ?_ ?_ ?_
        · rfl
        · intro w' hw'
          have hm:=method_b w'
          go_simp
          refine (better_b _ _ _).mono ?_
          rintro e w3 ⟨rfl,hg3⟩
          exact ⟨rfl,hw'.trans hg3⟩
        intro K hK
        go_simp
        refine hK _ ?_
        clear hK K
        refine zag (v:=?_) ?_ ?_ ?_
        rotate_left
        · rfl
        · intro w' hw'
          go_simp
          try rfl
        intro K hK
        go_simp
        refine hK _ ?_
        clear hK K
        refine wpQuiet_nil ?_
        intro w3 hg3
        have HG3:=hide hg3
        clear hg3
        by_cases h2:o.ticks < (S.nd a).ticks
        · have h2':decide (o.ticks < (S.nd a).ticks) = true:=by simpa using h2
          go_wp2_with fail
          obtain ⟨l,r,rfl,hw2⟩:=way_wo (za HI) (za HWay) (za HAE).symm ha h2
          go_roundg (r.hs.length)
          case measure=>have:=za HK; simp [Tr.hs] at this; omega
          case rel=>exact ⟨_,r,rfl,Nat.le_refl _,hw2,(za HG).trans (za HG3)⟩
        · have h2':decide (o.ticks < (S.nd a).ticks) = false:=by simpa using h2
          have c3:=(za HG3).cell c0 (by simp)
          go_wp2_with fail
          go_ret
          have hG:=(za HG).trans (za HG3)
          exact ⟨a,rfl,S,zcg (za HW2).2.1 hG (by simp),(za HW2).2.2.1.trans (hG.but _),.inl ⟨ham,by omega,rfl⟩⟩
end Go.Proofs.YtfoabgghlnjjoaaGreat
