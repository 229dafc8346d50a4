/-
  The handles of a tree's levels, the best first: proved by walking the function, which calls itself.
-/
import Derived.Test.YtbakanofkghmiaaGreatUj08
import Derived.Laws.EntriesVeiled
set_option linter.unusedVariables false
set_option maxHeartbeats 6400000
set_option maxRecDepth 100000
namespace Go.Proofs.YtbakanofkghmiaaGreat
open Go.RowKit
theorem infoH_s:(Tryz.prog.info? 166).map (fun i=>(i.zero,i.size,i.bytes)) = some (some (H 0),1,8):=by kernel_rfl
theorem cellsH_s (w:World) (cs:List Value) (t:TypeId) (j:Nat) (u:Value) (h:cs[j]? = some u):(w.alloc (Obj.cells cs.toArray t)).cell? (((yp w 0):Addr).add j) = some u:=by
 rw [Addr.add_mid,cell_of_row _ w.heap.size (0 + j) cs.toArray t (0,0) (heap_alloc_new w _)]
 simpa using h
def hval_s (h:Nat):Value:=H h
theorem ranked_s (S:TS) (b B:Nat) (hbB:b < B):∀ (t:Tr) (w:World) (v:Value) (done:List Nat) (part:Nat),TM 179 w b S→Rep S.nd t part→(∀ h ∈ t.hs,h < 21)→B ≤ w.heap.size →
  w.ownsRow B 166 1 v done.length (done.map hval_s)→done.length + t.hs.length ≤ 1000 →
  Calls Tryz.prog 157 #[I b 0,v,H part] w fun e w' =>
   ∃ v',e = yl v'∧w'.ownsRow B 166 1 v' (done ++ t.hs).length ((done ++ t.hs).map hval_s)∧Below B w w'
 | .nil,w,v,done,part,hT,hrep,hh,hB,xN,xC=>by
  obtain rfl:part = 0:=hrep
  have HO:=Y xN
  clear xN hT hh
  go_enter Tryz.func157,Tryz.ntmps157
  go_wp2_with fail
  go_ret
  exact ⟨v,rfl,by simpa [Tr.hs] using U HO,Below.refl _ _⟩
 | .node h l r,w,v,done,part,hT,hrep,hh,hB,xN,xC=>by
  obtain ⟨rfl,h0,hl,hr⟩:=hrep
  have HO:=Y xN
  have HT:=Y hT
  have HL:=Y hl
  have HR:=Y hr
  have oH:done.length + (l.hs.length + 1 + r.hs.length) ≤ 1000:=by simp [Tr.hs] at xC; omega
  have vO:=hh part (by simp [Tr.hs])
  have HHL:=Y (fun a (ha:a ∈ l.hs)=>hh a (by simp [Tr.hs,ha]))
  have HHR:=Y (fun a (ha:a ∈ r.hs)=>hh a (by simp [Tr.hs,ha]))
  have h21':(part:Int) < 21:=by omega
  have h0':¬ ((part:Int) = 0):=by omega
  have jN:=Y oH
  obtain ⟨-,-,-,-,n4,-⟩:=zN (hT.nd part vO)
  obtain ⟨i0,hi,uF,uK,uV⟩:=info_parts infoH_s
  clear xN hT hh hl hr xC oH
  go_enter Tryz.func157,Tryz.ntmps157
  go_wp2_with fail
  refine (ranked_s S b B hbB l w v done _ (U HT) (U HL) (U HHL) hB (U HO) (by have:=U jN; omega)).mono ?_
  rintro e w1 ⟨v1,rfl,vZ,xU⟩
  have vl:=Y vZ
  have xW:=Y xU
  have hsz1:=xU.size
  have hla:(done ++ l.hs).length ≤ 999:=by have:=U jN; rw [yN]; omega
  obtain ⟨-,-,-,-,-,n5,-⟩:=zN ((cN (U HT) xU hbB).nd part vO)
  clear vZ xU n4
  go_wp2_with (at_builtin; go_must (refine wpList_append_own _ rfl _ _ 195 rfl B 166 i0 _ 1 8 Tryz.underlying195 hi uF uK uV rfl (by decide) v1 (done ++ l.hs).length ((done ++ l.hs).map hval_s) rfl ((U vl).alloc _) (yp w1 0) 1 1 [hval_s part] rfl rfl (cellsH_s w1 _ _) (by simp [Value.oneCell',hval_s]) (by unfold maxLen; omega) (by omega) (by simp at hla ⊢; omega) ?_); intro v2 w2 oI qc _; have vV:=Y oI; have xD:=Y (((U xW).alloc (yL hB hsz1) _).grown qc (by rw [zf]; omega) (fun k hk=>((U vl).lt k hk).1)); have m5:=(zN ((cN (U HT) (U xD) hbB).nd part vO)).2.2.2.2.2.1; clear oI qc n5)
  have hsz2:=(U xD).size
  refine (ranked_s S b B hbB r w2 v2 (done ++ l.hs ++ [part]) _ (cN (U HT) (U xD) hbB) (U HR) (U HHR) (by omega) (by simpa [Nat.add_assoc] using U vV) (by have:=U jN; simp; omega)).mono ?_
  rintro e w3 ⟨v3,rfl,ho3,uw⟩
  have qL:=Y ho3
  have xP:=Y ((U xD).trans uw)
  clear ho3 uw m5
  go_wp2_with fail
  go_ret
  exact ⟨v3,rfl,by simpa [Tr.hs] using U qL,U xP⟩
theorem infoLv_s:(Tryz.prog.info? 168).map (fun i=>(i.zero,i.size,i.bytes)) = some (some (.agg #[H 0,H 0,H 0,H 0]),4,32):=by kernel_rfl
theorem takeR_s {α:Type} (l:List α) (k:Nat) (c:α) (h:l[k]? = some c):l.take (k + 1) = l.take k ++ [c]:=by
 obtain ⟨hk,rfl⟩:=yE.1 h
 rw [List.take_succ_eq_append_getElem hk]
theorem rowBase_s {W:World} {B B':Nat} {e:TypeId} {sz:Nat} {v:Value} {n:Nat} {xs:List Value} (h:W.ownsRow B e sz v n xs) (hB:B' ≤ B):W.ownsRow B' e sz v n xs :=
 ⟨h.1,by
  rcases h.2 with G | ⟨g',c',xp,G,D,h3⟩
  ·exact .inl G
  ·exact .inr ⟨g',c',xp,G,yL hB D,h3⟩⟩
theorem flat1_s (l:List Nat):(l.flatMap fun h=>[hval_s h]) = l.map hval_s:=by
 induction l with
 | nil=>rfl
 | cons a r ih=>rw [List.flatMap_cons,ih]; rfl
theorem levelsO_s (b:Nat) (sd:Int) (seq:List Od) (w:World) (h:aG 179 false w b sd seq) (hn:seq.length ≤ 20) :
  Calls Tryz.prog 128 #[I b 0] w fun e w' =>
   ∃ v',e = yl v'∧w'.ownsRow w.heap.size 168 4 v' (aE false sd seq).length ((aE false sd seq).flatMap Lv.vs)∧ym w w':=by
 obtain ⟨S,t,hT,hi,hq,qq⟩:=h
 have hlv:=dU hi hq
 rw [← hlv]
 have qF:∀ a ∈ t.hs,a < 21:=fun a ha=>by have:=(hi.range a ha).2; omega
 have xC:t.hs.length ≤ 20:=by rw [hi.len]; omega
 have HT:=Y hT
 have HR:=Y hi.rep
 have HH:=Y qF
 have jY:=hT.root
 have jy:=tm_lt hT
 generalize ht:t.hs = hs at *
 have HHS:=Y ht
 have HNIL:=Y (World.ownsRow_nil w w.heap.size 166 1)
 obtain ⟨i0,uE,uF,uK,uV⟩:=info_parts infoLv_s
 clear hi hq qq hlv hT qF ht
 go_enter Tryz.func128,Tryz.ntmps128
 go_wp2_with fail
 refine (ranked_s S b w.heap.size jy t w _ [] S.root (U HT) (U HR) (by rw [U HHS]; exact U HH) hb (U HNIL) (by rw [U HHS]; simp; omega)).mono ?_
 rintro e w1 ⟨v1,rfl,vZ,xU⟩
 rw [List.nil_append,U HHS] at vZ
 have xW:=Y xU
 have HOR:=Y (bB (f:=fun h=>[hval_s h]) (fun _=>rfl) (by omega) (show w1.ownsRow w.heap.size 166 1 v1 hs.length (hs.flatMap fun h=>[hval_s h]) by rw [flat1_s]; exact vZ))
 obtain ⟨a,A,rfl,_,hc⟩:=U HOR
 have xo:∀ k h,hs[k]? = some h→∃ g,a = some (J g 0)∧g < w1.heap.size∧w1.cell? (J g (0 + k * 1 + 0)) = some (H (h:Nat)):=fun k h hk=>by
  obtain ⟨g,G,_,h3,h4,_⟩:=hc (by intro e; rw [e] at hk; simp at hk)
  exact ⟨g,G,h3,h4 k h hk 0 _ rfl⟩
 have HC:=Y xo
 clear vZ xU hc xo jY
 go_wp2_with fail
 have xU:=(U xW).size
 go_loopw [3,13] (fun ov iv wr=>∃ (k:Nat) (done:List Lv),k ≤ hs.length∧iv = H k∧Hid (done = (hs.map fun h=>(S.nd h).lv).take k)∧wr.ownsRow w1.heap.size 168 4 ov done.length (done.flatMap Lv.vs)∧ym w1 wr) (fun _ iv _=>hs.length - (intOf iv).toNat)
 case atStart=>exact ⟨0,[],Nat.zero_le _,rfl,by simp [Hid],World.ownsRow_nil _ _ _ _,Below.refl _ _⟩
 case round =>
  obtain ⟨k,done,hk,rfl,hd,xN,xh⟩:=hrel
  have HOW:=Y xN
  have HB:=Y xh
  have hdl:done.length = k:=by rw [U hd,List.length_take,List.length_map]; omega
  clear xN xh
  by_cases xI:k < hs.length
  ·obtain ⟨h,hkh⟩:∃ h,hs[k]? = some h:=⟨_,yF xI⟩
   have jM:Hid ((hs.map fun h=>(S.nd h).lv)[k]? = some (S.nd h).lv):=by show _ = _; rw [List.getElem?_map,hkh]; rfl
   obtain ⟨g,rfl,hg,X⟩:=U HC k h hkh
   have vO:=U HH h (yM hkh)
   have h21':(h:Int) < 21:=by omega
   have vP:=((U HB).cell (p:=(J g (0 + k * 1 + 0))) hg).trans X
   rw [show 0 + k * 1 + 0 = k by omega] at vP
   have hTr:=cN (U HT) ((U xW).trans ((U HB).mono xU)) jy
   obtain ⟨n0,n1,n2,n3,-⟩:=zN (hTr.nd h vO)
   have uu:(k:Int) < hs.length:=by omega
   have hsr:=(U HB).size
   clear hkh X hTr hg
   go_wp2_with (at_builtin; go_must (refine wpList_append_own _ rfl _ _ 133 rfl w1.heap.size 168 i0 _ 4 32 Tryz.underlying133 uE uF uK uV rfl (by decide) _ done.length (done.flatMap Lv.vs) rfl ((U HOW).alloc _) (yp wr 0) 1 1 (S.nd h).lv.vs rfl rfl (cellsH_s wr _ _) (by simp [Value.oneCell',Lv.vs,Nd.lv]) (by unfold maxLen; omega) (by omega) (by simp; omega) ?_); intro v4 w4 jo hg4 _)
   go_roundw
   case rel =>
    refine ⟨k + 1,done ++ [(S.nd h).lv],by omega,by go_num,?_,?_,?_⟩
    ·show done ++ [(S.nd h).lv] = _
     rw [takeR_s _ k _ (U jM),← U hd]
    ·simpa using jo
    ·exact ((U HB).alloc hsr _).grown hg4 (by simp; omega) fun k hk=>((U HOW).lt k hk).1
   case measure=>simp [intOf]; omega
  ·go_wp2_with fail
   go_ret
   have h:=U hd
   rw [yX (by rw [List.length_map]; omega)] at h
   subst h
   exact ⟨_,rfl,rowBase_s (U HOW) xU,(U xW).trans ((U HB).mono xU)⟩
theorem levels_s (b:Nat) (sd:Int) (seq:List Od) (w:World) (h:aG 179 false w b sd seq) (hn:seq.length ≤ 20) :
  Calls Tryz.prog 128 #[I b 0] w fun e w' =>
   ∃ v',e = yl v'∧OwnR Lv.vs 4 w.heap.size w' v' (aE false sd seq)∧ym w w':=by
 have xC:(aE false sd seq).length ≤ 20:=by
  obtain ⟨S,t,hT,hi,hq,qq⟩:=h
  rw [← dU hi hq,List.length_map,hi.len]; omega
 refine (levelsO_s b sd seq w h hn).mono ?_
 rintro e w' ⟨v',rfl,Z,O⟩
 exact ⟨v',rfl,bB Lv.len (by omega) Z,O⟩
theorem best_s {S:TS}:∀ {t:Tr} {v:Nat},Rep S.nd t v→t ≠ .nil→v ∈ t.hs∧((S.nd v).be = 0→t.hs.head? = some v)∧((S.nd v).be ≠ 0→∃ l,Rep S.nd l (S.nd v).be∧l ≠ .nil∧l.hs.head? = t.hs.head?∧l.hs.length < t.hs.length∧∀ a ∈ l.hs,a ∈ t.hs)
 | .nil,_,_,h=>absurd rfl h
 | .node h l r,v,⟨e,h0,G,D⟩,_=>by
  subst e
  refine ⟨by simp [Tr.hs],fun O=>?_,fun O=>⟨l,G,?_,?_,?_,fun a ha=>by simp [Tr.hs,ha]⟩⟩
  ·rw [O] at G; obtain rfl:=rep_nil G; rfl
  ·rintro rfl; exact O G
  ·cases l with
   | nil=>exact absurd G O
   | node a l' r'=>simp [Tr.hs]
  ·simp [Tr.hs]
def FrI_s (S:TS) (hd:Option Nat) (w0:World) (k:Nat) (p:Value) (wr:World):Prop:=∃ (t:Tr) (v:Nat),p = H v∧Rep S.nd t v∧t ≠ .nil∧t.hs.head? = hd∧t.hs.length ≤ k∧(∀ a ∈ t.hs,a < 21)∧w0 = wr
theorem front_s (b:Nat) (sd:Int) (seq:List Od) (w:World) (h:aG 179 false w b sd seq) (hn:seq.length ≤ 20) :
  Calls Tryz.prog 126 #[I b 0] w fun e w'=>e = yl (frOf (quOf false seq))∧ym w w':=by
 obtain ⟨S,t,hT,hi,hq,qq⟩:=h
 have hou:=tree_orders hi hq
 have qF:∀ a ∈ t.hs,a < 21:=fun a ha=>by have:=(hi.range a ha).2; omega
 have HT:=Y hT
 have jY:=hT.root
 have jy:=tm_lt hT
 by_cases pK:S.root = 0
 ·have ht:=hi.rep
  rw [pK] at ht jY
  obtain rfl:=rep_nil ht
  have HF:Hid (frOf (quOf false seq) = .tuple #[zOdv,.bool false]):=by show _ = _; rw [← hou]; rfl
  clear hi hq qq hou hT ht qF
  go_enter Tryz.func126,Tryz.ntmps126
  go_wp2_with fail
  go_returns
  refine ⟨by rw [U HF]; rfl,?_⟩
  go_grown
 ·have xA:t ≠ .nil:=by rintro rfl; exact pK hi.rep
  have HI:=Y hi
  have HQ:=Y hq
  have HOU:=Y hou
  have HH:=Y qF
  have HNE:=Y xA
  have hr0':¬ ((S.root:Int) = 0):=by omega
  clear hi hq qq hou hT qF xA
  go_enter Tryz.func126,Tryz.ntmps126
  go_wp2_with fail
  go_loopg [4] (t.hs.length) (fun k p wr=>FrI_s S t.hs.head? (w.alloc (N (yu 0 0 0 0 0 ⟨#[]⟩).toArray 49)) k p wr)
  case atStart=>exact ⟨t,S.root,rfl,(U HI).rep,U HNE,rfl,Nat.le_refl _,U HH,rfl⟩
  case round =>
   obtain ⟨t1,v,rfl,G,D,h3,h4,h5,rfl⟩:=hrel
   obtain ⟨b1,b2,b3⟩:=best_s G D
   have hv21:=h5 v b1
   have hv21':(v:Int) < 21:=by omega
   have qh:=aX (U HT) (Below.heap_alloc w (N (yu 0 0 0 0 0 ⟨#[]⟩).toArray 49) b jy)
   obtain ⟨-,-,-,-,n4,-,n6,-⟩:=zN (qh.nd v hv21)
   have H3:=Y h3
   have H4:=Y h4
   have H5:=Y h5
   by_cases kP:(S.nd v).be = 0
   ·have oF:=b2 kP
    rw [h3] at oF
    have hvm:v ∈ t.hs:=List.mem_of_head? oF
    have hQ:=(U HQ).q v hvm
    obtain ⟨e,rest,hqs⟩:∃ e rest,qs seq (S.nd v).ticks = e :: rest:=by
     cases hqq:qs seq (S.nd v).ticks with
     | nil=>exact absurd hqq hQ.ne
     | cons e rest=>exact ⟨e,rest,rfl⟩
    have hch:=hQ.chain
    rw [hqs] at hch
    obtain ⟨he,he0,-⟩:=hch
    have he21:e < 21:=by
     have:=(bG (S.nd v).ticks seq 1 e (by have h:e ∈ qs seq (S.nd v).ticks:=(by rw [hqs]; simp); exact h)).2.1
     omega
    have he21':(e:Int) < 21:=by omega
    have HF:Hid (frOf (quOf false seq) = .tuple #[(S.qo e).od.val,.bool true]):=by
     show _ = _
     rw [← U HOU]
     obtain ⟨tl,htl⟩:∃ tl,t.hs = v :: tl:=by
      cases hh:t.hs with
      | nil=>rw [hh] at oF; simp at oF
      | cons a r=>rw [hh] at oF; simp at oF; rw [oF]; exact ⟨r,rfl⟩
     rw [htl,List.flatMap_cons,hqs]
     rfl
    obtain ⟨q0,q1,q2,q3,q4,q5,-⟩:=ds (qh.qo e he21)
    rw [he] at n6
    rw [kP] at n4
    clear G D h3 h4 h5 b1 b2 b3 qh oF hvm hQ hqs he kP
    go_wp2_with fail
    go_region
    go_wp2_with fail
    go_returns
    refine ⟨by rw [U HF]; rfl,?_⟩
    go_grown
   ·obtain ⟨l,l1,l2,l3,l4,l5⟩:=b3 kP
    have hbe':¬ (((S.nd v).be:Int) = 0):=by omega
    have HL:Hid (Rep S.nd l (S.nd v).be∧l ≠ .nil∧l.hs.head? = t1.hs.head?∧l.hs.length < t1.hs.length∧∀ a ∈ l.hs,a ∈ t1.hs):=⟨l1,l2,l3,l4,l5⟩
    clear G D h3 h4 h5 b1 b2 b3 qh l1 l2 l3 l4 l5 kP
    go_wp2_with fail
    go_roundg (l.hs.length)
    case measure=>have:=U H4; have:=(U HL).2.2.2.1; omega
    case rel=>exact ⟨l,_,rfl,(U HL).1,(U HL).2.1,(U HL).2.2.1.trans (U H3),Nat.le_refl _,fun a ha=>U H5 a ((U HL).2.2.2.2 a ha),rfl⟩
def bh (b:Nat):Value:=.agg #[.func (.func 126) #[I b 0] #[],.func (.func 127) #[I b 0] #[],.func (.func 128) #[I b 0] #[]]
theorem ask_s (b:Nat) (w:World) :
  Calls Tryz.prog 77 #[I b 0] w fun e w'=>e = yl (bh b)∧ym w w':=by
 have hmf:∀ (fn:Fn) (first A:Array Value) (w:World),(Instr.makeFunc fn first A).run Tryz.prog w = .ok (.func fn first A) w:=fun _ _ _ _=>rfl
 go_enter Tryz.func77,Tryz.ntmps77
 go_wp2_with fail
 go_returns
 refine ⟨rfl,?_⟩
 go_grown
end Go.Proofs.YtbakanofkghmiaaGreat
