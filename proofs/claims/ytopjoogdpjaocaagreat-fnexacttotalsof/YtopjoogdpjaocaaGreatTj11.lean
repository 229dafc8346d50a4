/-
  A book copied, and an order taken out of a row, by the program: proved by walking the functions.
-/
import Derived.Test.YtopjoogdpjaocaaGreatTj10
import Derived.Laws.AppendOwnNone
import Derived.Laws.CopyOwn
set_option linter.unusedVariables false
set_option maxHeartbeats 6400000
set_option maxRecDepth 100000
namespace Go.Proofs.YtopjoogdpjaocaaGreat
open Go.RowKit
def SlOk (v:Value):Prop:=v = .slice none 0 0 ∨ ∃ ad n c,v = .slice (some ad) n c
theorem oRow_sl {W:World} {B:Nat} {v:Value} {l:List Od} (h:ORow W B v l):SlOk v:=by
 rcases h.2 with ⟨h1,_⟩ | ⟨g,cap,cur,h1,_⟩
 ·exact .inl h1
 ·exact .inr ⟨_,_,_,h1⟩
theorem rd_src {W:World} {ad:Addr} {cap:Nat} {l:List Od} (hr:RdR Od.vs 6 W (.slice (some ad) l.length cap) l):∀ j u,(l.flatMap Od.vs)[j]? = some u→W.cell? (ad.add j) = some u:=by
 intro j u hu
 obtain ⟨a',cap',e1,_,hc⟩:=hr
 simp only [Value.slice.injEq] at e1
 have hne:l ≠ []:=by rintro rfl; simp at hu
 obtain ⟨b,off,e2,hb,hcl⟩:=hc hne
 rw [e2] at e1
 simp only [Option.some.injEq] at e1
 obtain ⟨rfl,-,-⟩:=e1
 have h:=zbq (W:=W) (g:=b) (off:=off) (l:=l) hcl 0 l.length j u (by simpa using hu)
 simpa using h
theorem rd_lenF {W:World} {v:Value} {l:List Od} (h:RdR Od.vs 6 W v l):∃ a c,v = .slice a l.length c:=by
 obtain ⟨a,c,h1,_⟩:=h; exact ⟨a,c,h1⟩
theorem zC {W:World} {b c o k j:Nat} {u:Value} (h:W.there b o k):(W.setCell ⟨c,j,none⟩ u).there b o k:=World.there_setCells (vs:=[u]) h c j
theorem zaD {W:World} {B:Nat} {v:Value} {l:List Od} (h:ORow W B v l) {b:Nat} (hb:b < B) (o:Nat) (u:Value):ORow (W.setCell ⟨b,o,none⟩ u) B v l :=
 ownsRow_setCell_below h (a:=⟨b,o,none⟩) hb u
theorem copy_mid {w W2 w3:World} {S:Nat} {v3 sv:Value} {next:Int} {l:List Od} (hS:S = w.heap.size) (h1:Below S w W2) (h2:W2.heap.size = S + 2) (h3:W2.rangeAt S 0 [.int .i64 next,sv]) (h4:W2.there S 0 2) (h5:W2.there (S + 1) 0 2) (hl:l.length ≤ 1000)
  (h6:w3.ownsRow (S + 2) 78 6 v3 (0 + l.length) ([] ++ l.flatMap Od.vs)) (h7:W2.grownBy w3 (Value.slice none 0 0).ownBlock) :
  ∃ a3 c3,v3 = .slice a3 l.length c3∧ORow w3 (S + 2) v3 l∧w3.cell? ⟨S,0,none⟩ = some (.int .i64 next)∧w3.cell? ⟨S,1,none⟩ = some sv∧w3.frozen? ⟨S,1,none⟩ = false∧w3.there (S + 1) 0 2∧Below S w w3∧S + 2 ≤ w3.heap.size:=by
 have h6':ORow w3 (S + 2) v3 l:=by
  show w3.ownsRow _ _ _ _ l.length _
  simpa using h6
 obtain ⟨a3,c3,e⟩:=rd_lenF (zM h6' (by omega))
 have r:=zu h3 h7 (by omega) (by simp [Value.ownBlock])
 refine ⟨a3,c3,e,h6',r 0 _ rfl,r 1 _ rfl,?_,zar h5 h7 (by omega) (by simp [Value.ownBlock]),h1.grown h7 (by omega) (fun k hk=>by simp [Value.ownBlock] at hk),by have:=h7.size; omega⟩
 have:=(zar h4 h7 (by omega) (by simp [Value.ownBlock]) 1 (by omega)).2
 rwa [Nat.zero_add] at this
set_option maxRecDepth 100000 in
set_option maxHeartbeats 800000 in
theorem copyBook_any (next:Int) (v:Value) (l:List Od) (w:World) (hr:RdR Od.vs 6 w v l) (hs:SlOk v) (hn:l.length ≤ 1000) :
  Calls Tryz.prog 92 #[.agg #[.int .i64 next,v]] w fun e w'=>∃ v',e = .returned (.agg #[.int .i64 next,v'])∧ORow w' w.heap.size v' l∧Below w.heap.size w w':=by
 have HR:=hide hr
 obtain ⟨i0,hi0,hz0,hz1,hz2⟩:=info_parts Tryz.infoOrder
 obtain ⟨a,cap,rfl,hlen,hc⟩:=hr
 have hs1:(w.alloc (Obj.cells #[.int .i64 next,.slice a l.length cap] 46)).heap.size = w.heap.size + 1:=ze _ _
 have hs2:((w.alloc (Obj.cells #[.int .i64 next,.slice a l.length cap] 46)).alloc (Obj.cells #[.int .i64 0,.slice none 0 0] 46)).heap.size = w.heap.size + 2:=by rw [ze,hs1]
 have t1:=zw w [.int .i64 next,.slice a l.length cap] 46
 have r1:=zh w [.int .i64 next,.slice a l.length cap] 46
 have b1:Below (w.heap.size + 1) (w.alloc (Obj.cells #[.int .i64 next,.slice a l.length cap] 46)) ((w.alloc (Obj.cells #[.int .i64 next,.slice a l.length cap] 46)).alloc (Obj.cells #[.int .i64 0,.slice none 0 0] 46)):=(Below.refl _ _).alloc (by rw [hs1]; omega) _
 have t2:=zw (w.alloc (Obj.cells #[.int .i64 next,.slice a l.length cap] 46)) [.int .i64 0,.slice none 0 0] 46
 rw [hs1] at t2
 have HX:Hid (_∧_∧_):=⟨zb r1 b1 (by omega),zf t1 b1 (by omega),t2⟩
 have HB0:Hid (Below w.heap.size w ((w.alloc (Obj.cells #[.int .i64 next,.slice a l.length cap] 46)).alloc (Obj.cells #[.int .i64 0,.slice none 0 0] 46))):=((Below.refl _ _).alloc (Nat.le_refl _) _).alloc (by rw [hs1]; omega) _
 have HS2:=hide hs2
 clear hc t1 r1 b1 t2 hs1 hs2
 go_enter Tryz.func92,Tryz.ntmps92
 rcases hs with hs | ⟨ad,nn,cc,hs⟩
 ·simp only [Value.slice.injEq] at hs
  obtain ⟨rfl,hl0,rfl⟩:=hs
  obtain rfl:=List.length_eq_zero_iff.1 hl0
  go_wp2_with (at_builtin; go_must (refine wpList_append_own_none rfl _ _ 44 rfl (w.heap.size + 2) 78 i0 6 Tryz.underlying44 hi0 (.slice none 0 0) 0 [] rfl (World.ownsRow_nil _ _ _ _) rfl ?_))
  go_returns
  refine ⟨_,rfl,World.ownsRow_nil _ _ _ _,?_⟩
  go_grown
 ·simp only [Value.slice.injEq] at hs
  obtain ⟨rfl,rfl,rfl⟩:=hs
  have HSRC:Hid (∀ j u,(l.flatMap Od.vs)[j]? = some u→World.cell? (((w.alloc (Obj.cells #[.int .i64 next,.slice (some ad) l.length cap] 46)).alloc (Obj.cells #[.int .i64 0,.slice none 0 0] 46))) (ad.add j) = some u):=rd_src (zl (za HR) (za HB0) (Nat.le_refl _))
  go_wp2_with (at_builtin; go_must (refine wpList_append_own _ rfl _ _ 44 rfl (w.heap.size + 2) 78 i0 _ 6 56 Tryz.underlying44 hi0 hz0 hz1 hz2 rfl (by decide) (.slice none 0 0) 0 [] rfl (World.ownsRow_nil _ _ _ _) ad l.length cap (l.flatMap Od.vs) rfl (by rw [zJ Od.len]) (za HSRC) (zaF l) (by unfold maxLen; omega) (by omega) (by rw [za HS2]; omega) ?_); intro v3 w3 hown3 hg3 _; obtain ⟨a3,c3,rfl,ho3,c0,c1,f1,ht3,hb3,hs3⟩:=copy_mid rfl (za HB0) (za HS2) (za HX).1 (za HX).2.1 (za HX).2.2 hn hown3 hg3; have HO3:=hide ho3; have HT3:=hide ht3; have HB3:=hide hb3; obtain ⟨v0,z0,q0⟩:=zE ht3 0 (by omega); obtain ⟨v1,z1,q1⟩:=zE ht3 1 (by omega); clear ho3 ht3 hb3 hown3 hg3)
  have z0:w3.cell? ⟨w.heap.size + 1,0,none⟩ = some v0:=z0
  have z1:w3.cell? ⟨w.heap.size + 1,1,none⟩ = some v1:=by rw [Nat.zero_add] at z1; exact z1
  have q0:w3.frozen? ⟨w.heap.size + 1,0,none⟩ = false:=q0
  have q1:w3.frozen? ⟨w.heap.size + 1,1,none⟩ = false:=by rw [Nat.zero_add] at q1; exact q1
  have HRX:=hide (World.rangeAt_setCells_same (w3.setCell ⟨w.heap.size,1,none⟩ (.slice a3 l.length c3)) (w.heap.size + 1) 0 [.int .i64 next,.slice a3 l.length c3] (fun j hj=>(zC (za HT3)) j hj))
  have HOX:=hide (zaD (zaD (zaD (za HO3) (b:=w.heap.size) (by omega) 1 (.slice a3 l.length c3)) (b:=w.heap.size + 1) (by omega) 0 (.int .i64 next)) (b:=w.heap.size + 1) (by omega) 1 (.slice a3 l.length c3))
  have HBX:=hide ((((za HB3).setCell (p:=⟨w.heap.size,1,none⟩) (Nat.le_refl _) (.slice a3 l.length c3)).setCell (p:=⟨w.heap.size + 1,0,none⟩) (by simp) (.int .i64 next)).setCell (p:=⟨w.heap.size + 1,1,none⟩) (by simp) (.slice a3 l.length c3))
  go_wp2_with fail
  have HRX:Hid (World.rangeAt (((w3.setCell ⟨w.heap.size,1,none⟩ (.slice a3 l.length c3)).setCell ⟨w.heap.size + 1,0,none⟩ (.int .i64 next)).setCell ⟨w.heap.size + 1,1,none⟩ (.slice a3 l.length c3)) (w.heap.size + 1) 0 [.int .i64 next,.slice a3 l.length c3]):=za HRX
  generalize (((w3.setCell ⟨w.heap.size,1,none⟩ (.slice a3 l.length c3)).setCell ⟨w.heap.size + 1,0,none⟩ (.int .i64 next)).setCell ⟨w.heap.size + 1,1,none⟩ (.slice a3 l.length c3)) = WE at HRX HOX HBX ⊢
  have d0:WE.cell? ⟨w.heap.size + 1,0,none⟩ = some (.int .i64 next):=za HRX 0 _ rfl
  have d1:WE.cell? ⟨w.heap.size + 1,1,none⟩ = some (.slice a3 l.length c3):=za HRX 1 _ rfl
  try simp only [Exit.inBlock,Exit.then]
  refine bodyPost_ret (by simp [results,Tryz.results92,go_sem,d0,d1]; try rfl) rfl ?_
  exact ⟨_,rfl,zaB (za HOX) (by omega),za HBX⟩
theorem zbz {P:Program} {w:World} {ops:Array Oper} {rest:List Oper} {o:Oper} {a:Act} {Q:Exit→Act→World→Prop} (hgd:o.guard = none) (s x:Operand) (t:TypeId)
  (ho:o.op = .call { callee:=.builtin .append,args:=#[s,x],argTypes:=#[t,t] })
  (e:TypeId) (i:TypeInfo) (size:Nat) (ht:P.underlying t = some (.slice e)) (hi:P.info? e = some i) (hsize:i.size = size)
  (g sLen sCap:Nat) (cur:Array Value) (hg:w.heap[g]? = some (.cells cur e (0,0))) (hs:a.eval s = .slice (some ⟨g,0,none⟩) sLen sCap)
  (ad:Addr) (m c:Nat) (news:List Value) (hx:a.eval x = .slice (some ad) m c) (hl:news.length = m * size) (hnews:∀ j u,news[j]? = some u→w.cell? (ad.add j) = some u) (h1:∀ u ∈ news,u.oneCell' = true)
  (hroom:sLen + m ≤ sCap) (hfit:sLen * size + news.length ≤ cur.size)
  (h:wpList P ops Q rest (a.put o.dst (.slice (some ⟨g,0,none⟩) (sLen + m) sCap)) (w.setRow g (cur.toList.take (sLen * size) ++ news ++ cur.toList.drop (sLen * size + news.length)).toArray)):wpList P ops Q (o :: rest) a w:=by
 subst hsize
 refine wpList_plain hgd fun K hK=>?_
 have hrun:=run_append_room (P:=P) w t o.type e i ht hi g sLen sCap cur hg ad m c news hl hnews h1 hroom hfit
 unfold Oper.wp execOp
 simp only [ho,resolve,invoke,builtin,Sem.run_bind,Sem.run_pure,Result.andThen_ok,List.map_toArray,List.map_cons,List.map_nil,hs,hx,hrun]
 exact hK _ _ h
theorem clear_row {P:Program} (w:World) (T ty e:TypeId) (i:TypeInfo) (z:Value) (ht:P.underlying T = some (.slice e)) (hi:P.info? e = some i) (hz:i.zero = some z) (g o c:Nat) (cur:Array Value) (hg:w.heap[g]? = some (.cells cur e (0,0)))
  (hfit:o + z.cells.toList.length ≤ cur.size) (h1:∀ v ∈ z.cells.toList,v.oneCell' = true) :
  (Builtin.clear_ #[T] ty #[.slice (some ⟨g,o,none⟩) 1 c]).run P w = .ok (.tuple #[]) (w.setRow g (cur.toList.take o ++ z.cells.toList ++ cur.toList.drop (o + z.cells.toList.length)).toArray):=by
 have hst:=run_storeCells_at P g o e z.cells.toList 0 cur w hg (by simpa using hfit) h1
 simp only [Nat.add_zero] at hst
 have hzc:(Builtin.zeroCells z.cells 1).toList = z.cells.toList:=by
  refine List.ext_getElem (by simp [Builtin.zeroCells]) fun j h1 h2=>?_
  have hj:j < z.cells.size:=by simpa using h2
  simp [Builtin.zeroCells,Nat.mod_eq_of_lt hj,hj]
 simp [Builtin.clear_,run_underlying ht,zeroValue,typeInfo,hi,hz,hzc,hst]
abbrev zOdL:List Value:=[.int .i64 0,.int .i64 0,.int .i64 0,.int .i64 0,.int .i64 0,.string ⟨#[]⟩]
theorem row_gone {cur:Array Value} {l:List Od} {i m cap:Nat} {zs:List Value} (hl:l.length = i + 1 + m) (hc:l.length ≤ cap) (hs:cur.size = cap * 6) (ht:cur.toList.take (l.length * 6) = l.flatMap Od.vs) (hz:zs.length = 6) :
  (((cur.toList.take (i * 6) ++ (l.drop (i + 1)).flatMap Od.vs ++ cur.toList.drop (i * 6 + m * 6)).take ((i + m) * 6) ++ zs ++ (cur.toList.take (i * 6) ++ (l.drop (i + 1)).flatMap Od.vs ++ cur.toList.drop (i * 6 + m * 6)).drop ((i + m) * 6 + zs.length)).take ((i + m) * 6) = (l.take i ++ l.drop (i + 1)).flatMap Od.vs) ∧
  (cur.toList.take (i * 6) ++ (l.drop (i + 1)).flatMap Od.vs ++ cur.toList.drop (i * 6 + m * 6)).length = cap * 6:=by
 have hcl:cur.toList.length = cap * 6:=by simpa using hs
 have hdl:((l.drop (i + 1)).flatMap Od.vs).length = m * 6:=by rw [zJ Od.len,List.length_drop]; congr 1; omega
 have hti:cur.toList.take (i * 6) = (l.take i).flatMap Od.vs:=by
  have h:=congrArg (List.take (i * 6)) ht
  rw [List.take_take,show min (i * 6) (l.length * 6) = i * 6 by omega] at h
  rw [h]
  conv=>lhs; rw [← List.take_append_drop i l,List.flatMap_append]
  rw [List.take_append_of_le_length (by rw [zJ Od.len,List.length_take]; omega),List.take_of_length_le (by rw [zJ Od.len,List.length_take]; omega)]
 have hlen:(cur.toList.take (i * 6) ++ (l.drop (i + 1)).flatMap Od.vs).length = (i + m) * 6:=by
  rw [List.length_append,hdl,List.length_take,hcl]; omega
 refine ⟨?_,?_⟩
 ·rw [List.append_assoc ((List.take _ _)),List.take_append_of_le_length (by rw [List.length_take,List.length_append,hlen,List.length_drop,hcl]; omega),List.take_take,Nat.min_self,List.take_append_of_le_length (by rw [hlen]; omega),List.take_of_length_le (by rw [hlen]; omega),hti,List.flatMap_append]
 ·rw [List.length_append,hlen,List.length_drop,hcl]; omega
set_option maxRecDepth 100000 in
set_option maxHeartbeats 1600000 in
theorem delete_any (g i m cap B:Nat) (cur:Array Value) (l:List Od) (w:World) (hl:l.length = i + 1 + m) (hn:l.length ≤ 1000) (hg:w.heap[g]? = some (.cells cur 78 (0,0))) (hcap:l.length ≤ cap) (hmx:cap ≤ maxLen) (hsz:cur.size = cap * 6) (htk:cur.toList.take (l.length * 6) = l.flatMap Od.vs) (hB:B ≤ g) :
  Calls Tryz.prog 100 #[.slice (some ⟨g,0,none⟩) (i + 1 + m) cap,.int .i64 i,.int .i64 ((i:Int) + 1)] w fun e w'=>e = .returned (.slice (some ⟨g,0,none⟩) (i + m) cap)∧ORow w' B (.slice (some ⟨g,0,none⟩) (i + m) cap) (l.take i ++ l.drop (i + 1))∧w.grownBy w' (some g):=by
 obtain ⟨i0,hi0,hz0,hz1,hz2⟩:=info_parts Tryz.infoOrder
 have HG:=hide hg
 have HRC:Hid (∀ j c,l[j]? = some c→w.drew.rangeAt g (0 + j * 6) c.vs):=by
  have ho:ORow w B (.slice (some ⟨g,0,none⟩) l.length cap) l:=⟨by rw [zJ Od.len],.inr ⟨g,cap,cur,rfl,hB,hg,hcap,hmx,hsz,htk⟩⟩
  obtain ⟨a',c',e,_,h⟩:=zM ho (by omega)
  intro j c hj
  obtain ⟨b',off',e2,_,h⟩:=h (by intro h; rw [h] at hj; simp at hj)
  rw [e2] at e
  simp only [Value.slice.injEq,Option.some.injEq,Addr.mk.injEq,and_true,true_and] at e
  obtain ⟨⟨rfl,rfl⟩,-⟩:=e
  exact h j c hj
 have HTK:=hide htk
 have HSZ:=hide hsz
 have HL:=hide hl
 have h1:(i:Int) + 1 ≤ (i:Int) + 1 + m:=by omega
 have h2:(i:Int) + 1 + m ≤ cap:=by omega
 have h3:(0:Int) ≤ i:=by omega
 have h4:(i:Int) ≤ (i:Int) + 1:=by omega
 have h5:(0:Int) ≤ (i:Int) + 1:=by omega
 have h6:(i:Int) ≤ cap:=by omega
 have b1:((i:Int) == (i:Int) + 1) = false:=by rw [beq_eq_false_iff_ne]; omega
 clear hg htk hsz hl
 go_enter Tryz.func100,Tryz.ntmps100
 go_wp2_with fail
 refine zbO 6 (by kernel_rfl) (by kernel_rfl) ?_
 simp only [List.take_succ_cons,List.take_zero,List.drop_succ_cons,List.drop_zero]
 by_cases hcc:cap = i + 1
 ·have hm0:m = 0:=by have:=za HL; omega
  subst hm0
  subst hcc
  repeat still_step
  refine wpStill_nil ?_
  refine zbz rfl (.tmp 22) (.tmp 25) 44 rfl 78 i0 6 Tryz.underlying44 hi0 hz1 g i (i + 1) cur (za HG) rfl ⟨g,0,none⟩ 0 0 ((l.drop (i + 1)).flatMap Od.vs) rfl (by rw [zJ Od.len,List.length_drop]; congr 1; have:=za HL; omega) (by rw [List.drop_of_length_le (by have:=za HL; omega)]; simp) (zaF _) (by omega) (by rw [zJ Od.len,List.length_drop,za HSZ]; have:=za HL; omega) ?_
  have hdl:((l.drop (i + 1)).flatMap Od.vs).length = 0 * 6:=by rw [zJ Od.len,List.length_drop]; congr 1; have:=za HL; omega
  rw [hdl]
  obtain ⟨hgone,hlen1⟩:=row_gone (zs:=zOdL) (za HL) hcap (za HSZ) (za HTK) rfl
  have HGONE:=hide hgone
  generalize hC1:(cur.toList.take (i * 6) ++ (l.drop (i + 1)).flatMap Od.vs ++ cur.toList.drop (i * 6 + 0 * 6)) = C1 at HGONE hlen1 ⊢
  have hx1:(w.drew.setRow g C1.toArray).heap[g]? = some (.cells C1.toArray 78 (0,0)):=setRow_heap w.drew g cur C1.toArray 78 (0,0) (za HG)
  have HG1:Hid (w.grownBy (w.drew.setRow g C1.toArray) (some g)):=⟨rfl,rfl,rfl,by simp,fun k hk hne=>setRow_other w.drew g k C1.toArray (fun e=>hne (by rw [e]))⟩
  have HX1:=hide hx1
  clear hx1 hC1 hgone hdl
  generalize w.drew.setRow g C1.toArray = X1 at HX1 HG1 ⊢
  have hcl:∀ (ty:TypeId) (c:Nat),(Builtin.clear_ #[44] ty #[.slice (some ⟨g,i * 6,none⟩) 1 c]).run Tryz.prog X1 = .ok (.tuple #[]) (X1.setRow g (C1.take (i * 6) ++ zOdL ++ C1.drop (i * 6 + 6)).toArray):=fun ty c=>by
   have:=clear_row X1 44 ty 78 i0 _ Tryz.underlying44 hi0 hz0 g (i * 6) c C1.toArray (za HX1) (by show i * 6 + 6 ≤ C1.toArray.size; rw [List.size_toArray,hlen1]; omega) (by simp [Value.cells,Value.oneCell'])
   simpa [Value.cells] using this
  have HX2:=hide (setRow_heap X1 g C1.toArray (C1.take (i * 6) ++ zOdL ++ C1.drop (i * 6 + 6)).toArray 78 (0,0) (za HX1))
  have HG2:Hid (w.grownBy (X1.setRow g (C1.take (i * 6) ++ zOdL ++ C1.drop (i * 6 + 6)).toArray) (some g)):=(za HG1).trans ⟨rfl,rfl,rfl,by simp,fun k hk hne=>setRow_other X1 g k _ (fun e=>hne (by rw [e]))⟩
  generalize hC2:(C1.take (i * 6) ++ zOdL ++ C1.drop (i * 6 + 6)).toArray = C2 at hcl HX2 HG2
  have HC2:=hide hC2
  have HLEN:=hide hlen1
  clear hC2
  have k1:¬ i + 1 = i:=by omega
  have k2:i + 1 - i = 1:=by omega
  clear hlen1
  go_wp2_with fail
  go_ret
  have hol:(l.take i ++ l.drop (i + 1)).length = i + 0:=by have:=za HL; simp; omega
  refine ⟨rfl,⟨by rw [zJ Od.len],.inr ⟨g,i + 1,_,by rw [hol],hB,za HX2,by rw [hol]; omega,hmx,?_,?_⟩⟩,za HG2⟩
  ·rw [← za HC2]; simp [za HLEN]; omega
  ·rw [hol,← za HC2]; simpa using za HGONE
 ·repeat still_step
  refine wpStill_nil ?_
  refine zbz rfl (.tmp 22) (.tmp 25) 44 rfl 78 i0 6 Tryz.underlying44 hi0 hz1 g i cap cur (za HG) rfl ⟨g,(i + 1) * 6,none⟩ m (cap - (i + 1)) ((l.drop (i + 1)).flatMap Od.vs) rfl (by rw [zJ Od.len,List.length_drop]; congr 1; have:=za HL; omega) (by have h:=zbq (W:=w.drew) (g:=g) (off:=0) (l:=l) (za HRC) (i + 1) l.length; rw [List.take_of_length_le (by rw [List.length_drop]; omega),Nat.zero_add] at h; exact h) (zaF _) (by omega) (by rw [zJ Od.len,List.length_drop,za HSZ]; have:=za HL; omega) ?_
  have hdl:((l.drop (i + 1)).flatMap Od.vs).length = m * 6:=by rw [zJ Od.len,List.length_drop]; congr 1; have:=za HL; omega
  rw [hdl]
  obtain ⟨hgone,hlen1⟩:=row_gone (zs:=zOdL) (za HL) hcap (za HSZ) (za HTK) rfl
  have HGONE:=hide hgone
  generalize hC1:(cur.toList.take (i * 6) ++ (l.drop (i + 1)).flatMap Od.vs ++ cur.toList.drop (i * 6 + m * 6)) = C1 at HGONE hlen1 ⊢
  have hx1:(w.drew.setRow g C1.toArray).heap[g]? = some (.cells C1.toArray 78 (0,0)):=setRow_heap w.drew g cur C1.toArray 78 (0,0) (za HG)
  have HG1:Hid (w.grownBy (w.drew.setRow g C1.toArray) (some g)):=⟨rfl,rfl,rfl,by simp,fun k hk hne=>setRow_other w.drew g k C1.toArray (fun e=>hne (by rw [e]))⟩
  have HX1:=hide hx1
  clear hx1 hC1 hgone hdl
  generalize w.drew.setRow g C1.toArray = X1 at HX1 HG1 ⊢
  have hcl:∀ (ty:TypeId) (c:Nat),(Builtin.clear_ #[44] ty #[.slice (some ⟨g,(i + m) * 6,none⟩) 1 c]).run Tryz.prog X1 = .ok (.tuple #[]) (X1.setRow g (C1.take ((i + m) * 6) ++ zOdL ++ C1.drop ((i + m) * 6 + 6)).toArray):=fun ty c=>by
   have:=clear_row X1 44 ty 78 i0 _ Tryz.underlying44 hi0 hz0 g ((i + m) * 6) c C1.toArray (za HX1) (by show (i + m) * 6 + 6 ≤ C1.toArray.size; rw [List.size_toArray,hlen1]; omega) (by simp [Value.cells,Value.oneCell'])
   simpa [Value.cells] using this
  have HX2:=hide (setRow_heap X1 g C1.toArray (C1.take ((i + m) * 6) ++ zOdL ++ C1.drop ((i + m) * 6 + 6)).toArray 78 (0,0) (za HX1))
  have HG2:Hid (w.grownBy (X1.setRow g (C1.take ((i + m) * 6) ++ zOdL ++ C1.drop ((i + m) * 6 + 6)).toArray) (some g)):=(za HG1).trans ⟨rfl,rfl,rfl,by simp,fun k hk hne=>setRow_other X1 g k _ (fun e=>hne (by rw [e]))⟩
  generalize hC2:(C1.take ((i + m) * 6) ++ zOdL ++ C1.drop ((i + m) * 6 + 6)).toArray = C2 at hcl HX2 HG2
  have HC2:=hide hC2
  have HLEN:=hide hlen1
  clear hC2
  have k1:¬ cap = i + m:=by have:=za HL; omega
  have k2:i + 1 + m - (i + m) = 1:=by omega
  have k3:(i:Int) + m ≤ (i:Int) + 1 + m:=by omega
  have k4:(0:Int) ≤ (i:Int) + m:=by omega
  clear hlen1
  go_wp2_with fail
  go_ret
  have hol:(l.take i ++ l.drop (i + 1)).length = i + m:=by have:=za HL; simp; omega
  refine ⟨rfl,⟨by rw [zJ Od.len],.inr ⟨g,cap,_,by rw [hol],hB,za HX2,by rw [hol]; omega,hmx,?_,?_⟩⟩,za HG2⟩
  ·rw [← za HC2]; simp [za HLEN]; omega
  ·rw [hol,← za HC2]; simpa using za HGONE
theorem flat_set {α:Type} {f:α→List Value} {sz:Nat} (hf:∀ c,(f c).length = sz):∀ (l:List α) (i j:Nat) (c c':α) (u:Value),l[i]? = some c→j < sz→f c' = (f c).set j u→(l.flatMap f).set (i * sz + j) u = (l.set i c').flatMap f
 | [],_,_,_,_,_,h,_,_=>by simp at h
 | a :: l,0,j,c,c',u,h,hj,hc=>by
  simp at h; subst h
  rw [List.set_cons_zero,List.flatMap_cons,List.flatMap_cons,hc,Nat.zero_mul,Nat.zero_add,List.set_append_left _ _ (by rw [hf]; exact hj)]
 | a :: l,i + 1,j,c,c',u,h,hj,hc=>by
  simp at h
  rw [List.set_cons_succ,List.flatMap_cons,List.flatMap_cons,← flat_set hf l i j c c' u h hj hc,List.set_append_right _ _ (by rw [hf,Nat.add_mul]; omega),hf]
  congr 2
  rw [Nat.add_mul]; omega
def zau (l:List Od) (k:Nat) (c:Od) (qty:Int):List Od:=if c.left = qty then l.take k ++ l.drop (k + 1) else l.set k { c with left:=c.left - qty }
structure TookAt (p o:Nat) (G:Option Nat) (w w':World):Prop where
 os:w'.os = w.os
 tape:w'.tape = w.tape
 output:w'.output = w.output
 size:w.heap.size ≤ w'.heap.size
 block:∀ k,k < w.heap.size→k ≠ p→some k ≠ G→w'.heap[k]? = w.heap[k]?
 cell:∀ j,j ≠ o + 1→w'.cell? ⟨p,j,none⟩ = w.cell? ⟨p,j,none⟩
 frozen:∀ j,w'.frozen? ⟨p,j,none⟩ = w.frozen? ⟨p,j,none⟩
 kind:∀ cur t x,w.heap[p]? = some (.cells cur t x)→∃ cur',w'.heap[p]? = some (.cells cur' t x)
theorem zN (w:World) (p o:Nat) (u:Value) {cur:Array Value} {t:TypeId} {x:Nat × Nat} (h:w.heap[p]? = some (.cells cur t x)):∃ cur',(w.setCell ⟨p,o,none⟩ u).heap[p]? = some (.cells cur' t x):=by
 simp [World.setCell,Array.getElem?_modify,h]
theorem zt {W:World} {B e sz n:Nat} {v:Value} {xs:List Value} (h:W.ownsRow B e sz v n xs) {b:Nat} (hb:some b ≠ v.ownBlock) (o:Nat) (u:Value):(W.setCell ⟨b,o,none⟩ u).ownsRow B e sz v n xs :=
 h.kept (row:=some b) ⟨rfl,rfl,rfl,by simp [World.setCell],fun k _ hk=>Below.heap_setCell _ _ _ _ (fun e=>hk (by rw [e]))⟩ (.inr (Ne.symm hb))
theorem zaj {p o:Nat} {G:Option Nat} {w w':World} (h:w.grownBy w' G) (hp:p < w.heap.size) (hne:some p ≠ G):TookAt p o G w w' :=
 ⟨h.os,h.tape,h.output,h.size,fun k hk _ hG=>h.block k hk hG,fun j _=>World.cell?_of_block (a:=⟨p,j,none⟩) (h.block p hp hne),fun j=>World.frozen?_of_block (a:=⟨p,j,none⟩) (h.block p hp hne),fun cur t x hh=>⟨cur,(h.block p hp hne).trans hh⟩⟩
theorem zas {p o:Nat} {G:Option Nat} {w w1 w2:World} (h1:TookAt p o G w w1) (h2:TookAt p o G w1 w2):TookAt p o G w w2 :=
 ⟨h2.os.trans h1.os,h2.tape.trans h1.tape,h2.output.trans h1.output,Nat.le_trans h1.size h2.size,fun k hk hp hG=>(h2.block k (Nat.lt_of_lt_of_le hk h1.size) hp hG).trans (h1.block k hk hp hG),fun j hj=>(h2.cell j hj).trans (h1.cell j hj),fun j=>(h2.frozen j).trans (h1.frozen j),fun cur t x hh=>by obtain ⟨c1,h3⟩:=h1.kind cur t x hh; exact h2.kind c1 t x h3⟩
theorem zbK {p o:Nat} {G:Option Nat} (w:World) (u:Value):TookAt p o G w (w.setCell ⟨p,o + 1,none⟩ u) :=
 ⟨rfl,rfl,rfl,by simp [World.setCell],fun k _ hp _=>Below.heap_setCell _ _ _ _ hp,fun j hj=>World.cell?_setCell_other _ _ _ _ (zX (fun e=>hj e.symm)),fun j=>World.frozen?_setCell _ _ _ _,fun cur t x hh=>zN w p (o + 1) u hh⟩
theorem zk {W W':World} {B:Nat} {v:Value} {l:List Od} (h:ORow W B v l) (hb:Below W.heap.size W W'):ORow W' B v l :=
 World.ownsRow.kept h (row:=none) (zaa hb (Nat.le_refl _)) (by cases v.ownBlock <;> simp)
theorem oRow_left {W:World} {B g n cap k:Nat} {l:List Od} {c:Od} (h:ORow W B (.slice (some ⟨g,0,none⟩) n cap) l) (hn:l.length = n) (hk:l[k]? = some c) (x:Int) :
  ORow (W.setCell ⟨g,k * 6 + 3,none⟩ (.int .i64 x)) B (.slice (some ⟨g,0,none⟩) n cap) (l.set k { c with left:=x })∧W.grownBy (W.setCell ⟨g,k * 6 + 3,none⟩ (.int .i64 x)) (some g):=by
 subst hn
 have s:=World.ownsRow.stored h (k * 6 + 3) (.int .i64 x)
 refine ⟨?_,s.2⟩
 have e:=flat_set Od.len l k 3 c { c with left:=x } (.int .i64 x) hk (by omega) rfl
 show World.ownsRow _ _ _ _ _ (l.set k _).length _
 rw [List.length_set,← e]; exact s.1
set_option maxRecDepth 100000 in
set_option maxHeartbeats 1600000 in
theorem takeFrom_any (p o B:Nat) (next id qty:Int) (vq:Value) (l:List Od) (k:Nat) (c:Od) (w:World) (c0:w.cell? ⟨p,o,none⟩ = some (.int .i64 next)) (c1:w.cell? ⟨p,o + 1,none⟩ = some vq) (f1:w.frozen? ⟨p,o + 1,none⟩ = false)
  (ho:ORow w B vq l) (hp:some p ≠ vq.ownBlock) (hpw:p < w.heap.size) (hB:B ≤ w.heap.size) (hn:l.length ≤ 1000) (hk:plc l id = k) (hc:l[k]? = some c) (hq0:0 ≤ qty) (hq1:qty ≤ c.left) (hcl:c.left ≤ 1000000) :
  Calls Tryz.prog 75 #[.pointer (some ⟨p,o,none⟩),.int .i64 id,.int .i64 qty] w fun e w'=>∃ vq',e = .returned (.tuple #[])∧w'.cell? ⟨p,o + 1,none⟩ = some vq'∧ORow w' B vq' (zau l k c qty)∧TookAt p o vq.ownBlock w w':=by
 have hne:l ≠ []:=by rintro rfl; simp at hc
 have hkl:=(List.getElem?_eq_some_iff.1 hc).1
 have HO:=hide ho
 obtain ⟨g,cap,rfl,hcap,hBg,hgw⟩:=zbB ho hne
 have HK:=hide hk
 have HC:=hide hc
 clear ho hk hc hne
 go_enter Tryz.func75,Tryz.ntmps75
 go_wp2_with fail
 refine (zbo next _ l id w (zM (za HO) (by omega))).mono ?_
 rintro e w1 ⟨rfl,hb1⟩
 rw [za HK]
 have HB1:=hide hb1
 have HO1:=hide (zk (za HO) hb1)
 have d1:w1.cell? ⟨p,o + 1,none⟩ = some (.slice (some ⟨g,0,none⟩) l.length cap):=(hb1.cell (p:=⟨p,o + 1,none⟩) hpw).trans c1
 have e1:w1.frozen? ⟨p,o + 1,none⟩ = false:=(hb1.frozen (p:=⟨p,o + 1,none⟩) hpw).trans f1
 have hsz1:=hb1.size
 obtain ⟨a',cp',ee,_,hcl1⟩:=zM (za HO1) (by omega)
 obtain ⟨b',off',e2,_,hcl1⟩:=hcl1 (by intro h; rw [h] at hkl; simp at hkl)
 rw [e2] at ee
 simp only [Value.slice.injEq,Option.some.injEq,Addr.mk.injEq,and_true,true_and] at ee
 obtain ⟨⟨rfl,rfl⟩,-⟩:=ee
 have hcc:=hcl1 k c (za HC)
 rw [Nat.zero_add] at hcc
 obtain ⟨-,-,-,y3,-⟩:=zD hcc
 have fz:=World.ownsRow.frozenAt (za HO1) (k * 6 + 3)
 have hk':(k:Int) < l.length:=by omega
 have hk0:(0:Int) ≤ k:=by omega
 have hwr:IntKind.i64.wrap (c.left - qty) = c.left - qty:=by rw [IntKind.wrap_i64]; omega
 have hpg:p ≠ g:=by simpa [Value.ownBlock] using hp
 have HS:=hide (oRow_left (za HO1) rfl (za HC) (c.left - qty))
 have d2:(w1.setCell ⟨g,k * 6 + 3,none⟩ (.int .i64 (c.left - qty))).cell? ⟨p,o + 1,none⟩ = some (.slice (some ⟨g,0,none⟩) l.length cap):=(World.cell?_setCell_other _ _ _ _ (fun e=>hpg (by have:=congrArg Addr.block e; simpa using this.symm))).trans d1
 have d3:(w1.setCell ⟨g,k * 6 + 3,none⟩ (.int .i64 (c.left - qty))).cell? ⟨g,k * 6 + 3,none⟩ = some (.int .i64 (c.left - qty)):=World.cell?_setCell_same _ _ _ y3
 have d4:(w1.setCell ⟨g,k * 6 + 3,none⟩ (.int .i64 (c.left - qty))).frozen? ⟨p,o + 1,none⟩ = false:=(World.frozen?_setCell _ _ _ _).trans e1
 clear hb1 hcc hcl1 c0 c1 f1
 by_cases hz:c.left = qty
 ·have hz0:c.left - qty = 0:=by omega
  have HH:Hid (zau l k c qty = l.take k ++ l.drop (k + 1)):=if_pos hz
  obtain ⟨m,hm⟩:∃ m,l.length = k + 1 + m:=⟨l.length - (k + 1),by omega⟩
  have hol:(l.set k { c with left:=c.left - qty }).length = k + 1 + m:=by rw [List.length_set,hm]
  have hdel:(l.set k { c with left:=c.left - qty }).take k ++ (l.set k { c with left:=c.left - qty }).drop (k + 1) = l.take k ++ l.drop (k + 1):=by
   rw [List.take_set_of_le (Nat.le_refl _),List.drop_set_of_lt (by omega)]
  have HDEL:=hide hdel
  have HM:=hide hm
  have hb0:(c.left - qty == 0) = true:=by rw [beq_iff_eq]; exact hz0
  obtain ⟨-,h2 | ⟨g',cap',cur,h2,h3,h4,h5,h6,h7,h8⟩⟩:=(za HS).1
  ·simp at h2
  simp only [Value.slice.injEq,Option.some.injEq,Addr.mk.injEq,and_true] at h2
  obtain ⟨rfl,h9,rfl⟩:=h2
  have HDC:Hid (Calls Tryz.prog 100 #[.slice (some ⟨g,0,none⟩) (k + 1 + m) cap,.int .i64 k,.int .i64 ((k:Int) + 1)] (w1.setCell ⟨g,k * 6 + 3,none⟩ (.int .i64 (c.left - qty))) _):=delete_any g k m cap B cur (l.set k { c with left:=c.left - qty }) _ hol (by rw [List.length_set]; exact hn) h4 h5 h6 h7 h8 hBg
  have HG2:=hide (za HS).2
  have hw1:p < (w1.setCell ⟨g,k * 6 + 3,none⟩ (.int .i64 (c.left - qty))).heap.size:=by simp [World.setCell]; omega
  clear hdel hz hol h3 h4 h5 h6 h7 h8 h9 hcap hz0
  rw [hm] at d1 d2 hk' ⊢
  clear hm
  go_wp2_with fail
  refine (za HDC).mono ?_
  rw [za HDEL]
  rintro e w3 ⟨rfl,ho3,hg3⟩
  have s1:=hg3.cell d2 (by simpa using hpg)
  have s2:w3.frozen? ⟨p,o + 1,none⟩ = false:=(World.frozen?_of_block (a:=⟨p,o + 1,none⟩) (hg3.block p hw1 (by simpa using hpg))).trans d4
  have HO3:=hide ho3
  have HG3:=hide hg3
  clear ho3 hg3
  go_wp2_with fail
  go_end0
  refine ⟨_,rfl,World.cell?_setCell_same _ _ _ s1,?_,?_⟩
  ·rw [za HH]
   exact zt (za HO3) (by simpa [Value.ownBlock] using hpg) (o + 1) _
  ·exact zas (zas (zas (zaj (zaa (za HB1) (Nat.le_refl _)) hpw (by simpa [Value.ownBlock] using hpg)) (zaj (za HG2) (by omega) (by simpa [Value.ownBlock] using hpg))) (zaj (za HG3) hw1 (by simpa [Value.ownBlock] using hpg))) (zbK _ _)
 ·have hz0:(c.left - qty == 0) = false:=by rw [beq_eq_false_iff_ne]; omega
  have HH:Hid (zau l k c qty = l.set k { c with left:=c.left - qty }):=if_neg hz
  go_wp2_with fail
  go_end0
  refine ⟨_,rfl,d2,by rw [za HH]; exact (za HS).1,?_⟩
  exact zas (zaj (zaa (za HB1) (Nat.le_refl _)) hpw (by simpa [Value.ownBlock] using hpg)) (zaj (za HS).2 (by omega) (by simpa [Value.ownBlock] using hpg))
section
variable {B0:Nat→World→Prop} {W W':World} {k:Nat} {D:Prop→World→Nat→Value→Prop} {x:List Bool} {f:Nat→Value}
end
def RT (B0:World→Prop) (F:(Nat→Value)→Act) (k h:Nat) (D:Prop→Prop→World→Nat→Value→Prop) (x:List Bool) (A:Act) (W:World):Prop :=
 ∃ f,A = F f∧(¬ x[k]? = some true→B0 W)∧∀ j,x[j]? = some true→D (x[k]? = some true) (x[h]? = some true) W j (f j)
section
variable {B0:World→Prop} {W W':World} {k h:Nat} {D:Prop→Prop→World→Nat→Value→Prop} {x:List Bool} {f:Nat→Value}
theorem zF (hh:∀ j,x[j]? = some true→D (x[k]? = some true) (x[h]? = some true) W j (f j)) {i:Nat} (hik:i ≠ k) (hih:i ≠ h) (hm:∀ j v,D (x[k]? = some true) (x[h]? = some true) W j v→D (x[k]? = some true) (x[h]? = some true) W' j v) (hB:¬ x[k]? = some true→B0 W') {v:Value} (hv:D (x[k]? = some true) (x[h]? = some true) W' i v) :
  (¬ (x.set i true)[k]? = some true→B0 W')∧∀ j,(x.set i true)[j]? = some true→D ((x.set i true)[k]? = some true) ((x.set i true)[h]? = some true) W' j (upd f i v j):=by
 rw [List.getElem?_set_ne hik,List.getElem?_set_ne hih]
 refine ⟨hB,fun j hj=>?_⟩
 by_cases hji:j = i
 ·subst hji; rw [zp]; exact hv
 ·rw [zq _ _ hji]
  rw [List.getElem?_set_ne (fun e=>hji e.symm)] at hj
  exact hm _ _ (hh j hj)
theorem rt_one (hkh:k ≠ h) (hh:∀ j,x[j]? = some true→D (x[k]? = some true) (x[h]? = some true) W j (f j)) (hk:x[k]? = some false) (hn:¬ x[h]? = some true) (hm:∀ j v,j ≠ k→D False False W j v→D True False W' j v) {v:Value} (hv:D True False W' k v) :
  (¬ (x.set k true)[k]? = some true→B0 W')∧∀ j,(x.set k true)[j]? = some true→D ((x.set k true)[k]? = some true) ((x.set k true)[h]? = some true) W' j (upd f k v j):=by
 have e:((x.set k true)[k]? = some true) = True:=by
  rw [List.getElem?_set_self (List.getElem?_eq_some_iff.1 hk).1]; simp
 have e2:((x.set k true)[h]? = some true) = False:=by
  rw [List.getElem?_set_ne hkh]; exact eq_false hn
 have e3:(x[h]? = some true) = False:=eq_false hn
 have e4:(x[k]? = some true) = False:=by rw [hk]; simp
 rw [e,e2]
 refine ⟨fun h=>absurd trivial h,fun j hj=>?_⟩
 by_cases hji:j = k
 ·subst hji; rw [zp]; exact hv
 ·rw [zq _ _ hji]
  rw [List.getElem?_set_ne (fun e=>hji e.symm)] at hj
  have:=hh j hj
  rw [e3,e4] at this
  exact hm j _ hji this
theorem rt_two (hkh:h ≠ k) (hh:∀ j,x[j]? = some true→D (x[k]? = some true) (x[h]? = some true) W j (f j)) (hk:x[k]? = some true) (hn:x[h]? = some false) (hm:∀ j,j ≠ h→x[j]? = some true→D True False W j (f j)→D True True W' j (f j)) {v:Value} (hv:D True True W' h v) :
  (¬ (x.set h true)[k]? = some true→B0 W')∧∀ j,(x.set h true)[j]? = some true→D ((x.set h true)[k]? = some true) ((x.set h true)[h]? = some true) W' j (upd f h v j):=by
 have e:((x.set h true)[h]? = some true) = True:=by
  rw [List.getElem?_set_self (List.getElem?_eq_some_iff.1 hn).1]; simp
 have e2:((x.set h true)[k]? = some true) = True:=by
  rw [List.getElem?_set_ne hkh,hk]; simp
 have e3:(x[h]? = some true) = False:=by rw [hn]; simp
 have e4:(x[k]? = some true) = True:=by rw [hk]; simp
 rw [e,e2]
 refine ⟨fun h=>absurd trivial h,fun j hj=>?_⟩
 by_cases hji:j = h
 ·subst hji; rw [zp]; exact hv
 ·rw [zq _ _ hji]
  rw [List.getElem?_set_ne (fun e=>hji e.symm)] at hj
  have:=hh j hj
  rw [e3,e4] at this
  exact hm j hji hj this
end
def trE (tid fid qty ftk:Int):Ev:=⟨3,zCm,tid,fid,qty,ftk,0⟩
abbrev ERow (W:World) (B:Nat) (v:Value) (l:List Ev):Prop:=W.ownsRow B 43 14 v l.length (l.flatMap Ev.vs)
theorem infoEv:(Tryz.prog.info? 43).map (fun i=>(i.zero,i.size,i.bytes)) = some (some (.agg #[.int .i64 0,.int .i64 0,.int .i64 0,.int .i64 0,.int .i64 0,.int .i64 0,.int .i64 0,.float .f64 0,.string ⟨#[]⟩,.int .i64 0,.int .i64 0,.int .i64 0,.int .i64 0,.int .i64 0]),14,120):=by kernel_rfl
theorem one_ev (e:Ev):∀ u ∈ e.vs,u.oneCell' = true:=by
 intro u hu
 simp [Ev.vs] at hu
 rcases hu with rfl | rfl | rfl | rfl | rfl | rfl | rfl | rfl | rfl | rfl | rfl | rfl | rfl | rfl <;> rfl
theorem zI {W W':World} {B:Nat} {v:Value} {l:List Ev} (h:ERow W B v l) (hb:Below W.heap.size W W'):ERow W' B v l :=
 World.ownsRow.kept h (row:=none) (zaa hb (Nat.le_refl _)) (by cases v.ownBlock <;> simp)
theorem zbu {W:World} {B:Nat} {v:Value} {l:List Ev} (h:ERow W B v l) {b:Nat} (hb:b < B) (o:Nat) (u:Value):ERow (W.setCell ⟨b,o,none⟩ u) B v l :=
 ownsRow_setCell_below h (a:=⟨b,o,none⟩) hb u
theorem zce {W:World} {B e sz n:Nat} {v:Value} {xs:List Value} (h:W.ownsRow B e sz v n xs) (hn:0 < n):∃ g c,v = .slice (some ⟨g,0,none⟩) n c:=by
 rcases h.2 with ⟨_,h0⟩ | ⟨g,cap,_,h1,_⟩
 ·omega
 ·exact ⟨g,cap,h1⟩
theorem cellsT (W:World) (e:Ev) (t:TypeId):∀ j u,e.vs[j]? = some u→(W.alloc (Obj.cells e.vs.toArray t)).cell? ((⟨W.heap.size,0,none⟩:Addr).add j) = some u:=fun j u h=>cellsQ W e.vs t j u h
def DT (mb fb B:Nat) (W0:World) (vt:Value) (ts:List Ev) (tid fid qty ftk:Int) (p q:Prop) (V:World):Nat→Value→Prop
 | 0,v=>v = .pointer (some ⟨mb,0,none⟩)
 | 1,v=>v = .pointer (some ⟨mb,0,none⟩)
 | 2,v=>v = .pointer (some ⟨mb,0,none⟩)
 | 3,v=>v = .pointer (some ⟨mb,8,none⟩)
 | 4,v=>v = vt
 | 5,v=>v = .pointer (some ⟨mb,0,none⟩)
 | 6,v=>v = .pointer (some ⟨mb,0,none⟩)
 | 7,v=>v = .pointer (some ⟨mb,2,none⟩)
 | 8,v=>v = .pointer (some ⟨mb,2,none⟩)
 | 9,v=>v = .int .i64 tid
 | 10,v=>v = .pointer (some ⟨fb,0,none⟩)
 | 11,v=>v = .int .i64 fid
 | 12,v=>v = .int .i64 qty
 | 13,v=>v = .pointer (some ⟨fb,2,none⟩)
 | 14,v=>v = .int .i64 ftk
 | 15,v=>v = evV (trE tid fid qty ftk)
 | 16,v=>∃ s,v = .slice (some ⟨s,0,none⟩) 1 1∧(¬ p→∀ j u,(trE tid fid qty ftk).vs[j]? = some u→V.cell? ((⟨s,0,none⟩:Addr).add j) = some u)
 | 17,v=>∃ a c,v = .slice a (ts.length + 1) c∧p∧(¬ q→ERow V B v (ts ++ [trE tid fid qty ftk])∧W0.grownBy V vt.ownBlock)∧(q→V.cell? ⟨mb,8,none⟩ = some v∧ERow V B v (ts ++ [trE tid fid qty ftk])∧TookAt mb 7 vt.ownBlock W0 V)
 | 18,v=>v = .pointer (some ⟨mb,0,none⟩)
 | 19,v=>v = .pointer (some ⟨mb,8,none⟩)
 | _,_=>True
section
variable {mb fb B:Nat} {W0 V V':World} {vt:Value} {ts:List Ev} {tid fid qty ftk:Int} {p q:Prop}
theorem dt_alloc {o:Obj} (hp:¬ p):∀ j v,DT mb fb B W0 vt ts tid fid qty ftk p q V j v→DT mb fb B W0 vt ts tid fid qty ftk p q (V.alloc o) j v:=by
 intro j v h
 match j with
 | 0 | 1 | 2 | 3 | 4 | 5 | 6 | 7 | 8 | 9 | 10 | 11 | 12 | 13 | 14 | 15 | 18 | 19=>exact h
 | 16 =>
  obtain ⟨s,h1,h2⟩:=h
  exact ⟨s,h1,fun hp j u hu=>(World.cell?_alloc_lt _ _ _ (World.block_lt_of_cell? V _ (h2 hp j u hu))).trans (h2 hp j u hu)⟩
 | 17=>obtain ⟨_,_,_,h2,_⟩:=h; exact absurd h2 hp
 | j + 20=>trivial
theorem dt_one:∀ j v,j ≠ 17→DT mb fb B W0 vt ts tid fid qty ftk False False V j v→DT mb fb B W0 vt ts tid fid qty ftk True False V' j v:=by
 intro j v hj h
 match j with
 | 0 | 1 | 2 | 3 | 4 | 5 | 6 | 7 | 8 | 9 | 10 | 11 | 12 | 13 | 14 | 15 | 18 | 19=>exact h
 | 16 =>
  obtain ⟨s,h1,h2⟩:=h
  exact ⟨s,h1,fun hp=>absurd trivial hp⟩
 | 17=>exact absurd rfl hj
 | j + 20=>trivial
theorem dt_two {v:Value}:∀ j,j ≠ 20→DT mb fb B W0 vt ts tid fid qty ftk True False V j v→(j = 17→DT mb fb B W0 vt ts tid fid qty ftk True True V' 17 v)→DT mb fb B W0 vt ts tid fid qty ftk True True V' j v:=by
 intro j hj h h17
 match j with
 | 0 | 1 | 2 | 3 | 4 | 5 | 6 | 7 | 8 | 9 | 10 | 11 | 12 | 13 | 14 | 15 | 18 | 19=>exact h
 | 16 =>
  obtain ⟨s,h1,h2⟩:=h
  exact ⟨s,h1,fun hp=>absurd trivial hp⟩
 | 17=>exact h17 rfl
 | j + 20=>trivial
end
end Go.Proofs.YtopjoogdpjaocaaGreat
