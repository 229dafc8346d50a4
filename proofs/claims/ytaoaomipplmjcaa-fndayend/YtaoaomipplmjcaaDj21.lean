/-
  A list without its front, again and again: the queue, as pure data; rows of orders, and what holds while a list without one of its orders is laid anew. No function walked.
-/
import Derived.Test.YtaoaomipplmjcaaDj06
import Derived.Test.YtaoaomipplmjcaaDj19
import Derived.Test.YtaoaomipplmjcaaDj20
import Derived.Laws.AppendOwnNone
import Derived.Laws.CopyOwn
namespace Go.Proofs.Ytaoaomipplmjcaa
open Go.RowKit
set_option linter.unusedVariables false

abbrev ORow (W:World) (B:Nat) (v:Value) (l:List Od):Prop:=W.ownsRow B 36 6 v l.length (l.flatMap Od.vs)
theorem zW {W:World} {B:Nat} {v:Value} {l:List Od} (h:ORow W B v l) (hl:l.length ≤ 1073741824):RdR Od.vs 6 W v l:=ownR_rd (zar Od.len hl h)
theorem cellsQ (w:World) (cs:List Value) (t:TypeId) (j:Nat) (u:Value) (h:cs[j]? = some u):(w.alloc (Obj.cells cs.toArray t)).cell? ((⟨w.heap.size,0,none⟩:Addr).add j) = some u:=by
  rw [Addr.add_mid,cell_of_row _ w.heap.size (0 + j) cs.toArray t (0,0) (heap_alloc_new w _)]
  simpa using h
theorem row_cells {W:World} {g off:Nat} {l:List Od} (h:∀ i c,l[i]? = some c→W.rangeAt g (off + i * 6) c.vs) (a n:Nat):∀ j u,(((l.drop a).take n).flatMap Od.vs)[j]? = some u→W.cell? ((⟨g,off + a * 6,none⟩:Addr).add j) = some u:=by
  intro j u hu
  have hlt:=(List.getElem?_eq_some_iff.1 hu).1
  rw [zP Od.len] at hlt
  have hq:j / 6 < ((l.drop a).take n).length:=by omega
  obtain ⟨c,hc⟩:∃ c,((l.drop a).take n)[j / 6]? = some c:=⟨_,List.getElem?_eq_getElem hq⟩
  have h1:=flat_get Od.len _ (j / 6) (j % 6) c hc (by omega)
  rw [show j / 6 * 6 + j % 6 = j by omega,hu] at h1
  have hc':l[a + j / 6]? = some c:=by
    rw [List.getElem?_take] at hc
    split at hc
    · rw [List.getElem?_drop] at hc; exact hc
    · cases hc
  have:=h _ c hc' (j % 6) u h1.symm
  rw [Addr.add_mid]
  rw [show off + (a + j / 6) * 6 + j % 6 = off + a * 6 + j by omega] at this
  exact this
theorem one_all (l:List Od):∀ u ∈ l.flatMap Od.vs,u.oneCell' = true:=by
  intro u hu
  obtain ⟨o,_,ho⟩:=List.mem_flatMap.1 hu
  simp [Od.vs] at ho
  rcases ho with rfl | rfl | rfl | rfl | rfl | rfl <;> rfl
structure R7 (LV:Value) (W0:World) (C:Nat→Value→Prop) (L1 L2:List Od) (x:List Bool) (f:Nat→Value) (W:World):Prop where
  bel:Below W0.heap.size W0 W
  c:∀ j,x[j]? = some true→C j (f j)
  s5:x[10]? = some false→f 10 = LV
  m0:x[0]? = some true→x[4]? = some false→ORow W W0.heap.size (f 0) []
  m4:x[4]? = some true→x[9]? = some false→ORow W W0.heap.size (f 4) L1
  m9:x[9]? = some true→ORow W W0.heap.size (f 9) L2
  m10:x[10]? = some true→f 10 = f 9
  o4:x[4]? = some true→x[0]? = some true
  o9:x[9]? = some true→x[4]? = some true
  o10:x[10]? = some true→∀ j,j < 10→x[j]? = some true
theorem gq {x:List Bool} {i j:Nat} (h:i ≠ j):(x.set i true)[j]? = x[j]?:=List.getElem?_set_ne h
theorem gqs {x:List Bool} {i:Nat} (h:x[i]? = some false):(x.set i true)[i]? = some true:=List.getElem?_set_self (List.getElem?_eq_some_iff.1 h).1
section
variable {LV:Value} {W0 W W':World} {C:Nat→Value→Prop} {L1 L2:List Od} {x:List Bool} {f:Nat→Value}
end
theorem oRow_some {W:World} {B:Nat} {v:Value} {l:List Od} (h:ORow W B v l) (hne:l ≠ []):∃ g cap,v = .slice (some ⟨g,0,none⟩) l.length cap∧l.length ≤ cap∧B ≤ g∧g < W.heap.size:=by
  rcases h.2 with ⟨rfl,h0⟩ | ⟨g,cap,cur,rfl,hb,hg,hcap,_⟩
  · exact absurd (List.length_eq_zero_iff.1 h0) hne
  · exact ⟨g,cap,rfl,hcap,hb,(Array.getElem?_eq_some_iff.1 hg).1⟩
end Go.Proofs.Ytaoaomipplmjcaa
namespace Go.Proofs.Ytaoaomipplmjcaa
open Go.RowKit
set_option linter.unusedVariables false

def SlOk (v:Value):Prop:=v = .slice none 0 0 ∨ ∃ ad n c,v = .slice (some ad) n c
theorem oRow_sl {W:World} {B:Nat} {v:Value} {l:List Od} (h:ORow W B v l):SlOk v:=by
 rcases h.2 with ⟨h1,_⟩ | ⟨g,cap,cur,h1,_⟩
 ·exact .inl h1
 ·exact .inr ⟨_,_,_,h1⟩
theorem rd_src {W:World} {ad:Addr} {cap:Nat} {l:List Od} (hr:RdR Od.vs 6 W (.slice (some ad) l.length cap) l):∀ j u,(l.flatMap Od.vs)[j]? = some u→W.cell? (ad.add j) = some u:=by
 intro j u hu
 obtain ⟨a',cap',e1,_,hc⟩:=hr
 simp only [Value.slice.injEq] at e1
 have hne:l ≠ []:=by rintro rfl; simp at hu
 obtain ⟨b,off,e2,hb,hcl⟩:=hc hne
 rw [e2] at e1
 simp only [Option.some.injEq] at e1
 obtain ⟨rfl,-,-⟩:=e1
 have h:=row_cells (W:=W) (g:=b) (off:=off) (l:=l) hcl 0 l.length j u (by simpa using hu)
 simpa using h
theorem rd_lenF {W:World} {v:Value} {l:List Od} (h:RdR Od.vs 6 W v l):∃ a c,v = .slice a l.length c:=by
 obtain ⟨a,c,h1,_⟩:=h; exact ⟨a,c,h1⟩
theorem zZ {W:World} {b c o k j:Nat} {u:Value} (h:W.there b o k):(W.setCell ⟨c,j,none⟩ u).there b o k:=World.there_setCells (vs:=[u]) h c j
theorem oRow_set {W:World} {B:Nat} {v:Value} {l:List Od} (h:ORow W B v l) {b:Nat} (hb:b < B) (o:Nat) (u:Value):ORow (W.setCell ⟨b,o,none⟩ u) B v l :=
 ownsRow_setCell_below h (a:=⟨b,o,none⟩) hb u
theorem copy_mid {w W2 w3:World} {S:Nat} {v3 sv:Value} {next:Int} {l:List Od} (hS:S = w.heap.size) (h1:Below S w W2) (h2:W2.heap.size = S + 2) (h3:W2.rangeAt S 0 [.int .i64 next,sv]) (h4:W2.there S 0 2) (h5:W2.there (S + 1) 0 2) (hl:l.length ≤ 1000)
  (h6:w3.ownsRow (S + 2) 36 6 v3 (0 + l.length) ([] ++ l.flatMap Od.vs)) (h7:W2.grownBy w3 (Value.slice none 0 0).ownBlock) :
  ∃ a3 c3,v3 = .slice a3 l.length c3∧ORow w3 (S + 2) v3 l∧w3.cell? ⟨S,0,none⟩ = some (.int .i64 next)∧w3.cell? ⟨S,1,none⟩ = some sv∧w3.frozen? ⟨S,1,none⟩ = false∧w3.there (S + 1) 0 2∧Below S w w3∧S + 2 ≤ w3.heap.size:=by
 have h6':ORow w3 (S + 2) v3 l:=by
  show w3.ownsRow _ _ _ _ l.length _
  simpa using h6
 obtain ⟨a3,c3,e⟩:=rd_lenF (zW h6' (by omega))
 have r:=zy h3 h7 (by omega) (by simp [Value.ownBlock])
 refine ⟨a3,c3,e,h6',r 0 _ rfl,r 1 _ rfl,?_,zz h5 h7 (by omega) (by simp [Value.ownBlock]),h1.grown h7 (by omega) (fun k hk=>by simp [Value.ownBlock] at hk),by have:=h7.size; omega⟩
 have:=(zz h4 h7 (by omega) (by simp [Value.ownBlock]) 1 (by omega)).2
 rwa [Nat.zero_add] at this
set_option maxRecDepth 100000 in
set_option maxHeartbeats 800000 in
theorem copyBook_any (next:Int) (v:Value) (l:List Od) (w:World) (hr:RdR Od.vs 6 w v l) (hs:SlOk v) (hn:l.length ≤ 1000) :
  Calls Try.prog 9 #[.agg #[.int .i64 next,v]] w fun e w'=>∃ v',e = .returned (.agg #[.int .i64 next,v'])∧ORow w' w.heap.size v' l∧Below w.heap.size w w':=by
 have HR:=hide hr
 obtain ⟨i0,hi0,hz0,hz1,hz2⟩:=info_parts Try.infoOrder
 obtain ⟨a,cap,rfl,hlen,hc⟩:=hr
 have hs1:(w.alloc (Obj.cells #[.int .i64 next,.slice a l.length cap] 25)).heap.size = w.heap.size + 1:=zc _ _
 have hs2:((w.alloc (Obj.cells #[.int .i64 next,.slice a l.length cap] 25)).alloc (Obj.cells #[.int .i64 0,.slice none 0 0] 25)).heap.size = w.heap.size + 2:=by rw [zc,hs1]
 have t1:=zG w [.int .i64 next,.slice a l.length cap] 25
 have r1:=zd w [.int .i64 next,.slice a l.length cap] 25
 have b1:Below (w.heap.size + 1) (w.alloc (Obj.cells #[.int .i64 next,.slice a l.length cap] 25)) ((w.alloc (Obj.cells #[.int .i64 next,.slice a l.length cap] 25)).alloc (Obj.cells #[.int .i64 0,.slice none 0 0] 25)):=(Below.refl _ _).alloc (by rw [hs1]; omega) _
 have t2:=zG (w.alloc (Obj.cells #[.int .i64 next,.slice a l.length cap] 25)) [.int .i64 0,.slice none 0 0] 25
 rw [hs1] at t2
 have HX:Hid (_∧_∧_):=⟨zb r1 b1 (by omega),zr t1 b1 (by omega),t2⟩
 have HB0:Hid (Below w.heap.size w ((w.alloc (Obj.cells #[.int .i64 next,.slice a l.length cap] 25)).alloc (Obj.cells #[.int .i64 0,.slice none 0 0] 25))):=((Below.refl _ _).alloc (Nat.le_refl _) _).alloc (by rw [hs1]; omega) _
 have HS2:=hide hs2
 clear hc t1 r1 b1 t2 hs1 hs2
 go_enter Try.func9,Try.ntmps9
 rcases hs with hs | ⟨ad,nn,cc,hs⟩
 ·simp only [Value.slice.injEq] at hs
  obtain ⟨rfl,hl0,rfl⟩:=hs
  obtain rfl:=List.length_eq_zero_iff.1 hl0
  go_wp2_with (at_builtin; go_must (refine wpList_append_own_none rfl _ _ 23 rfl (w.heap.size + 2) 36 i0 6 Try.underlying23 hi0 (.slice none 0 0) 0 [] rfl (World.ownsRow_nil _ _ _ _) rfl ?_))
  go_returns
  refine ⟨_,rfl,World.ownsRow_nil _ _ _ _,?_⟩
  go_grown
 ·simp only [Value.slice.injEq] at hs
  obtain ⟨rfl,rfl,rfl⟩:=hs
  have HSRC:Hid (∀ j u,(l.flatMap Od.vs)[j]? = some u→World.cell? (((w.alloc (Obj.cells #[.int .i64 next,.slice (some ad) l.length cap] 25)).alloc (Obj.cells #[.int .i64 0,.slice none 0 0] 25))) (ad.add j) = some u):=rd_src (zm (za HR) (za HB0) (Nat.le_refl _))
  go_wp2_with (at_builtin; go_must (refine wpList_append_own _ rfl _ _ 23 rfl (w.heap.size + 2) 36 i0 _ 6 56 Try.underlying23 hi0 hz0 hz1 hz2 rfl (by decide) (.slice none 0 0) 0 [] rfl (World.ownsRow_nil _ _ _ _) ad l.length cap (l.flatMap Od.vs) rfl (by rw [zP Od.len]) (za HSRC) (one_all l) (by unfold maxLen; omega) (by omega) (by rw [za HS2]; omega) ?_); intro v3 w3 hown3 hg3 _; obtain ⟨a3,c3,rfl,ho3,c0,c1,f1,ht3,hb3,hs3⟩:=copy_mid rfl (za HB0) (za HS2) (za HX).1 (za HX).2.1 (za HX).2.2 hn hown3 hg3; have HO3:=hide ho3; have HT3:=hide ht3; have HB3:=hide hb3; obtain ⟨v0,z0,q0⟩:=zq ht3 0 (by omega); obtain ⟨v1,z1,q1⟩:=zq ht3 1 (by omega); clear ho3 ht3 hb3 hown3 hg3)
  have z0:w3.cell? ⟨w.heap.size + 1,0,none⟩ = some v0:=z0
  have z1:w3.cell? ⟨w.heap.size + 1,1,none⟩ = some v1:=by rw [Nat.zero_add] at z1; exact z1
  have q0:w3.frozen? ⟨w.heap.size + 1,0,none⟩ = false:=q0
  have q1:w3.frozen? ⟨w.heap.size + 1,1,none⟩ = false:=by rw [Nat.zero_add] at q1; exact q1
  have HRX:=hide (World.rangeAt_setCells_same (w3.setCell ⟨w.heap.size,1,none⟩ (.slice a3 l.length c3)) (w.heap.size + 1) 0 [.int .i64 next,.slice a3 l.length c3] (fun j hj=>(zZ (za HT3)) j hj))
  have HOX:=hide (oRow_set (oRow_set (oRow_set (za HO3) (b:=w.heap.size) (by omega) 1 (.slice a3 l.length c3)) (b:=w.heap.size + 1) (by omega) 0 (.int .i64 next)) (b:=w.heap.size + 1) (by omega) 1 (.slice a3 l.length c3))
  have HBX:=hide ((((za HB3).setCell (p:=⟨w.heap.size,1,none⟩) (Nat.le_refl _) (.slice a3 l.length c3)).setCell (p:=⟨w.heap.size + 1,0,none⟩) (by simp) (.int .i64 next)).setCell (p:=⟨w.heap.size + 1,1,none⟩) (by simp) (.slice a3 l.length c3))
  go_wp2_with fail
  have HRX:Hid (World.rangeAt (((w3.setCell ⟨w.heap.size,1,none⟩ (.slice a3 l.length c3)).setCell ⟨w.heap.size + 1,0,none⟩ (.int .i64 next)).setCell ⟨w.heap.size + 1,1,none⟩ (.slice a3 l.length c3)) (w.heap.size + 1) 0 [.int .i64 next,.slice a3 l.length c3]):=za HRX
  generalize (((w3.setCell ⟨w.heap.size,1,none⟩ (.slice a3 l.length c3)).setCell ⟨w.heap.size + 1,0,none⟩ (.int .i64 next)).setCell ⟨w.heap.size + 1,1,none⟩ (.slice a3 l.length c3)) = WE at HRX HOX HBX ⊢
  have d0:WE.cell? ⟨w.heap.size + 1,0,none⟩ = some (.int .i64 next):=za HRX 0 _ rfl
  have d1:WE.cell? ⟨w.heap.size + 1,1,none⟩ = some (.slice a3 l.length c3):=za HRX 1 _ rfl
  try simp only [Exit.inBlock,Exit.then]
  refine bodyPost_ret (by simp [results,Try.results9,go_sem,d0,d1]; try rfl) rfl ?_
  exact ⟨_,rfl,zbs (za HOX) (by omega),za HBX⟩
end Go.Proofs.Ytaoaomipplmjcaa
namespace Go.Proofs.Ytaoaomipplmjcaa
open Go.RowKit
set_option linter.unusedVariables false

theorem zaS {P:Program} {w:World} {ops:Array Oper} {rest:List Oper} {o:Oper} {a:Act} {Q:Exit→Act→World→Prop} (hgd:o.guard = none) (s x:Operand) (t:TypeId)
  (ho:o.op = .call { callee:=.builtin .append,args:=#[s,x],argTypes:=#[t,t] })
  (e:TypeId) (i:TypeInfo) (size:Nat) (ht:P.underlying t = some (.slice e)) (hi:P.info? e = some i) (hsize:i.size = size)
  (g sLen sCap:Nat) (cur:Array Value) (hg:w.heap[g]? = some (.cells cur e (0,0))) (hs:a.eval s = .slice (some ⟨g,0,none⟩) sLen sCap)
  (ad:Addr) (m c:Nat) (news:List Value) (hx:a.eval x = .slice (some ad) m c) (hl:news.length = m * size) (hnews:∀ j u,news[j]? = some u→w.cell? (ad.add j) = some u) (h1:∀ u ∈ news,u.oneCell' = true)
  (hroom:sLen + m ≤ sCap) (hfit:sLen * size + news.length ≤ cur.size)
  (h:wpList P ops Q rest (a.put o.dst (.slice (some ⟨g,0,none⟩) (sLen + m) sCap)) (w.setRow g (cur.toList.take (sLen * size) ++ news ++ cur.toList.drop (sLen * size + news.length)).toArray)):wpList P ops Q (o :: rest) a w:=by
 subst hsize
 refine wpList_plain hgd fun K hK=>?_
 have hrun:=run_append_room (P:=P) w t o.type e i ht hi g sLen sCap cur hg ad m c news hl hnews h1 hroom hfit
 unfold Oper.wp execOp
 simp only [ho,resolve,invoke,builtin,Sem.run_bind,Sem.run_pure,Result.andThen_ok,List.map_toArray,List.map_cons,List.map_nil,hs,hx,hrun]
 exact hK _ _ h
theorem clear_row {P:Program} (w:World) (T ty e:TypeId) (i:TypeInfo) (z:Value) (ht:P.underlying T = some (.slice e)) (hi:P.info? e = some i) (hz:i.zero = some z) (g o c:Nat) (cur:Array Value) (hg:w.heap[g]? = some (.cells cur e (0,0)))
  (hfit:o + z.cells.toList.length ≤ cur.size) (h1:∀ v ∈ z.cells.toList,v.oneCell' = true) :
  (Builtin.clear_ #[T] ty #[.slice (some ⟨g,o,none⟩) 1 c]).run P w = .ok (.tuple #[]) (w.setRow g (cur.toList.take o ++ z.cells.toList ++ cur.toList.drop (o + z.cells.toList.length)).toArray):=by
 have hst:=run_storeCells_at P g o e z.cells.toList 0 cur w hg (by simpa using hfit) h1
 simp only [Nat.add_zero] at hst
 have hzc:(Builtin.zeroCells z.cells 1).toList = z.cells.toList:=by
  refine List.ext_getElem (by simp [Builtin.zeroCells]) fun j h1 h2=>?_
  have hj:j < z.cells.size:=by simpa using h2
  simp [Builtin.zeroCells,Nat.mod_eq_of_lt hj,hj]
 simp [Builtin.clear_,run_underlying ht,zeroValue,typeInfo,hi,hz,hzc,hst]
abbrev zOdL:List Value:=[.int .i64 0,.int .i64 0,.int .i64 0,.int .i64 0,.int .i64 0,.string ⟨#[]⟩]
theorem row_gone {cur:Array Value} {l:List Od} {i m cap:Nat} {zs:List Value} (hl:l.length = i + 1 + m) (hc:l.length ≤ cap) (hs:cur.size = cap * 6) (ht:cur.toList.take (l.length * 6) = l.flatMap Od.vs) (hz:zs.length = 6) :
  (((cur.toList.take (i * 6) ++ (l.drop (i + 1)).flatMap Od.vs ++ cur.toList.drop (i * 6 + m * 6)).take ((i + m) * 6) ++ zs ++ (cur.toList.take (i * 6) ++ (l.drop (i + 1)).flatMap Od.vs ++ cur.toList.drop (i * 6 + m * 6)).drop ((i + m) * 6 + zs.length)).take ((i + m) * 6) = (l.take i ++ l.drop (i + 1)).flatMap Od.vs) ∧
  (cur.toList.take (i * 6) ++ (l.drop (i + 1)).flatMap Od.vs ++ cur.toList.drop (i * 6 + m * 6)).length = cap * 6:=by
 have hcl:cur.toList.length = cap * 6:=by simpa using hs
 have hdl:((l.drop (i + 1)).flatMap Od.vs).length = m * 6:=by rw [zP Od.len,List.length_drop]; congr 1; omega
 have hti:cur.toList.take (i * 6) = (l.take i).flatMap Od.vs:=by
  have h:=congrArg (List.take (i * 6)) ht
  rw [List.take_take,show min (i * 6) (l.length * 6) = i * 6 by omega] at h
  rw [h]
  conv=>lhs; rw [← List.take_append_drop i l,List.flatMap_append]
  rw [List.take_append_of_le_length (by rw [zP Od.len,List.length_take]; omega),List.take_of_length_le (by rw [zP Od.len,List.length_take]; omega)]
 have hlen:(cur.toList.take (i * 6) ++ (l.drop (i + 1)).flatMap Od.vs).length = (i + m) * 6:=by
  rw [List.length_append,hdl,List.length_take,hcl]; omega
 refine ⟨?_,?_⟩
 ·rw [List.append_assoc ((List.take _ _)),List.take_append_of_le_length (by rw [List.length_take,List.length_append,hlen,List.length_drop,hcl]; omega),List.take_take,Nat.min_self,List.take_append_of_le_length (by rw [hlen]; omega),List.take_of_length_le (by rw [hlen]; omega),hti,List.flatMap_append]
 ·rw [List.length_append,hlen,List.length_drop,hcl]; omega
set_option maxRecDepth 100000 in
set_option maxHeartbeats 1600000 in
theorem delete_any (g i m cap B:Nat) (cur:Array Value) (l:List Od) (w:World) (hl:l.length = i + 1 + m) (hn:l.length ≤ 1000) (hg:w.heap[g]? = some (.cells cur 36 (0,0))) (hcap:l.length ≤ cap) (hmx:cap ≤ maxLen) (hsz:cur.size = cap * 6) (htk:cur.toList.take (l.length * 6) = l.flatMap Od.vs) (hB:B ≤ g) :
  Calls Try.prog 70 #[.slice (some ⟨g,0,none⟩) (i + 1 + m) cap,.int .i64 i,.int .i64 ((i:Int) + 1)] w fun e w'=>e = .returned (.slice (some ⟨g,0,none⟩) (i + m) cap)∧ORow w' B (.slice (some ⟨g,0,none⟩) (i + m) cap) (l.take i ++ l.drop (i + 1))∧w.grownBy w' (some g):=by
 obtain ⟨i0,hi0,hz0,hz1,hz2⟩:=info_parts Try.infoOrder
 have HG:=hide hg
 have HRC:Hid (∀ j c,l[j]? = some c→w.drew.rangeAt g (0 + j * 6) c.vs):=by
  have ho:ORow w B (.slice (some ⟨g,0,none⟩) l.length cap) l:=⟨by rw [zP Od.len],.inr ⟨g,cap,cur,rfl,hB,hg,hcap,hmx,hsz,htk⟩⟩
  obtain ⟨a',c',e,_,h⟩:=zW ho (by omega)
  intro j c hj
  obtain ⟨b',off',e2,_,h⟩:=h (by intro h; rw [h] at hj; simp at hj)
  rw [e2] at e
  simp only [Value.slice.injEq,Option.some.injEq,Addr.mk.injEq,and_true,true_and] at e
  obtain ⟨⟨rfl,rfl⟩,-⟩:=e
  exact h j c hj
 have HTK:=hide htk
 have HSZ:=hide hsz
 have HL:=hide hl
 have h1:(i:Int) + 1 ≤ (i:Int) + 1 + m:=by omega
 have h2:(i:Int) + 1 + m ≤ cap:=by omega
 have h3:(0:Int) ≤ i:=by omega
 have h4:(i:Int) ≤ (i:Int) + 1:=by omega
 have h5:(0:Int) ≤ (i:Int) + 1:=by omega
 have h6:(i:Int) ≤ cap:=by omega
 have b1:((i:Int) == (i:Int) + 1) = false:=by rw [beq_eq_false_iff_ne]; omega
 clear hg htk hsz hl
 go_enter Try.func70,Try.ntmps70
 go_wp2_with fail
 refine zaB 6 (by kernel_rfl) (by kernel_rfl) ?_
 simp only [List.take_succ_cons,List.take_zero,List.drop_succ_cons,List.drop_zero]
 by_cases hcc:cap = i + 1
 ·have hm0:m = 0:=by have:=za HL; omega
  subst hm0
  subst hcc
  repeat still_step
  refine wpStill_nil ?_
  refine zaS rfl (.tmp 22) (.tmp 25) 23 rfl 36 i0 6 Try.underlying23 hi0 hz1 g i (i + 1) cur (za HG) rfl ⟨g,0,none⟩ 0 0 ((l.drop (i + 1)).flatMap Od.vs) rfl (by rw [zP Od.len,List.length_drop]; congr 1; have:=za HL; omega) (by rw [List.drop_of_length_le (by have:=za HL; omega)]; simp) (one_all _) (by omega) (by rw [zP Od.len,List.length_drop,za HSZ]; have:=za HL; omega) ?_
  have hdl:((l.drop (i + 1)).flatMap Od.vs).length = 0 * 6:=by rw [zP Od.len,List.length_drop]; congr 1; have:=za HL; omega
  rw [hdl]
  obtain ⟨hgone,hlen1⟩:=row_gone (zs:=zOdL) (za HL) hcap (za HSZ) (za HTK) rfl
  have HGONE:=hide hgone
  generalize hC1:(cur.toList.take (i * 6) ++ (l.drop (i + 1)).flatMap Od.vs ++ cur.toList.drop (i * 6 + 0 * 6)) = C1 at HGONE hlen1 ⊢
  have hx1:(w.drew.setRow g C1.toArray).heap[g]? = some (.cells C1.toArray 36 (0,0)):=setRow_heap w.drew g cur C1.toArray 36 (0,0) (za HG)
  have HG1:Hid (w.grownBy (w.drew.setRow g C1.toArray) (some g)):=⟨rfl,rfl,rfl,by simp,fun k hk hne=>setRow_other w.drew g k C1.toArray (fun e=>hne (by rw [e]))⟩
  have HX1:=hide hx1
  clear hx1 hC1 hgone hdl
  generalize w.drew.setRow g C1.toArray = X1 at HX1 HG1 ⊢
  have hcl:∀ (ty:TypeId) (c:Nat),(Builtin.clear_ #[23] ty #[.slice (some ⟨g,i * 6,none⟩) 1 c]).run Try.prog X1 = .ok (.tuple #[]) (X1.setRow g (C1.take (i * 6) ++ zOdL ++ C1.drop (i * 6 + 6)).toArray):=fun ty c=>by
   have:=clear_row X1 23 ty 36 i0 _ Try.underlying23 hi0 hz0 g (i * 6) c C1.toArray (za HX1) (by show i * 6 + 6 ≤ C1.toArray.size; rw [List.size_toArray,hlen1]; omega) (by simp [Value.cells,Value.oneCell'])
   simpa [Value.cells] using this
  have HX2:=hide (setRow_heap X1 g C1.toArray (C1.take (i * 6) ++ zOdL ++ C1.drop (i * 6 + 6)).toArray 36 (0,0) (za HX1))
  have HG2:Hid (w.grownBy (X1.setRow g (C1.take (i * 6) ++ zOdL ++ C1.drop (i * 6 + 6)).toArray) (some g)):=(za HG1).trans ⟨rfl,rfl,rfl,by simp,fun k hk hne=>setRow_other X1 g k _ (fun e=>hne (by rw [e]))⟩
  generalize hC2:(C1.take (i * 6) ++ zOdL ++ C1.drop (i * 6 + 6)).toArray = C2 at hcl HX2 HG2
  have HC2:=hide hC2
  have HLEN:=hide hlen1
  clear hC2
  have k1:¬ i + 1 = i:=by omega
  have k2:i + 1 - i = 1:=by omega
  clear hlen1
  go_wp2_with fail
  go_ret
  have hol:(l.take i ++ l.drop (i + 1)).length = i + 0:=by have:=za HL; simp; omega
  refine ⟨rfl,⟨by rw [zP Od.len],.inr ⟨g,i + 1,_,by rw [hol],hB,za HX2,by rw [hol]; omega,hmx,?_,?_⟩⟩,za HG2⟩
  ·rw [← za HC2]; simp [za HLEN]; omega
  ·rw [hol,← za HC2]; simpa using za HGONE
 ·repeat still_step
  refine wpStill_nil ?_
  refine zaS rfl (.tmp 22) (.tmp 25) 23 rfl 36 i0 6 Try.underlying23 hi0 hz1 g i cap cur (za HG) rfl ⟨g,(i + 1) * 6,none⟩ m (cap - (i + 1)) ((l.drop (i + 1)).flatMap Od.vs) rfl (by rw [zP Od.len,List.length_drop]; congr 1; have:=za HL; omega) (by have h:=row_cells (W:=w.drew) (g:=g) (off:=0) (l:=l) (za HRC) (i + 1) l.length; rw [List.take_of_length_le (by rw [List.length_drop]; omega),Nat.zero_add] at h; exact h) (one_all _) (by omega) (by rw [zP Od.len,List.length_drop,za HSZ]; have:=za HL; omega) ?_
  have hdl:((l.drop (i + 1)).flatMap Od.vs).length = m * 6:=by rw [zP Od.len,List.length_drop]; congr 1; have:=za HL; omega
  rw [hdl]
  obtain ⟨hgone,hlen1⟩:=row_gone (zs:=zOdL) (za HL) hcap (za HSZ) (za HTK) rfl
  have HGONE:=hide hgone
  generalize hC1:(cur.toList.take (i * 6) ++ (l.drop (i + 1)).flatMap Od.vs ++ cur.toList.drop (i * 6 + m * 6)) = C1 at HGONE hlen1 ⊢
  have hx1:(w.drew.setRow g C1.toArray).heap[g]? = some (.cells C1.toArray 36 (0,0)):=setRow_heap w.drew g cur C1.toArray 36 (0,0) (za HG)
  have HG1:Hid (w.grownBy (w.drew.setRow g C1.toArray) (some g)):=⟨rfl,rfl,rfl,by simp,fun k hk hne=>setRow_other w.drew g k C1.toArray (fun e=>hne (by rw [e]))⟩
  have HX1:=hide hx1
  clear hx1 hC1 hgone hdl
  generalize w.drew.setRow g C1.toArray = X1 at HX1 HG1 ⊢
  have hcl:∀ (ty:TypeId) (c:Nat),(Builtin.clear_ #[23] ty #[.slice (some ⟨g,(i + m) * 6,none⟩) 1 c]).run Try.prog X1 = .ok (.tuple #[]) (X1.setRow g (C1.take ((i + m) * 6) ++ zOdL ++ C1.drop ((i + m) * 6 + 6)).toArray):=fun ty c=>by
   have:=clear_row X1 23 ty 36 i0 _ Try.underlying23 hi0 hz0 g ((i + m) * 6) c C1.toArray (za HX1) (by show (i + m) * 6 + 6 ≤ C1.toArray.size; rw [List.size_toArray,hlen1]; omega) (by simp [Value.cells,Value.oneCell'])
   simpa [Value.cells] using this
  have HX2:=hide (setRow_heap X1 g C1.toArray (C1.take ((i + m) * 6) ++ zOdL ++ C1.drop ((i + m) * 6 + 6)).toArray 36 (0,0) (za HX1))
  have HG2:Hid (w.grownBy (X1.setRow g (C1.take ((i + m) * 6) ++ zOdL ++ C1.drop ((i + m) * 6 + 6)).toArray) (some g)):=(za HG1).trans ⟨rfl,rfl,rfl,by simp,fun k hk hne=>setRow_other X1 g k _ (fun e=>hne (by rw [e]))⟩
  generalize hC2:(C1.take ((i + m) * 6) ++ zOdL ++ C1.drop ((i + m) * 6 + 6)).toArray = C2 at hcl HX2 HG2
  have HC2:=hide hC2
  have HLEN:=hide hlen1
  clear hC2
  have k1:¬ cap = i + m:=by have:=za HL; omega
  have k2:i + 1 + m - (i + m) = 1:=by omega
  have k3:(i:Int) + m ≤ (i:Int) + 1 + m:=by omega
  have k4:(0:Int) ≤ (i:Int) + m:=by omega
  clear hlen1
  go_wp2_with fail
  go_ret
  have hol:(l.take i ++ l.drop (i + 1)).length = i + m:=by have:=za HL; simp; omega
  refine ⟨rfl,⟨by rw [zP Od.len],.inr ⟨g,cap,_,by rw [hol],hB,za HX2,by rw [hol]; omega,hmx,?_,?_⟩⟩,za HG2⟩
  ·rw [← za HC2]; simp [za HLEN]; omega
  ·rw [hol,← za HC2]; simpa using za HGONE
end Go.Proofs.Ytaoaomipplmjcaa
namespace Go.Proofs.Ytaoaomipplmjcaa
open Go.RowKit
set_option linter.unusedVariables false

theorem flat_set {α:Type} {f:α→List Value} {sz:Nat} (hf:∀ c,(f c).length = sz):∀ (l:List α) (i j:Nat) (c c':α) (u:Value),l[i]? = some c→j < sz→f c' = (f c).set j u→(l.flatMap f).set (i * sz + j) u = (l.set i c').flatMap f
  | [],_,_,_,_,_,h,_,_=>by simp at h
  | a :: l,0,j,c,c',u,h,hj,hc=>by
    simp at h; subst h
    rw [List.set_cons_zero,List.flatMap_cons,List.flatMap_cons,hc,Nat.zero_mul,Nat.zero_add,List.set_append_left _ _ (by rw [hf]; exact hj)]
  | a :: l,i + 1,j,c,c',u,h,hj,hc=>by
    simp at h
    rw [List.set_cons_succ,List.flatMap_cons,List.flatMap_cons,← flat_set hf l i j c c' u h hj hc,List.set_append_right _ _ (by rw [hf,Nat.add_mul]; omega),hf]
    congr 2
    rw [Nat.add_mul]; omega
end Go.Proofs.Ytaoaomipplmjcaa
