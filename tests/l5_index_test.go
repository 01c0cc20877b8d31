package tests

import (
	"fmt"
	"math"
	"math/rand"
	"slices"
	"strings"
	"testing"

	"loop.example/s01136/impl"
)

// Promise 6: IndexAdd and IndexDel keep valid indexes valid; for a valid index and a pattern, every eligible order
// scans the same set of quads, and CountQuads is their number.

// checkIndex holds what IndexAdd or IndexDel make of an index against what is wanted, and looks whose memory the
// answer has. It gives the index of the answer.
func checkIndex(t *testing.T, name string, ix impl.Index, change func(impl.Index, impl.Quad) impl.IndexRes, q impl.Quad, want impl.IndexRes) impl.Index {
	t.Helper()
	was := cloneIndex(ix)
	got := change(ix, q)
	if got.Ok != want.Ok || !sameIndex(got.Index, want.Index) {
		t.Fatalf("%s %v: %v, %+v; not %v, %+v", name, q, got.Ok, got.Index, want.Ok, want.Index)
	}
	for i, tree := range got.Index.Trees {
		if i < len(ix.Trees) {
			checkAnswer(t, fmt.Sprintf("%s %v, tree %d", name, q, i), ix.Trees[i], was.Trees[i], cloneTree(tree))
		}
	}
	told := cloneIndex(got.Index)
	spoilIndex(got.Index)
	if !sameIndex(ix, was) {
		t.Fatalf("%s %v: the argument is changed or shares memory with the answer", name, q)
	}
	if impl.ValidIndex(told) != soundIndex(was) {
		t.Fatalf("%s %v: valid is %v", name, q, !soundIndex(was))
	}
	return told
}

func checkAdd(t *testing.T, ix impl.Index, q impl.Quad, want impl.IndexRes) impl.Index {
	t.Helper()
	return checkIndex(t, "add", ix, impl.IndexAdd, q, want)
}

func checkDel(t *testing.T, ix impl.Index, q impl.Quad, want impl.IndexRes) impl.Index {
	t.Helper()
	return checkIndex(t, "del", ix, impl.IndexDel, q, want)
}

func refusedIndex(ix impl.Index) impl.IndexRes {
	return impl.IndexRes{Index: cloneIndex(ix)}
}

// checkScan asks every order for a pattern, and holds the answers against the quads.
func checkScan(t *testing.T, ix impl.Index, quads []impl.Quad, pattern impl.Quad) {
	t.Helper()
	found := matching(quads, pattern)
	for perm := int64(-1); perm <= 6; perm++ {
		var want []impl.Quad
		if eligibleBy(perm, pattern) {
			want = sortedIn(found, int(perm))
		}
		got := impl.ScanQuads(ix, pattern, perm)
		if !slices.Equal(got, want) {
			t.Fatalf("order %d, pattern %v: %v, not %v", perm, pattern, got, want)
		}
		if n := impl.CountQuads(ix, pattern, perm); n != int64(len(want)) {
			t.Fatalf("order %d, pattern %v: count %d, not %d", perm, pattern, n, len(want))
		}
	}
}

// boundParts are the patterns of a quad: each choice of its parts is bound.
func boundParts(q impl.Quad) []impl.Quad {
	var patterns []impl.Quad
	for bits := range 16 {
		pattern := q
		for i, letter := range []byte("SPOG") {
			if bits>>i&1 == 0 {
				*partOf(&pattern, letter) = 0
			}
		}
		patterns = append(patterns, pattern)
	}
	return patterns
}

func TestP6IndexNew(t *testing.T) {
	ix := impl.IndexNew()
	if !sameIndex(ix, indexOf()) || !impl.ValidIndex(ix) {
		t.Fatalf("new: %+v", ix)
	}
	for i := range ix.Trees {
		if ix.Trees[i].Nodes[0].Count != 0 {
			t.Errorf("tree %d of a new index shares memory with one before it", i)
		}
		ix.Trees[i].Nodes[0].Count = 7
	}
	if !sameIndex(impl.IndexNew(), indexOf()) {
		t.Errorf("two new indexes share memory")
	}
	checkScan(t, impl.IndexNew(), nil, impl.Quad{})
	checkScan(t, impl.IndexNew(), nil, impl.Quad{S: 1})
	checkDel(t, impl.IndexNew(), impl.Quad{S: 1, P: 1, O: 1, G: 1}, refusedIndex(impl.IndexNew()))
}

// The keys of one quad, laid out by hand.
func TestP6Keys(t *testing.T) {
	s, p, o, g := "\x01\x02\x03\x04", "\x00\x00\x00\xff", "\x77\x35\x94\x00", "\x00\x80\x00\x01"
	q := impl.Quad{S: 0x01020304, P: 255, O: 2000000000, G: 0x800001}
	ix := impl.IndexAdd(impl.IndexNew(), q).Index
	for perm, key := range []string{s + p + o + g, p + o + s + g, o + s + p + g, g + s + p + o, g + p + o + s, g + o + s + p} {
		want := impl.Tree{Nodes: []impl.TNode{leafOf(key)}}
		if !sameTree(ix.Trees[perm], want) {
			t.Errorf("order %d: %+v", perm, ix.Trees[perm])
		}
	}
	if !impl.ValidIndex(ix) {
		t.Errorf("not valid")
	}
	for _, pattern := range boundParts(q) {
		checkScan(t, ix, []impl.Quad{q}, pattern)
	}
}

func TestP6Eligible(t *testing.T) {
	for perm := int64(-2); perm <= 8; perm++ {
		for _, full := range []impl.Quad{{S: 1, P: 1, O: 1, G: 1}, {S: 2000000000, P: 2000000000, O: 2000000000, G: 2000000000}, {S: 1, P: 2, O: 3, G: 4}} {
			for _, pattern := range boundParts(full) {
				if got := impl.Eligible(perm, pattern); got != eligibleBy(perm, pattern) {
					t.Errorf("order %d, pattern %v: %v", perm, pattern, got)
				}
			}
		}
	}
	for _, perm := range wildNumbers {
		want := perm >= 0 && perm <= 5
		if impl.Eligible(perm, impl.Quad{}) != want || impl.Eligible(perm, impl.Quad{S: 1, P: 1, O: 1, G: 1}) != want {
			t.Errorf("order %d: not %v", perm, want)
		}
	}
}

// Which orders are eligible, written out for every choice of bound parts.
func TestP6EligibleOrders(t *testing.T) {
	rows := []struct{ bound, orders string }{
		{"", "012345"}, {"S", "0"}, {"P", "1"}, {"O", "2"}, {"G", "345"},
		{"SP", "0"}, {"PO", "1"}, {"SO", "2"}, {"SG", "3"}, {"PG", "4"}, {"OG", "5"},
		{"SPO", "012"}, {"SPG", "3"}, {"POG", "4"}, {"SOG", "5"}, {"SPOG", "012345"},
	}
	for _, row := range rows {
		var pattern impl.Quad
		for i, letter := range []byte(row.bound) {
			*partOf(&pattern, letter) = int64(i + 1)
		}
		for perm := range int64(6) {
			want := strings.Contains(row.orders, fmt.Sprint(perm))
			if got := impl.Eligible(perm, pattern); got != want {
				t.Errorf("bound %s, order %d: %v", row.bound, perm, got)
			}
		}
	}
}

func TestP6WildPatterns(t *testing.T) {
	q := impl.Quad{S: 1, P: 2, O: 3, G: 4}
	quads := []impl.Quad{q, {S: 1, P: 1, O: 1, G: 1}}
	ix := indexOf(quads...)
	for _, letter := range []byte("SPOG") {
		for _, n := range append(wildNumbers, 1<<32+1, 1<<32+2, 1<<32+3, 1<<32+4, -1<<32) {
			for _, pattern := range boundParts(q) {
				*partOf(&pattern, letter) = n
				for perm := int64(-1); perm <= 6; perm++ {
					if got := impl.Eligible(perm, pattern); got != eligibleBy(perm, pattern) {
						t.Errorf("order %d, pattern %v: %v", perm, pattern, got)
					}
				}
				checkScan(t, ix, quads, pattern)
			}
		}
	}
	for _, perm := range wildNumbers {
		if perm < 0 || perm > 5 {
			if len(impl.ScanQuads(ix, impl.Quad{}, perm)) != 0 || impl.CountQuads(ix, impl.Quad{}, perm) != 0 {
				t.Errorf("order %d scans", perm)
			}
		}
	}
}

func TestP6WildQuads(t *testing.T) {
	q := impl.Quad{S: 1, P: 1, O: 1, G: 1}
	top := impl.Quad{S: 2000000000, P: 2000000000, O: 2000000000, G: 2000000000}
	ix := indexOf(q, top)
	for _, letter := range []byte("SPOG") {
		for _, n := range append(wildNumbers, 1<<32+1, 1<<33+1, 1<<32+2000000000) {
			wild := q
			*partOf(&wild, letter) = n
			want := refusedIndex(ix)
			if n > 1 && n <= 2000000000 {
				want = impl.IndexRes{Ok: true, Index: indexOf(q, top, wild)}
			}
			checkAdd(t, ix, wild, want)
			want = refusedIndex(ix)
			if n == 1 {
				want = impl.IndexRes{Ok: true, Index: indexOf(top)}
			}
			checkDel(t, ix, wild, want)
		}
	}
	checkAdd(t, ix, top, refusedIndex(ix))
	checkDel(t, ix, top, impl.IndexRes{Ok: true, Index: indexOf(q)})
	checkAdd(t, ix, impl.Quad{}, refusedIndex(ix))
	checkDel(t, ix, impl.Quad{}, refusedIndex(ix))
}

// Every order with every choice of bound parts, over quads that share parts, and for parts that none has.
func TestP6EveryPattern(t *testing.T) {
	r := rand.New(rand.NewSource(6))
	for _, width := range []int{2, 3, 5, len(edgeParts)} {
		var quads []impl.Quad
		for range 40 {
			if q := randomQuad(r, width); !slices.Contains(quads, q) {
				quads = append(quads, q)
			}
		}
		ix := indexOf(quads...)
		was := cloneIndex(ix)
		asked := append([]impl.Quad{{S: 4, P: 4, O: 4, G: 4}, {S: 2000000000, P: 2000000000, O: 2000000000, G: 2000000000}}, quads[:6]...)
		for range 6 {
			asked = append(asked, randomQuad(r, width))
		}
		for _, full := range asked {
			for _, pattern := range boundParts(full) {
				checkScan(t, ix, quads, pattern)
			}
		}
		if !sameIndex(ix, was) {
			t.Errorf("width %d: the index is changed by asking", width)
		}
	}
}

// Long rows of quads added and deleted, held against a plain set and, node by node, against the levels.
func TestP6LongRows(t *testing.T) {
	for seed, width := range []int{2, 3, 4, 8, len(edgeParts)} {
		r := rand.New(rand.NewSource(int64(seed)))
		m := newSixLevels()
		ix := impl.IndexNew()
		var set []impl.Quad
		for step := range 400 {
			q := randomQuad(r, width)
			// Rising and falling, so that the trees are high and low in turn.
			add := r.Intn(10) < 8
			if step/100%2 == 1 {
				add = r.Intn(10) < 3
			}
			if !add && len(set) > 0 && r.Intn(6) > 0 {
				q = set[r.Intn(len(set))]
			}
			at := slices.Index(set, q)
			want := refusedIndex(m.index())
			switch {
			case add && at < 0:
				set = append(set, q)
				m.insert(q)
				want = impl.IndexRes{Ok: true, Index: m.index()}
			case !add && at >= 0:
				set = slices.Delete(set, at, at+1)
				m.remove(q)
				want = impl.IndexRes{Ok: true, Index: m.index()}
			}
			if add {
				ix = checkAdd(t, ix, q, want)
			} else {
				ix = checkDel(t, ix, q, want)
			}
			if step%4 == 0 {
				checkScan(t, ix, set, boundParts(randomQuad(r, width))[r.Intn(16)])
			}
		}
	}
}

func TestP6QuadMax(t *testing.T) {
	quads := manyQuads(301)
	last := quads[300]
	full := indexOf(quads[:300]...)
	if !impl.ValidIndex(full) {
		t.Fatalf("300 quads are not valid")
	}
	checkAdd(t, full, last, refusedIndex(full))
	checkAdd(t, full, quads[0], refusedIndex(full))
	checkScan(t, full, quads[:300], impl.Quad{})
	checkScan(t, full, quads[:300], impl.Quad{P: 2})
	checkScan(t, full, quads[:300], impl.Quad{G: 1})

	m := newSixLevels()
	for _, q := range quads[:300] {
		m.insert(q)
	}
	m.remove(quads[17])
	ix := checkDel(t, full, quads[17], impl.IndexRes{Ok: true, Index: m.index()})
	m.insert(last)
	ix = checkAdd(t, ix, last, impl.IndexRes{Ok: true, Index: m.index()})
	checkAdd(t, ix, quads[17], refusedIndex(ix))

	ix = impl.IndexNew()
	for i, q := range quads {
		res := impl.IndexAdd(ix, q)
		if res.Ok != (i < 300) {
			t.Fatalf("quad %d: %v", i, res.Ok)
		}
		ix = res.Index
	}
	if !sameIndex(ix, full) {
		t.Errorf("300 quads added are not as 300 quads laid out")
	}
	for i, q := range quads {
		res := impl.IndexDel(ix, q)
		if res.Ok != (i < 300) || !impl.ValidIndex(res.Index) {
			t.Fatalf("quad %d deleted: %v", i, res.Ok)
		}
		ix = res.Index
	}
	if !sameIndex(ix, impl.IndexNew()) {
		t.Errorf("all deleted: %+v", ix)
	}
}

// The trees of a valid index need not have been filled in one order.
func TestP6OtherShapes(t *testing.T) {
	quads := manyQuads(40)
	ix := indexOf(quads...)
	r := rand.New(rand.NewSource(7))
	m := newSixLevels()
	for perm := range m {
		for _, i := range r.Perm(40) {
			m[perm].insert(quadKey(quads[i], perm))
		}
		ix.Trees[perm] = m[perm].tree()
	}
	if !impl.ValidIndex(ix) {
		t.Fatalf("not valid")
	}
	checkScan(t, ix, quads, impl.Quad{})
	checkScan(t, ix, quads, impl.Quad{S: 3})
	m.remove(quads[5])
	ix = checkDel(t, ix, quads[5], impl.IndexRes{Ok: true, Index: m.index()})
	m.insert(quads[5])
	checkAdd(t, ix, quads[5], impl.IndexRes{Ok: true, Index: m.index()})
}

// rekeyed is an index of 12 keys in every tree, whatever they are.
func rekeyed(key func(i, perm int) string) impl.Index {
	var ix impl.Index
	for perm := range 6 {
		m := &levels{leaves: [][]string{nil}}
		for i := range 12 {
			m.insert(key(i, perm))
		}
		ix.Trees = append(ix.Trees, m.tree())
	}
	return ix
}

// invalidIndexes breaks each rule of ValidIndex, where it can be broken alone.
func invalidIndexes(t *testing.T) map[string]impl.Index {
	quads := manyQuads(12)
	all := map[string]impl.Index{
		"zero":              {},
		"five trees":        {Trees: indexOf(quads...).Trees[:5]},
		"seven trees":       {Trees: append(indexOf(quads...).Trees, indexOf(quads...).Trees[0])},
		"no nodes":          {Trees: make([]impl.Tree, 6)},
		"301 quads":         indexOf(manyQuads(301)...),
		"1300 quads":        indexOf(manyQuads(1300)...),
		"a key of 15 bytes": rekeyed(func(i, perm int) string { return quadKey(quads[i], perm)[:min(16, i+15)] }),
		"an empty key":      rekeyed(func(i, perm int) string { return quadKey(quads[i], perm)[:min(16, i*16)] }),
		"keys of 12 bytes": rekeyed(func(i, perm int) string {
			return quadKey(impl.Quad{S: int64(i + 1), P: int64(i + 1), O: int64(i + 1)}, 0)[:12]
		}),
		"all in the order SPOG": rekeyed(func(i, perm int) string { return quadKey(quads[i], 0) }),
		"turned by one order":   rekeyed(func(i, perm int) string { return quadKey(quads[i], (perm+1)%6) }),
	}
	for _, letter := range []byte("SPOG") {
		for _, part := range []int64{0, 2000000001, 1<<31 - 1, 1 << 31, 1<<32 - 1} {
			all[fmt.Sprintf("part %c %d", letter, part)] = rekeyed(func(i, perm int) string {
				q := quads[i]
				if i == 5 {
					*partOf(&q, letter) = part
				}
				return quadKey(q, perm)
			})
		}
	}
	for perm := range 6 {
		oneTreeWrong(all, quads, perm)
	}
	for name, tree := range invalidTrees(t) {
		if len(tree.Nodes) < 100 {
			ix := indexOf()
			for perm := range ix.Trees {
				ix.Trees[perm] = cloneTree(tree)
			}
			all["six trees: "+name] = ix
		}
	}
	return all
}

// oneTreeWrong adds indexes of the quads of which one tree is not as the five others.
func oneTreeWrong(all map[string]impl.Index, quads []impl.Quad, perm int) {
	with := func(name string, tree impl.Tree) {
		ix := indexOf(quads...)
		ix.Trees[perm] = tree
		all[orderNames[perm]+" "+name] = ix
	}
	other := quads[4]
	other.G = 77
	with("lacks a quad", indexOf(quads[1:]...).Trees[perm])
	with("is empty", impl.TreeNew())
	with("has another quad", indexOf(slices.Replace(slices.Clone(quads), 4, 5, other)...).Trees[perm])
	with("has a quad more", indexOf(manyQuads(13)...).Trees[perm])
	with("is not valid", planted("((b d) (f))"))
	miscounted := indexOf(quads...).Trees[perm]
	miscounted.Nodes[0].Count++
	with("is miscounted", miscounted)
	with("is in another order", indexOf(quads...).Trees[(perm+1)%6])
}

func TestP6InvalidIndexes(t *testing.T) {
	for name, ix := range invalidIndexes(t) {
		if impl.ValidIndex(ix) || soundIndex(ix) {
			t.Errorf("%s: valid", name)
			continue
		}
		for _, q := range []impl.Quad{quadNumber(0), quadNumber(5), quadNumber(500)} {
			checkAdd(t, ix, q, refusedIndex(ix))
			checkDel(t, ix, q, refusedIndex(ix))
			for perm := range int64(6) {
				for _, pattern := range []impl.Quad{{}, {S: q.S}, q} {
					if len(impl.ScanQuads(ix, pattern, perm)) != 0 || impl.CountQuads(ix, pattern, perm) != 0 {
						t.Errorf("%s: order %d tells quads", name, perm)
					}
				}
			}
		}
	}
}

// One key of one tree of a valid index changed, or one thing of a node.
func TestP6SpoiltIndexes(t *testing.T) {
	r := rand.New(rand.NewSource(8))
	for range 3000 {
		ix := indexOf(manyQuads(r.Intn(14))...)
		perm := r.Intn(6)
		if quads, _ := quadsOf(ix.Trees[perm], perm); r.Intn(2) == 0 && len(quads) > 0 {
			q := &quads[r.Intn(len(quads))]
			*partOf(q, "SPOG"[r.Intn(4)]) = int64(r.Intn(4))
			m := &levels{leaves: [][]string{nil}}
			for _, q := range quads {
				if key := quadKey(q, perm); !slices.Contains(m.keys(), key) {
					m.insert(key)
				}
			}
			ix.Trees[perm] = m.tree()
		} else {
			spoilOne(r, &ix.Trees[perm])
		}
		want := soundIndex(ix)
		if got := impl.ValidIndex(ix); got != want {
			t.Fatalf("valid %v: %+v", got, ix)
		}
		if res := impl.IndexAdd(ix, impl.Quad{S: 9, P: 9, O: 9, G: 9}); res.Ok != want {
			t.Fatalf("added %v: %+v", res.Ok, ix)
		}
		if n := impl.CountQuads(ix, impl.Quad{}, int64(perm)); !want && n != 0 {
			t.Fatalf("%d quads: %+v", n, ix)
		}
	}
}

// What a scan answers is the caller's own.
func TestP6ScanMemory(t *testing.T) {
	quads := manyQuads(30)
	ix := indexOf(quads...)
	for perm := range int64(6) {
		got := impl.ScanQuads(ix, impl.Quad{}, perm)
		for i := range got[:cap(got)] {
			got[:cap(got)][i] = impl.Quad{S: math.MinInt64}
		}
	}
	if !sameIndex(ix, indexOf(quads...)) {
		t.Errorf("the index is changed")
	}
	checkScan(t, ix, quads, impl.Quad{})
}
