package tests

import (
	"fmt"
	"math"
	"math/rand"
	"slices"
	"strings"
	"testing"

	"loop.example/s01136/impl"
)

// Promise 4: TreeInsert and TreeDelete keep valid trees valid; TreeRange and TreeRank tell the set of the keys
// inserted and not deleted.

// planted makes a tree of its shape: "(a b)" is a leaf, "((a b) (c d))" an inner node with its children.
func planted(shape string) impl.Tree {
	var t impl.Tree
	plantNode(&t, shape)
	return t
}

// plantNode adds the node that the shape begins with and all below it; the answer is the rest of the shape and
// the keys below the node.
func plantNode(t *impl.Tree, shape string) (string, []string) {
	at := len(t.Nodes)
	t.Nodes = append(t.Nodes, impl.TNode{})
	shape = shape[1:]
	if !strings.HasPrefix(shape, "(") {
		words, rest, _ := strings.Cut(shape, ")")
		t.Nodes[at] = leafOf(strings.Fields(words)...)
		return rest, t.Nodes[at].Keys
	}
	var n impl.TNode
	var all []string
	for shape[0] != ')' {
		n.Kids = append(n.Kids, int64(len(t.Nodes)))
		rest, below := plantNode(t, strings.TrimLeft(shape, " "))
		if len(n.Kids) > 1 {
			n.Keys = append(n.Keys, below[0])
		}
		all = append(all, below...)
		shape = strings.TrimLeft(rest, " ")
	}
	n.Count = int64(len(all))
	t.Nodes[at] = n
	return shape[1:], all
}

func leafOf(keys ...string) impl.TNode {
	return impl.TNode{Leaf: true, Keys: keys, Count: int64(len(keys))}
}

// number is the i-th of many keys, with a place for another behind each.
func number(i int) string {
	return fmt.Sprintf("%06d", 2*i)
}

func TestP4TreeNew(t *testing.T) {
	want := planted("()")
	if !sameTree(impl.TreeNew(), want) || !impl.ValidTree(impl.TreeNew()) {
		t.Errorf("a new tree is %+v", impl.TreeNew())
	}
	spoilTree(impl.TreeNew())
	if !sameTree(impl.TreeNew(), want) {
		t.Errorf("two new trees share memory")
	}
	if impl.TreeRank(want, "a") != 0 || len(impl.TreeRange(want, "", "")) != 0 {
		t.Errorf("the empty tree tells keys")
	}
	if res := impl.TreeDelete(want, ""); res.Ok || !sameTree(res.Tree, want) {
		t.Errorf("the empty key leaves the empty tree: %+v", res)
	}
}

type shapeCase struct{ name, from, key, to string }

func checkShapes(t *testing.T, change func(impl.Tree, string) impl.TreeRes, cases []shapeCase) {
	for _, c := range cases {
		from := planted(c.from)
		res := change(from, c.key)
		if !res.Ok || !sameTree(res.Tree, planted(c.to)) {
			t.Errorf("%s: %s, key %q: %v, %+v", c.name, c.from, c.key, res.Ok, res.Tree)
		}
		checkAnswer(t, c.name, from, planted(c.from), res.Tree)
	}
}

func TestP4InsertShapes(t *testing.T) {
	checkShapes(t, impl.TreeInsert, []shapeCase{
		{"empty", "()", "a", "(a)"},
		{"at the front", "(b d)", "a", "(a b d)"},
		{"between", "(b d)", "c", "(b c d)"},
		{"at the end", "(b d f)", "g", "(b d f g)"},
		{"leaf parted, new in the left", "(a b d e)", "c", "((a b c) (d e))"},
		{"leaf parted, new at the front", "(b c d e)", "a", "((a b c) (d e))"},
		{"leaf parted, new in the right", "(a b c e)", "d", "((a b c) (d e))"},
		{"leaf parted, new at the end", "(a b c d)", "e", "((a b c) (d e))"},
		{"between two leaves", "((a b c) (e g))", "d", "((a b c d) (e g))"},
		{"below all", "((b c) (e g))", "a", "((a b c) (e g))"},
		{"above all", "((b c) (e g))", "h", "((b c) (e g h))"},
		{"into a middle leaf", "((b c) (e g) (i k))", "h", "((b c) (e g h) (i k))"},
		{"a first leaf parted", "((a b c e) (f g))", "d", "((a b c) (d e) (f g))"},
		{"a full neighbour is no matter", "((a b) (d e f g))", "c", "((a b c) (d e f g))"},
		{"a middle leaf parted", "((a b) (c d f g) (h i))", "e", "((a b) (c d e) (f g) (h i))"},
		{"root parted, from its first", "((a b c e) (f g) (h i) (j k))", "d", "(((a b c) (d e) (f g)) ((h i) (j k)))"},
		{"root parted, from its last", "((a b) (c d) (e f) (g h i j))", "k", "(((a b) (c d) (e f)) ((g h i) (j k)))"},
		{"inner parted", "(((a b c e) (f g) (h i) (j k)) ((l m) (n o)))", "d", "(((a b c) (d e) (f g)) ((h i) (j k)) ((l m) (n o)))"},
		{"right inner parted", "(((a b) (c d)) ((e f) (g h) (i k l m) (n o)))", "j", "(((a b) (c d)) ((e f) (g h) (i j k)) ((l m) (n o)))"},
		{"below all, two levels", "(((b c) (d e)) ((f g) (h i)))", "a", "(((a b c) (d e)) ((f g) (h i)))"},
		{"between inner nodes", "(((b c) (d e)) ((g h) (i j)))", "f", "(((b c) (d e f)) ((g h) (i j)))"},
		{"a zero byte", "(b)", "\x00", "(\x00 b)"},
	})
}

func TestP4DeleteShapes(t *testing.T) {
	checkShapes(t, impl.TreeDelete, []shapeCase{
		{"the last key", "(a)", "a", "()"},
		{"a small root leaf", "(a b)", "a", "(b)"},
		{"from a root leaf", "(a b c)", "b", "(a c)"},
		{"enough left", "((a b) (c d e))", "d", "((a b) (c e))"},
		{"separator", "((a b c) (d e f) (g h))", "d", "((a b c) (e f) (g h))"},
		{"separator two levels up", "(((a b) (c d)) ((e f g) (h i)))", "e", "(((a b) (c d)) ((f g) (h i)))"},
		{"least of all", "(((a b c) (d e)) ((f g) (h i)))", "a", "(((b c) (d e)) ((f g) (h i)))"},
		{"leaf from the left", "((a b c) (d e))", "e", "((a b) (c d))"},
		{"leaf from the left, its first gone", "((a b c) (d e))", "d", "((a b) (c e))"},
		{"leaf from a full left", "((a b c d) (e f))", "f", "((a b c) (d e))"},
		{"leaf from the left, not the right", "((a b c) (d e) (f g h i))", "d", "((a b) (c e) (f g h i))"},
		{"leaf from the right", "((a b) (c d e))", "a", "((b c) (d e))"},
		{"leaf from a full right", "((a b) (c d e f))", "b", "((a c) (d e f))"},
		{"leaf from the right, the left small", "((a b) (c d) (e f g))", "d", "((a b) (c e) (f g))"},
		{"leaf with the left", "((a b) (c d) (e f))", "c", "((a b d) (e f))"},
		{"last leaf with the left", "((a b) (c d) (e f))", "f", "((a b) (c d e))"},
		{"leaf with the right", "((a b) (c d) (e f))", "a", "((b c d) (e f))"},
		{"root gives way", "((a b) (c d))", "a", "(b c d)"},
		{"root gives way, from the right", "((a b) (c d))", "d", "(a b c)"},
		{"another parent's leaf gives none", "(((a b) (c d e)) ((f g) (h i) (j k)))", "f", "(((a b) (c d e)) ((g h i) (j k)))"},
		{"another parent's leaf gives none, to the left", "(((a b) (c d) (e f)) ((g h i) (j k)))", "f", "(((a b) (c d e)) ((g h i) (j k)))"},
		{"inner from the left", "(((a b) (c d) (e f)) ((g h) (i j)))", "g", "(((a b) (c d)) ((e f) (h i j)))"},
		{"inner from the right", "(((a b) (c d)) ((e f) (g h) (i j)))", "a", "(((b c d) (e f)) ((g h) (i j)))"},
		{"inner from the left, not the right", "(((a b) (c d) (e f)) ((g h) (i j)) ((k l) (m n) (o p)))", "j", "(((a b) (c d)) ((e f) (g h i)) ((k l) (m n) (o p)))"},
		{"inner from the right, the left small", "(((a b) (c d)) ((e f) (g h)) ((i j) (k l) (m n)))", "e", "(((a b) (c d)) ((f g h) (i j)) ((k l) (m n)))"},
		{"inner with the left", "(((a b) (c d)) ((e f) (g h)) ((i j) (k l)))", "e", "(((a b) (c d) (f g h)) ((i j) (k l)))"},
		{"inner with the right", "(((a b) (c d)) ((e f) (g h)) ((i j) (k l)))", "a", "(((b c d) (e f) (g h)) ((i j) (k l)))"},
		{"inner joined, root gives way", "(((a b) (c d e)) ((f g) (h i)))", "f", "((a b) (c d e) (g h i))"},
	})
}

// checkAnswer: the argument is as it was, the answer is valid if the argument was, and the two, and the lists of
// the answer, share no memory.
func checkAnswer(t *testing.T, name string, arg, was, answer impl.Tree) {
	t.Helper()
	if !sameTree(arg, was) {
		t.Errorf("%s: the argument is changed: %+v", name, arg)
	}
	if soundTree(was) && (!impl.ValidTree(answer) || !soundTree(answer)) {
		t.Errorf("%s: not valid: %+v", name, answer)
	}
	told := cloneTree(answer)
	for i := range answer.Nodes {
		answer.Nodes[i].Keys = append(answer.Nodes[i].Keys, "more")
		answer.Nodes[i].Kids = append(answer.Nodes[i].Kids, -7)
	}
	for i, n := range answer.Nodes {
		n.Keys, n.Kids = n.Keys[:len(n.Keys)-1], n.Kids[:len(n.Kids)-1]
		answer.Nodes[i] = n
	}
	if !sameTree(answer, told) {
		t.Errorf("%s: two lists of the answer share memory", name)
	}
	spoilTree(answer)
	if !sameTree(arg, was) {
		t.Errorf("%s: the answer shares memory with the argument", name)
	}
}

func TestP4RefusedKeys(t *testing.T) {
	trees := []string{"()", "(a)", "(b d)", "((b c) (d e))", "(((b c) (d e)) ((g h) (i j)))"}
	for _, s := range trees {
		keys := impl.TreeRange(planted(s), "", "")
		for _, key := range []string{"", "a", "b", "c", "d", "e", "f", "g", "j", "z", strings.Repeat("b", 17), strings.Repeat("\xff", 1000)} {
			there := slices.Contains(keys, key)
			tree := planted(s)
			res := impl.TreeInsert(tree, key)
			if res.Ok != (!there && len(key) <= 16) || !res.Ok && !sameTree(res.Tree, tree) {
				t.Errorf("%s and %q: %v, %+v", s, key, res.Ok, res.Tree)
			}
			checkAnswer(t, s+" insert "+key, tree, planted(s), res.Tree)
			res = impl.TreeDelete(tree, key)
			if res.Ok != there || !res.Ok && !sameTree(res.Tree, tree) {
				t.Errorf("%s without %q: %v, %+v", s, key, res.Ok, res.Tree)
			}
			checkAnswer(t, s+" delete "+key, tree, planted(s), res.Tree)
		}
	}
}

func TestP4KeyLengths(t *testing.T) {
	tree := impl.TreeNew()
	var keys []string
	for n := 16; n >= 0; n-- {
		key := strings.Repeat("\x00", n)
		tree = impl.TreeInsert(tree, key).Tree
		keys = append([]string{key}, keys...)
	}
	for n := range 17 {
		key := strings.Repeat("\xff", n)
		if n > 0 {
			keys = append(keys, key)
		}
		if res := impl.TreeInsert(tree, key); res.Ok != (n > 0) {
			t.Errorf("%d times ff: %v", n, res.Ok)
		} else {
			tree = res.Tree
		}
	}
	if got := impl.TreeRange(tree, "", ""); !slices.Equal(got, keys) {
		t.Errorf("the keys are %q", got)
	}
	if impl.TreeRank(tree, "") != 0 || impl.TreeRank(tree, "\x00") != 1 || impl.TreeRank(tree, strings.Repeat("\x00", 17)) != 17 {
		t.Errorf("ranks of short keys")
	}
	if res := impl.TreeDelete(tree, ""); !res.Ok || !slices.Equal(impl.TreeRange(res.Tree, "", ""), keys[1:]) {
		t.Errorf("the empty key stays")
	}
}

func TestP4RangesAndRanks(t *testing.T) {
	for _, s := range []string{"()", "(c)", "(b d f h)", "((b d) (f h j))", "(((b d) (f h)) ((j l m) (n o p r)) ((s t) (u v)))"} {
		tree := planted(s)
		var keys []string
		for _, n := range tree.Nodes {
			if n.Leaf {
				keys = append(keys, n.Keys...)
			}
		}
		var bounds []string
		for c := 'a'; c <= 'x'; c++ {
			bounds = append(bounds, string(c), string(c)+"\x00")
		}
		bounds = append(bounds, "", "\xff", strings.Repeat("m", 40))
		for _, lo := range bounds {
			checkRank(t, tree, keys, lo)
			for _, hi := range bounds {
				checkRange(t, tree, keys, lo, hi)
			}
		}
		if !sameTree(tree, planted(s)) {
			t.Errorf("%s is changed by asking", s)
		}
	}
}

func checkRank(t *testing.T, tree impl.Tree, keys []string, key string) {
	t.Helper()
	want := int64(0)
	for _, k := range keys {
		if k < key {
			want++
		}
	}
	if got := impl.TreeRank(tree, key); got != want {
		t.Errorf("rank of %q among %q: %d, not %d", key, keys, got, want)
	}
}

func checkRange(t *testing.T, tree impl.Tree, keys []string, lo, hi string) {
	t.Helper()
	var want []string
	for _, k := range keys {
		if k >= lo && (hi == "" || k < hi) {
			want = append(want, k)
		}
	}
	got := impl.TreeRange(tree, lo, hi)
	if !slices.Equal(got, want) {
		t.Errorf("range %q to %q of %q: %q", lo, hi, keys, got)
	}
	for i := range got {
		got[i] = "spoilt"
	}
	if again := impl.TreeRange(tree, lo, hi); !slices.Equal(again, want) {
		t.Errorf("a range shares memory with the tree")
	}
}

// A long row of inserts and deletes, held against an ordered list and, node by node, against the levels.
func TestP4LongRows(t *testing.T) {
	seen := map[string]int{}
	for seed, width := range []int{6, 20, 60, 200, 1000, 5000} {
		r := rand.New(rand.NewSource(int64(seed)))
		m := &levels{leaves: [][]string{nil}}
		tree := impl.TreeNew()
		var list []string
		for step := range 1500 {
			// Rising and falling, so that the tree is high and low in turn.
			insert := r.Intn(10) < 8
			if step/300%2 == 1 {
				insert = r.Intn(10) < 3
			}
			key := randomKey(r, width)
			if !insert && len(list) > 0 && r.Intn(8) > 0 {
				key = list[r.Intn(len(list))]
			}
			at, there := slices.BinarySearch(list, key)
			was := cloneTree(tree)
			var res impl.TreeRes
			if insert {
				res = impl.TreeInsert(tree, key)
				if !there {
					list = slices.Insert(list, at, key)
					m.insert(key)
				}
			} else {
				res = impl.TreeDelete(tree, key)
				if there {
					list = slices.Delete(list, at, at+1)
					for _, s := range m.remove(key) {
						seen[s]++
					}
				}
			}
			if res.Ok != (insert != there) || !sameTree(tree, was) || !sameTree(res.Tree, m.tree()) {
				t.Fatalf("seed %d, step %d: insert %v, %q: %v, %+v, not %+v", seed, step, insert, key, res.Ok, res.Tree, m.tree())
			}
			if !impl.ValidTree(res.Tree) || !soundTree(res.Tree) {
				t.Fatalf("seed %d, step %d: not valid", seed, step)
			}
			tree = res.Tree
			if step%10 == 0 {
				checkRank(t, tree, list, randomKey(r, width))
				checkRange(t, tree, list, randomKey(r, width), randomKey(r, width))
				checkRange(t, tree, list, "", "")
			}
		}
	}
	for _, s := range []string{"from the left", "from the right", "with the left", "with the right"} {
		if seen["leaf "+s] == 0 || seen["inner "+s] == 0 {
			t.Errorf("never seen: %s: %v", s, seen)
		}
	}
	if seen["root"] == 0 {
		t.Errorf("no root gave way")
	}
}

// The tree is emptied in orders that go at one end, at the other, and from the middle.
func TestP4DownToEmpty(t *testing.T) {
	const n = 200
	orders := map[string]func(left int) int{
		"first":  func(left int) int { return 0 },
		"last":   func(left int) int { return left - 1 },
		"middle": func(left int) int { return left / 2 },
	}
	for name, pick := range orders {
		m := &levels{leaves: [][]string{nil}}
		tree := impl.TreeNew()
		var list []string
		for i := range n {
			tree = impl.TreeInsert(tree, number(i)).Tree
			m.insert(number(i))
			list = append(list, number(i))
		}
		for len(list) > 0 {
			at := pick(len(list))
			m.remove(list[at])
			tree = impl.TreeDelete(tree, list[at]).Tree
			list = slices.Delete(list, at, at+1)
			if !sameTree(tree, m.tree()) || !impl.ValidTree(tree) {
				t.Fatalf("%s, %d keys left: %+v", name, len(list), tree)
			}
		}
		if !sameTree(tree, impl.TreeNew()) {
			t.Errorf("%s: not empty: %+v", name, tree)
		}
	}
}

// bigTree has exactly this many nodes: leaves of two keys, but the first of four under a parent of so many
// children.
func bigTree(t *testing.T, nodes int, firstKids int) *levels {
	for leaves := nodes*2/3 + 10; leaves > nodes/2; leaves-- {
		for parents := leaves / 3; parents > leaves/3-5; parents-- {
			m := &levels{leaves: make([][]string, leaves), groups: [][]int{evenly(leaves, parents)}}
			g := m.groups[0]
			g[0], g[1] = firstKids, g[0]+g[1]-firstKids
			m.raise(3)
			if m.nodeCount() == nodes && g[1] >= 2 && g[1] <= 4 {
				for i := range m.leaves {
					m.leaves[i] = []string{number(2 * i), number(2*i + 1)}
				}
				m.leaves[0] = []string{number(0), "0000001", "0000002", number(1)}
				return m
			}
		}
	}
	t.Fatalf("no tree of %d nodes with %d children first", nodes, firstKids)
	return nil
}

func TestP4NodeMax(t *testing.T) {
	first, low := number(0), "0"
	cases := []struct {
		nodes, firstKids int
		ok               bool
	}{
		{5000, 3, false}, {5000, 4, false}, {4999, 3, true}, {4999, 4, false}, {4998, 4, true},
	}
	for _, c := range cases {
		m := bigTree(t, c.nodes, c.firstKids)
		tree := m.tree()
		if len(tree.Nodes) != c.nodes || !impl.ValidTree(tree) {
			t.Fatalf("%d nodes, %d: not valid", c.nodes, c.firstKids)
		}
		was := cloneTree(tree)
		res := impl.TreeInsert(tree, low)
		want := tree
		if c.ok {
			m.insert(low)
			want = m.tree()
		}
		if res.Ok != c.ok || !sameTree(res.Tree, want) || !impl.ValidTree(res.Tree) {
			t.Errorf("a leaf of %d nodes parted under %d: %v, %d nodes", c.nodes, c.firstKids, res.Ok, len(res.Tree.Nodes))
		}
		checkAnswer(t, "big", tree, was, res.Tree)
		if got := impl.TreeRank(tree, "z"); got != was.Nodes[0].Count {
			t.Errorf("the keys of %d nodes are %d", c.nodes, got)
		}
	}
	m := bigTree(t, 5000, 3)
	tree := m.tree()
	if res := impl.TreeInsert(tree, "zz"); !res.Ok || len(res.Tree.Nodes) != 5000 || !impl.ValidTree(res.Tree) {
		t.Errorf("there is room in the last leaf of 5000 nodes: %v", res.Ok)
	}
	m.remove(first)
	if res := impl.TreeDelete(tree, first); !res.Ok || !sameTree(res.Tree, m.tree()) {
		t.Errorf("a key of 5000 nodes is not deleted")
	}
}

// invalidTrees breaks each rule of ValidTree, most of them alone.
func invalidTrees(t *testing.T) map[string]impl.Tree {
	two := func(change func(n []impl.TNode)) impl.Tree {
		tree := planted("((b d) (f h j))")
		change(tree.Nodes)
		return tree
	}
	// Node 0 the root, 1 and 4 inner, 2, 3, 5, 6 leaves.
	three := func(change func(n []impl.TNode)) impl.Tree {
		tree := planted("(((b d) (f h)) ((j l) (n p)))")
		change(tree.Nodes)
		return tree
	}
	long := strings.Repeat("j", 17)
	return map[string]impl.Tree{
		"no nodes":               {},
		"5001 nodes":             bigTree(t, 5001, 3).tree(),
		"a leaf too many":        {Nodes: append(planted("((b d) (f h j))").Nodes, leafOf("k", "l"))},
		"two roots":              {Nodes: []impl.TNode{leafOf("a"), leafOf("b")}},
		"a node missing":         {Nodes: planted("((b d) (f h j))").Nodes[:2]},
		"children changed about": two(func(n []impl.TNode) { n[1], n[2] = n[2], n[1]; n[0].Kids = []int64{2, 1} }),
		"leaves changed about":   two(func(n []impl.TNode) { n[1], n[2] = n[2], n[1]; n[0].Keys[0] = "b" }),
		"a child twice":          two(func(n []impl.TNode) { n[0].Kids = []int64{1, 1} }),
		"the root its own child": two(func(n []impl.TNode) { n[0].Kids = []int64{0, 1} }),
		"child -1":               two(func(n []impl.TNode) { n[0].Kids = []int64{-1, 2} }),
		"child 3 of 0..2":        two(func(n []impl.TNode) { n[0].Kids = []int64{1, 3} }),
		"child far off":          two(func(n []impl.TNode) { n[0].Kids = []int64{math.MinInt64, math.MaxInt64} }),
		"level by level": {Nodes: []impl.TNode{
			{Keys: []string{"j"}, Kids: []int64{1, 2}, Count: 8}, {Keys: []string{"f"}, Kids: []int64{3, 4}, Count: 4},
			{Keys: []string{"n"}, Kids: []int64{5, 6}, Count: 4}, leafOf("b", "d"), leafOf("f", "h"), leafOf("j", "l"), leafOf("n", "p")}},
		"children first":                     {Nodes: []impl.TNode{leafOf("b", "d"), leafOf("f", "h"), {Keys: []string{"f"}, Kids: []int64{0, 1}, Count: 4}}},
		"a leaf higher":                      planted("(((b d) (f h)) (j l))"),
		"a leaf deeper":                      planted("((b d) ((f h) (j l)))"),
		"far too deep":                       chain(5000),
		"keys descend":                       planted("(b a)"),
		"a key twice":                        planted("(b b)"),
		"keys descend from leaf to leaf":     planted("((b h) (f j))"),
		"a key twice, in two leaves":         planted("((b d) (d f))"),
		"keys descend from parent to parent": planted("(((b d) (f k)) ((j l) (n p)))"),
		"a key of 17 bytes":                  planted("(b " + long + ")"),
		"a long key below":                   planted("((b d) (f " + long + "))"),
		"a leaf of five":                     planted("(a b c d e)"),
		"a leaf of five below":               planted("((a b c d e) (f g))"),
		"a leaf of one below":                planted("((b) (f h j))"),
		"a leaf of one at the end":           planted("((b d) (f))"),
		"a leaf of none below":               two(func(n []impl.TNode) { n[1] = leafOf(); n[0].Count = 3 }),
		"an inner node of one":               {Nodes: []impl.TNode{{Kids: []int64{1}, Count: 2}, leafOf("a", "b")}},
		"an inner node of one below":         planted("(((b d)) ((j l) (n p)))"),
		"an inner node of none":              {Nodes: []impl.TNode{{}}},
		"an inner node of five":              planted("((a b) (c d) (e f) (g h) (i j))"),
		"a leaf with a child":                {Nodes: []impl.TNode{{Leaf: true, Keys: []string{"a"}, Kids: []int64{1}, Count: 1}, leafOf("b", "c")}},
		"a leaf with child 0":                two(func(n []impl.TNode) { n[2].Kids = []int64{0} }),
		"a leaf that is told inner":          two(func(n []impl.TNode) { n[1].Leaf = false }),
		"an empty root that is told inner":   {Nodes: []impl.TNode{{Leaf: false}}},
		"a root that is told a leaf":         two(func(n []impl.TNode) { n[0].Leaf = true }),
		"an inner node that is told a leaf":  three(func(n []impl.TNode) { n[4].Leaf = true }),
		"no separator":                       two(func(n []impl.TNode) { n[0].Keys = nil }),
		"a separator too many":               two(func(n []impl.TNode) { n[0].Keys = []string{"f", "j"} }),
		"a separator ahead":                  two(func(n []impl.TNode) { n[0].Keys = []string{"b", "f"} }),
		"separator too low":                  two(func(n []impl.TNode) { n[0].Keys[0] = "e" }),
		"separator too high":                 two(func(n []impl.TNode) { n[0].Keys[0] = "h" }),
		"separator the least of the first":   two(func(n []impl.TNode) { n[0].Keys[0] = "b" }),
		"separator too low at the top":       three(func(n []impl.TNode) { n[0].Keys[0] = "i" }),
		"separator wrong below":              three(func(n []impl.TNode) { n[4].Keys[0] = "m" }),
		"a third separator wrong":            wrongLast(planted("((a b) (c d) (e f) (g h))")),
		"count of an empty leaf":             {Nodes: []impl.TNode{{Leaf: true, Count: 1}}},
		"count of a leaf too low":            two(func(n []impl.TNode) { n[1].Count-- }),
		"count of a leaf too high":           two(func(n []impl.TNode) { n[2].Count++ }),
		"counts of leaves make up":           two(func(n []impl.TNode) { n[1].Count++; n[2].Count-- }),
		"a leaf's count in its parent":       two(func(n []impl.TNode) { n[1].Count++; n[0].Count++ }),
		"count of the root too low":          two(func(n []impl.TNode) { n[0].Count-- }),
		"count of the root too high":         two(func(n []impl.TNode) { n[0].Count++ }),
		"count of the root 0":                two(func(n []impl.TNode) { n[0].Count = 0 }),
		"count of the root its children":     three(func(n []impl.TNode) { n[0].Count = 2 }),
		"count of an inner node":             three(func(n []impl.TNode) { n[4].Count = 5 }),
		"counts below 0":                     two(func(n []impl.TNode) { n[0].Count = math.MinInt64 }),
	}
}

// chain is a row of inner nodes, each the first child of the one before it.
func chain(n int) impl.Tree {
	var t impl.Tree
	for i := range n {
		t.Nodes = append(t.Nodes, impl.TNode{Keys: []string{"a"}, Kids: []int64{int64(i + 1), int64(i + 2)}, Count: 1})
	}
	return t
}

func wrongLast(t impl.Tree) impl.Tree {
	root := &t.Nodes[0]
	root.Keys[len(root.Keys)-1] = "h"
	return t
}

func TestP4InvalidTrees(t *testing.T) {
	for name, tree := range invalidTrees(t) {
		was := cloneTree(tree)
		if impl.ValidTree(tree) || soundTree(tree) {
			t.Errorf("%s: valid", name)
		}
		if impl.TreeRank(tree, "z") != 0 || len(impl.TreeRange(tree, "", "")) != 0 {
			t.Errorf("%s: tells keys", name)
		}
		if res := impl.TreeInsert(tree, "x"); res.Ok || !sameTree(res.Tree, was) {
			t.Errorf("%s: a key is inserted", name)
		} else {
			checkAnswer(t, name, tree, was, res.Tree)
		}
		for _, key := range []string{"b", "f", "", "x"} {
			if res := impl.TreeDelete(tree, key); res.Ok || !sameTree(res.Tree, was) {
				t.Errorf("%s: %q is deleted", name, key)
			} else {
				checkAnswer(t, name, tree, was, res.Tree)
			}
		}
	}
}

func TestP4ValidTrees(t *testing.T) {
	for _, s := range []string{"()", "(a)", "(a b)", "(a b c d)", "((a b) (c d))", "((a b c d) (e f) (g h i) (j k))",
		"(((b d) (f h)) ((j l) (n p)))", "((a b) (c " + strings.Repeat("d", 16) + "))"} {
		if !impl.ValidTree(planted(s)) {
			t.Errorf("%s: not valid", s)
		}
	}
	first := leafOf("", "a")
	if !impl.ValidTree(impl.Tree{Nodes: []impl.TNode{first}}) {
		t.Errorf("the empty key first: not valid")
	}
	empty := impl.Tree{Nodes: []impl.TNode{{Leaf: true, Keys: []string{}, Kids: []int64{}}}}
	if !impl.ValidTree(empty) {
		t.Errorf("empty lists are not as nil")
	}
	for _, n := range []int{5000, 4999} {
		if !impl.ValidTree(bigTree(t, n, 3).tree()) {
			t.Errorf("%d nodes: not valid", n)
		}
	}
}

// One thing of a valid tree changed at random; mostly it is not valid then.
func TestP4SpoiltTrees(t *testing.T) {
	r := rand.New(rand.NewSource(4))
	for range 20000 {
		var sizes []int
		for range 1 + r.Intn(12) {
			sizes = append(sizes, 2+r.Intn(3))
		}
		tree := levelsOf(sizes, number, 2+r.Intn(2)).tree()
		spoilOne(r, &tree)
		want := soundTree(tree)
		if got := impl.ValidTree(tree); got != want {
			t.Fatalf("valid %v: %+v", got, tree)
		}
		if res := impl.TreeInsert(tree, "x"); res.Ok != want {
			t.Fatalf("inserted %v: %+v", res.Ok, tree)
		}
	}
}

func spoilOne(r *rand.Rand, tree *impl.Tree) {
	i := r.Intn(len(tree.Nodes))
	n := &tree.Nodes[i]
	switch r.Intn(8) {
	case 0:
		n.Leaf = !n.Leaf
	case 1:
		n.Count += int64(r.Intn(3) - 1)
	case 2:
		tree.Nodes = slices.Delete(tree.Nodes, i, i+1)
	case 3:
		tree.Nodes = slices.Insert(tree.Nodes, i, tree.Nodes[r.Intn(len(tree.Nodes))])
	case 4:
		if len(n.Keys) > 0 {
			n.Keys[r.Intn(len(n.Keys))] = fmt.Sprintf("%06d", r.Intn(60))
		}
	case 5:
		if len(n.Kids) > 0 {
			n.Kids[r.Intn(len(n.Kids))] += int64(r.Intn(3) - 1)
		}
	case 6:
		n.Keys = append(n.Keys, fmt.Sprintf("%06d", r.Intn(60)))
	case 7:
		n.Kids = append(n.Kids, int64(r.Intn(len(tree.Nodes)+1)))
	}
}
