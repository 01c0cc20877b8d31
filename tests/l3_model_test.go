package tests

import (
	"math/rand"
	"slices"
	"sort"

	"loop.example/s01136/impl"
)

// levels is a tree told level by level: the leaves from left to right, and above them the numbers of children
// of the nodes of each level, from left to right; the last level has one node.
type levels struct {
	leaves [][]string
	groups [][]int
}

func (m *levels) sizes(level int) []int {
	if level > 0 {
		return m.groups[level-1]
	}
	var sizes []int
	for _, l := range m.leaves {
		sizes = append(sizes, len(l))
	}
	return sizes
}

func (m *levels) keys() []string {
	return slices.Concat(m.leaves...)
}

// leafFor is the leaf into which a key goes: the last one whose smallest key is not above it.
func (m *levels) leafFor(key string) int {
	at := 0
	for i, l := range m.leaves {
		if i > 0 && l[0] <= key {
			at = i
		}
	}
	return at
}

// parent tells which node of the level above holds node i of a level, and where the children of that one begin.
func (m *levels) parent(level, i int) (int, int) {
	begin := 0
	for p, size := range m.groups[level] {
		if i < begin+size {
			return p, begin
		}
		begin += size
	}
	panic("no parent")
}

func (m *levels) insert(key string) {
	i := m.leafFor(key)
	l := append(slices.Clone(m.leaves[i]), key)
	sort.Strings(l)
	m.leaves[i] = l
	if len(l) < 5 {
		return
	}
	m.leaves = slices.Replace(m.leaves, i, i+1, l[:3:3], l[3:])
	for level := 0; ; level++ {
		if level == len(m.groups) {
			m.groups = append(m.groups, []int{2})
			return
		}
		p, _ := m.parent(level, i)
		m.groups[level][p]++
		if m.groups[level][p] < 5 {
			return
		}
		m.groups[level] = slices.Replace(m.groups[level], p, p+1, 3, 2)
		i = p
	}
}

// remove also tells the steps that it took, for a test that wants to see them all.
func (m *levels) remove(key string) []string {
	var steps []string
	i := m.leafFor(key)
	at := slices.Index(m.leaves[i], key)
	m.leaves[i] = slices.Delete(slices.Clone(m.leaves[i]), at, at+1)
	for level := 0; level < len(m.groups) && m.sizes(level)[i] < 2; level++ {
		p, begin := m.parent(level, i)
		end := begin + m.groups[level][p]
		kind := []string{"leaf ", "inner "}[min(level, 1)]
		sizes := m.sizes(level)
		switch {
		case i > begin && sizes[i-1] > 2:
			m.shift(level, i-1, i)
			steps = append(steps, kind+"from the left")
			return steps
		case i+1 < end && sizes[i+1] > 2:
			m.shift(level, i+1, i)
			steps = append(steps, kind+"from the right")
			return steps
		case i > begin:
			m.join(level, i-1)
			steps = append(steps, kind+"with the left")
		default:
			m.join(level, i)
			steps = append(steps, kind+"with the right")
		}
		m.groups[level][p]--
		i = p
	}
	if n := len(m.groups); n > 0 && m.groups[n-1][0] == 1 {
		m.groups = m.groups[:n-1]
		steps = append(steps, "root")
	}
	return steps
}

// shift moves one key or child between two neighbours.
func (m *levels) shift(level, from, to int) {
	if level > 0 {
		m.groups[level-1][from]--
		m.groups[level-1][to]++
		return
	}
	left := min(from, to)
	all := slices.Concat(m.leaves[left], m.leaves[left+1])
	stay := len(m.leaves[left]) - 1
	if from > to {
		stay = len(m.leaves[left]) + 1
	}
	m.leaves[left], m.leaves[left+1] = all[:stay:stay], all[stay:]
}

func (m *levels) join(level, i int) {
	if level > 0 {
		g := m.groups[level-1]
		m.groups[level-1] = slices.Replace(g, i, i+2, g[i]+g[i+1])
		return
	}
	m.leaves = slices.Replace(m.leaves, i, i+2, slices.Concat(m.leaves[i], m.leaves[i+1]))
}

// tree lays the levels out as chapter 3 says.
func (m *levels) tree() impl.Tree {
	var t impl.Tree
	m.lay(&t, len(m.groups), 0)
	return t
}

// lay adds node i of a level and all below it; the answer is the keys below it.
func (m *levels) lay(t *impl.Tree, level, i int) []string {
	if level == 0 {
		l := m.leaves[i]
		t.Nodes = append(t.Nodes, impl.TNode{Leaf: true, Keys: slices.Clone(l), Count: int64(len(l))})
		return l
	}
	first := 0
	for _, size := range m.groups[level-1][:i] {
		first += size
	}
	at := len(t.Nodes)
	t.Nodes = append(t.Nodes, impl.TNode{})
	var n impl.TNode
	var all []string
	for k := range m.groups[level-1][i] {
		n.Kids = append(n.Kids, int64(len(t.Nodes)))
		below := m.lay(t, level-1, first+k)
		if k > 0 {
			n.Keys = append(n.Keys, below[0])
		}
		all = append(all, below...)
	}
	n.Count = int64(len(all))
	t.Nodes[at] = n
	return all
}

// levelsOf puts keys into leaves of these sizes, with groups of about groupSize above them.
func levelsOf(sizes []int, key func(i int) string, groupSize int) *levels {
	m := &levels{}
	n := 0
	for _, size := range sizes {
		var l []string
		for range size {
			l = append(l, key(n))
			n++
		}
		m.leaves = append(m.leaves, l)
	}
	if len(sizes) > 1 {
		m.groups = [][]int{evenly(len(sizes), groupCount(len(sizes), groupSize))}
		m.raise(groupSize)
	}
	return m
}

// raise adds levels of groups of about the size above the highest one, until one has one node.
func (m *levels) raise(groupSize int) {
	for {
		width := len(m.groups[len(m.groups)-1])
		if width == 1 {
			return
		}
		m.groups = append(m.groups, evenly(width, groupCount(width, groupSize)))
	}
}

// groupCount is how many groups of about the size, and all of 2..4, there are.
func groupCount(width, size int) int {
	return max(width/size, (width+3)/4)
}

// evenly parts width into n groups.
func evenly(width, n int) []int {
	groups := make([]int, n)
	for i := range groups {
		groups[i] = width*(i+1)/n - width*i/n
	}
	return groups
}

func (m *levels) nodeCount() int {
	n := len(m.leaves)
	for _, g := range m.groups {
		n += len(g)
	}
	return n
}

func cloneTree(t impl.Tree) impl.Tree {
	var c impl.Tree
	for _, n := range t.Nodes {
		n.Keys, n.Kids = slices.Clone(n.Keys), slices.Clone(n.Kids)
		c.Nodes = append(c.Nodes, n)
	}
	return c
}

func sameTree(a, b impl.Tree) bool {
	return slices.EqualFunc(a.Nodes, b.Nodes, func(x, y impl.TNode) bool {
		return x.Leaf == y.Leaf && x.Count == y.Count && slices.Equal(x.Keys, y.Keys) && slices.Equal(x.Kids, y.Kids)
	})
}

// spoilTree writes into all of a tree's lists, also into the room behind them, to show who else holds its memory.
func spoilTree(t impl.Tree) {
	for i := range t.Nodes[:cap(t.Nodes)] {
		n := &t.Nodes[:cap(t.Nodes)][i]
		for k := range n.Keys[:cap(n.Keys)] {
			n.Keys[:cap(n.Keys)][k] = "spoilt"
		}
		for k := range n.Kids[:cap(n.Kids)] {
			n.Kids[:cap(n.Kids)][k] = -9
		}
		n.Leaf, n.Count = !n.Leaf, -9
	}
}

// soundTree says by another way whether a tree is valid: the sizes of its nodes are gathered level by level from
// the claims of the nodes alone, and the tree that these make must be the same.
func soundTree(t impl.Tree) bool {
	if len(t.Nodes) < 1 || len(t.Nodes) > impl.NodeMax {
		return false
	}
	m := &levels{}
	row := []int64{0}
	for !t.Nodes[row[0]].Leaf {
		var below []int64
		var sizes []int
		for _, number := range row {
			n := t.Nodes[number]
			if n.Leaf || len(n.Kids) < 2 || len(n.Kids) > 4 {
				return false
			}
			sizes = append(sizes, len(n.Kids))
			below = append(below, n.Kids...)
		}
		for _, number := range below {
			if number < 1 || number >= int64(len(t.Nodes)) {
				return false
			}
		}
		if len(below) > len(t.Nodes) {
			return false
		}
		m.groups = slices.Insert(m.groups, 0, sizes)
		row = below
	}
	for _, number := range row {
		n := t.Nodes[number]
		if !n.Leaf || len(n.Keys) > 4 || len(row) > 1 && len(n.Keys) < 2 {
			return false
		}
		m.leaves = append(m.leaves, n.Keys)
	}
	keys := m.keys()
	for i, key := range keys {
		if len(key) > 16 || i > 0 && keys[i-1] >= key {
			return false
		}
	}
	return sameTree(t, m.tree())
}

// randomKey draws from a pool of the given width of keys of all lengths and all bytes.
func randomKey(r *rand.Rand, width int) string {
	own := rand.New(rand.NewSource(int64(r.Intn(width))))
	b := make([]byte, own.Intn(17))
	for i := range b {
		b[i] = []byte{0, 1, 'a', 'b', 127, 128, 255}[own.Intn(7)]
	}
	return string(b)
}
