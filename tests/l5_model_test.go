package tests

import (
	"encoding/binary"
	"math/rand"
	"slices"
	"strings"

	"loop.example/s01136/impl"
)

// orderNames tells the orders of chapter 5 by the letters of their parts.
var orderNames = []string{"SPOG", "POSG", "OSPG", "GSPO", "GPOS", "GOSP"}

// partOf is a part of a quad by its letter.
func partOf(q *impl.Quad, letter byte) *int64 {
	switch letter {
	case 'S':
		return &q.S
	case 'P':
		return &q.P
	case 'O':
		return &q.O
	}
	return &q.G
}

func quadKey(q impl.Quad, perm int) string {
	var key []byte
	for _, letter := range []byte(orderNames[perm]) {
		key = binary.BigEndian.AppendUint32(key, uint32(*partOf(&q, letter)))
	}
	return string(key)
}

// quadsOf reads the quads out of the leaves of a tree; false if a key is not that of a quad.
func quadsOf(tree impl.Tree, perm int) ([]impl.Quad, bool) {
	var quads []impl.Quad
	for _, n := range tree.Nodes {
		for i := range n.Keys {
			key := []byte(n.Keys[i])
			if !n.Leaf {
				continue
			}
			if len(key) != 16 {
				return nil, false
			}
			var q impl.Quad
			for k, letter := range []byte(orderNames[perm]) {
				part := int64(binary.BigEndian.Uint32(key[4*k:]))
				if part < 1 || part > 2000000000 {
					return nil, false
				}
				*partOf(&q, letter) = part
			}
			quads = append(quads, q)
		}
	}
	return quads, true
}

// sortedIn gives the quads in the order of their keys.
func sortedIn(quads []impl.Quad, perm int) []impl.Quad {
	sorted := slices.Clone(quads)
	slices.SortFunc(sorted, func(a, b impl.Quad) int {
		for _, letter := range []byte(orderNames[perm]) {
			if x, y := *partOf(&a, letter), *partOf(&b, letter); x != y {
				return int(x - y)
			}
		}
		return 0
	})
	return sorted
}

// matching are the quads that have the bound parts of a pattern.
func matching(quads []impl.Quad, pattern impl.Quad) []impl.Quad {
	var found []impl.Quad
	for _, q := range quads {
		fits := true
		for _, letter := range []byte("SPOG") {
			bound := *partOf(&pattern, letter)
			fits = fits && (bound == 0 || bound == *partOf(&q, letter))
		}
		if fits {
			found = append(found, q)
		}
	}
	return found
}

// eligibleBy says by another way whether an order is eligible: its letters are cut where as many parts are bound,
// and each bound part must stand ahead of the cut.
func eligibleBy(perm int64, pattern impl.Quad) bool {
	if perm < 0 || perm > 5 {
		return false
	}
	var bound []byte
	for _, letter := range []byte("SPOG") {
		part := *partOf(&pattern, letter)
		if part < 0 || part > 2000000000 {
			return false
		}
		if part > 0 {
			bound = append(bound, letter)
		}
	}
	front := orderNames[perm][:len(bound)]
	for _, letter := range bound {
		if strings.IndexByte(front, letter) < 0 {
			return false
		}
	}
	return true
}

// sixLevels is an index told level by level.
type sixLevels [6]*levels

func newSixLevels() *sixLevels {
	m := &sixLevels{}
	for perm := range m {
		m[perm] = &levels{leaves: [][]string{nil}}
	}
	return m
}

func (m *sixLevels) insert(q impl.Quad) {
	for perm := range m {
		m[perm].insert(quadKey(q, perm))
	}
}

func (m *sixLevels) remove(q impl.Quad) {
	for perm := range m {
		m[perm].remove(quadKey(q, perm))
	}
}

func (m *sixLevels) index() impl.Index {
	var ix impl.Index
	for perm := range m {
		ix.Trees = append(ix.Trees, m[perm].tree())
	}
	return ix
}

// indexOf lays out the index into which the quads were put in their order.
func indexOf(quads ...impl.Quad) impl.Index {
	m := newSixLevels()
	for _, q := range quads {
		m.insert(q)
	}
	return m.index()
}

func cloneIndex(ix impl.Index) impl.Index {
	var c impl.Index
	for _, tree := range ix.Trees {
		c.Trees = append(c.Trees, cloneTree(tree))
	}
	return c
}

func sameIndex(a, b impl.Index) bool {
	return slices.EqualFunc(a.Trees, b.Trees, sameTree)
}

func spoilIndex(ix impl.Index) {
	for i := range ix.Trees {
		spoilTree(ix.Trees[i])
		ix.Trees[i] = impl.Tree{}
	}
}

// soundIndex says by another way whether an index is valid: the quads of every tree, sorted alike, are the same.
func soundIndex(ix impl.Index) bool {
	if len(ix.Trees) != 6 {
		return false
	}
	var first []impl.Quad
	for perm, tree := range ix.Trees {
		if !soundTree(tree) {
			return false
		}
		quads, ok := quadsOf(tree, perm)
		if !ok || len(quads) > 300 {
			return false
		}
		quads = sortedIn(quads, impl.SPOG)
		if perm == 0 {
			first = quads
		}
		if !slices.Equal(first, quads) {
			return false
		}
	}
	return true
}

// edgeParts are small parts, and those of which one of four bytes is at its bounds.
var edgeParts = []int64{1, 2, 3, 255, 256, 257, 65535, 65536, 1 << 24, 1<<24 + 1, 118<<24 | 255<<16 | 255, 1999999999, 2000000000}

// randomQuad draws its parts from the first ones of edgeParts.
func randomQuad(r *rand.Rand, width int) impl.Quad {
	draw := func() int64 { return edgeParts[r.Intn(width)] }
	return impl.Quad{S: draw(), P: draw(), O: draw(), G: draw()}
}

// quadNumber is the i-th of many quads.
func quadNumber(i int) impl.Quad {
	return impl.Quad{S: int64(i%7 + 1), P: int64(i%3 + 1), O: int64(i + 1), G: int64(i%2 + 1)}
}

func manyQuads(n int) []impl.Quad {
	var quads []impl.Quad
	for i := range n {
		quads = append(quads, quadNumber(i))
	}
	return quads
}
