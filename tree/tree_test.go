package tree_test

import (
	"bytes"
	"crypto/sha1"
	"math"
	"math/bits"
	"math/rand"
	"slices"
	"testing"

	"bitloft/api"
	"bitloft/tree"
)

func leaf(b []byte) api.Sum {
	return sha1.Sum(append([]byte{0}, b...))
}

func node(a, b api.Sum) api.Sum {
	return sha1.Sum(slices.Concat([]byte{1}, a[:], b[:]))
}

func part(n int) int {
	k := 1
	for 2*k < n {
		k *= 2
	}
	return k
}

// root is the definition.
func root(l [][]byte) api.Sum {
	if len(l) == 0 {
		return api.Sum{}
	}
	if len(l) == 1 {
		return leaf(l[0])
	}
	k := part(len(l))
	return node(root(l[:k]), root(l[k:]))
}

// proof is the definition.
func proof(l [][]byte, i int) []api.Sum {
	if len(l) == 1 {
		return nil
	}
	k := part(len(l))
	if i < k {
		return append(proof(l[:k], i), root(l[k:]))
	}
	return append(proof(l[k:], i-k), root(l[:k]))
}

func some(seed int64, n int) [][]byte {
	r := rand.New(rand.NewSource(seed))
	l := make([][]byte, n)
	for i := range l {
		l[i] = make([]byte, r.Intn(40))
		r.Read(l[i])
	}
	return l
}

func TestExamples(t *testing.T) {
	if r, e := tree.Root(nil); e != api.OK || r != (api.Sum{}) {
		t.Error(r, e)
	}
	a, b, c := []byte("a"), []byte("b"), []byte("c")
	if r, e := tree.Root([][]byte{a}); e != api.OK || r != leaf(a) {
		t.Error(r, e)
	}
	if r, e := tree.Root([][]byte{a, b, c}); e != api.OK || r != node(node(leaf(a), leaf(b)), leaf(c)) {
		t.Error(r, e)
	}
	for i, want := range []int{2, 2, 1} {
		if n, e := tree.Steps(3, i); e != api.OK || n != want {
			t.Error(i, n, e)
		}
	}
}

func TestLeaf(t *testing.T) {
	long := make([]byte, api.MaxLeaf+1)
	for _, n := range []int{0, 1, 55, 64, api.MaxLeaf} {
		if d, e := tree.Leaf(long[:n]); e != api.OK || d != leaf(long[:n]) {
			t.Error(n, d, e)
		}
	}
	if d, e := tree.Leaf(long); e != api.ErrMany || d != (api.Sum{}) {
		t.Error(d, e)
	}
}

func TestRootsAndProofs(t *testing.T) {
	for n := range 70 {
		l := some(int64(n), n)
		before := some(int64(n), n)
		r, e := tree.Root(l)
		if e != api.OK || r != root(l) {
			t.Fatal(n, e)
		}
		for i := range l {
			p, e := tree.Prove(l, i)
			if e != api.OK || !slices.Equal(p, proof(l, i)) {
				t.Fatal(n, i, p, e)
			}
			if k, e := tree.Steps(n, i); e != api.OK || k != len(p) || k > bits.Len(uint(n-1)) {
				t.Fatal(n, i, k, e)
			}
			if up, e := tree.Up(n, i, leaf(l[i]), p); e != api.OK || up != r {
				t.Fatal(n, i, e)
			}
			if is, e := tree.Verify(r, n, i, l[i], p); e != api.OK || !is {
				t.Fatal(n, i, e)
			}
			if is, e := tree.Verify(r, n, i, append([]byte("x"), l[i]...), p); e != api.OK || is {
				t.Fatal(n, i, e)
			}
			other := slices.Clone(l)
			other[i] = []byte("another one")
			if up, e := tree.Up(n, i, leaf(other[i]), p); e != api.OK || up != root(other) {
				t.Fatal(n, i, e)
			}
			if len(p) > 0 {
				p[len(p)/2][3]++
				if is, e := tree.Verify(r, n, i, l[i], p); e != api.OK || is {
					t.Fatal(n, i, e)
				}
			}
		}
		if !slices.EqualFunc(l, before, bytes.Equal) {
			t.Fatal("the argument was changed")
		}
	}
}

func TestMostLeaves(t *testing.T) {
	l := some(1, api.MaxLeaves+1)
	if r, e := tree.Root(l[1:]); e != api.OK || r != root(l[1:]) {
		t.Error(e)
	}
	if p, e := tree.Prove(l[1:], 599); e != api.OK || !slices.Equal(p, proof(l[1:], 599)) {
		t.Error(e)
	}
	if n, e := tree.Steps(600, 0); e != api.OK || n != 10 {
		t.Error(n, e)
	}
	if r, e := tree.Root(l); e != api.ErrMany || r != (api.Sum{}) {
		t.Error(e)
	}
	if p, e := tree.Prove(l, -1); e != api.ErrMany || p != nil {
		t.Error(e)
	}
}

func TestErrors(t *testing.T) {
	long := [][]byte{{1}, make([]byte, api.MaxLeaf+1), {2}}
	if r, e := tree.Root(long); e != api.ErrMany || r != (api.Sum{}) {
		t.Error(e)
	}
	if p, e := tree.Prove(long, 7); e != api.ErrMany || p != nil {
		t.Error(e)
	}
	l := some(2, 5)
	for _, i := range []int{-1, 5, math.MinInt, math.MaxInt} {
		if p, e := tree.Prove(l, i); e != api.ErrArg || p != nil {
			t.Error(i, e)
		}
	}
	if p, e := tree.Prove(nil, 0); e != api.ErrArg || p != nil {
		t.Error(e)
	}
	for _, c := range [][2]int{{0, 0}, {-1, 0}, {601, 0}, {5, 5}, {5, -1}, {math.MinInt, 0}, {math.MaxInt, 3}, {5, math.MaxInt}} {
		if n, e := tree.Steps(c[0], c[1]); e != api.ErrArg || n != 0 {
			t.Error(c, n, e)
		}
		if d, e := tree.Up(c[0], c[1], api.Sum{1}, make([]api.Sum, 20)); e != api.ErrArg || d != (api.Sum{}) {
			t.Error(c, e)
		}
		if is, e := tree.Verify(api.Sum{}, c[0], c[1], nil, nil); e != api.ErrArg || is {
			t.Error(c, e)
		}
		if is, e := tree.Verify(api.Sum{}, c[0], c[1], long[1], nil); e != api.ErrMany || is {
			t.Error(c, e)
		}
	}
	p, _ := tree.Prove(l, 1)
	for _, bad := range [][]api.Sum{nil, p[:len(p)-1], append(slices.Clone(p), api.Sum{})} {
		if d, e := tree.Up(5, 1, leaf(l[1]), bad); e != api.ErrForm || d != (api.Sum{}) {
			t.Error(len(bad), e)
		}
		if is, e := tree.Verify(root(l), 5, 1, l[1], bad); e != api.ErrForm || is {
			t.Error(len(bad), e)
		}
	}
	if d, e := tree.Up(1, 0, api.Sum{9}, nil); e != api.OK || d != (api.Sum{9}) {
		t.Error(d, e)
	}
}
