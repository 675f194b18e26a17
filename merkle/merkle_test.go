package merkle_test

import (
	"encoding/hex"
	"math"
	"math/rand/v2"
	"slices"
	"strconv"
	"strings"
	"testing"

	"culprit/api"
	"culprit/merkle"
	"culprit/wire"
)

func five() []merkle.Leaf {
	return []merkle.Leaf{{Key: "a", Value: "1"}, {Key: "c", Value: "2"}, {Key: "d", Value: "3"}, {Key: "f", Value: "4"}, {Key: "g", Value: "5"}}
}

func number(n int) string { return strconv.Itoa(10000 + n) }

// numbered returns leaves whose keys are odd numbers.
func numbered(n int) []merkle.Leaf {
	var l []merkle.Leaf
	for i := range n {
		l = append(l, merkle.Leaf{Key: number(2*i + 1), Value: "v" + strconv.Itoa(i)})
	}
	return l
}

// keysAround returns the keys of numbered leaves, those between them, before them and behind them.
func keysAround(n int) []string {
	keys := []string{"", "~"}
	for i := range 2*n + 2 {
		keys = append(keys, number(i))
	}
	return keys
}

func root(t *testing.T, l []merkle.Leaf) api.Digest {
	t.Helper()
	d, e := merkle.Root(l)
	if e != api.OK {
		t.Fatalf("P4.2: Root of %d leaves: error %d", len(l), e)
	}
	return d
}

func prove(t *testing.T, l []merkle.Leaf, key string) merkle.Proof {
	t.Helper()
	p, e := merkle.Prove(l, key)
	if e != api.OK {
		t.Fatalf("P4.3: Prove %q of %d leaves: error %d", key, len(l), e)
	}
	return p
}

func proveRange(t *testing.T, l []merkle.Leaf, from, to string) merkle.Proof {
	t.Helper()
	p, e := merkle.Range(l, from, to)
	if e != api.OK {
		t.Fatalf("P4.5: Range from %q to %q of %d leaves: error %d", from, to, len(l), e)
	}
	return p
}

func equal(p, q merkle.Proof) bool {
	return p.First == q.First && p.Size == q.Size && slices.Equal(p.Leaves, q.Leaves) && slices.Equal(p.Sides, q.Sides)
}

func clone(p merkle.Proof) merkle.Proof {
	p.Leaves, p.Sides = slices.Clone(p.Leaves), slices.Clone(p.Sides)
	return p
}

func checkProof(t *testing.T, what string, got, want merkle.Proof) {
	t.Helper()
	if !equal(got, want) {
		t.Errorf("%s: First %d, Size %d, %d Leaves, %d Sides; want First %d, Size %d, %d Leaves, %d Sides, or others", what, got.First, got.Size, len(got.Leaves), len(got.Sides), want.First, want.Size, len(want.Leaves), len(want.Sides))
	}
}

func checkCheck(t *testing.T, what string, r api.Digest, key string, p merkle.Proof, value string, is bool, e api.Errno) {
	t.Helper()
	if v, was, got := merkle.Check(r, key, p); v != value || was != is || got != e {
		t.Errorf("%s: Check of %.9q: %.9q, %t, error %d; want %.9q, %t, error %d", what, key, v, was, got, value, is, e)
	}
}

func checkRange(t *testing.T, what string, r api.Digest, from, to string, p merkle.Proof, want []merkle.Leaf, e api.Errno) {
	t.Helper()
	if l, got := merkle.CheckRange(r, from, to, p); !slices.Equal(l, want) || got != e {
		t.Errorf("%s: CheckRange from %.9q to %.9q: %d leaves, error %d; want %d leaves, or others, error %d", what, from, to, len(l), got, len(want), e)
	}
}

// refused checks that a proof shows nothing of some keys.
func refused(t *testing.T, what string, r api.Digest, p merkle.Proof, keys ...string) {
	t.Helper()
	for _, key := range keys {
		checkCheck(t, "P4.4: "+what, r, key, p, "", false, api.ErrProof)
		for _, to := range keys {
			e := api.ErrProof
			if to < key {
				e = api.ErrRange
			}
			checkRange(t, "P4.6: "+what, r, key, to, p, nil, e)
		}
	}
}

func TestValid(t *testing.T) {
	long, tooLong := strings.Repeat("x", maxText), strings.Repeat("x", maxText+1)
	for i, x := range []struct {
		l []merkle.Leaf
		e api.Errno
	}{
		{nil, api.OK},
		{[]merkle.Leaf{}, api.OK},
		{five(), api.OK},
		{[]merkle.Leaf{{}}, api.OK},
		{[]merkle.Leaf{{}, {Key: "\x00"}, {Key: "\x00\x00"}, {Key: "\x00\x01"}, {Key: "\x7f"}, {Key: "\x80"}, {Key: "\xff"}}, api.OK},
		{[]merkle.Leaf{{Key: "B"}, {Key: "a"}, {Key: "é"}}, api.OK},
		{[]merkle.Leaf{{Key: "10"}, {Key: "9"}}, api.OK},
		{[]merkle.Leaf{{Key: "a", Value: "2"}, {Key: "b", Value: "1"}}, api.OK},
		{[]merkle.Leaf{{Key: "", Value: long}, {Key: long, Value: long}}, api.OK},
		{numbered(maxLeaves - 1), api.OK},
		{numbered(maxLeaves), api.OK},
		{numbered(maxLeaves + 1), api.ErrLimit},
		{numbered(2 * maxLeaves), api.ErrLimit},
		{make([]merkle.Leaf, maxLeaves), api.ErrArg},
		{make([]merkle.Leaf, maxLeaves+1), api.ErrLimit},
		{[]merkle.Leaf{{Key: tooLong}}, api.ErrLimit},
		{[]merkle.Leaf{{Value: tooLong}}, api.ErrLimit},
		{[]merkle.Leaf{{}, {Key: "a"}, {Key: tooLong}}, api.ErrLimit},
		{[]merkle.Leaf{{}, {Key: "a"}, {Key: "b", Value: tooLong}}, api.ErrLimit},
		{[]merkle.Leaf{{}, {}}, api.ErrArg},
		{[]merkle.Leaf{{Key: "a", Value: "1"}, {Key: "a", Value: "2"}}, api.ErrArg},
		{[]merkle.Leaf{{Key: "b"}, {Key: "a"}}, api.ErrArg},
		{[]merkle.Leaf{{Key: "a"}, {Key: "aa"}, {Key: "aa"}}, api.ErrArg},
		{[]merkle.Leaf{{Key: "a"}, {Key: "b"}, {Key: "a"}, {Key: "c"}}, api.ErrArg},
		{[]merkle.Leaf{{Key: "aa"}, {Key: "a"}}, api.ErrArg},
		{[]merkle.Leaf{{Key: "\x80"}, {Key: "\x7f"}}, api.ErrArg},
		{[]merkle.Leaf{{Key: "a"}, {Key: ""}}, api.ErrArg},
		{[]merkle.Leaf{{Key: long}, {Key: long}}, api.ErrArg},
		{[]merkle.Leaf{{Key: "b"}, {Key: "a"}, {Key: tooLong}}, api.ErrLimit},
		{[]merkle.Leaf{{Key: "b"}, {Key: "a"}, {Key: "a", Value: tooLong}}, api.ErrLimit},
		{[]merkle.Leaf{{Key: tooLong}, {Key: "a"}}, api.ErrLimit},
	} {
		if e := merkle.Valid(x.l); e != x.e {
			t.Errorf("P4.1: list %d: error %d, want %d", i, e, x.e)
		}
		want := api.Digest{}
		if x.e == api.OK {
			want = refRoot(x.l)
		}
		if d, e := merkle.Root(x.l); d != want || e != x.e {
			t.Errorf("P4.2: list %d: %x, error %d; want %x, error %d", i, d, e, want, x.e)
		}
		if x.e == api.OK {
			continue
		}
		for _, key := range []string{"", "a", tooLong} {
			if p, e := merkle.Prove(x.l, key); !equal(p, merkle.Proof{}) || e != x.e {
				t.Errorf("P4.3: list %d: First %d, Size %d, error %d; want error %d", i, p.First, p.Size, e, x.e)
			}
			for _, to := range []string{"", "a", tooLong} {
				if p, e := merkle.Range(x.l, key, to); !equal(p, merkle.Proof{}) || e != x.e {
					t.Errorf("P4.5: list %d: First %d, Size %d, error %d; want error %d", i, p.First, p.Size, e, x.e)
				}
			}
		}
	}
}

// TestKnownRoots has roots that another program computed.
func TestKnownRoots(t *testing.T) {
	for _, x := range []struct {
		l    []merkle.Leaf
		want string
	}{
		{nil, "d3668aad1961ddad0c8938f19a5b61d7"},
		{five()[:1], "2603107cfea0e1412b1a867b0ffad2c5"},
		{five()[:2], "45f808bf9c8b30fdd94c37b080c041b2"},
		{five()[:3], "bc7be8eb19c46bbc351f808886583e8d"},
		{five()[:4], "d43edcd94c8a64f9055ca5cfcfb6c017"},
		{five(), "a54f8156aa0d46d68690941917267bb0"},
		{[]merkle.Leaf{{}}, "06d69ee0c51bbfea76dbdce38f5552be"},
		{[]merkle.Leaf{{Value: strings.Repeat("x", maxText)}, {Key: strings.Repeat("k", maxText)}}, "a363bd12f0b3a7b57a45cada87cd056a"},
	} {
		if d := root(t, x.l); hex.EncodeToString(d[:]) != x.want {
			t.Errorf("P4.2: the root of %d leaves is %x, want %s", len(x.l), d, x.want)
		}
	}
}

func TestRoot(t *testing.T) {
	sizes := []int{127, 128, 129, 255, 256, 257, 1000, 2047, 2048, 2049, 4095, 4096}
	for n := range 70 {
		sizes = append(sizes, n)
	}
	for _, n := range sizes {
		l := numbered(n)
		for range 2 {
			if d, want := root(t, l), refRoot(l); d != want {
				t.Errorf("P4.2: the root of %d leaves is %x, want %x", n, d, want)
			}
		}
	}
}

// some returns all numbers below a small one, and some below a great one, those around the divisions of rows among them.
func some(n int) []int {
	if n <= 20 {
		return slices.Collect(func(yield func(int) bool) {
			for i := 0; i < n && yield(i); i++ {
			}
		})
	}
	return []int{0, 1, 2, 3, n / 3, n/2 - 2, n/2 - 1, n / 2, n/2 + 1, n/2 + 2, n - 4, n - 3, n - 2, n - 1}
}

var sizes = []int{0, 1, 2, 3, 4, 5, 6, 7, 8, 9, 10, 11, 12, 13, 14, 15, 16, 17, 31, 32, 33, 63, 64, 65, 4095, 4096}

func TestProve(t *testing.T) {
	for _, n := range sizes {
		l := numbered(n)
		r := refRoot(l)
		keys := keysAround(n)
		for _, i := range some(len(keys)) {
			key := keys[i]
			p := prove(t, l, key)
			checkProof(t, "P4.3: Prove "+key+" of "+number(n), p, refProve(l, key))
			if len(p.Sides) > 24 {
				t.Errorf("P4.8: a proof of %q of %d leaves has %d Sides", key, n, len(p.Sides))
			}
			at := slices.IndexFunc(l, func(x merkle.Leaf) bool { return x.Key == key })
			if at >= 0 {
				checkCheck(t, "P4.8: a key", r, key, p, l[at].Value, true, api.OK)
			} else {
				checkCheck(t, "P4.8: no key", r, key, p, "", false, api.OK)
			}
			if v, is, e := refCheck(r, key, p); e != api.OK || is != (at >= 0) || is && v != l[at].Value {
				t.Errorf("P4.8: the proof of %q of %d leaves is none by the chapter", key, n)
			}
		}
	}
}

// TestSidesOfProofs looks for the greatest number of Sides.
func TestSidesOfProofs(t *testing.T) {
	most := 0
	for _, n := range []int{2049, 3000, 4095, 4096} {
		l := numbered(n)
		for _, i := range []int{1, n/2 - 1, n / 2, 1365, 2046, 2047, 2048} {
			for _, key := range []string{number(2*i + 1), number(2*i + 2)} {
				most = max(most, len(prove(t, l, key).Sides))
			}
		}
	}
	if most != 22 {
		t.Errorf("P4.8: a proof with two leaves has up to %d Sides, want 22", most)
	}
}

func TestExamples(t *testing.T) {
	l, r := five(), root(t, five())
	a, c, d, f, g := refLeaf(l[0]), refLeaf(l[1]), refLeaf(l[2]), refLeaf(l[3]), refLeaf(l[4])
	if all := refNode(refNode(refNode(a, c), refNode(d, f)), g); r != refTop(5, all) {
		t.Error("P4.2: the root of five leaves is wrong")
	}
	for _, x := range []struct {
		key         string
		first, last int
		sides       []api.Digest
	}{
		{"a", 0, 0, []api.Digest{c, refNode(d, f), g}},
		{"c", 1, 1, []api.Digest{a, refNode(d, f), g}},
		{"e", 2, 3, []api.Digest{refNode(a, c), g}},
		{"ca", 1, 2, []api.Digest{a, f, g}},
		{"fa", 3, 4, []api.Digest{refNode(a, c), d}},
		{"g", 4, 4, []api.Digest{refNode(refNode(a, c), refNode(d, f))}},
		{"h", 4, 4, []api.Digest{refNode(refNode(a, c), refNode(d, f))}},
		{"", 0, 0, []api.Digest{c, refNode(d, f), g}},
	} {
		want := merkle.Proof{First: x.first, Size: 5, Leaves: l[x.first : x.last+1], Sides: x.sides}
		checkProof(t, "P4.3: Prove "+x.key, prove(t, l, x.key), want)
	}
	p := prove(t, l, "e")
	checkCheck(t, "P4.4", r, "e", p, "", false, api.OK)
	checkCheck(t, "P4.4", r, "d", p, "3", true, api.OK)
	checkCheck(t, "P4.4", r, "f", p, "4", true, api.OK)
	checkCheck(t, "P4.4", r, "c", p, "", false, api.ErrProof)
	checkCheck(t, "P4.4", r, "g", p, "", false, api.ErrProof)
	for _, x := range []struct {
		from, to    string
		first, last int
		sides       []api.Digest
		in          []merkle.Leaf
	}{
		{"c", "f", 0, 3, []api.Digest{g}, l[1:3]},
		{"b", "c", 0, 1, []api.Digest{refNode(d, f), g}, nil},
		{"d", "d", 1, 2, []api.Digest{a, f, g}, nil},
		{"", "a", 0, 0, []api.Digest{c, refNode(d, f), g}, nil},
		{"", "z", 0, 4, nil, l},
		{"a", "ga", 0, 4, nil, l},
		{"g", "z", 3, 4, []api.Digest{refNode(a, c), d}, l[4:]},
		{"x", "y", 4, 4, []api.Digest{refNode(refNode(a, c), refNode(d, f))}, nil},
	} {
		p := proveRange(t, l, x.from, x.to)
		want := merkle.Proof{First: x.first, Size: 5, Leaves: l[x.first : x.last+1], Sides: x.sides}
		checkProof(t, "P4.5: Range from "+x.from+" to "+x.to, p, want)
		checkRange(t, "P4.6", r, x.from, x.to, p, x.in, api.OK)
	}
}

func TestRange(t *testing.T) {
	for _, n := range sizes {
		l := numbered(n)
		r := refRoot(l)
		keys := keysAround(n)
		slices.Sort(keys)
		for _, i := range some(len(keys)) {
			for _, j := range some(len(keys)) {
				if n > 64 && (i+j)%6 > 0 {
					continue
				}
				from, to := keys[i], keys[j]
				p, e := merkle.Range(l, from, to)
				if j < i {
					if e != api.ErrRange || !equal(p, merkle.Proof{}) {
						t.Errorf("P4.5: Range from %q to %q of %d leaves: error %d", from, to, n, e)
					}
					continue
				}
				if e != api.OK {
					t.Fatalf("P4.5: Range from %q to %q of %d leaves: error %d", from, to, n, e)
				}
				if n <= 64 || i < 4 {
					checkProof(t, "P4.5: Range from "+from+" to "+to+" of "+number(n), p, refRange(l, from, to))
				}
				checkRange(t, "P4.8", r, from, to, p, inRange(l, from, to), api.OK)
			}
		}
	}
}

// TestRangeErrors checks that the error of the leaves comes before that of the range, and the latter one before that of the proof.
func TestRangeErrors(t *testing.T) {
	long := strings.Repeat("x", maxText+1)
	for _, l := range [][]merkle.Leaf{nil, five()[:1], five(), numbered(maxLeaves)} {
		r := root(t, l)
		for _, x := range [][2]string{{"b", "a"}, {"a", ""}, {"aa", "a"}, {"\x80", "\x7f"}, {long, "x"}, {long + "y", long}} {
			if p, e := merkle.Range(l, x[0], x[1]); e != api.ErrRange || !equal(p, merkle.Proof{}) {
				t.Errorf("P4.5: Range from %.9q to %.9q of %d leaves: error %d", x[0], x[1], len(l), e)
			}
			good := refProof(l, 0, len(l))
			checkRange(t, "P4.6: a good proof", r, x[0], x[1], good, nil, api.ErrRange)
			checkRange(t, "P4.6: another root", api.Digest{}, x[0], x[1], good, nil, api.ErrRange)
			checkRange(t, "P4.6: a bad proof", r, x[0], x[1], merkle.Proof{First: -1, Size: -1}, nil, api.ErrRange)
		}
	}
	// Keys that are asked for may be longer than those of leaves.
	l, r := five(), root(t, five())
	checkCheck(t, "P4.8: a long key", r, long, prove(t, l, long), "", false, api.OK)
	checkRange(t, "P4.8: long keys", r, "d", long, proveRange(t, l, "d", long), l[2:], api.OK)
	checkRange(t, "P4.8: long keys", r, long, long+"y", proveRange(t, l, long, long+"y"), nil, api.OK)
}

// TestAllWindows checks all proofs of some leaves, for all keys and ranges, by the text of the chapter.
func TestAllWindows(t *testing.T) {
	for n := range 9 {
		l := numbered(n)
		r := refRoot(l)
		keys := keysAround(n)
		for first := range n + 1 {
			for end := first; end <= n; end++ {
				p := refProof(l, first, end)
				for _, key := range keys {
					v, is, e := refCheck(r, key, p)
					checkCheck(t, "P4.4", r, key, p, v, is, e)
					for _, to := range keys {
						in, e := refCheckRange(r, key, to, p)
						checkRange(t, "P4.6", r, key, to, p, in, e)
					}
				}
			}
		}
	}
}

func TestEmpty(t *testing.T) {
	r := root(t, nil)
	for _, l := range [][]merkle.Leaf{nil, {}} {
		for _, key := range []string{"", "a"} {
			p := prove(t, l, key)
			checkProof(t, "P4.3: no leaves", p, merkle.Proof{})
			checkCheck(t, "P4.4: no leaves", r, key, p, "", false, api.OK)
			p = proveRange(t, l, key, "b")
			checkProof(t, "P4.5: no leaves", p, merkle.Proof{})
			checkRange(t, "P4.6: no leaves", r, key, "b", p, nil, api.OK)
			checkRange(t, "P4.6: no leaves, not nil", r, key, key, merkle.Proof{Leaves: []merkle.Leaf{}, Sides: []api.Digest{}}, nil, api.OK)
		}
	}
	refused(t, "no leaves, under another root", root(t, five()), merkle.Proof{}, "", "a", "x")
	refused(t, "no leaves, under no root", api.Digest{}, merkle.Proof{}, "", "a")
}

// TestProofsThatDoNotFit has proofs of which the root is made, if one does not look at how their parts fit each other.
func TestProofsThatDoNotFit(t *testing.T) {
	l := five()
	digests := refDigests(l)
	all := digests[span{0, 5}]
	extra := merkle.Leaf{Key: "A", Value: "0"}
	last := merkle.Leaf{Key: "z", Value: "9"}
	long := strings.Repeat("x", maxText+1)
	with := func(first, size int, sides []api.Digest, leaves ...merkle.Leaf) merkle.Proof {
		return merkle.Proof{First: first, Size: size, Leaves: leaves, Sides: sides}
	}
	sum := func(size int, d api.Digest) api.Digest { return refOf(4, string(wire.Int(size)), string(d[:])) }
	r := refRoot(l)
	for _, x := range []struct {
		what string
		root api.Digest
		p    merkle.Proof
	}{
		{"a leaf before the first one", r, with(-1, 5, nil, extra, l[0], l[1], l[2], l[3], l[4])},
		{"a leaf behind the last one", r, with(0, 5, nil, l[0], l[1], l[2], l[3], l[4], last)},
		{"a leaf behind the last one, with Sides", r, with(4, 5, []api.Digest{digests[span{0, 4}]}, l[4], last)},
		{"a leaf behind all", r, with(5, 5, []api.Digest{all}, last)},
		{"a leaf far behind all", r, with(5000, 5, []api.Digest{all}, last)},
		{"a First of which the end wraps around", r, with(math.MaxInt, 5, []api.Digest{all}, l[1], last)},
		{"a First of which the end wraps around to 5", r, with(math.MaxInt, 5, []api.Digest{all}, last)},
		{"a First that is very small", r, with(math.MinInt, 5, []api.Digest{all}, last)},
		{"a First before all", r, with(-1, 5, []api.Digest{all}, extra)},
		{"no Leaves", r, with(0, 5, []api.Digest{all})},
		{"no Leaves at the end", r, with(5, 5, []api.Digest{all})},
		{"no Leaves in the middle", r, with(2, 5, []api.Digest{all})},
		{"no Leaves, and rows that are divided", r, with(2, 5, []api.Digest{digests[span{0, 4}], digests[span{4, 5}]})},
		{"no Size, but a leaf", refRoot(nil), with(0, 0, nil, extra)},
		{"no Size, but a side", refRoot(nil), with(0, 0, []api.Digest{all})},
		{"no Size, but a side of noughts", refRoot(nil), with(0, 0, []api.Digest{{}})},
		{"no Size, but a First", refRoot(nil), with(1, 0, nil)},
		{"no Size, and a First below 0", refRoot(nil), with(-1, 0, nil)},
		{"no Size, a First below 0, and a leaf", refRoot(nil), with(-1, 0, nil, extra)},
		{"a Size below 0", refOf(4, string(wire.Int(-1))), with(0, -1, nil)},
		{"a Size and a First below 0", refOf(4, string(wire.Int(-1))), with(-1, -1, nil)},
		{"a Size below 0 with a side", sum(-1, all), with(0, -1, []api.Digest{all})},
		{"a Size below 0 from which the number of Leaves wraps around", sum(math.MinInt, all), with(0, math.MinInt, []api.Digest{all}, extra)},
		{"a Size and a First far below 0", refOf(4, string(wire.Int(math.MinInt))), with(math.MinInt, math.MinInt, nil)},
		{"a very great Size", sum(math.MaxInt, all), with(0, math.MaxInt, []api.Digest{all}, l[0])},
		{"a very great Size, at the end", sum(math.MaxInt, all), with(math.MaxInt-1, math.MaxInt, []api.Digest{all}, l[0])},
		{"Leaves in another order", refRoot([]merkle.Leaf{l[1], l[0]}), with(0, 2, nil, l[1], l[0])},
		{"equal keys", refRoot([]merkle.Leaf{l[0], l[0]}), with(0, 2, nil, l[0], l[0])},
		{"equal keys with other values", refRoot([]merkle.Leaf{l[0], {Key: "a", Value: "2"}}), with(0, 2, nil, l[0], merkle.Leaf{Key: "a", Value: "2"})},
		{"too long a key", refRoot([]merkle.Leaf{{Key: long}}), with(0, 1, nil, merkle.Leaf{Key: long})},
		{"too long a value", refRoot([]merkle.Leaf{{Key: "a", Value: long}}), with(0, 1, nil, merkle.Leaf{Key: "a", Value: long})},
		{"a side too many", r, with(0, 5, []api.Digest{digests[span{4, 5}], digests[span{4, 5}]}, l[:4]...)},
		{"a side of noughts too many", r, with(0, 5, []api.Digest{digests[span{4, 5}], {}}, l[:4]...)},
		{"a side too many, and none that is needed", r, with(0, 5, []api.Digest{{}}, l...)},
		{"no side", sum(5, refNode(digests[span{0, 4}], api.Digest{})), with(0, 5, nil, l[:4]...)},
		{"a side too few", sum(5, refNode(refNode(digests[span{0, 2}], refNode(digests[span{2, 3}], digests[span{3, 4}])), api.Digest{})), with(2, 5, []api.Digest{digests[span{0, 2}]}, l[2:4]...)},
		{"a row that is divided", r, with(2, 5, []api.Digest{digests[span{0, 1}], digests[span{1, 2}], digests[span{4, 5}]}, l[2:4]...)},
		{"a row of rows", r, with(4, 5, []api.Digest{digests[span{0, 2}], digests[span{2, 4}]}, l[4])},
		{"a row of which the digest is that of a leaf", refRoot([]merkle.Leaf{{Key: string(make([]byte, 16)), Value: string(make([]byte, 16))}}), with(0, 2, nil, merkle.Leaf{})},
	} {
		refused(t, x.what, x.root, x.p, "", "A", "a", "aa", "b", "d", "z", "zz")
	}
}

// TestTooManyLeaves has proofs under the root of more leaves than there may be.
func TestTooManyLeaves(t *testing.T) {
	for _, n := range []int{maxLeaves - 1, maxLeaves, maxLeaves + 1, 2 * maxLeaves} {
		l := numbered(n)
		r := refRoot(l)
		for _, x := range []span{{0, 1}, {1, 2}, {0, 2}, {n - 2, n}, {n - 1, n}, {1, n}, {0, n}} {
			p := refProof(l, x.a, x.b)
			for _, leaf := range []merkle.Leaf{l[x.a], l[x.b-1]} {
				if n > maxLeaves {
					refused(t, number(n)+" leaves", r, p, leaf.Key)
					continue
				}
				checkCheck(t, "P4.4: many leaves", r, leaf.Key, p, leaf.Value, true, api.OK)
				checkRange(t, "P4.6: many leaves", r, "", "~", p, inRangeIf(x.a == 0 && x.b == n, l), errorIf(x.a > 0 || x.b < n))
			}
		}
	}
}

func inRangeIf(is bool, l []merkle.Leaf) []merkle.Leaf {
	if is {
		return l
	}
	return nil
}

func errorIf(is bool) api.Errno {
	if is {
		return api.ErrProof
	}
	return api.OK
}

// bent returns what small changes make of a proof.
func bent(p merkle.Proof) []merkle.Proof {
	var out []merkle.Proof
	change := func(f func(q *merkle.Proof)) {
		q := clone(p)
		f(&q)
		out = append(out, q)
	}
	for _, n := range []int{-1, 1, 2, 4, 8, -p.First - 1, math.MaxInt, math.MinInt} {
		change(func(q *merkle.Proof) { q.First += n })
		change(func(q *merkle.Proof) { q.Size += n })
		change(func(q *merkle.Proof) { q.First, q.Size = q.First+n, q.Size+n })
		change(func(q *merkle.Proof) { q.First, q.Size = q.First-n, q.Size+n })
	}
	for i := range p.Leaves {
		change(func(q *merkle.Proof) { q.Leaves[i].Key += "x" })
		change(func(q *merkle.Proof) { q.Leaves[i].Value += "x" })
		change(func(q *merkle.Proof) { q.Leaves[i].Value = "" })
		change(func(q *merkle.Proof) { q.Leaves[i].Key, q.Leaves[i].Value = q.Leaves[i].Value, q.Leaves[i].Key })
		change(func(q *merkle.Proof) { q.Leaves = slices.Delete(q.Leaves, i, i+1) })
		change(func(q *merkle.Proof) {
			q.Leaves = slices.Insert(q.Leaves, i, merkle.Leaf{Key: q.Leaves[i].Key[:4], Value: "v"})
		})
		if i > 0 {
			change(func(q *merkle.Proof) { q.Leaves[i], q.Leaves[i-1] = q.Leaves[i-1], q.Leaves[i] })
			change(func(q *merkle.Proof) { q.Leaves[i].Value, q.Leaves[i-1].Value = q.Leaves[i-1].Value, q.Leaves[i].Value })
		}
	}
	for i := range p.Sides {
		for bit := range 128 {
			if i == 0 || bit%17 == i {
				change(func(q *merkle.Proof) { q.Sides[i][bit/8] ^= 1 << (bit % 8) })
			}
		}
		change(func(q *merkle.Proof) { q.Sides = slices.Delete(q.Sides, i, i+1) })
		change(func(q *merkle.Proof) { q.Sides = slices.Insert(q.Sides, i, q.Sides[i]) })
		if i > 0 {
			change(func(q *merkle.Proof) { q.Sides[i], q.Sides[i-1] = q.Sides[i-1], q.Sides[i] })
		}
	}
	change(func(q *merkle.Proof) { q.Sides = append(q.Sides, api.Digest{}) })
	change(func(q *merkle.Proof) { q.Leaves = append(q.Leaves, merkle.Leaf{Key: "~", Value: "v"}) })
	change(func(q *merkle.Proof) { q.Leaves = nil })
	change(func(q *merkle.Proof) { q.Leaves, q.Sides = nil, nil })
	return out
}

// TestBentProofs checks that none of the changes of a proof is accepted under the root, and that no root that one makes of a changed proof is accepted where its parts do not fit.
func TestBentProofs(t *testing.T) {
	for n := 1; n < 9; n++ {
		l := numbered(n)
		r := refRoot(l)
		keys := keysAround(n)
		for first := range n {
			for end := first + 1; end <= n; end++ {
				for _, p := range bent(refProof(l, first, end)) {
					key := keys[(first+end)%len(keys)]
					if p.First >= 0 && p.First < n {
						key = l[p.First].Key
					}
					checkCheck(t, "P4.9: a bent proof", r, key, p, "", false, api.ErrProof)
					checkRange(t, "P4.9: a bent proof", r, "", key, p, nil, api.ErrProof)
					if p.Size < 0 || p.Size > 100 {
						continue
					}
					made := refMade(p)
					v, is, e := refCheck(made, key, p)
					checkCheck(t, "P4.4: a proof under the root that it makes", made, key, p, v, is, e)
					in, e := refCheckRange(made, key, "~", p)
					checkRange(t, "P4.6: a proof under the root that it makes", made, key, "~", p, in, e)
				}
			}
		}
	}
}

func TestOtherRoots(t *testing.T) {
	for n := 1; n < 10; n++ {
		l := numbered(n)
		r := refRoot(l)
		others := []api.Digest{{}, refRoot(nil), refRoot(l[:n-1]), refRoot(numbered(n + 1)), refDigests(l)[span{0, n}]}
		for bit := range 128 {
			d := r
			d[bit/8] ^= 1 << (bit % 8)
			others = append(others, d)
		}
		for i := range l {
			changed := slices.Clone(l)
			changed[i].Value += "x"
			others = append(others, refRoot(changed), refRoot(slices.Delete(slices.Clone(l), i, i+1)))
		}
		for i, d := range others {
			at := i % n
			refused(t, "another root", d, prove(t, l, l[at].Key), l[at].Key)
			refused(t, "another root", d, proveRange(t, l, "", "~"), l[at].Key, "")
		}
	}
}

// TestSound checks that proofs of other leaves show nothing wrong of some leaves, also where only one leaf, or its place, is different.
func TestSound(t *testing.T) {
	r := rand.New(rand.NewPCG(4, 9))
	random := func() []merkle.Leaf {
		var l []merkle.Leaf
		for i := range 7 {
			if r.IntN(3) > 0 {
				l = append(l, merkle.Leaf{Key: number(i), Value: strconv.Itoa(r.IntN(2))})
			}
		}
		return l
	}
	for range 300 {
		l, other := random(), random()
		d := root(t, l)
		for i := range 9 {
			key, to := number(i-1), number(r.IntN(9))
			at := slices.IndexFunc(l, func(x merkle.Leaf) bool { return x.Key == key })
			for _, p := range []merkle.Proof{prove(t, other, key), prove(t, l, to), proveRange(t, other, min(key, to), max(key, to)), proveRange(t, l, min(key, to), max(key, to))} {
				v, is, e := merkle.Check(d, key, p)
				if e == api.OK && (is != (at >= 0) || is && v != l[at].Value) {
					t.Errorf("P4.9: Check of %q: %q, %t", key, v, is)
				}
				from := number(r.IntN(9))
				in, e := merkle.CheckRange(d, min(from, to), max(from, to), p)
				if e == api.OK && !slices.Equal(in, inRange(l, min(from, to), max(from, to))) {
					t.Errorf("P4.9: CheckRange from %q to %q: %d leaves", min(from, to), max(from, to), len(in))
				}
			}
		}
	}
}

// TestBound checks that lists that look alike have other roots.
func TestBound(t *testing.T) {
	zeros := string(make([]byte, 16))
	lists := [][]merkle.Leaf{
		nil, {{}},
		{{Key: "ab", Value: "c"}}, {{Key: "a", Value: "bc"}}, {{Key: "abc"}}, {{Value: "abc"}}, {{Key: "a", Value: "b"}}, {{Key: "b", Value: "a"}},
		{{Key: zeros, Value: zeros}}, {{Key: zeros}}, {{Value: zeros}},
		{{}, {Key: "\x00"}}, {{Key: "\x00"}}, {{}, {Key: "\x00", Value: "\x00"}},
	}
	for n := 1; n < 40; n++ {
		l := numbered(n)
		lists = append(lists, l)
		for i := range l {
			more := slices.Clone(l)
			more[i].Value += "\x00"
			other := slices.Clone(l)
			other[i].Key += "\x00"
			lists = append(lists, more, other)
			if i > 0 {
				changed := slices.Clone(l)
				changed[i].Value, changed[i-1].Value = l[i-1].Value, l[i].Value
				lists = append(lists, changed, slices.Delete(slices.Clone(l), i-1, i))
			}
		}
		// A leaf whose texts are those of a node.
		digests := refDigests(l)
		if n > 1 {
			left, right := span{0, n}.halves()
			a, b := digests[left], digests[right]
			lists = append(lists, []merkle.Leaf{{Key: string(a[:]), Value: string(b[:])}})
		}
		all := digests[span{0, n}]
		lists = append(lists, []merkle.Leaf{{Key: string(wire.Int(n)), Value: string(all[:])}})
	}
	seen := map[api.Digest]int{}
	for i, l := range lists {
		d := root(t, l)
		if j, is := seen[d]; is && !slices.Equal(lists[j], l) {
			t.Errorf("P4.10: the lists %d and %d have the same root", j, i)
		}
		seen[d] = i
	}
}

// odd returns proofs that show nothing, but have encodings.
func odd() []merkle.Proof {
	long := strings.Repeat("x", maxText+1)
	l := []merkle.Proof{
		{}, {First: -1}, {Size: -1}, {First: 1}, {Size: 1}, {First: 2, Size: 1}, {First: 1, Size: 2},
		{First: math.MaxInt, Size: math.MinInt}, {First: math.MinInt, Size: math.MaxInt}, {First: 256, Size: 255},
		{Leaves: []merkle.Leaf{{}}}, {Leaves: []merkle.Leaf{{}, {}}}, {Sides: []api.Digest{{}}}, {Sides: []api.Digest{{}, {}}},
		{Leaves: []merkle.Leaf{{Key: "a", Value: "b"}}}, {Leaves: []merkle.Leaf{{Key: "b", Value: "a"}}},
		{Leaves: []merkle.Leaf{{Key: "a"}, {Value: "b"}}}, {Leaves: []merkle.Leaf{{Key: "ab"}}}, {Leaves: []merkle.Leaf{{Value: "ab"}}},
		{Leaves: []merkle.Leaf{{Key: "a"}, {Key: "b"}}}, {Leaves: []merkle.Leaf{{Key: "b"}, {Key: "a"}}},
		{Leaves: []merkle.Leaf{{Key: long, Value: long + "y"}}, Sides: []api.Digest{{15: 1}, {0: 1}}},
		{Leaves: make([]merkle.Leaf, maxLeaves+1), Sides: make([]api.Digest, 300)},
		{Sides: []api.Digest{{0: 1}, {15: 1}}}, {Sides: []api.Digest{{15: 1}, {0: 1}}},
	}
	for n := range 8 {
		for first := range n + 1 {
			for end := first; end <= n; end++ {
				l = append(l, refProof(numbered(n), first, end))
			}
		}
	}
	return l
}

// refEncode encodes the parts one after the other.
func refEncode(p merkle.Proof) []byte {
	b := append(wire.Int(2), wire.Int(p.First)...)
	b = append(append(b, wire.Int(p.Size)...), wire.Int(2*len(p.Leaves))...)
	for _, leaf := range p.Leaves {
		b = append(append(b, wire.Bytes(leaf.Key)...), wire.Bytes(leaf.Value)...)
	}
	b = append(b, wire.Int(len(p.Sides))...)
	for _, d := range p.Sides {
		b = append(b, d[:]...)
	}
	return b
}

func checkDecode(t *testing.T, what string, b []byte, want merkle.Proof, used int, e api.Errno) {
	t.Helper()
	if p, n, got := merkle.Decode(b); !equal(p, want) || n != used || got != e {
		t.Errorf("%s: Decode of %d bytes: First %d, Size %d, %d Leaves, %d Sides, %d bytes, error %d; want %d bytes, error %d", what, len(b), p.First, p.Size, len(p.Leaves), len(p.Sides), n, got, used, e)
	}
}

func TestEncodeAndDecode(t *testing.T) {
	if b, want := merkle.Encode(merkle.Proof{First: 1, Size: -1, Leaves: []merkle.Leaf{{Key: "a", Value: ""}}, Sides: []api.Digest{{7}}}), "8102"+"8101"+"7f"+"8102"+"810161"+"80"+"8101"+"07000000000000000000000000000000"; hex.EncodeToString(b) != want {
		t.Errorf("P4.7: an encoding is %x, want %s", b, want)
	}
	all := odd()
	for _, p := range all {
		b := merkle.Encode(p)
		if !slices.Equal(b, refEncode(p)) {
			t.Errorf("P4.7: the encoding of a proof with First %d, Size %d is wrong", p.First, p.Size)
		}
		for _, more := range []string{"", "\x00", "\x80", "\x81\x02", string(b)} {
			checkDecode(t, "P4.11", append(slices.Clone(b), more...), p, len(b), api.OK)
		}
		for i := 0; i < len(b); i += 1 + len(b)/500 {
			checkDecode(t, "P4.11: a beginning", b[:i], merkle.Proof{}, 0, api.ErrMore)
		}
		checkDecode(t, "P4.11: a beginning", b[:len(b)-1], merkle.Proof{}, 0, api.ErrMore)
	}
	for i, p := range all {
		for j, q := range all {
			if same := slices.Equal(merkle.Encode(p), merkle.Encode(q)); i < 60 && j < 60 && same != equal(p, q) {
				t.Errorf("P4.11: the encodings of the proofs %d and %d are equal: %t", i, j, same)
			}
		}
	}
}

func TestDecodeErrors(t *testing.T) {
	join := func(parts ...[]byte) []byte { return slices.Concat(parts...) }
	numbers, none := wire.Ints([]int{3, 4}), wire.Int(0)
	pair := wire.Strings([]string{"a", "1"})
	for i, x := range []struct {
		b []byte
		e api.Errno
	}{
		{nil, api.ErrMore},
		{[]byte{}, api.ErrMore},
		{[]byte{0}, api.ErrForm},
		{[]byte{255}, api.ErrForm},
		{wire.Int(-1), api.ErrForm},
		{wire.Int(math.MaxInt), api.ErrMore},
		{wire.Int(2), api.ErrMore},
		{join(wire.Int(2), none), api.ErrMore},
		{join(wire.Int(2), none, []byte{0}), api.ErrForm},
		{join(wire.Int(2), []byte{0x81, 0}, none), api.ErrForm},
		{join(wire.Int(2), []byte{0x82, 0, 1}, none), api.ErrForm},
		// The first list comes before the rest, and its form after its errors.
		{none, api.ErrForm},
		{wire.Ints([]int{1}), api.ErrForm},
		{wire.Ints([]int{1, 2, 3}), api.ErrForm},
		{join(wire.Ints([]int{1}), []byte{0x81}), api.ErrForm},
		{join(wire.Ints([]int{1, 2, 3}), wire.Int(2)), api.ErrForm},
		{join(none, pair, none), api.ErrForm},
		{join(wire.Ints([]int{1}), pair, none), api.ErrForm},
		{join(wire.Ints([]int{1, 2, 3}), pair, none), api.ErrForm},
		{join(wire.Int(1), []byte{0x81}), api.ErrMore},
		{join(wire.Int(3), none, none), api.ErrMore},
		{join(wire.Int(3), none, none, []byte{0x82, 1}), api.ErrMore},
		// The strings.
		{numbers, api.ErrMore},
		{join(numbers, []byte{0}), api.ErrForm},
		{join(numbers, wire.Int(-1)), api.ErrForm},
		{join(numbers, wire.Int(1)), api.ErrMore},
		{join(numbers, wire.Int(2), wire.Bytes("a")), api.ErrMore},
		{join(numbers, wire.Int(2), wire.Bytes("a"), wire.Int(2), []byte("a")), api.ErrMore},
		{join(numbers, wire.Int(2), wire.Bytes("a"), wire.Int(-1)), api.ErrForm},
		{join(numbers, wire.Int(2), wire.Int(-1), none, none), api.ErrForm},
		{join(numbers, wire.Int(1<<40), pair, none), api.ErrMore},
		{join(numbers, wire.Strings([]string{"a"})), api.ErrForm},
		{join(numbers, wire.Strings([]string{"a"}), none), api.ErrForm},
		{join(numbers, wire.Strings([]string{"a", "b", "c"})), api.ErrForm},
		{join(numbers, wire.Strings([]string{"a", "b", "c"}), none), api.ErrForm},
		{join(numbers, wire.Strings([]string{"a", "b", "c"}), []byte{0x81}), api.ErrForm},
		{join(numbers, wire.Int(1), []byte{0x81}), api.ErrMore},
		{join(numbers, wire.Int(3), pair[2:]), api.ErrMore},
		// The digests.
		{join(numbers, pair), api.ErrMore},
		{join(numbers, none), api.ErrMore},
		{join(numbers, pair, []byte{0}), api.ErrForm},
		{join(numbers, pair, []byte{0x89}), api.ErrForm},
		{join(numbers, pair, wire.Int(-1)), api.ErrForm},
		{join(numbers, pair, wire.Int(1)), api.ErrMore},
		{join(numbers, pair, wire.Int(1), make([]byte, 15)), api.ErrMore},
		{join(numbers, pair, wire.Int(2), make([]byte, 31)), api.ErrMore},
		{join(numbers, pair, wire.Int(math.MaxInt), make([]byte, 64)), api.ErrMore},
		{join(numbers, pair, wire.Int(1<<60), make([]byte, 64)), api.ErrMore},
	} {
		checkDecode(t, "P4.7: input "+strconv.Itoa(i), x.b, merkle.Proof{}, 0, x.e)
	}
	checkDecode(t, "P4.7", join(numbers, pair, none), merkle.Proof{First: 3, Size: 4, Leaves: five()[:1]}, len(numbers)+len(pair)+1, api.OK)
}

// TestDecodeOfChangedBytes checks that what is decoded is what the bytes say.
func TestDecodeOfChangedBytes(t *testing.T) {
	for _, p := range odd() {
		b := merkle.Encode(p)
		if len(b) > 300 {
			continue
		}
		for at := range b {
			for bit := range 8 {
				c := slices.Clone(b)
				c[at] ^= 1 << bit
				q, n, e := merkle.Decode(c)
				if e == api.OK && (equal(q, p) && n == len(b) || !slices.Equal(merkle.Encode(q), c[:n])) {
					t.Errorf("P4.11: byte %d, bit %d of %d bytes does not matter", at, bit, len(b))
				}
				if e != api.OK && (!equal(q, merkle.Proof{}) || n != 0) {
					t.Errorf("P4.7: byte %d, bit %d: a proof with the error %d", at, bit, e)
				}
			}
		}
	}
}

// wipe overwrites the memory of lists, also behind their ends.
func wipe(p merkle.Proof) {
	clear(p.Leaves[:cap(p.Leaves)])
	clear(p.Sides[:cap(p.Sides)])
}

// TestMemory checks that results share no memory with arguments, nor with each other.
func TestMemory(t *testing.T) {
	l := five()
	r := root(t, l)
	for _, make := range []func() merkle.Proof{
		func() merkle.Proof { return prove(t, l, "d") },
		func() merkle.Proof { return prove(t, l, "e") },
		func() merkle.Proof { return proveRange(t, l, "", "z") },
		func() merkle.Proof { return proveRange(t, l, "c", "e") },
	} {
		first, second := make(), make()
		want := clone(first)
		wipe(first)
		checkProof(t, "P4.3, P4.5: another result", second, want)
		if !slices.Equal(l, five()) {
			t.Fatal("P4.3, P4.5: a proof shares memory with the leaves")
		}
		b := merkle.Encode(second)
		checkCheck(t, "P4.4", r, "d", second, "3", true, api.OK)
		in, _ := merkle.CheckRange(r, "b", "e", second)
		more, _ := merkle.CheckRange(r, "b", "e", second)
		clear(in[:cap(in)])
		if wanted, _ := refCheckRange(r, "b", "e", want); !slices.Equal(more, wanted) {
			t.Error("P4.6: two results share memory")
		}
		checkProof(t, "P4.4 to P4.7: the argument", second, want)
		q, _, _ := merkle.Decode(b)
		other, _, _ := merkle.Decode(b)
		wipe(other)
		clear(b)
		checkProof(t, "P4.7: a decoded proof", q, want)
		b = merkle.Encode(q)
		c := merkle.Encode(q)
		clear(b[:cap(b)])
		checkDecode(t, "P4.7: another encoding", c, want, len(c), api.OK)
	}
}
