package merkle_test

import (
	"crypto/sha256"
	"slices"

	"culprit/api"
	"culprit/merkle"
	"culprit/wire"
)

// The functions whose names begin with ref follow the text of the chapter in
// another way than the package does: with Go's own hash function, with the
// list of all rows of a tree, and by looking at all leaves one by one.

const (
	maxText   = 65536
	maxLeaves = 4096
)

func refOf(tag byte, parts ...string) api.Digest {
	text := string([]byte{tag})
	for _, p := range parts {
		text += string(wire.Bytes(p))
	}
	sum := sha256.Sum256([]byte(text))
	return api.Digest(sum[:16])
}

func refLeaf(l merkle.Leaf) api.Digest { return refOf(3, l.Key, l.Value) }

func refNode(left, right api.Digest) api.Digest { return refOf(4, string(left[:]), string(right[:])) }

// refTop returns the root above the digest of all leaves.
func refTop(size int, all api.Digest) api.Digest {
	if size == 0 {
		return refOf(4, string(wire.Int(0)))
	}
	return refOf(4, string(wire.Int(size)), string(all[:]))
}

// span is the row of leaves from a to b - 1.
type span struct{ a, b int }

func (s span) halves() (span, span) {
	power := 1
	for 2*power < s.b-s.a {
		power *= 2
	}
	return span{s.a, s.a + power}, span{s.a + power, s.b}
}

// refRows returns the rows of a tree, each one before those into which it is divided.
func refRows(size int) []span {
	if size < 1 {
		return nil
	}
	rows := []span{{0, size}}
	for i := 0; i < len(rows); i++ {
		if rows[i].b-rows[i].a > 1 {
			left, right := rows[i].halves()
			rows = append(rows, left, right)
		}
	}
	return rows
}

// refDigests returns the digests of all rows of a list.
func refDigests(l []merkle.Leaf) map[span]api.Digest {
	digests := map[span]api.Digest{}
	for _, s := range slices.Backward(refRows(len(l))) {
		if s.b-s.a == 1 {
			digests[s] = refLeaf(l[s.a])
			continue
		}
		left, right := s.halves()
		digests[s] = refNode(digests[left], digests[right])
	}
	return digests
}

func refRoot(l []merkle.Leaf) api.Digest {
	return refTop(len(l), refDigests(l)[span{0, len(l)}])
}

// refSides returns the greatest rows without the leaves from first to end - 1.
func refSides(size, first, end int) []span {
	var sides []span
	for _, s := range refRows(size) {
		without := true
		for i := first; i < end; i++ {
			without = without && !(s.a <= i && i < s.b)
		}
		within := slices.ContainsFunc(sides, func(o span) bool { return o.a <= s.a && s.b <= o.b })
		if without && !within {
			sides = append(sides, s)
		}
	}
	slices.SortFunc(sides, func(s, o span) int { return s.a - o.a })
	return sides
}

// refProof returns the proof with the leaves from first to end - 1.
func refProof(l []merkle.Leaf, first, end int) merkle.Proof {
	p := merkle.Proof{First: first, Size: len(l), Leaves: slices.Clone(l[first:end])}
	digests := refDigests(l)
	for _, s := range refSides(len(l), first, end) {
		p.Sides = append(p.Sides, digests[s])
	}
	return p
}

// refWindow returns the proof with those leaves that are wanted, which stand one after the other.
func refWindow(l []merkle.Leaf, wanted func(i int) bool) merkle.Proof {
	first, end := 0, 0
	for i := range l {
		if wanted(i) && end == 0 {
			first = i
		}
		if wanted(i) {
			end = i + 1
		}
	}
	return refProof(l, first, end)
}

// below and above return the indices of the last leaf with a key less than a key, and of the first one whose key is not, or -1.
func below(l []merkle.Leaf, key string) int {
	at := -1
	for i, leaf := range l {
		if leaf.Key < key {
			at = i
		}
	}
	return at
}

func above(l []merkle.Leaf, key string) int {
	return slices.IndexFunc(l, func(leaf merkle.Leaf) bool { return leaf.Key >= key })
}

func refProve(l []merkle.Leaf, key string) merkle.Proof {
	if at := slices.IndexFunc(l, func(leaf merkle.Leaf) bool { return leaf.Key == key }); at >= 0 {
		return refWindow(l, func(i int) bool { return i == at })
	}
	before, after := below(l, key), above(l, key)
	return refWindow(l, func(i int) bool { return i == before || i == after })
}

func refRange(l []merkle.Leaf, from, to string) merkle.Proof {
	before, after := below(l, from), above(l, to)
	return refWindow(l, func(i int) bool {
		return from <= l[i].Key && l[i].Key < to || i == before || i == after
	})
}

// inRange returns the leaves whose keys are in a range.
func inRange(l []merkle.Leaf, from, to string) []merkle.Leaf {
	var in []merkle.Leaf
	for _, leaf := range l {
		if from <= leaf.Key && leaf.Key < to {
			in = append(in, leaf)
		}
	}
	return in
}

func refValid(l []merkle.Leaf) api.Errno {
	long := slices.ContainsFunc(l, func(x merkle.Leaf) bool { return len(x.Key) > maxText || len(x.Value) > maxText })
	if len(l) > maxLeaves || long {
		return api.ErrLimit
	}
	for i := range l {
		if i > 0 && !(l[i-1].Key < l[i].Key) {
			return api.ErrArg
		}
	}
	return api.OK
}

// refUnder says whether p is a proof under a root.
func refUnder(root api.Digest, p merkle.Proof) bool {
	if p.Size < 0 || p.Size > maxLeaves || p.First < 0 || p.First > maxLeaves || p.First+len(p.Leaves) > p.Size {
		return false
	}
	if refValid(p.Leaves) != api.OK || p.Size > 0 && len(p.Leaves) == 0 {
		return false
	}
	sides := refSides(p.Size, p.First, p.First+len(p.Leaves))
	return len(sides) == len(p.Sides) && refMade(p) == root
}

// refMade returns the root that is made of a proof, whose Size is from 0 to 10000, and whose other parts may be wrong: where a leaf or a side is missing, there is a digest of noughts.
func refMade(p merkle.Proof) api.Digest {
	digests := map[span]api.Digest{}
	for i, s := range refSides(p.Size, p.First, p.First+len(p.Leaves)) {
		if i < len(p.Sides) {
			digests[s] = p.Sides[i]
		}
	}
	rows := refRows(p.Size)
	for _, s := range slices.Backward(rows) {
		if _, is := digests[s]; is {
			continue
		}
		if at := s.a - p.First; s.b-s.a > 1 {
			left, right := s.halves()
			digests[s] = refNode(digests[left], digests[right])
		} else if at >= 0 && at < len(p.Leaves) {
			digests[s] = refLeaf(p.Leaves[at])
		}
	}
	return refTop(p.Size, digests[span{0, p.Size}])
}

func refCheck(root api.Digest, key string, p merkle.Proof) (string, bool, api.Errno) {
	if !refUnder(root, p) {
		return "", false, api.ErrProof
	}
	n := len(p.Leaves)
	between := p.Size == 0
	for i, leaf := range p.Leaves {
		if leaf.Key == key {
			return leaf.Value, true, api.OK
		}
		first, last := p.First == 0 && i == 0, p.First+n == p.Size && i == n-1
		between = between || first && key < leaf.Key || last && key > leaf.Key
		between = between || i > 0 && p.Leaves[i-1].Key < key && key < leaf.Key
	}
	if !between {
		return "", false, api.ErrProof
	}
	return "", false, api.OK
}

func refCheckRange(root api.Digest, from, to string, p merkle.Proof) ([]merkle.Leaf, api.Errno) {
	if to < from {
		return nil, api.ErrRange
	}
	if !refUnder(root, p) {
		return nil, api.ErrProof
	}
	n := len(p.Leaves)
	left := p.First == 0 || n > 0 && p.Leaves[0].Key < from
	right := p.First+n == p.Size || n > 0 && p.Leaves[n-1].Key >= to
	if !left || !right {
		return nil, api.ErrProof
	}
	return inRange(p.Leaves, from, to), api.OK
}
