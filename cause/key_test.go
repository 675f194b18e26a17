package cause_test

import (
	"crypto/sha256"
	"encoding/hex"
	"math"
	"slices"
	"strings"
	"testing"

	"culprit/api"
	"culprit/cause"
	"culprit/wire"
)

// refKey does by the words of the chapter what Key does.
func refKey(l []cause.Cause) api.Digest {
	l = slices.Clone(l)
	slices.SortFunc(l, func(a, b cause.Cause) int {
		switch {
		case a.Kind != b.Kind:
			return less(a.Kind < b.Kind)
		case a.Where != b.Where:
			return less(a.Where < b.Where)
		case a.Name != b.Name:
			return less(a.Name < b.Name)
		case a.PC != b.PC:
			return less(a.PC < b.PC)
		}
		return 0
	})
	text := ""
	for i, x := range l {
		if i > 0 && l[i-1].Kind == x.Kind && l[i-1].Where == x.Where && l[i-1].Name == x.Name && l[i-1].PC == x.PC {
			continue
		}
		text += string(wire.Ints([]int{x.Kind, x.PC})) + string(wire.Strings([]string{x.Where, x.Name}))
	}
	sum := sha256.Sum256(append([]byte{16}, wire.Bytes(text)...))
	return api.Digest(sum[:16])
}

func less(is bool) int {
	if is {
		return -1
	}
	return 1
}

func named(kind int, where, name string, pc int) cause.Cause {
	return cause.Cause{Kind: kind, Where: where, PC: pc, K: pc + 1, At: kind + 2, Name: name}
}

// TestKey compares keys with those of a separate calculation, in all orders and with causes twice.
func TestKey(t *testing.T) {
	for _, c := range []struct {
		l    []cause.Cause
		want string
	}{
		{nil, "4cf0a0011b26ad18037f7fd1b5c14541"},
		{[]cause.Cause{choice(cause.Number, "t", 0, 2, 0)}, "23efe14c45927afc1c31f1546133e930"},
		{[]cause.Cause{choice(cause.Number, "t", 0, 2, 0), choice(cause.Number, "t", 1, 1, 1)}, "4fae29d79b2104d6901040a01525beb1"},
		{[]cause.Cause{leftover("x", 4)}, "9fbe18c8ea717a583719275f568aeb9f"},
		{[]cause.Cause{leftover("r.n", 1), leftover("f", 0), choice(cause.Loss, "t", 65536, 1, 9), choice(cause.Jump, "q", 0, 1, 8), choice(cause.Delivery, "t", 3, 2, 7), choice(cause.Number, "t", 300, 5, 6), choice(cause.Order, "p", 1, 1, 5)}, "e6b60f3a364391817ceee46098614a4e"},
		{[]cause.Cause{named(9, "", "", -1), named(-1, "b", "a", 0), named(-1, "a", "\u00e9", 1), named(-1, "a", "b", 7), named(-1, "a", "b", -7), named(-1, "a", "ab", 9), named(-1, "a", "", 99), named(math.MinInt, "\xff", "", math.MaxInt)}, "5d14d08e3409b529355146bddea45b33"},
		{[]cause.Cause{named(1, strings.Repeat("w", 300), strings.Repeat("n", 70000), 5)}, "aec89eb99580de5ebfb911d51d94334a"},
	} {
		m := newMaker(uint64(len(c.l)))
		for i := range 20 {
			l := slices.Clone(c.l)
			if i > 0 {
				l = append(l, c.l[:min(i%3, len(c.l))]...)
				for k := range l[len(c.l):] {
					l[len(c.l)+k].K, l[len(c.l)+k].At = i, -i
				}
				m.Shuffle(len(l), func(i, k int) { l[i], l[k] = l[k], l[i] })
			}
			if d := cause.Key(l); hex.EncodeToString(d[:]) != c.want {
				t.Fatalf("P15.5: Key of %.200v: %x; want %s", l, d, c.want)
			}
		}
	}
}

// TestKeyByChance: lists with the same rows, and no others, have the same key.
func TestKeyByChance(t *testing.T) {
	m := newMaker(0)
	keys := map[api.Digest]string{}
	for range 3000 {
		var l []cause.Cause
		for range m.IntN(4) {
			l = append(l, cause.Cause{Kind: m.IntN(3) - 1, Where: m.one("", "a", "ab", "b"), PC: m.IntN(3) * 200, K: m.IntN(3), At: m.IntN(3), Name: m.one("", "a", "b")})
		}
		key := cause.Key(l)
		if key != refKey(l) {
			t.Fatalf("P15.5: Key of %v", l)
		}
		rows := rowsOf(l)
		if other, known := keys[key]; known && other != rows {
			t.Fatalf("P15.5: %s and %s have the same key", rows, other)
		}
		keys[key] = rows
	}
	if len(keys) < 500 {
		t.Errorf("only %d keys", len(keys))
	}
}

// rowsOf returns a text that tells the different rows of causes.
func rowsOf(l []cause.Cause) string {
	var rows []string
	for _, x := range l {
		rows = append(rows, strings.Join([]string{string(rune('1' + x.Kind)), x.Where, x.Name, string(rune('a' + x.PC/200))}, "/"))
	}
	slices.Sort(rows)
	return strings.Join(slices.Compact(rows), " ")
}

func TestSame(t *testing.T) {
	l := []cause.Cause{choice(cause.Number, "t", 0, 2, 0), choice(cause.Order, "p", 3, 1, 4), leftover("x", 5)}
	if !cause.Same(l, slices.Clone(l)) || !cause.Same(nil, []cause.Cause{}) || !cause.Same(nil, nil) {
		t.Error("P15.5: equal lists are not the same")
	}
	for _, other := range append(changed(l), nil) {
		if cause.Same(l, other) || cause.Same(other, l) {
			t.Errorf("P15.5: %v and %v are the same", l, other)
		}
	}
}
