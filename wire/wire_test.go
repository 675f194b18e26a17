package wire_test

import (
	"bytes"
	"math"
	"math/big"
	"math/rand/v2"
	"runtime"
	"slices"
	"strings"
	"testing"

	"culprit/api"
	"culprit/wire"
)

// decoder is one of the decoding functions, with its value made comparable:
// decode also returns the encoding of the value, and whether the value is the zero value.
type decoder struct {
	name   string
	decode func(b []byte) (again []byte, zero bool, used int, e api.Errno)
}

var decoders = []decoder{
	{"GetInt", func(b []byte) ([]byte, bool, int, api.Errno) {
		n, used, e := wire.GetInt(b)
		return wire.Int(n), n == 0, used, e
	}},
	{"GetBytes", func(b []byte) ([]byte, bool, int, api.Errno) {
		s, used, e := wire.GetBytes(b)
		return wire.Bytes(s), s == "", used, e
	}},
	{"GetInts", func(b []byte) ([]byte, bool, int, api.Errno) {
		l, used, e := wire.GetInts(b)
		return wire.Ints(l), len(l) == 0, used, e
	}},
	{"GetStrings", func(b []byte) ([]byte, bool, int, api.Errno) {
		l, used, e := wire.GetStrings(b)
		return wire.Strings(l), len(l) == 0, used, e
	}},
	{"GetDigests", func(b []byte) ([]byte, bool, int, api.Errno) {
		l, used, e := wire.GetDigests(b)
		return wire.Digests(l), len(l) == 0, used, e
	}},
}

func decoderOf(name string) decoder {
	return decoders[slices.IndexFunc(decoders, func(d decoder) bool { return d.name == name })]
}

// integers returns integers around all places where the encoding changes, and some others, in increasing order without doubles.
func integers() []int {
	l := []int{0, math.MaxInt, math.MinInt}
	for shift := range 63 {
		p := 1 << shift
		for d := -2; d <= 2; d++ {
			l = append(l, p+d, -p+d, -(p + d))
		}
	}
	for d := range 3 {
		l = append(l, math.MaxInt-d, math.MinInt+d)
	}
	for n := -70000; n <= 70000; n += 37 {
		l = append(l, n)
	}
	for n := -600; n <= 600; n++ {
		l = append(l, n)
	}
	r := rand.New(rand.NewPCG(1, 2))
	for range 200 {
		l = append(l, int(r.Uint64())>>r.IntN(64))
	}
	slices.Sort(l)
	return slices.Compact(l)
}

// encodeByText is the text of P1.1, calculated in another way than the package does.
func encodeByText(n int) []byte {
	m := big.NewInt(int64(n))
	if n >= 0 {
		digits := m.Bytes()
		return append([]byte{byte(128 + len(digits))}, digits...)
	}
	m.Sub(big.NewInt(-1), m)
	digits := m.Bytes()
	b := []byte{byte(127 - len(digits))}
	for _, d := range digits {
		b = append(b, 255-d)
	}
	return b
}

func cat(parts ...[]byte) []byte { return bytes.Join(parts, nil) }

// checkFails checks that a decoder refuses each input with the error, and that all other results are zero.
func checkFails(t *testing.T, promise, name string, e api.Errno, inputs ...[]byte) {
	t.Helper()
	d := decoderOf(name)
	for _, b := range inputs {
		before := slices.Clone(b)
		_, zero, used, got := d.decode(b)
		if got != e || used != 0 || !zero {
			t.Errorf("%s: %s(%v): error %d, used %d, value zero %t; want error %d and zero results", promise, name, b, got, used, zero, e)
		}
		if !bytes.Equal(b, before) {
			t.Errorf("%s: %s(%v) changed its argument to %v", promise, name, before, b)
		}
	}
}

// checkTakes checks that a decoder reads the encoding, also with other bytes after it.
func checkTakes(t *testing.T, promise, name string, encoding []byte) {
	t.Helper()
	d := decoderOf(name)
	for _, after := range [][]byte{nil, {0}, {255}, {128}, {129}, {118, 137}, encoding, bytes.Repeat([]byte{7}, 40)} {
		b := cat(encoding, after)
		before := slices.Clone(b)
		again, _, used, e := d.decode(b)
		if e != api.OK || used != len(encoding) || !bytes.Equal(again, encoding) {
			t.Errorf("%s: %s(%v): encodes again as %v, used %d, error %d", promise, name, b, again, used, e)
		}
		if !bytes.Equal(b, before) {
			t.Errorf("%s: %s(%v) changed its argument to %v", promise, name, before, b)
		}
	}
}

func TestInt(t *testing.T) {
	for _, x := range []struct {
		n int
		b []byte
	}{
		{0, []byte{128}},
		{1, []byte{129, 1}},
		{255, []byte{129, 255}},
		{256, []byte{130, 1, 0}},
		{65535, []byte{130, 255, 255}},
		{65536, []byte{131, 1, 0, 0}},
		{0x0102030405060708, []byte{136, 1, 2, 3, 4, 5, 6, 7, 8}},
		{math.MaxInt, []byte{136, 127, 255, 255, 255, 255, 255, 255, 255}},
		{-1, []byte{127}},
		{-2, []byte{126, 254}},
		{-256, []byte{126, 0}},
		{-257, []byte{125, 254, 255}},
		{-65536, []byte{125, 0, 0}},
		{-65537, []byte{124, 254, 255, 255}},
		{-1 - 0x0102030405060708, []byte{119, 254, 253, 252, 251, 250, 249, 248, 247}},
		{math.MinInt, []byte{119, 128, 0, 0, 0, 0, 0, 0, 0}},
	} {
		if b := wire.Int(x.n); !bytes.Equal(b, x.b) {
			t.Errorf("P1.1: Int(%d) = %v, want %v", x.n, b, x.b)
		}
	}
	for _, n := range integers() {
		if b, want := wire.Int(n), encodeByText(n); !bytes.Equal(b, want) {
			t.Errorf("P1.1: Int(%d) = %v, want %v", n, b, want)
		}
	}
}

func TestGetInt(t *testing.T) {
	for _, n := range integers() {
		for _, after := range [][]byte{nil, {0}, {200, 7}, {137}, bytes.Repeat([]byte{255}, 9)} {
			b := cat(encodeByText(n), after)
			got, used, e := wire.GetInt(b)
			if got != n || used != len(b)-len(after) || e != api.OK {
				t.Errorf("P1.2: GetInt(%v) = %d, %d, %d, want %d", b, got, used, e, n)
			}
		}
	}
}

func TestGetIntErrors(t *testing.T) {
	checkFails(t, "P1.2: no bytes", "GetInt", api.ErrMore, nil, []byte{})
	for first := range 256 {
		if first < 119 || first > 136 {
			for _, after := range [][]byte{nil, {1}, bytes.Repeat([]byte{1}, 300)} {
				checkFails(t, "P1.2: the first byte", "GetInt", api.ErrForm, cat([]byte{byte(first)}, after))
			}
		}
	}
	for k := 1; k <= 8; k++ {
		for have := range k {
			// A cut off encoding is reported before a leading nought.
			for _, fill := range []byte{0, 1, 127, 128, 254, 255} {
				rest := bytes.Repeat([]byte{fill}, have)
				checkFails(t, "P1.2: cut off", "GetInt", api.ErrMore, cat([]byte{byte(128 + k)}, rest), cat([]byte{byte(127 - k)}, rest))
			}
		}
		for _, fill := range []byte{0, 1, 128, 255} {
			rest := bytes.Repeat([]byte{fill}, k-1)
			checkFails(t, "P1.2: not the shortest", "GetInt", api.ErrForm, cat([]byte{byte(128 + k), 0}, rest), cat([]byte{byte(127 - k), 255}, rest))
		}
	}
	noughts, full := bytes.Repeat([]byte{0}, 7), bytes.Repeat([]byte{255}, 7)
	for high := 128; high <= 255; high++ {
		positive, negative := []byte{136, byte(high)}, []byte{119, byte(255 - high)}
		checkFails(t, "P1.2: too great", "GetInt", api.ErrForm, cat(positive, noughts), cat(positive, full))
		checkFails(t, "P1.2: too small", "GetInt", api.ErrForm, cat(negative, noughts), cat(negative, full))
	}
}

var texts = []string{"", "a", "ab", "\x00", "\x80\x81\xff", "äöü", strings.Repeat("x", 255), strings.Repeat("y", 256), strings.Repeat("z", 70000)}

func TestBytes(t *testing.T) {
	for _, s := range texts {
		want := cat(encodeByText(len(s)), []byte(s))
		if b := wire.Bytes(s); !bytes.Equal(b, want) {
			t.Errorf("P1.3: Bytes of %d bytes begins with %v", len(s), b[:min(len(b), 9)])
		}
		for _, after := range []string{"", "c", "\x00\xff"} {
			got, used, e := wire.GetBytes(cat(want, []byte(after)))
			if got != s || used != len(want) || e != api.OK {
				t.Errorf("P1.3: GetBytes of %d bytes: used %d, error %d", len(s), used, e)
			}
		}
	}
	if b := wire.Bytes("ab"); !bytes.Equal(b, []byte{129, 2, 97, 98}) {
		t.Error("P1.3:", b)
	}
}

// checkLengths checks what all decoders say of a length that cannot be decoded, is negative, or is greater than what follows.
func checkLengths(t *testing.T, promise, name string) {
	t.Helper()
	follow := bytes.Repeat([]byte{128}, 20)
	checkFails(t, promise+": no length", name, api.ErrMore, nil, []byte{129}, []byte{130, 1}, []byte{136, 1, 2}, []byte{126}, []byte{119, 1})
	checkFails(t, promise+": a malformed length", name, api.ErrForm,
		[]byte{137}, []byte{118}, []byte{0}, []byte{255},
		cat([]byte{129, 0}, follow), cat([]byte{130, 0, 1}, follow), cat([]byte{126, 255}, follow),
		cat([]byte{136, 128, 0, 0, 0, 0, 0, 0, 0}, follow), cat([]byte{119, 127, 0, 0, 0, 0, 0, 0, 0}, follow))
	for _, n := range []int{-1, -2, -16, -256, -257, -1 << 32, -1 << 60, math.MinInt + 1, math.MinInt} {
		checkFails(t, promise+": a negative length", name, api.ErrForm, encodeByText(n), cat(encodeByText(n), follow))
	}
	// Multiplied by the size of an element, some of these wrap around to small or negative numbers.
	for _, n := range []int{1 << 20, 1 << 31, 1 << 32, 1<<32 + 1, 1 << 58, 1 << 59, 1<<59 + 1, 1 << 60, 1<<60 + 1, 1 << 61, 1<<61 + 1, 1 << 62, 1<<62 + 1, math.MaxInt - 1, math.MaxInt} {
		checkFails(t, promise+": a great length", name, api.ErrMore, encodeByText(n), cat(encodeByText(n), follow))
	}
}

func TestGetBytesErrors(t *testing.T) {
	checkLengths(t, "P1.3", "GetBytes")
	checkFails(t, "P1.3: too few bytes", "GetBytes", api.ErrMore,
		[]byte{129, 1}, []byte{129, 2, 97}, []byte{129, 5, 1, 2, 3, 4}, cat([]byte{130, 1, 0}, bytes.Repeat([]byte{9}, 255)))
	checkTakes(t, "P1.3", "GetBytes", []byte{128})
	checkTakes(t, "P1.3", "GetBytes", []byte{129, 5, 1, 2, 3, 4, 5})
	checkTakes(t, "P1.3", "GetBytes", cat([]byte{130, 1, 0}, bytes.Repeat([]byte{9}, 256)))
}

func integerLists() [][]int {
	return [][]int{nil, {}, {0}, {-1}, {1, -1}, {math.MaxInt, math.MinInt, 0}, {255, 256, -256, -257}, integers(), make([]int, 255), make([]int, 256)}
}

func TestInts(t *testing.T) {
	for _, l := range integerLists() {
		want := encodeByText(len(l))
		for _, n := range l {
			want = append(want, encodeByText(n)...)
		}
		before := slices.Clone(l)
		if b := wire.Ints(l); !bytes.Equal(b, want) {
			t.Errorf("P1.4: Ints of %d elements is wrong", len(l))
		}
		if !slices.Equal(l, before) {
			t.Error("P1.4: the argument was changed:", l)
		}
		for _, after := range [][]byte{nil, {128}, {118}, {129}} {
			got, used, e := wire.GetInts(cat(want, after))
			if !slices.Equal(got, l) || used != len(want) || e != api.OK {
				t.Errorf("P1.4: GetInts of %d elements: %d elements, used %d, error %d", len(l), len(got), used, e)
			}
		}
	}
	if b := wire.Ints([]int{1, -1}); !bytes.Equal(b, []byte{129, 2, 129, 1, 127}) {
		t.Error("P1.4:", b)
	}
}

func TestGetIntsErrors(t *testing.T) {
	checkLengths(t, "P1.4", "GetInts")
	// That too little follows is reported before the first element is looked at.
	checkFails(t, "P1.4: fewer bytes than elements", "GetInts", api.ErrMore,
		[]byte{129, 1}, []byte{129, 2, 128}, []byte{129, 2, 118}, []byte{129, 3, 137, 137}, []byte{129, 4, 129, 0, 128})
	checkFails(t, "P1.4: an element is malformed", "GetInts", api.ErrForm,
		[]byte{129, 1, 118}, []byte{129, 1, 137}, []byte{129, 1, 129, 0}, []byte{129, 1, 126, 255},
		[]byte{129, 2, 128, 118}, []byte{129, 2, 118, 129}, []byte{129, 3, 128, 129, 0, 136}, []byte{129, 2, 129, 118, 118})
	checkFails(t, "P1.4: an element is cut off", "GetInts", api.ErrMore,
		[]byte{129, 1, 129}, []byte{129, 2, 128, 129}, []byte{129, 2, 129, 118}, []byte{129, 2, 130, 118}, []byte{129, 3, 129, 1, 128})
	checkTakes(t, "P1.4", "GetInts", []byte{129, 2, 128, 127})
}

func stringLists() [][]string {
	return [][]string{nil, {}, {""}, {"a"}, {"", "a"}, {"a", ""}, {"", "", ""}, {"ab", "\x00", "\xff\x80"}, texts, make([]string, 255), make([]string, 256)}
}

func TestStrings(t *testing.T) {
	for _, l := range stringLists() {
		want := encodeByText(len(l))
		for _, s := range l {
			want = cat(want, encodeByText(len(s)), []byte(s))
		}
		before := slices.Clone(l)
		if b := wire.Strings(l); !bytes.Equal(b, want) {
			t.Errorf("P1.5: Strings of %d elements is wrong", len(l))
		}
		if !slices.Equal(l, before) {
			t.Error("P1.5: the argument was changed")
		}
		for _, after := range [][]byte{nil, {128}, {118}, {129}} {
			got, used, e := wire.GetStrings(cat(want, after))
			if !slices.Equal(got, l) || used != len(want) || e != api.OK {
				t.Errorf("P1.5: GetStrings of %d elements: %d elements, used %d, error %d", len(l), len(got), used, e)
			}
		}
	}
	if b := wire.Strings([]string{"", "a"}); !bytes.Equal(b, []byte{129, 2, 128, 129, 1, 97}) {
		t.Error("P1.5:", b)
	}
}

func TestGetStringsErrors(t *testing.T) {
	checkLengths(t, "P1.5", "GetStrings")
	checkFails(t, "P1.5: fewer bytes than elements", "GetStrings", api.ErrMore,
		[]byte{129, 1}, []byte{129, 2, 128}, []byte{129, 2, 118}, []byte{129, 2, 127}, []byte{129, 3, 137, 137}, []byte{129, 4, 129, 0, 128})
	checkFails(t, "P1.5: an element is malformed", "GetStrings", api.ErrForm,
		[]byte{129, 1, 118}, []byte{129, 1, 137}, []byte{129, 1, 129, 0}, []byte{129, 1, 127}, []byte{129, 1, 126, 0},
		[]byte{129, 2, 128, 127}, []byte{129, 2, 127, 129}, []byte{129, 3, 128, 129, 0, 136}, []byte{129, 2, 129, 1, 118, 118})
	checkFails(t, "P1.5: an element is cut off", "GetStrings", api.ErrMore,
		[]byte{129, 1, 129}, []byte{129, 1, 129, 1}, []byte{129, 2, 128, 129, 2, 97}, []byte{129, 2, 129, 2, 118}, []byte{129, 2, 129, 1, 118},
		[]byte{129, 2, 129, 9, 127}, []byte{129, 1, 136, 127, 255, 255, 255, 255, 255, 255, 255})
	checkTakes(t, "P1.5", "GetStrings", []byte{129, 3, 128, 129, 1, 97, 128})
}

func digestLists() [][]api.Digest {
	long := make([]api.Digest, 300)
	for i := range long {
		for j := range long[i] {
			long[i][j] = byte(i*7 + j*31)
		}
	}
	return [][]api.Digest{nil, {}, {{}}, {{1, 2, 3, 15: 9}}, {{}, {1, 2, 3, 15: 9}}, {{118, 137, 129}, {}, {15: 255}}, long}
}

func TestDigests(t *testing.T) {
	for _, l := range digestLists() {
		want := encodeByText(len(l))
		for _, d := range l {
			want = append(want, d[:]...)
		}
		before := slices.Clone(l)
		if b := wire.Digests(l); !bytes.Equal(b, want) {
			t.Errorf("P1.8: Digests of %d elements is wrong", len(l))
		}
		if !slices.Equal(l, before) {
			t.Error("P1.8: the argument was changed")
		}
		for _, after := range [][]byte{nil, {128}, {118}, make([]byte, 15), make([]byte, 16), make([]byte, 17)} {
			got, used, e := wire.GetDigests(cat(want, after))
			if !slices.Equal(got, l) || used != len(want) || e != api.OK {
				t.Errorf("P1.8: GetDigests of %d elements: %d elements, used %d, error %d", len(l), len(got), used, e)
			}
		}
	}
}

func TestGetDigestsErrors(t *testing.T) {
	checkLengths(t, "P1.8", "GetDigests")
	for n := 1; n <= 4; n++ {
		length := []byte{129, byte(n)}
		for have := range n * api.DigestSize {
			checkFails(t, "P1.8: too few bytes", "GetDigests", api.ErrMore, cat(length, bytes.Repeat([]byte{118}, have)))
		}
		checkTakes(t, "P1.8", "GetDigests", cat(length, bytes.Repeat([]byte{118}, n*api.DigestSize)))
	}
}

// encodings returns encodings for the decoder.
func encodings(name string) [][]byte {
	var all [][]byte
	switch name {
	case "GetInt":
		for _, n := range integers() {
			all = append(all, wire.Int(n))
		}
	case "GetBytes":
		for _, s := range texts[:8] {
			all = append(all, wire.Bytes(s))
		}
	case "GetInts":
		for _, l := range integerLists() {
			all = append(all, wire.Ints(l[:min(len(l), 300)]))
		}
	case "GetStrings":
		for _, l := range stringLists() {
			all = append(all, wire.Strings(l[:min(len(l), 8)]))
		}
	case "GetDigests":
		for _, l := range digestLists() {
			all = append(all, wire.Digests(l[:min(len(l), 20)]))
		}
	}
	return all
}

func TestEncodingsDecode(t *testing.T) {
	for _, d := range decoders {
		for _, b := range encodings(d.name) {
			checkTakes(t, "P1.6", d.name, b)
			for i := range b {
				checkFails(t, "P1.6: a proper prefix", d.name, api.ErrMore, b[:i])
			}
		}
	}
}

// TestOnlyEncodingsDecode tries all short sequences of bytes that mean something special somewhere.
func TestOnlyEncodingsDecode(t *testing.T) {
	special := []byte{0, 1, 2, 97, 118, 119, 125, 126, 127, 128, 129, 130, 136, 137, 254, 255}
	for _, d := range decoders {
		var extend func(b []byte)
		extend = func(b []byte) {
			again, zero, used, e := d.decode(b)
			switch e {
			case api.OK:
				if used > len(b) || !bytes.Equal(again, b[:used]) {
					t.Fatalf("P1.6: %s(%v) used %d bytes, of a value whose encoding is %v", d.name, b, used, again)
				}
			case api.ErrForm, api.ErrMore:
				if used != 0 || !zero {
					t.Fatalf("P1.6: %s(%v): error %d with other results", d.name, b, e)
				}
			default:
				t.Fatalf("P1.6: %s(%v): error %d", d.name, b, e)
			}
			if len(b) < 4 {
				for _, c := range special {
					extend(append(slices.Clone(b), c))
				}
			}
		}
		extend(nil)
	}
}

func TestOrder(t *testing.T) {
	all := integers()
	for i, n := range all {
		b := wire.Int(n)
		if len(b) < 1 || len(b) > 9 {
			t.Errorf("P1.7: Int(%d) has %d bytes", n, len(b))
		}
		if i > 0 && bytes.Compare(wire.Int(all[i-1]), b) >= 0 {
			t.Errorf("P1.7: Int(%d) is not before Int(%d)", all[i-1], n)
		}
	}
	r := rand.New(rand.NewPCG(3, 4))
	for range 20000 {
		m, n := int(r.Uint64())>>r.IntN(64), int(r.Uint64())>>r.IntN(64)
		if (m < n) != (bytes.Compare(wire.Int(m), wire.Int(n)) < 0) {
			t.Errorf("P1.7: the order of Int(%d) and Int(%d)", m, n)
		}
	}
}

func TestEncodingsAreNewMemory(t *testing.T) {
	for name, encode := range map[string]func() []byte{
		"P1.1": func() []byte { return wire.Int(300) },
		"P1.3": func() []byte { return wire.Bytes("abc") },
		"P1.4": func() []byte { return wire.Ints([]int{1, 2}) },
		"P1.5": func() []byte { return wire.Strings([]string{"abc"}) },
		"P1.8": func() []byte { return wire.Digests([]api.Digest{{1}}) },
	} {
		first, second := encode(), encode()
		want := slices.Clone(first)
		clear(first[:cap(first)])
		if !bytes.Equal(second, want) || !bytes.Equal(encode(), want) {
			t.Error(name, "results share memory")
		}
	}
}

func TestDecodedIsNewMemory(t *testing.T) {
	b := wire.Bytes("abc")
	s, _, _ := wire.GetBytes(b)
	clear(b)
	if s != "abc" {
		t.Error("P1.3: the string shares memory with the argument:", s)
	}
	b = wire.Strings([]string{"abc", "de"})
	l, _, _ := wire.GetStrings(b)
	clear(b)
	if !slices.Equal(l, []string{"abc", "de"}) {
		t.Error("P1.5: the strings share memory with the argument:", l)
	}
	b = wire.Digests([]api.Digest{{1}, {2}})
	before := slices.Clone(b)
	d, _, _ := wire.GetDigests(b)
	clear(d)
	if !bytes.Equal(b, before) {
		t.Error("P1.8: the digests share memory with the argument")
	}
	b = wire.Ints([]int{5, 6})
	first, _, _ := wire.GetInts(b)
	second, _, _ := wire.GetInts(b)
	clear(first)
	if !slices.Equal(second, []int{5, 6}) {
		t.Error("P1.4: two results share memory:", second)
	}
}

// allocated returns the number of bytes that a call allocates.
func allocated(call func()) uint64 {
	var before, after runtime.MemStats
	runtime.ReadMemStats(&before)
	call()
	runtime.ReadMemStats(&after)
	return after.TotalAlloc - before.TotalAlloc
}

func TestDecodingAllocatesInProportion(t *testing.T) {
	const size = 1 << 16
	follow := bytes.Repeat([]byte{129}, size)
	for _, d := range decoders[1:] {
		for _, n := range []int{size, size + 1, 1 << 26, 1 << 36, 1 << 60, math.MaxInt} {
			b := cat(encodeByText(n), follow)
			if got := allocated(func() { d.decode(b) }); got > 1<<24 {
				t.Errorf("P1.3 to P1.8: %s of %d bytes with the length %d allocates %d bytes", d.name, len(b), n, got)
			}
			short := encodeByText(n)
			if got := allocated(func() { d.decode(short) }); got > 1<<16 {
				t.Errorf("P1.3 to P1.8: %s of %d bytes with the length %d allocates %d bytes", d.name, len(short), n, got)
			}
		}
	}
}
