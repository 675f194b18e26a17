package hash_test

import (
	"bytes"
	"crypto/hmac"
	"crypto/sha256"
	"encoding/hex"
	"math"
	"math/rand/v2"
	"slices"
	"strings"
	"testing"

	"culprit/api"
	"culprit/hash"
)

// noise returns bytes without a pattern, the same ones for equal lengths.
func noise(n int) []byte {
	r := rand.New(rand.NewPCG(7, uint64(n)))
	b := make([]byte, n)
	for i := range b {
		b[i] = byte(r.Uint32())
	}
	return b
}

// sizes returns lengths around all places where the padding changes, up to several blocks.
func sizes() []int {
	var l []int
	for n := range 330 {
		l = append(l, n)
	}
	return append(l, 1000, 1024, 4095, 4096, 4097, 65535, 65536, 100000)
}

func checkSum(t *testing.T, promise string, got [32]byte, want string) {
	t.Helper()
	if text := hex.EncodeToString(got[:]); text != want {
		t.Errorf("%s: %s, want %s", promise, text, want)
	}
}

func TestSumOfKnownMessages(t *testing.T) {
	for _, x := range []struct{ text, want string }{
		{"", "e3b0c44298fc1c149afbf4c8996fb92427ae41e4649b934ca495991b7852b855"},
		{"abc", "ba7816bf8f01cfea414140de5dae2223b00361a396177a9cb410ff61f20015ad"},
		{"abcdbcdecdefdefgefghfghighijhijkijkljklmklmnlmnomnopnopq", "248d6a61d20638b8e5c026930c3e6039a33ce45964ff2167f6ecedd419db06c1"},
		{strings.Repeat("a", 55), "9f4390f8d30c2dd92ec9f095b65e2b9ae9b0a925a5258e241c9f1e910f734318"},
		{strings.Repeat("a", 56), "b35439a4ac6f0948b6d6f9e3c6af0f5f590ce20f1bde7090ef7970686ec6738a"},
		{strings.Repeat("a", 64), "ffe054fe7ae0cb6dc65c3af9b61d5209f439851db43d0ba5997337df154668eb"},
		{strings.Repeat("a", 1000000), "cdc76e5c9914fb9281a1c7e284d73e67f1809a48a497200e046d39ccc7112cd0"},
	} {
		checkSum(t, "P2.1", hash.Sum([]byte(x.text)), x.want)
		checkSum(t, "P2.2", hash.Begin().Add(x.text).Sum(), x.want)
	}
	checkSum(t, "P2.1: nil", hash.Sum(nil), "e3b0c44298fc1c149afbf4c8996fb92427ae41e4649b934ca495991b7852b855")
}

// TestSumOfAllSizes compares with another implementation, also for messages whose bytes are all the same as those of the padding.
func TestSumOfAllSizes(t *testing.T) {
	for _, n := range sizes() {
		for _, b := range [][]byte{noise(n), make([]byte, n), bytes.Repeat([]byte{128}, n), bytes.Repeat([]byte{255}, n)} {
			before := slices.Clone(b)
			want := sha256.Sum256(b)
			if got := hash.Sum(b); got != want {
				t.Errorf("P2.1: Sum of %d bytes: %x, want %x", n, got, want)
			}
			if got := hash.Begin().Add(string(b)).Sum(); got != want {
				t.Errorf("P2.2: the sum of a stream of %d bytes: %x, want %x", n, got, want)
			}
			if !bytes.Equal(b, before) {
				t.Errorf("P2.1: Sum of %d bytes changed its argument", n)
			}
		}
	}
}

// TestSumReadsNothingBehind checks that what lies behind a slice in its array has no part in the hash.
func TestSumReadsNothingBehind(t *testing.T) {
	b := noise(200)
	for n := range b {
		before := slices.Clone(b)
		if got, want := hash.Sum(b[:n]), sha256.Sum256(b[:n]); got != want {
			t.Errorf("P2.1: Sum of the first %d of 200 bytes: %x, want %x", n, got, want)
		}
		if !bytes.Equal(b, before) {
			t.Fatalf("P2.1: Sum of the first %d of 200 bytes changed the array", n)
		}
	}
}

// TestSumOfLongMessage hashes a message whose length in bits does not fit into 32 bits.
func TestSumOfLongMessage(t *testing.T) {
	const pieceSize, pieces = 1 << 20, 513
	piece := noise(pieceSize)
	s, other := hash.Begin(), sha256.New()
	for range pieces {
		s = s.Add(string(piece))
		other.Write(piece)
	}
	checkSum(t, "P2.2: a length of more than 32 bits", s.Sum(), hex.EncodeToString(other.Sum(nil)))
}

func TestStreamInTwoPieces(t *testing.T) {
	for _, n := range []int{0, 1, 55, 56, 63, 64, 65, 119, 120, 127, 128, 129, 200} {
		text := string(noise(n))
		want := sha256.Sum256([]byte(text))
		for at := range n + 1 {
			if got := hash.Begin().Add(text[:at]).Add(text[at:]).Sum(); got != want {
				t.Errorf("P2.6: %d bytes cut at %d: %x, want %x", n, at, got, want)
			}
			if got := hash.Begin().Add("").Add(text[:at]).Add("").Add("").Add(text[at:]).Add("").Sum(); got != want {
				t.Errorf("P2.6: %d bytes cut at %d, with empty pieces: %x, want %x", n, at, got, want)
			}
		}
	}
}

func TestStreamInEqualPieces(t *testing.T) {
	text := string(noise(700))
	want := sha256.Sum256([]byte(text))
	for n := 1; n <= len(text); n++ {
		s := hash.Begin()
		for at := 0; at < len(text); at += n {
			s = s.Add(text[at:min(at+n, len(text))])
			if part := sha256.Sum256([]byte(text[:min(at+n, len(text))])); s.Sum() != part {
				t.Errorf("P2.2: pieces of %d bytes: the sum after %d bytes is wrong", n, at+n)
			}
		}
		if got := s.Sum(); got != want {
			t.Errorf("P2.6: pieces of %d bytes: %x, want %x", n, got, want)
		}
	}
}

func TestStreamInPiecesOfAllLengths(t *testing.T) {
	r := rand.New(rand.NewPCG(5, 6))
	for range 500 {
		var text []byte
		s := hash.Begin()
		for range r.IntN(20) {
			piece := noise([]int{0, 1, r.IntN(8), 55, 56, 63, 64, 65, r.IntN(64), 128, r.IntN(400)}[r.IntN(11)])
			text = append(text, piece...)
			s = s.Add(string(piece))
		}
		if got, want := s.Sum(), sha256.Sum256(text); got != want {
			t.Errorf("P2.6: %d bytes in pieces of all lengths: %x, want %x", len(text), got, want)
		}
	}
}

// TestStreamsThatContinueTheSame makes a tree of streams, and takes their sums only when all of them exist.
func TestStreamsThatContinueTheSame(t *testing.T) {
	pieces := []string{"", "a", "b", string(noise(40)), string(noise(64)), string(noise(130))}
	type node struct {
		s    hash.Stream
		text string
	}
	all := []node{{hash.Begin(), ""}}
	for from := 0; from < len(all) && len(all) < 1500; from++ {
		for _, p := range pieces {
			all = append(all, node{all[from].s.Add(p), all[from].text + p})
		}
	}
	for range 2 {
		for _, n := range all {
			if got, want := n.s.Sum(), sha256.Sum256([]byte(n.text)); got != want {
				t.Fatalf("P2.2: a stream of %d bytes that others continue: %x, want %x", len(n.text), got, want)
			}
		}
	}
}

func TestStreamDoesNotChange(t *testing.T) {
	for _, n := range sizes() {
		text := string(noise(n))
		s := hash.Begin().Add(text)
		copied, want := s, sha256.Sum256([]byte(text))
		for _, more := range []string{"", "x", strings.Repeat("y", 64), strings.Repeat("z", 200)} {
			longer := s.Add(more)
			if got := longer.Sum(); got != sha256.Sum256([]byte(text+more)) {
				t.Errorf("P2.2: %d bytes followed by %d: %x", n, len(more), got)
			}
			if s.Sum() != want || s.Sum() != want || copied.Sum() != want {
				t.Errorf("P2.2: Add of %d bytes, or Sum, changed a stream of %d bytes", len(more), n)
			}
		}
	}
	if hash.Begin().Sum() != sha256.Sum256(nil) {
		t.Error("P2.2: Begin keeps what was added before")
	}
}

func TestMacOfKnownTexts(t *testing.T) {
	for _, x := range []struct{ key, text, want string }{
		{"Jefe", "what do ya want for nothing?", "5bdcc146bf60754e6a042426089575c75a003f089d2739839dec58b964ec3843"},
		{"", "", "b613679a0814d9ec772f95d778c35fc5ff1697c493715653c6c712144292c5ad"},
		{strings.Repeat("\x0b", 20), "Hi There", "b0344c61d8db38535ca8afceaf0bf12b881dc200c9833da726e9376c2e32cff7"},
		{strings.Repeat("\xaa", 20), strings.Repeat("\xdd", 50), "773ea91e36800e46854db8ebd09181a72959098b3ef8c122d9635514ced565fe"},
		{strings.Repeat("\xaa", 131), "Test Using Larger Than Block-Size Key - Hash Key First", "60e431591ee0b67f0d8a26aacbf5b77f8e0bc6213728c5140546040f0ee37f54"},
		{strings.Repeat("a", 65), "x", "5c8ad20f6d25c86ccfc9774f1c0ca49d3675f3a112d9905cce286e2636681b75"},
		{strings.Repeat("a", 64), "x", "b65ca3a3235f948bc0e6bd747532c54a983b54ddad1a4d1bd8b958e065b1cab4"},
	} {
		if got := hex.EncodeToString([]byte(hash.Mac(x.key, x.text))); got != x.want {
			t.Errorf("P2.3: Mac of a key of %d bytes and %q: %s, want %s", len(x.key), x.text, got, x.want)
		}
	}
}

// TestMacOfAllSizes compares with another implementation, for keys below, at and above the size of a block.
func TestMacOfAllSizes(t *testing.T) {
	for keySize := range 200 {
		for _, textSize := range []int{0, 1, 23, 55, 56, 63, 64, 65, 128, 300} {
			for _, key := range [][]byte{noise(keySize), make([]byte, keySize), bytes.Repeat([]byte{0x36}, keySize), bytes.Repeat([]byte{0x5c}, keySize)} {
				text := noise(textSize)
				other := hmac.New(sha256.New, key)
				other.Write(text)
				if got, want := hash.Mac(string(key), string(text)), string(other.Sum(nil)); got != want {
					t.Errorf("P2.3: Mac of a key of %d bytes and a text of %d bytes: %x, want %x", keySize, textSize, got, want)
				}
			}
		}
	}
}

func TestMacOfLongKeyIsThatOfItsSum(t *testing.T) {
	for _, n := range []int{65, 66, 100, 128, 1000} {
		key := noise(n)
		short := hash.Sum(key)
		if hash.Mac(string(key), "text") != hash.Mac(string(short[:]), "text") {
			t.Errorf("P2.3: a key of %d bytes is not replaced by its sum", n)
		}
	}
	key := noise(64)
	short := hash.Sum(key)
	if hash.Mac(string(key), "text") == hash.Mac(string(short[:]), "text") {
		t.Error("P2.3: a key of 64 bytes is replaced by its sum")
	}
}

func digest(t *testing.T, text string) api.Digest {
	t.Helper()
	b, err := hex.DecodeString(text)
	if err != nil || len(b) != api.DigestSize {
		t.Fatal("not a digest:", text)
	}
	return api.Digest(b)
}

func TestOfKnownParts(t *testing.T) {
	for _, x := range []struct {
		tag   int
		parts []string
		want  string
	}{
		{1, nil, "4bf5122f344554c53bde2ebb8cd2b7e3"},
		{1, []string{}, "4bf5122f344554c53bde2ebb8cd2b7e3"},
		{8, []string{"a", ""}, "36cd50850329f88406e31bb8a7d8fb62"},
		{8, []string{"", "a"}, "4e09f765324d39f57ba97533cf318063"},
		{8, []string{"a"}, "506e52323eb56feaf54086ccd9fd76f2"},
		{264, []string{"a"}, "506e52323eb56feaf54086ccd9fd76f2"},
		{-248, []string{"a"}, "506e52323eb56feaf54086ccd9fd76f2"},
		{3, []string{strings.Repeat("x", 300)}, "71f6894fc6ad070553ceba2f145e6482"},
	} {
		before := slices.Clone(x.parts)
		if got, want := hash.Of(x.tag, x.parts...), digest(t, x.want); got != want {
			t.Errorf("P2.4: Of(%d, %d parts) = %x, want %x", x.tag, len(x.parts), got, want)
		}
		if !slices.Equal(x.parts, before) {
			t.Errorf("P2.4: Of(%d, %d parts) changed its argument", x.tag, len(x.parts))
		}
	}
	if hash.Of(8, "a", "") != digest(t, "36cd50850329f88406e31bb8a7d8fb62") {
		t.Error("P2.4: parts that are written out")
	}
}

// input is the text of P2.4, with lengths encoded in another way than package wire does.
func input(tag byte, parts []string) []byte {
	b := []byte{tag}
	for _, p := range parts {
		switch n := len(p); {
		case n == 0:
			b = append(b, 128)
		case n < 1<<8:
			b = append(b, 129, byte(n))
		case n < 1<<16:
			b = append(b, 130, byte(n>>8), byte(n))
		default:
			b = append(b, 131, byte(n>>16), byte(n>>8), byte(n))
		}
		b = append(b, p...)
	}
	return b
}

func partLists() [][]string {
	long, longer := string(noise(300)), string(noise(70000))
	return [][]string{
		nil, {""}, {"", ""}, {"", "", ""}, {"a"}, {"b"}, {"ab"}, {"a", "b"}, {"b", "a"}, {"a", ""}, {"", "a"}, {"", "a", ""},
		{"a\x81\x01b"}, {"\x80"}, {"\x81\x01a"}, {"\x00"}, {"\x00", "\x00"}, {"\x00\x00"}, {"\x01"},
		{strings.Repeat("x", 62)}, {strings.Repeat("x", 63)}, {strings.Repeat("x", 61), ""}, {strings.Repeat("x", 255)}, {strings.Repeat("x", 256)},
		{long}, {long, long}, {long, ""}, {longer}, {longer, "a"}, slices.Repeat([]string{"a"}, 100), slices.Repeat([]string{""}, 300),
	}
}

func TestOfAllTags(t *testing.T) {
	for _, parts := range partLists() {
		step := 1
		if len(parts) > 0 && len(parts[0]) > 1000 {
			step = 51
		}
		for tag := 0; tag < 256; tag += step {
			sum := sha256.Sum256(input(byte(tag), parts))
			want := api.Digest(sum[:16])
			for _, same := range []int{tag, tag - 256, tag + 256, tag - 1<<32, tag + 1<<40, tag + math.MinInt, tag + math.MaxInt - 255} {
				if got := hash.Of(same, parts...); got != want {
					t.Errorf("P2.4: Of(%d, %d parts) = %x, want %x", same, len(parts), got, want)
				}
			}
		}
	}
	for _, x := range []struct{ tag, same int }{{-1, 255}, {-256, 0}, {-257, 255}, {256, 0}, {math.MinInt, 0}, {math.MaxInt, 255}} {
		if hash.Of(x.tag, "a") != hash.Of(x.same, "a") {
			t.Errorf("P2.4: the tag %d is not the tag %d", x.tag, x.same)
		}
	}
}

func TestOfDiffers(t *testing.T) {
	type origin struct{ tag, list int }
	seen := map[api.Digest]origin{}
	for list, parts := range partLists() {
		for _, tag := range []int{0, 1, 2, 16, 127, 128, 129, 254, 255} {
			d := hash.Of(tag, parts...)
			if other, ok := seen[d]; ok {
				t.Errorf("P2.6: the tag %d with the list %d and the tag %d with the list %d have the same digest", tag, list, other.tag, other.list)
			}
			seen[d] = origin{tag, list}
		}
	}
	tags := map[api.Digest]bool{}
	for tag := range 256 {
		tags[hash.Of(tag)] = true
		tags[hash.Of(tag, "")] = true
	}
	if len(tags) != 512 {
		t.Errorf("P2.6: 256 tags with no part and with an empty one have %d digests", len(tags))
	}
}

func TestEqual(t *testing.T) {
	for _, x := range []struct {
		a, b string
		want bool
	}{
		{"", "", true}, {"ab", "ab", true}, {"\x00", "\x00", true}, {"\xff\x00", "\xff\x00", true},
		{"ab", "ac", false}, {"bb", "ab", false}, {"", "a", false}, {"a", "", false},
		{"a", "ab", false}, {"b", "ab", false}, {"", "\x00", false}, {"a", "a\x00", false}, {"a", "\x00a", false}, {"\x00", "\x00\x00", false},
		{"ab", "ba", false}, {"aa", "bb", false}, {"a", "A", false}, {"\x00\xff", "\xff\x00", false}, {"\x01\x02\x03", "\x00\x00\x00", false},
	} {
		if hash.Equal(x.a, x.b) != x.want || hash.Equal(x.b, x.a) != x.want {
			t.Errorf("P2.5: Equal(%q, %q) is not %t", x.a, x.b, x.want)
		}
	}
}

func TestEqualLooksAtAllBytes(t *testing.T) {
	for _, n := range []int{1, 2, 7, 8, 9, 16, 32, 65, 300} {
		a := noise(n)
		if !hash.Equal(string(a), string(slices.Clone(a))) {
			t.Errorf("P2.5: equal strings of %d bytes are not equal", n)
		}
		for at := range a {
			for bit := range 8 {
				b := slices.Clone(a)
				b[at] ^= 1 << bit
				if hash.Equal(string(a), string(b)) {
					t.Errorf("P2.5: strings of %d bytes that differ in the byte %d are equal", n, at)
				}
				if n == 1 {
					continue
				}
				// Two differences must not cancel each other.
				b[(at+1)%n] ^= 1 << bit
				if hash.Equal(string(a), string(b)) {
					t.Errorf("P2.5: strings of %d bytes that differ in the byte %d and in the next one are equal", n, at)
				}
			}
		}
		if hash.Equal(string(a), string(a[:n-1])) || hash.Equal(string(a[:n-1]), string(a)) || hash.Equal(string(a), string(a[1:])) {
			t.Errorf("P2.5: a string of %d bytes is equal to a part of it", n)
		}
	}
}
