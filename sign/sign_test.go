package sign_test

import (
	"crypto/hmac"
	"crypto/sha256"
	"encoding/hex"
	"math"
	"math/rand/v2"
	"slices"
	"strings"
	"testing"

	"culprit/api"
	"culprit/sign"
	"culprit/wire"
)

const limit = 1 << 20 // bytes of the longest message that is signed

var (
	plainSeed = strings.Repeat("s", 32)
	seeds     = []string{plainSeed, "\x00\x01\x02\x03\x04\x05\x06\x07\x08\x09\x0a\x0b\x0c\x0d\x0e\x0f\x10\x11\x12\x13\x14\x15\x16\x17\x18\x19\x1a\x1b\x1c\x1d\x1e\x1f", strings.Repeat("\x00", 32)}
	badSeeds  = []string{"", "s", plainSeed[1:], plainSeed + "s", plainSeed + plainSeed}
	badHeight = []int{-1, 7, -2, 8, 63, 64, 65, math.MinInt, math.MaxInt}
	tooLong   = strings.Repeat("m", limit+1)
)

// The functions whose names begin with ref follow the text of the chapter in
// another way than the package does: with Go's own hash functions, and with
// whole tables of all chains and nodes.

func refOf(tag byte, parts ...string) string {
	text := string([]byte{tag})
	for _, p := range parts {
		text += string(wire.Bytes(p))
	}
	sum := sha256.Sum256([]byte(text))
	return string(sum[:16])
}

func refDigits(d string) []int {
	var l []int
	for _, b := range []byte(d) {
		l = append(l, int(b/64), int(b/16%4), int(b/4%4), int(b%4))
	}
	sum := 0
	for _, x := range l {
		sum += 3 - x
	}
	return append(l, sum/64, sum/16%4, sum/4%4, sum%4)
}

// refChain returns the values of a chain at the heights 0 to 3.
func refChain(seed string, index, chain int) [4]string {
	code := hmac.New(sha256.New, []byte(seed))
	code.Write([]byte("chain\x81\x02"))
	code.Write(wire.Int(index))
	code.Write(wire.Int(chain))
	values := [4]string{string(code.Sum(nil)[:16])}
	for t := range 3 {
		place := "\x81\x03" + string(wire.Int(index)) + string(wire.Int(chain)) + string(wire.Int(t))
		values[t+1] = refOf(1, place, values[t])
	}
	return values
}

// refTree returns the nodes of all levels.
func refTree(seed string, height int) [][]string {
	levels := make([][]string, height+1)
	for i := range 1 << height {
		tops := ""
		for c := range 68 {
			tops += refChain(seed, i, c)[3]
		}
		levels[0] = append(levels[0], refOf(3, refOf(2, tops)))
	}
	for l := range height {
		for k := 0; k < len(levels[l]); k += 2 {
			levels[l+1] = append(levels[l+1], refOf(4, levels[l][k], levels[l][k+1]))
		}
	}
	return levels
}

func refSign(seed string, height, index int, message string) string {
	tree := refTree(seed, height)
	signature := string(wire.Int(index))
	for c, x := range refDigits(refOf(5, tree[height][0], string(wire.Int(index)), message)) {
		signature += refChain(seed, index, c)[x]
	}
	for l := range height {
		k := index / (1 << l)
		if k%2 == 0 {
			signature += tree[l][k+1]
		} else {
			signature += tree[l][k-1]
		}
	}
	return signature
}

func public(t *testing.T, seed string, height int) api.Digest {
	t.Helper()
	p, e := sign.Public(seed, height)
	if e != api.OK {
		t.Fatalf("P3.1: Public of the height %d: error %d", height, e)
	}
	return p
}

func signature(t *testing.T, seed string, height, index int, message string) string {
	t.Helper()
	s, e := sign.Sign(seed, height, index, message)
	if e != api.OK {
		t.Fatalf("P3.3: Sign with the height %d and the index %d: error %d", height, index, e)
	}
	return s
}

// checkVerify checks the error of Verify, and that the index is want, or 0 with an error.
func checkVerify(t *testing.T, what string, p api.Digest, height int, message, s string, want int, e api.Errno) {
	t.Helper()
	if n, got := sign.Verify(p, height, message, s); n != want || got != e {
		t.Errorf("%s: Verify with the height %d: index %d, error %d; want index %d, error %d", what, height, n, got, want, e)
	}
}

func filled(b byte) api.Digest {
	return api.Digest([]byte(strings.Repeat(string([]byte{b}), 16)))
}

func randomDigest(r *rand.Rand) api.Digest {
	var d api.Digest
	for i := range d {
		d[i] = byte(r.Uint32())
	}
	return d
}

func TestConstants(t *testing.T) {
	if sign.Chains != 68 || sign.Top != 3 || sign.MaxHeight != 6 {
		t.Error("P3.1:", sign.Chains, sign.Top, sign.MaxHeight)
	}
}

func TestDigitsOfKnownDigests(t *testing.T) {
	for _, x := range []struct {
		d        api.Digest
		first    []int
		rest     int
		checksum []int
	}{
		{api.Digest{}, nil, 0, []int{3, 0, 0, 0}},
		{filled(255), nil, 3, []int{0, 0, 0, 0}},
		{filled(0x55), nil, 1, []int{2, 0, 0, 0}},
		{filled(0xaa), nil, 2, []int{1, 0, 0, 0}},
		{api.Digest{0x1b, 0xff}, []int{0, 1, 2, 3, 3, 3, 3, 3}, 0, []int{2, 2, 3, 2}},
		{api.Digest{1}, []int{0, 0, 0, 1}, 0, []int{2, 3, 3, 3}},
		{api.Digest{0x80}, []int{2, 0, 0, 0}, 0, []int{2, 3, 3, 2}},
		{api.Digest{0xe4, 0x40}, []int{3, 2, 1, 0, 1}, 0, []int{2, 3, 2, 1}},
	} {
		want := slices.Clone(x.first)
		for len(want) < 64 {
			want = append(want, x.rest)
		}
		want = append(want, x.checksum...)
		if got := sign.Digits(x.d); !slices.Equal(got, want) {
			t.Errorf("P3.1: Digits(%x) = %v, want %v", x.d, got, want)
		}
	}
}

func digests() []api.Digest {
	l := []api.Digest{{}, filled(255), filled(0x55), filled(0xaa), filled(0x1b)}
	for i := range 16 {
		for bit := range 8 {
			var one api.Digest
			one[i] = 1 << bit
			most := filled(255)
			most[i] ^= 1 << bit
			l = append(l, one, most)
		}
	}
	r := rand.New(rand.NewPCG(3, 1))
	for range 100 {
		l = append(l, randomDigest(r))
	}
	return l
}

func TestDigits(t *testing.T) {
	for _, d := range digests() {
		if got, want := sign.Digits(d), refDigits(string(d[:])); !slices.Equal(got, want) {
			t.Errorf("P3.1: Digits(%x) = %v, want %v", d, got, want)
		}
	}
	// Of digests whose last digits are counted up, the checksum takes all its values.
	for sum := range 193 {
		var d api.Digest
		for left, i := sum, 0; left > 0; i++ {
			d[i/4] |= byte(min(left, 3) << (2 * (i % 4)))
			left -= min(left, 3)
		}
		n := 0
		for _, x := range sign.Digits(d)[64:] {
			n = 4*n + x
		}
		if n != 192-sum {
			t.Errorf("P3.1: the checksum of digits with the sum %d is %d", sum, n)
		}
	}
}

func TestDigitsAreNewMemory(t *testing.T) {
	d := api.Digest{0x1b}
	first, second := sign.Digits(d), sign.Digits(d)
	clear(first[:cap(first)])
	if want := refDigits(string(d[:])); !slices.Equal(second, want) || !slices.Equal(sign.Digits(d), want) {
		t.Error("P3.1: lists of digits share memory")
	}
}

func TestPublic(t *testing.T) {
	for i, x := range [][4]string{
		{"2a748f1d44ca3125fd5d231272960323", "fde6acb0cc2682b5bb449c42a2602d4f", "bc8b1318db181d3e8a6c8a45e8c6ef58", "22e99f293159fba559fb38e0340a080b"},
		{"61935b4b297f50fec3da8eafc4f62c7a", "cbdf8459ac306bc02516cd5b2ebb8b05", "27449bff5d5e678e396e9192f0960606", "f77b2ea2dc1bad2c6187e15e22e51a4a"},
		{"628a38f956cb786d082041324c77aeb5", "c4207943bc801f428cfd72d5e2a53959", "f378a3fa22aaeee0f09e48fee9986113", "16abb2359ce334ba25b183f3878af813"},
	} {
		for j, h := range []int{0, 1, 2, 6} {
			if p := public(t, seeds[i], h); hex.EncodeToString(p[:]) != x[j] {
				t.Errorf("P3.1: Public of the seed %d and the height %d: %x, want %s", i, h, p, x[j])
			}
		}
	}
	for h := range 7 {
		if p, want := public(t, plainSeed, h), refTree(plainSeed, h)[h][0]; string(p[:]) != want {
			t.Errorf("P3.1: Public of the height %d: %x, want %x", h, p, want)
		}
	}
}

func TestPublicErrors(t *testing.T) {
	check := func(seed string, height int) {
		t.Helper()
		if p, e := sign.Public(seed, height); p != (api.Digest{}) || e != api.ErrArg {
			t.Errorf("P3.1: Public of %d bytes and the height %d: %x, error %d", len(seed), height, p, e)
		}
	}
	for _, seed := range badSeeds {
		for _, h := range append([]int{0, 1, 6}, badHeight...) {
			check(seed, h)
		}
	}
	for _, h := range badHeight {
		check(plainSeed, h)
	}
}

func TestDigest(t *testing.T) {
	for _, x := range []struct {
		public  api.Digest
		index   int
		message string
		want    string
	}{
		{api.Digest{}, 0, "", "9a083ab7be09cf73c2315d973c07b383"},
		{api.Digest{0, 1, 2, 3, 4, 5, 6, 7, 8, 9, 10, 11, 12, 13, 14, 15}, -1, "m", "1a430b530dfa8c8ce1f06ceabe7a0264"},
		{filled(255), math.MaxInt, "abc", "05a050b9f64594ffaf23e39c9b5d4791"},
		{api.Digest{}, math.MinInt, strings.Repeat("x", limit+1), "a46da032c60f83cd39b4b4f3b792e5b2"},
		{api.Digest{}, 64, "m", "cc7e8d6eb4cbe6ad8fd94e8d2ad8fdb7"},
	} {
		if d := sign.Digest(x.public, x.index, x.message); hex.EncodeToString(d[:]) != x.want {
			t.Errorf("P3.2: Digest(%x, %d, %d bytes) = %x, want %s", x.public, x.index, len(x.message), d, x.want)
		}
	}
	seen := map[api.Digest]bool{}
	n := 0
	for _, p := range []api.Digest{{}, {1}, filled(255)} {
		for _, i := range []int{0, 1, 2, 63, 64, 255, 256, -1, -2, -256, -257, 1 << 32, math.MaxInt, math.MinInt} {
			texts := []string{"", "\x00", "m", "mm", strings.Repeat("m", 300)}
			if i == 1 {
				texts = append(texts, strings.Repeat("m", limit), tooLong)
			}
			for _, message := range texts {
				d := sign.Digest(p, i, message)
				if want := refOf(5, string(p[:]), string(wire.Int(i)), message); string(d[:]) != want {
					t.Errorf("P3.2: Digest(%x, %d, %d bytes) = %x, want %x", p, i, len(message), d, want)
				}
				seen[d] = true
				n++
			}
		}
	}
	if len(seen) != n {
		t.Errorf("P3.2: %d arguments have %d digests", n, len(seen))
	}
}

func TestSignOfKnownMessages(t *testing.T) {
	for _, x := range []struct {
		seed, height, index int
		message             string
		size                int
		want                string
	}{
		{0, 0, 0, "", 1089, "ae79d8de5363dbf4dbffa4ba1b00b050196bb4a4b005894d22be68cd508bc99a"},
		{0, 1, 1, "m", 1106, "d0ace8c170b9144a29abaee7cf1cec6f556ea5a9b18cf904c47914c79f532816"},
		{1, 2, 2, "message", 1122, "134c22b2fb63c13cb00e1026fa71ff4968583bf8eabda501e9a658d4a537b199"},
		{0, 6, 0, "m", 1185, "47a1d1cfa847024cb8ae0935333b33d891768c75e9b421cdc8b42084a0fb4356"},
		{0, 6, 63, "m", 1186, "09766d97ba98d2839b04a99344ea7053b6a86733e9c02ffc46bfbb28d6838843"},
		{1, 2, 3, strings.Repeat("m", limit), 1122, "793ababc1c98ceeb6f20eafef85b40a9f344e5cdb70489b3d61f38a327780aea"},
	} {
		s := signature(t, seeds[x.seed], x.height, x.index, x.message)
		if sum := sha256.Sum256([]byte(s)); len(s) != x.size || hex.EncodeToString(sum[:]) != x.want {
			t.Errorf("P3.3: Sign with the seed %d, the height %d and the index %d: %d bytes with the hash %x", x.seed, x.height, x.index, len(s), sum)
		}
	}
}

// indices returns all indices of a small tree, and some of a large one, the first and the last one among them.
func indices(height int) []int {
	last := 1<<height - 1
	if height <= 2 {
		return []int{0, 1, 2, 3}[:last+1]
	}
	return []int{0, 1, last / 3, last / 2, last/2 + 1, last - 1, last}
}

var messages = []string{"", "m", "message", "\x00\xff", strings.Repeat("m", limit)}

func TestSign(t *testing.T) {
	for h := range 7 {
		for j, i := range indices(h) {
			seed, message := seeds[j%len(seeds)], messages[(h+j)%len(messages)]
			want := refSign(seed, h, i, message)
			for range 2 {
				if signature(t, seed, h, i, message) != want {
					t.Errorf("P3.3: Sign with the height %d and the index %d is wrong", h, i)
				}
			}
		}
	}
}

func TestSignErrors(t *testing.T) {
	check := func(seed string, height, index int, message string, e api.Errno) {
		t.Helper()
		if s, got := sign.Sign(seed, height, index, message); s != "" || got != e {
			t.Errorf("P3.3: Sign of %d bytes with a seed of %d bytes, the height %d and the index %d: %d bytes, error %d; want error %d", len(message), len(seed), height, index, len(s), got, e)
		}
	}
	// What is wrong with a later argument is not reported where an earlier one is wrong, too.
	for _, message := range []string{"", "m", tooLong} {
		for _, index := range []int{0, 1, -1, 64, math.MaxInt, math.MinInt} {
			for _, seed := range badSeeds {
				check(seed, 1, index, message, api.ErrArg)
				check(seed, 7, index, message, api.ErrArg)
			}
			for _, h := range badHeight {
				check(plainSeed, h, index, message, api.ErrArg)
			}
		}
		for h := range 7 {
			for _, index := range []int{-1, 1 << h, 1<<h + 1, -1 << h, 256, 1 << 32, 1<<32 - 1, 1 << 62, math.MaxInt, math.MinInt} {
				check(plainSeed, h, index, message, api.ErrSpent)
			}
		}
	}
	for h := range 3 {
		for _, index := range indices(h) {
			check(plainSeed, h, index, tooLong, api.ErrLimit)
			check(plainSeed, h, index, tooLong+tooLong, api.ErrLimit)
		}
	}
}

func TestVerifyAcceptsWhatSignReturns(t *testing.T) {
	for h := range 7 {
		for j, i := range indices(h) {
			seed, message := seeds[j%len(seeds)], messages[(h+j)%len(messages)]
			p, s := public(t, seed, h), signature(t, seed, h, i, message)
			if want := len(wire.Int(i)) + (68+h)*16; len(s) != want {
				t.Errorf("P3.5: a signature with the height %d and the index %d has %d bytes, want %d", h, i, len(s), want)
			}
			checkVerify(t, "P3.5", p, h, message, s, i, api.OK)
			checkVerify(t, "P3.4: by the chapter", api.Digest([]byte(refTree(seed, h)[h][0])), h, message, refSign(seed, h, i, message), i, api.OK)
		}
	}
}

func TestVerifyErrorsInOrder(t *testing.T) {
	p, s := public(t, plainSeed, 1), signature(t, plainSeed, 1, 1, "m")
	malformed := []string{"", "\x00", "\x81", "\x81\x02", s[:len(s)-1], s + "x"}
	for _, h := range badHeight {
		checkVerify(t, "P3.4: a height", p, h, "m", s, 0, api.ErrArg)
		for _, bad := range malformed {
			checkVerify(t, "P3.4: a height before a signature", p, h, "", bad, 0, api.ErrArg)
			checkVerify(t, "P3.4: a height before a message", p, h, tooLong, bad, 0, api.ErrArg)
		}
	}
	for h := range 3 {
		p := public(t, plainSeed, h)
		for _, i := range indices(h) {
			long := strings.Repeat("m", limit)
			s := signature(t, plainSeed, h, i, long)
			checkVerify(t, "P3.4: the longest message", p, h, long, s, i, api.OK)
			checkVerify(t, "P3.4: too long a message", p, h, tooLong, s, 0, api.ErrLimit)
		}
		for _, bad := range malformed {
			checkVerify(t, "P3.4: a message before a signature", p, h, tooLong, bad, 0, api.ErrLimit)
		}
	}
}

// TestVerifyOfTooLongMessage makes a signature of a message that Sign refuses.
func TestVerifyOfTooLongMessage(t *testing.T) {
	for h := range 3 {
		last := 1<<h - 1
		checkVerify(t, "P3.4", public(t, plainSeed, h), h, tooLong, refSign(plainSeed, h, last, tooLong), 0, api.ErrLimit)
	}
}

func TestVerifyOfBadIndex(t *testing.T) {
	for _, h := range []int{0, 1, 2, 6} {
		p := public(t, plainSeed, h)
		rest := signature(t, plainSeed, h, 0, "m")[1:]
		for _, x := range []struct {
			index string
			e     api.Errno
		}{
			{"\x81", api.ErrMore}, {"\x82\x01", api.ErrMore}, {"\x88\x01\x02\x03\x04\x05\x06\x07", api.ErrMore}, {"\x7e", api.ErrMore}, {"\x77\x80", api.ErrMore},
			{"\x00", api.ErrForm}, {"\x76", api.ErrForm}, {"\x89", api.ErrForm}, {"\xff", api.ErrForm}, {"\x81\x00", api.ErrForm}, {"\x82\x00\x01", api.ErrForm}, {"\x7e\xff", api.ErrForm},
		} {
			checkVerify(t, "P3.4: an index alone", p, h, "m", x.index, 0, x.e)
			if x.e == api.ErrForm {
				checkVerify(t, "P3.4: an index", p, h, "m", x.index+rest, 0, x.e)
			}
		}
		for _, i := range []int{-1, 1 << h, 1<<h + 1, -1 << h, 64, 256, 1 << 32, 1 << 62, math.MaxInt, math.MinInt} {
			for _, after := range []string{"", rest[1:], rest, rest + "x"} {
				checkVerify(t, "P3.4: an index that is not in the tree", p, h, "m", string(wire.Int(i))+after, 0, api.ErrForm)
			}
		}
		for i := 1; i < 1<<h; i++ {
			checkVerify(t, "P3.4: another index", p, h, "m", string(wire.Int(i))+rest, 0, api.ErrSign)
		}
	}
}

func TestVerifyOfOtherLengths(t *testing.T) {
	for h := range 3 {
		p := public(t, plainSeed, h)
		for _, i := range indices(h) {
			s := signature(t, plainSeed, h, i, "m")
			used := len(wire.Int(i))
			for n := range len(s) {
				e := api.ErrForm
				if n < used {
					e = api.ErrMore
				}
				checkVerify(t, "P3.5: a signature that is cut off", p, h, "m", s[:n], 0, e)
			}
			for _, more := range []string{"x", "\x00", s[len(s)-16:], s} {
				checkVerify(t, "P3.5: a signature with more behind it", p, h, "m", s+more, 0, api.ErrForm)
			}
			checkVerify(t, "P3.5: a signature without its first value", p, h, "m", s[:used]+s[used+16:], 0, api.ErrForm)
			for other := range 7 {
				if other != h {
					checkVerify(t, "P3.5: another height", p, other, "m", s, 0, api.ErrForm)
				}
			}
		}
	}
}

// TestVerifyOfChangedByte changes each byte of a signature, at its beginning in each of its bits.
func TestVerifyOfChangedByte(t *testing.T) {
	for h := range 3 {
		p := public(t, plainSeed, h)
		for _, i := range indices(h) {
			s := signature(t, plainSeed, h, i, "m")
			for at := range s {
				for bit := range 8 {
					if at > 20 && (at+bit)%8 != 0 { // one bit is enough there
						continue
					}
					b := []byte(s)
					b[at] ^= 1 << bit
					n, e := sign.Verify(p, h, "m", string(b))
					inIndex := at < len(wire.Int(i))
					if n != 0 || e == api.OK || !inIndex && e != api.ErrSign {
						t.Errorf("P3.4: height %d, index %d, byte %d, bit %d: %d, error %d", h, i, at, bit, n, e)
					}
				}
			}
		}
	}
}

// TestVerifyOfMovedDigests exchanges values, and nodes, that all belong to the signature.
func TestVerifyOfMovedDigests(t *testing.T) {
	const h = 2
	p := public(t, plainSeed, h)
	for _, i := range indices(h) {
		s := signature(t, plainSeed, h, i, "m")
		used := len(wire.Int(i))
		for at := used; at+32 <= len(s); at += 16 {
			moved := s[:at] + s[at+16:at+32] + s[at:at+16] + s[at+32:]
			checkVerify(t, "P3.4: exchanged digests", p, h, "m", moved, 0, api.ErrSign)
		}
	}
}

func TestVerifyOfOthers(t *testing.T) {
	for h := range 3 {
		p := public(t, plainSeed, h)
		for _, i := range indices(h) {
			s := signature(t, plainSeed, h, i, "m")
			for _, message := range []string{"", "n", "mm", "m\x00", "M", strings.Repeat("m", limit)} {
				checkVerify(t, "P3.4: another message", p, h, message, s, 0, api.ErrSign)
			}
			for at := range p {
				for bit := range 8 {
					other := p
					other[at] ^= 1 << bit
					checkVerify(t, "P3.4: another public key", other, h, "m", s, 0, api.ErrSign)
				}
			}
			checkVerify(t, "P3.4: no public key", api.Digest{}, h, "m", s, 0, api.ErrSign)
			checkVerify(t, "P3.4: another signer", public(t, seeds[1], h), h, "m", s, 0, api.ErrSign)
			checkVerify(t, "P3.4: another signature", p, h, "m", signature(t, seeds[1], h, i, "m"), 0, api.ErrSign)
		}
	}
	checkVerify(t, "P3.4: nothing that was signed", api.Digest{}, 0, "", "\x80"+strings.Repeat("\x00", 68*16), 0, api.ErrSign)
}

// TestDigitsOfDifferentDigests checks that neither of two lists of digits is nowhere less than the other one.
func TestDigitsOfDifferentDigests(t *testing.T) {
	check := func(d, other api.Digest) {
		t.Helper()
		a, b := sign.Digits(d), sign.Digits(other)
		less, greater := false, false
		for i := range a {
			less = less || a[i] < b[i]
			greater = greater || a[i] > b[i]
		}
		if d != other && !(less && greater) {
			t.Errorf("P3.6: digits of %x: one less %t, one greater %t than those of %x", d, less, greater, other)
		}
	}
	all := digests()
	for _, d := range all {
		for _, other := range all {
			check(d, other)
		}
		// Nowhere less in the digits of the digest, so that the checksum has to differ.
		for i := range d {
			for bit := range 8 {
				more := d
				more[i] |= 1 << bit
				check(d, more)
				check(more, d)
			}
		}
	}
}

// TestForgeryByAdvancing advances the values of a signature as far as they have to be for another message, which needs some that are behind.
func TestForgeryByAdvancing(t *testing.T) {
	const h, index = 1, 1
	p, s := public(t, plainSeed, h), signature(t, plainSeed, h, index, "m")
	have := sign.Digits(sign.Digest(p, index, "m"))
	used := len(wire.Int(index))
	for _, message := range []string{"", "n", "another", "one more", "message"} {
		forged := s[:used]
		for c, x := range sign.Digits(sign.Digest(p, index, message)) {
			value := s[used+16*c : used+16*c+16]
			for at := have[c]; at < x; at++ {
				value = refOf(1, string(wire.Ints([]int{index, c, at})), value)
			}
			forged += value
		}
		forged += s[used+68*16:]
		checkVerify(t, "P3.6", p, h, message, forged, 0, api.ErrSign)
	}
}
