package mac_test

import (
	"bytes"
	"crypto/hmac"
	"crypto/sha256"
	"encoding/hex"
	"slices"
	"strings"
	"testing"

	"pelorus/api"
	"pelorus/mac"
)

// The calls as the chapter lists them: another signature would not compile.
var (
	_ func(key []byte, parts ...[]byte) api.Digest         = mac.Code
	_ func(key api.Key, parts ...[]byte) api.Tag           = mac.Tag
	_ func(key api.Key, tag api.Tag, parts ...[]byte) bool = mac.Right
	_ func(a, b []byte) bool                               = mac.Equal
	_ func(a, b []byte) int                                = mac.Diff
)

const (
	blockBytes = 64
	tagBytes   = 16
)

func check[A comparable](t *testing.T, what string, got, want A, of ...any) {
	t.Helper()
	if got != want {
		t.Errorf("%s of %v: %v, want %v", what, of, got, want)
	}
}

// codeOf is the code of all parts, one behind the other, by the library.
func codeOf(key []byte, parts ...[]byte) api.Digest {
	h := hmac.New(sha256.New, key)
	h.Write(bytes.Join(parts, nil))
	return api.Digest(h.Sum(nil))
}

// tagOf is the tag of all parts, by the library.
func tagOf(key api.Key, parts ...[]byte) api.Tag {
	code := codeOf(key[:], parts...)
	return api.Tag(code[:tagBytes])
}

// diffOf is in how many places they differ, as the chapter says it.
func diffOf(a, b []byte) int {
	n := 0
	for i := range max(len(a), len(b)) {
		if i >= len(a) || i >= len(b) || a[i] != b[i] {
			n++
		}
	}
	return n
}

// checkBoth holds the code under a key against the library's and, if the key has room in an api.Key, the tag, too.
func checkBoth(t *testing.T, key []byte, parts [][]byte, of ...any) {
	t.Helper()
	check(t, "Code", mac.Code(key, parts...), codeOf(key, parts...), of...)
	var k api.Key
	if len(key) > len(k) {
		return
	}
	copy(k[:], key)
	right := tagOf(k, parts...)
	check(t, "Tag", mac.Tag(k, parts...), right, of...)
	check(t, "Right", mac.Right(k, right, parts...), true, of...)
}

// What the calls are given.

// filler gives bytes that are the same each time, none of them a nought.
func filler(seed uint64, n int) []byte {
	b := make([]byte, n)
	x := seed*0x9e3779b97f4a7c15 + 1
	for i := range b {
		x ^= x << 13
		x ^= x >> 7
		x ^= x << 17
		b[i] = byte(x>>32)%255 + 1
	}
	return b
}

func keyOf(seed uint64) api.Key { return api.Key(filler(seed, len(api.Key{}))) }

// keyLengths are of keys that need noughts, of those that need none, and of those that have no room.
func keyLengths() []int {
	return []int{0, 1, 2, 16, 20, 31, 32, 33, 62, 63, 64, 65, 66, 127, 128, 129, 131, 1000, 4096, 65536}
}

// lengths are of bytes that end a block behind the key's, or nearly, and of long ones.
func lengths() []int {
	l := []int{0, 1, 2, 16, 32, 1000, 65536}
	for _, blocks := range []int{0, 1, 2, 3} {
		n := blocks * blockBytes
		l = append(l, n+54, n+55, n+56, n+63, n+64, n+65)
	}
	return l
}

// turned is b with some bits of one byte turned.
func turned(b []byte, at int, bits byte) []byte {
	c := bytes.Clone(b)
	c[at] ^= bits
	return c
}

// 9.1: codes and tags.

func TestCodesThatAreKnown(t *testing.T) {
	for i, c := range []struct {
		key  []byte
		text string
		want string
	}{
		{nil, "", "b613679a0814d9ec772f95d778c35fc5ff1697c493715653c6c712144292c5ad"},
		// RFC 4231's examples, but the fifth.
		{bytes.Repeat([]byte{0x0b}, 20), "Hi There", "b0344c61d8db38535ca8afceaf0bf12b881dc200c9833da726e9376c2e32cff7"},
		{[]byte("Jefe"), "what do ya want for nothing?", "5bdcc146bf60754e6a042426089575c75a003f089d2739839dec58b964ec3843"},
		{bytes.Repeat([]byte{0xaa}, 20), strings.Repeat("\xdd", 50), "773ea91e36800e46854db8ebd09181a72959098b3ef8c122d9635514ced565fe"},
		{[]byte("\x01\x02\x03\x04\x05\x06\x07\x08\x09\x0a\x0b\x0c\x0d\x0e\x0f\x10\x11\x12\x13\x14\x15\x16\x17\x18\x19"), strings.Repeat("\xcd", 50), "82558a389a443c0ea4cc819899f2083a85f0faa3e578f8077a2e3ff46729665b"},
		{bytes.Repeat([]byte{0xaa}, 131), "Test Using Larger Than Block-Size Key - Hash Key First", "60e431591ee0b67f0d8a26aacbf5b77f8e0bc6213728c5140546040f0ee37f54"},
		{bytes.Repeat([]byte{0xaa}, 131), "This is a test using a larger than block-size key and a larger than block-size data. The key needs to be hashed before being used by the HMAC algorithm.", "9b09ffa71b942fcb27635fbcd5b0e944bfdc63644f0713938a7f51535c3a35e2"},
	} {
		d := mac.Code(c.key, []byte(c.text))
		check(t, "Code", hex.EncodeToString(d[:]), c.want, "example", i)
		checkBoth(t, c.key, [][]byte{[]byte(c.text)}, "example", i)
	}
}

func TestATagThatIsKnown(t *testing.T) {
	// RFC 4231's fifth example: the code's first sixteen bytes.
	var key api.Key
	copy(key[:], bytes.Repeat([]byte{0x0c}, 20))
	text := []byte("Test With Truncation")
	tag := mac.Tag(key, text)
	check(t, "Tag", hex.EncodeToString(tag[:]), "a3b6167473100ee06e0c796c2955552b", string(text))
	check(t, "Right", mac.Right(key, tag, text), true, string(text))
}

func TestEachLengthOfAKey(t *testing.T) {
	b := filler(1, 100)
	for n := range 3 * blockBytes {
		for _, key := range [][]byte{filler(2, n), make([]byte, n), bytes.Repeat([]byte{255}, n), bytes.Repeat([]byte{54}, n), bytes.Repeat([]byte{92}, n)} {
			checkBoth(t, key, [][]byte{b}, n, "bytes of key")
			checkBoth(t, key, nil, n, "bytes of key, no part")
		}
	}
	for _, n := range keyLengths() {
		for _, m := range lengths() {
			checkBoth(t, filler(3, n), [][]byte{filler(4, m)}, n, m)
		}
	}
}

func TestEachLengthOfBytes(t *testing.T) {
	key := keyOf(5)
	for n := range 5 * blockBytes {
		checkBoth(t, key[:], [][]byte{filler(6, n)}, n)
		checkBoth(t, key[:], [][]byte{make([]byte, n)}, n, "noughts")
	}
}

func TestEachByteAndBit(t *testing.T) {
	key, b := make([]byte, 2*blockBytes), make([]byte, 2*blockBytes)
	for i := range 256 {
		checkBoth(t, []byte{byte(i)}, [][]byte{{byte(255 - i)}}, i)
	}
	for i := range len(b) * 8 {
		at, bit := i/8, byte(1)<<(i%8)
		checkBoth(t, turned(key[:32], at%32, bit), [][]byte{turned(b, at, bit)}, "bit", i)
		checkBoth(t, turned(key[:blockBytes], at%blockBytes, bit), [][]byte{turned(b, at, bit)}, "bit", i)
		checkBoth(t, turned(key, at, bit), [][]byte{turned(b, at, bit)}, "bit", i)
	}
}

func TestNoKeyAndAnEmptyOneAreTheSame(t *testing.T) {
	b := filler(7, 70)
	check(t, "Code", mac.Code(nil, b), codeOf(nil, b), "nil")
	check(t, "Code", mac.Code([]byte{}, b), codeOf(nil, b), "no bytes")
	check(t, "Code", mac.Code(nil), codeOf(nil), "nil, no part")
	check(t, "Code", mac.Code([]byte{}), codeOf(nil), "no bytes, no part")
	check(t, "Tag", mac.Tag(api.Key{}, b), tagOf(api.Key{}, b), "a key of noughts")
}

func TestNoPartAndPartsOfNoBytes(t *testing.T) {
	for _, n := range keyLengths() {
		key := filler(8, n)
		for _, parts := range [][][]byte{nil, {}, {nil}, {{}}, {nil, {}, nil, nil, {}}} {
			check(t, "Code", mac.Code(key, parts...), codeOf(key), n, len(parts), "parts of no bytes")
			checkBoth(t, key, parts, n, len(parts), "parts of no bytes")
		}
		b := filler(9, 70)
		parts := [][]byte{nil, b[:3], {}, b[3:64], nil, nil, b[64:], nil}
		check(t, "Code", mac.Code(key, parts...), codeOf(key, b), n, "parts of no bytes between")
		checkBoth(t, key, parts, n, "parts of no bytes between")
	}
}

func TestManyParts(t *testing.T) {
	key := keyOf(10)
	var parts [][]byte
	for i := range 300 {
		parts = append(parts, filler(uint64(i), i*i%97))
		checkBoth(t, key[:], parts, len(parts), "parts")
	}
	for range 4096 {
		parts = append(parts, []byte{7}, nil)
	}
	checkBoth(t, key[:], parts, len(parts), "parts")
	slices.Reverse(parts)
	checkBoth(t, key[:], parts, len(parts), "parts, the last one first")
}

func TestATagIsTheCodesFirstSixteenBytes(t *testing.T) {
	for _, n := range lengths() {
		key, b := keyOf(uint64(n)), filler(11, n)
		tag, code := mac.Tag(key, b), mac.Code(key[:], b)
		check(t, "Tag", tag, api.Tag(code[:tagBytes]), n)
	}
}

func TestWhatIsNotRight(t *testing.T) {
	for _, n := range lengths() {
		key, b := keyOf(12), filler(13, n)
		tag := tagOf(key, b)
		code := codeOf(key[:], b)
		wrong := map[string]api.Tag{
			"noughts":                 {},
			"all bits":                api.Tag(bytes.Repeat([]byte{255}, tagBytes)),
			"the code's other half":   api.Tag(code[tagBytes:]),
			"a tag of other bytes":    tagOf(key, b, []byte{0}),
			"a tag of more bytes":     tagOf(key, b, b, []byte{1}),
			"a tag of another key":    tagOf(keyOf(14), b),
			"a tag of a key of none":  tagOf(api.Key{}, b),
			"a digest's first bytes":  digestTag(b),
			"a digest with the key's": digestTag(key[:], b),
		}
		if n > 0 {
			wrong["a tag of fewer bytes"] = tagOf(key, b[:n-1])
			wrong["a tag of other bytes first"] = tagOf(key, turned(b, 0, 1))
			wrong["a tag of other bytes last"] = tagOf(key, turned(b, n-1, 128))
		}
		for what, w := range wrong {
			check(t, "Right", mac.Right(key, w, b), false, what, n)
		}
		check(t, "Right", mac.Right(key, tag, b, []byte{0}), false, "of one byte more", n)
		check(t, "Right", mac.Right(keyOf(14), tag, b), false, "under another key", n)
		check(t, "Right", mac.Right(api.Key{}, tag, b), false, "under a key of noughts", n)
		check(t, "Right", mac.Right(key, tag, b), true, n)
	}
}

// digestTag is what would be the tag if there were no key in the way.
func digestTag(parts ...[]byte) api.Tag {
	d := sha256.Sum256(bytes.Join(parts, nil))
	return api.Tag(d[:tagBytes])
}

func TestRightUnderAKeyOfWhichABitIsTurned(t *testing.T) {
	key, b := keyOf(15), filler(16, 80)
	tag := tagOf(key, b)
	for i := range len(key) * 8 {
		other := api.Key(turned(key[:], i/8, 1<<(i%8)))
		check(t, "Right", mac.Right(other, tag, b), false, "bit", i)
		check(t, "Right", mac.Right(key, tagOf(other, b), b), false, "bit", i)
	}
	check(t, "Right", mac.Right(key, tag, b), true)
}

func TestThePartsOrderCounts(t *testing.T) {
	key := keyOf(17)
	a, b := []byte("one"), []byte("other")
	check(t, "Right", mac.Right(key, mac.Tag(key, a, b), b, a), false, "the last one first")
	check(t, "Right", mac.Right(key, mac.Tag(key, a, b), a, b), true, "in order")
}

// 9.2: what is the same, and in how many places it is not.

func checkDiff(t *testing.T, a, b []byte, want int, of ...any) {
	t.Helper()
	check(t, "Diff", mac.Diff(a, b), want, of...)
	check(t, "Diff", mac.Diff(b, a), want, append(of, "the other way")...)
	check(t, "Equal", mac.Equal(a, b), want == 0, of...)
	check(t, "Equal", mac.Equal(b, a), want == 0, append(of, "the other way")...)
}

func TestTheChaptersExample(t *testing.T) {
	check(t, "Equal", mac.Equal(nil, nil), true, "nothing and nothing")
	check(t, "Equal", mac.Equal([]byte{}, []byte{}), true, "nothing and nothing")
}

func TestNothing(t *testing.T) {
	checkDiff(t, nil, nil, 0, "nil and nil")
	checkDiff(t, nil, []byte{}, 0, "nil and empty")
	checkDiff(t, []byte{}, []byte{}, 0, "empty and empty")
	for _, n := range []int{1, 2, 16, 1000} {
		for _, b := range [][]byte{make([]byte, n), filler(18, n)} {
			checkDiff(t, nil, b, n, "nil", n)
			checkDiff(t, []byte{}, b, n, "empty", n)
		}
	}
}

func TestTheSameBytes(t *testing.T) {
	for _, n := range lengths() {
		for _, b := range [][]byte{filler(19, n), make([]byte, n), bytes.Repeat([]byte{255}, n)} {
			checkDiff(t, b, b, 0, n, "itself")
			checkDiff(t, b, bytes.Clone(b), 0, n, "the same bytes")
		}
	}
}

func TestEachPairOfBytes(t *testing.T) {
	for x := range 256 {
		for y := range 256 {
			want := 1
			if x == y {
				want = 0
			}
			checkDiff(t, []byte{byte(x)}, []byte{byte(y)}, want, x, y)
		}
	}
}

func TestBytesThatDifferInOnePlace(t *testing.T) {
	for _, n := range []int{1, 2, 15, 16, 17, 32, 64, 65} {
		b := filler(20, n)
		for at := range n { // the first place and the last one, too
			for bit := range 8 {
				checkDiff(t, b, turned(b, at, 1<<bit), 1, n, at, bit)
			}
			checkDiff(t, b, turned(b, at, 255), 1, n, at)
		}
	}
}

func TestBytesThatDifferInManyPlaces(t *testing.T) {
	for _, n := range []int{1, 2, 16, 17, 255, 256, 257, 65536} {
		b := filler(21, n)
		other := bytes.Clone(b)
		for i := range other {
			other[i] ^= byte(i%255 + 1)
		}
		checkDiff(t, b, other, n, n, "all")
		for _, some := range []int{0, 1, n / 2, n - 1} {
			first := slices.Concat(other[:some], b[some:])
			checkDiff(t, b, first, some, n, some, "in front")
			last := slices.Concat(b[:n-some], other[n-some:])
			checkDiff(t, b, last, some, n, some, "at the end")
		}
	}
	// Two that differ alike do not make each other up.
	checkDiff(t, []byte{1, 1}, []byte{0, 0}, 2, "the same bit twice")
	checkDiff(t, []byte{1, 2}, []byte{2, 1}, 2, "the same bytes, the last one first")
	checkDiff(t, []byte{3, 0, 0}, []byte{0, 0, 3}, 2, "the same bytes, elsewhere")
}

func TestBytesOfUnlikeLengths(t *testing.T) {
	b := filler(22, 70)
	for n := range b {
		for m := range n {
			checkDiff(t, b[:n], b[:m], n-m, n, m, "the same, as far as it goes")
			checkDiff(t, b[:n], b[n-m:n], diffOf(b[:n], b[n-m:n]), n, m, "the same, at the end")
			if m > 0 {
				checkDiff(t, b[:n], turned(b[:m], 0, 1), n-m+1, n, m, "and the first place")
				checkDiff(t, b[:n], turned(b[:m], m-1, 128), n-m+1, n, m, "and the last place of both")
			}
		}
	}
	checkDiff(t, []byte{1, 2, 3}, []byte{1, 5}, 2, "a place of both, and one that one has alone")
	for n := range 20 {
		checkDiff(t, make([]byte, n), make([]byte, n+1), 1, n, "a nought behind it")
		checkDiff(t, make([]byte, n), make([]byte, n+256), 256, n, "256 noughts behind it")
	}
}

// 9.3 (pieces).

func TestEachWayToCutInTwo(t *testing.T) {
	key := keyOf(23)
	for n := range 2*blockBytes + 2 {
		b := filler(24, n)
		code, tag := codeOf(key[:], b), tagOf(key, b)
		for i := range n + 1 {
			check(t, "Code", mac.Code(key[:], b[:i], b[i:]), code, n, i)
			check(t, "Tag", mac.Tag(key, b[:i], b[i:]), tag, n, i)
			check(t, "Right", mac.Right(key, tag, b[:i], b[i:]), true, n, i)
		}
	}
}

func TestEachWayToCutInThree(t *testing.T) {
	key := keyOf(25)
	for _, n := range []int{0, 1, 2, 3, 54, 55, 56, 63, 64, 65} {
		b := filler(26, n)
		code, tag := codeOf(key[:], b), tagOf(key, b)
		for i := range n + 1 {
			for j := i; j <= n; j++ {
				check(t, "Code", mac.Code(key[:], b[:i], b[i:j], b[j:]), code, n, i, j)
				check(t, "Tag", mac.Tag(key, b[:i], b[i:j], b[j:]), tag, n, i, j)
				check(t, "Right", mac.Right(key, tag, b[:i], b[i:j], b[j:]), true, n, i, j)
			}
		}
	}
}

func TestPiecesOfOneSize(t *testing.T) {
	key := keyOf(27)
	b := filler(28, 301)
	for size := 1; size <= len(b); size++ {
		pieces := slices.Collect(slices.Chunk(b, size))
		check(t, "Code", mac.Code(key[:], pieces...), codeOf(key[:], b), size)
		check(t, "Tag", mac.Tag(key, pieces...), tagOf(key, b), size)
	}
}

func TestAKeyWithNoughtsBehindIt(t *testing.T) {
	b := filler(29, 100)
	for n := range blockBytes + 1 {
		key := filler(30, n)
		code := mac.Code(key, b)
		for whole := n; whole <= blockBytes; whole++ {
			same := append(bytes.Clone(key), make([]byte, whole-n)...)
			check(t, "Code", mac.Code(same, b), code, n, "with noughts up to", whole)
		}
		// Beyond 64 bytes it is another key: its digest.
		for _, whole := range []int{blockBytes + 1, blockBytes + 2, 2 * blockBytes, 1000} {
			long := append(bytes.Clone(key), make([]byte, whole-n)...)
			digest := sha256.Sum256(long)
			check(t, "whether it is the code", mac.Code(long, b) == code, false, n, "with noughts up to", whole)
			check(t, "Code", mac.Code(long, b), mac.Code(digest[:], b), n, "with noughts up to", whole)
		}
	}
}

func TestTheDigestStandsForAKeyOfMoreThan64BytesAlone(t *testing.T) {
	b := filler(31, 100)
	for _, n := range keyLengths() {
		key := filler(32, n)
		digest := sha256.Sum256(key)
		check(t, "whether its digest is the same key", mac.Code(digest[:], b) == mac.Code(key, b), n > blockBytes, n)
	}
}

// 9.4 (one place).

func TestATagOfWhichOneByteIsTurned(t *testing.T) {
	for _, n := range []int{0, 1, 55, 64, 100} {
		key, b := keyOf(uint64(n)), filler(33, n)
		tag := mac.Tag(key, b)
		for at := range tag {
			for bits := 1; bits < 256; bits++ {
				check(t, "Right", mac.Right(key, api.Tag(turned(tag[:], at, byte(bits))), b), false, n, at, bits)
			}
		}
		check(t, "Right", mac.Right(key, tag, b), true, n)
	}
}

func TestATagOfWhichTwoBytesAreTurnedAlike(t *testing.T) {
	key, b := keyOf(34), filler(35, 100)
	tag := mac.Tag(key, b)
	for i := range tag {
		for j := range i {
			other := turned(turned(tag[:], i, 1), j, 1)
			check(t, "Right", mac.Right(key, api.Tag(other), b), false, i, j)
		}
	}
}

// What is handed in is not changed, and what is handed out is the caller's own.

func TestWhatIsHandedInIsNotChanged(t *testing.T) {
	all := filler(36, 5*blockBytes)
	before := bytes.Clone(all)
	for n := range 2 * blockBytes {
		// Each one has room behind it, in which other bytes lie.
		key, b := all[:n], all[n/2:]
		mac.Code(key, b, all[:3], b[:n/3])
		checkDiff(t, key, b, diffOf(key, b), n)
		mac.Code(key)
		check(t, "what was handed in", string(all), string(before), n)
	}
}

func TestAListOfPartsIsNotChanged(t *testing.T) {
	key := keyOf(37)
	var list [][]byte
	for i := range 10 {
		list = append(list, filler(uint64(i), 20*i))
	}
	before := slices.Clone(list)
	for n := range len(list) + 1 { // behind the first n there is room, in which the others lie
		parts := list[:n]
		want := codeOf(key[:], before[:n]...)
		check(t, "Code", mac.Code(key[:], parts...), want, n, "parts")
		mac.Right(key, mac.Tag(key, parts...), parts...)
		for i, b := range before {
			check(t, "Equal", bytes.Equal(list[i], b), true, n, i)
		}
		check(t, "Code", mac.Code(key[:], parts...), want, n, "parts, again")
	}
}

func TestWhatIsHandedOutIsTheCallersOwn(t *testing.T) {
	key, b := keyOf(38), filler(39, 100)
	code, tag := mac.Code(key[:], b), mac.Tag(key, b)
	clear(code[:])
	clear(tag[:])
	checkBoth(t, key[:], [][]byte{b}, "once its answers were changed")
}

// P1 and P2: every call ends and none panics; none leaves anything behind that a later one could tell.

func callAll(t *testing.T, key []byte, parts [][]byte) {
	t.Helper()
	defer func() {
		if r := recover(); r != nil {
			t.Errorf("a panic (%v) at %d bytes of key and %d parts", r, len(key), len(parts))
		}
	}()
	mac.Code(key, parts...)
	var k api.Key
	copy(k[:], key)
	for _, tag := range []api.Tag{{}, mac.Tag(k, parts...), mac.Tag(api.Key{}, parts...)} {
		mac.Right(k, tag, parts...)
	}
	mac.Diff(key, nil)
	mac.Equal(nil, key)
	for _, b := range parts {
		mac.Diff(key, b)
		mac.Equal(b, key)
	}
}

func TestEveryCallEnds(t *testing.T) {
	var each [][]byte
	for _, n := range lengths() {
		each = append(each, filler(40, n))
	}
	for _, parts := range [][][]byte{nil, {}, {nil}, {{}}, {nil, {}, nil}, each} {
		callAll(t, nil, parts)
		for _, n := range keyLengths() {
			callAll(t, filler(41, n), parts)
		}
	}
}

func TestNoCallHangsOnThoseAheadOfIt(t *testing.T) {
	key, b := keyOf(42), filler(43, 100)
	for _, n := range keyLengths() {
		other := filler(44, n)
		mac.Code(other, b, other)
		mac.Right(keyOf(uint64(n)), api.Tag{}, other)
		mac.Diff(other, b)
		checkBoth(t, key[:], [][]byte{b}, "behind a call with", n)
		check(t, "Right", mac.Right(key, api.Tag{}, b), false, "noughts, behind a call with", n)
	}
}
