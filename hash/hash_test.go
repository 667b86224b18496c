package hash_test

import (
	"bytes"
	"crypto/sha256"
	"encoding/hex"
	"math"
	"slices"
	"strings"
	"testing"
	"unsafe"

	"pelorus/api"
	"pelorus/hash"
)

// The calls as the chapter lists them: another signature would not compile.
var (
	_ func(parts ...[]byte) api.Digest         = hash.Of
	_ func() *hash.Hasher                      = hash.New
	_ func(h *hash.Hasher, b []byte) api.Errno = (*hash.Hasher).Write
	_ func(h *hash.Hasher) api.Digest          = (*hash.Hasher).Sum
	_ func(h *hash.Hasher) int                 = (*hash.Hasher).Len
	_ func(h *hash.Hasher) *hash.Hasher        = (*hash.Hasher).Fork
)

const (
	blockBytes = 64
	// A last block of so many bytes has room for the byte 128 and the length, and no nought between.
	roomy    = 55
	maxBytes = 1 << 60
)

func check[A comparable](t *testing.T, what string, got, want A, of ...any) {
	t.Helper()
	if got != want {
		t.Errorf("%s of %v: %v, want %v", what, of, got, want)
	}
}

// digestOf is the digest of all parts, one behind the other, by the library.
func digestOf(parts ...[]byte) api.Digest { return sha256.Sum256(bytes.Join(parts, nil)) }

// told is all that a hasher tells.
type told struct {
	sum    api.Digest
	length int
}

func ask(h *hash.Hasher) told { return told{h.Sum(), h.Len()} }

// has is what a hasher has to tell that has all parts.
func has(parts ...[]byte) told { return told{digestOf(parts...), len(bytes.Join(parts, nil))} }

// hasher is one that has taken all parts, each by a call.
func hasher(t *testing.T, parts ...[]byte) *hash.Hasher {
	t.Helper()
	h := hash.New()
	for _, b := range parts {
		check(t, "Write", h.Write(b), api.OK, len(b))
	}
	return h
}

// What the calls are given.

// filler gives bytes that are the same each time, and of which no two blocks are alike.
func filler(seed uint64, n int) []byte {
	b := make([]byte, n)
	x := seed*0x9e3779b97f4a7c15 + 1
	for i := range b {
		x ^= x << 13
		x ^= x >> 7
		x ^= x << 17
		b[i] = byte(x >> 32)
	}
	return b
}

// lengths leave room for the length in the last block, or one more or less byte; are whole blocks, or nearly; and are long.
func lengths() []int {
	l := []int{0, 1, 2, 1000, 4095, 10007, 65535, 65536, 65537}
	for _, blocks := range []int{0, 1, 2, 3, 4, 15, 16, 17, 127, 128} {
		n := blocks * blockBytes
		l = append(l, n+roomy-1, n+roomy, n+roomy+1, n+blockBytes-1, n+blockBytes, n+blockBytes+1)
	}
	return l
}

// void is so many bytes that lie nowhere: how many there are can be asked, but whoever looks at one panics.
func void(n int) []byte {
	header := struct {
		at           unsafe.Pointer
		length, room int
	}{nil, n, n}
	return *(*[]byte)(unsafe.Pointer(&header))
}

// refused tells what a hasher answers to so many bytes, and whether it would have looked at them.
func refused(h *hash.Hasher, n int) (e api.Errno, looked bool) {
	defer func() { looked = recover() != nil }()
	return h.Write(void(n)), false
}

// none are hashers that no call made.
func none() map[string]*hash.Hasher { return map[string]*hash.Hasher{"nil": nil, "a plain one": {}} }

// 8.1: the digest of all parts.

func TestOfWhatIsKnown(t *testing.T) {
	for _, c := range []struct{ text, want string }{
		{"", "e3b0c44298fc1c149afbf4c8996fb92427ae41e4649b934ca495991b7852b855"},
		{"abc", "ba7816bf8f01cfea414140de5dae2223b00361a396177a9cb410ff61f20015ad"},
		{"abcdbcdecdefdefgefghfghighijhijkijkljklmklmnlmnomnopnopq", "248d6a61d20638b8e5c026930c3e6039a33ce45964ff2167f6ecedd419db06c1"},
		{"abcdefghbcdefghicdefghijdefghijkefghijklfghijklmghijklmnhijklmnoijklmnopjklmnopqklmnopqrlmnopqrsmnopqrstnopqrstu", "cf5b16a778af8380036ce59e7b0492370b249b11e8f07a51afac45037afee9d1"},
		{strings.Repeat("a", 1e6), "cdc76e5c9914fb9281a1c7e284d73e67f1809a48a497200e046d39ccc7112cd0"},
	} {
		d := hash.Of([]byte(c.text))
		check(t, "Of", hex.EncodeToString(d[:]), c.want, len(c.text), "known bytes")
	}
}

func TestOfTheChaptersExample(t *testing.T) {
	d := hash.Of([]byte{'a', 'b', 'c'})
	check(t, "Of", [4]byte(d[:4]), [4]byte{0xba, 0x78, 0x16, 0xbf}, "abc, first")
	check(t, "Of", [4]byte(d[28:]), [4]byte{0xf2, 0x00, 0x15, 0xad}, "abc, last")
}

func TestOfEachLength(t *testing.T) {
	for n := range 10 * blockBytes {
		b := filler(1, n)
		check(t, "Of", hash.Of(b), digestOf(b), n)
	}
	for _, n := range lengths() {
		for _, b := range [][]byte{filler(2, n), bytes.Repeat([]byte{0}, n), bytes.Repeat([]byte{128}, n), bytes.Repeat([]byte{255}, n)} {
			check(t, "Of", hash.Of(b), digestOf(b), n)
		}
	}
}

func TestOfEachByteAndBit(t *testing.T) {
	for i := range 256 {
		b := []byte{byte(i)}
		check(t, "Of", hash.Of(b), digestOf(b), b)
	}
	b := make([]byte, 2*blockBytes)
	for i := range len(b) * 8 {
		b[i/8] ^= 1 << (i % 8)
		check(t, "Of", hash.Of(b), digestOf(b), "bit", i)
		b[i/8] ^= 1 << (i % 8)
	}
}

func TestOfNoPartAndPartsOfNoBytes(t *testing.T) {
	nothing := digestOf()
	check(t, "Of", hash.Of(), nothing, "no part")
	check(t, "Of", hash.Of([][]byte{}...), nothing, "no part")
	check(t, "Of", hash.Of(nil), nothing, "nil")
	check(t, "Of", hash.Of([]byte{}), nothing, "a part of no bytes")
	check(t, "Of", hash.Of(nil, []byte{}, nil, nil, []byte{}), nothing, "parts of no bytes")
	b := filler(3, 70)
	check(t, "Of", hash.Of(nil, b[:3], []byte{}, b[3:64], nil, nil, b[64:], nil), digestOf(b), "parts of no bytes between")
}

func TestOfManyParts(t *testing.T) {
	var parts [][]byte
	for i := range 1000 {
		parts = append(parts, filler(uint64(i), i*i%97))
		check(t, "Of", hash.Of(parts...), digestOf(parts...), len(parts), "parts")
	}
	for range 4096 {
		parts = append(parts, []byte{7}, nil)
	}
	check(t, "Of", hash.Of(parts...), digestOf(parts...), len(parts), "parts")
	slices.Reverse(parts)
	check(t, "Of", hash.Of(parts...), digestOf(parts...), len(parts), "parts, the last one first")
}

// 8.2: hashers.

func TestAHasherOfNothing(t *testing.T) {
	h := hash.New()
	check(t, "a new one", ask(h), has())
	check(t, "Write", h.Write(nil), api.OK, "nil")
	check(t, "Write", h.Write([]byte{}), api.OK, "no bytes")
	check(t, "one that has no bytes", ask(h), has())
	check(t, "its fork", ask(h.Fork()), has())
	check(t, "Write", h.Write([]byte("abc")), api.OK, "abc")
	check(t, "one that goes on", ask(h), has([]byte("abc")))
}

func TestAHasherHasAllThatItTook(t *testing.T) {
	for _, n := range lengths() {
		b := filler(4, n)
		check(t, "at once", ask(hasher(t, b)), has(b), n)
	}
}

func TestHashersAreEachTheirOwn(t *testing.T) {
	one, other := hash.New(), hash.New()
	b, c := filler(5, 300), filler(6, 300)
	for i := range b {
		check(t, "Write", one.Write(b[i:i+1]), api.OK, i)
		check(t, "Write", other.Write(c[i:i+1]), api.OK, i)
		hash.Of(c)
		check(t, "the one", ask(one), has(b[:i+1]), i)
		check(t, "the other", ask(other), has(c[:i+1]), i)
	}
}

func TestAHasherKeepsNothingOfItsBytesOwner(t *testing.T) {
	for _, n := range lengths() {
		b := filler(7, n)
		h, want := hasher(t, b), has(b)
		for i := range b {
			b[i] ^= 255
		}
		check(t, "one whose bytes were changed", ask(h), want, n)
		more := []byte("more")
		check(t, "Write", h.Write(more), api.OK, n)
		clear(more)
		for i := range b {
			b[i] ^= 255
		}
		check(t, "one that went on", ask(h), has(b, []byte("more")), n)
	}
}

func TestWhatIsHandedInIsNotChanged(t *testing.T) {
	all := filler(8, 5*blockBytes)
	before := bytes.Clone(all)
	for i := range 2 * blockBytes {
		// Each part has room behind it, in which other bytes lie.
		parts := [][]byte{all[:i], all[i : i+3], all[i/2:]}
		want := digestOf(parts...)
		check(t, "Of", hash.Of(parts...), want, i)
		h := hasher(t, parts...)
		check(t, "Sum", h.Sum(), want, i)
		check(t, "Sum", h.Fork().Sum(), want, i, "fork")
		check(t, "what was handed in", string(all), string(before), i)
		check(t, "the parts that were handed in", digestOf(parts...), want, i)
	}
}

func TestWhatIsHandedOutIsTheCallersOwn(t *testing.T) {
	b := filler(9, 100)
	h := hasher(t, b)
	d, of := h.Sum(), hash.Of(b)
	clear(d[:])
	clear(of[:])
	check(t, "once its answer was changed", ask(h), has(b))
	check(t, "Of", hash.Of(b), digestOf(b), "once its answer was changed")
}

// The length counts bits, in eight bytes: from 2^29 bytes on they do not fit in four.

func TestMoreBitsThanAWordHas(t *testing.T) {
	if testing.Short() {
		t.Skip("it takes seconds")
	}
	t.Parallel()
	const piece = 1 << 20
	b := filler(10, piece)
	h, library := hash.New(), sha256.New()
	next := func(b []byte) {
		h.Write(b)
		library.Write(b)
	}
	for range 1<<29/piece - 1 {
		next(b)
	}
	next(b[1:])
	for n := 1<<29 - 1; n <= 1<<29+1; n++ {
		check(t, "long", ask(h), told{api.Digest(library.Sum(nil)), n})
		next(b[:1])
	}
}

// 8.3 (pieces).

func TestEachWayToCutInTwo(t *testing.T) {
	for n := range 4*blockBytes + 2 {
		b := filler(11, n)
		want := has(b)
		for i := range n + 1 {
			check(t, "Of", hash.Of(b[:i], b[i:]), want.sum, n, i)
			check(t, "pieces", ask(hasher(t, b[:i], b[i:])), want, n, i)
		}
	}
}

func TestEachWayToCutInThree(t *testing.T) {
	for _, n := range []int{0, 1, 2, 3, roomy, roomy + 1, 63, 64, 65, 119, 120, 127, 128, 129, 191, 192, 193} {
		b := filler(12, n)
		want := has(b)
		for i := range n + 1 {
			for j := i; j <= n; j++ {
				check(t, "Of", hash.Of(b[:i], b[i:j], b[j:]), want.sum, n, i, j)
				check(t, "pieces", ask(hasher(t, b[:i], b[i:j], b[j:])), want, n, i, j)
			}
		}
	}
}

func TestPiecesOfOneSize(t *testing.T) {
	b := filler(13, 1013)
	for size := 1; size <= len(b); size++ {
		pieces := slices.Collect(slices.Chunk(b, size))
		check(t, "Of", hash.Of(pieces...), digestOf(b), size)
		check(t, "pieces", ask(hasher(t, pieces...)), has(b), size)
	}
}

// 8.4 (looking).

func TestLookingChangesNothing(t *testing.T) {
	b := filler(14, 5*blockBytes)
	h := hash.New()
	for i := range b {
		for range 2 {
			check(t, "Sum", h.Sum(), digestOf(b[:i]), i)
			check(t, "Len", h.Len(), i)
			check(t, "its fork", ask(h.Fork()), has(b[:i]), i)
		}
		check(t, "Write", h.Write(b[i:i+1]), api.OK, i)
	}
	check(t, "in the end", ask(h), has(b))
}

func TestAForkGoesOnByItself(t *testing.T) {
	b, c := filler(15, 3*blockBytes), filler(16, 150)
	for i := range b {
		h := hasher(t, b[:i])
		fork := h.Fork()
		for _, more := range [][]byte{c[:1], c[1:], b} {
			check(t, "Write", fork.Write(more), api.OK, i, "fork")
			check(t, "one whose fork goes on", ask(h), has(b[:i]), i)
		}
		check(t, "the fork", ask(fork), has(b[:i], c, b), i)
		check(t, "Write", h.Write(b[i:]), api.OK, i)
		check(t, "one that goes on, too", ask(h), has(b), i)
		check(t, "the fork, behind that", ask(fork), has(b[:i], c, b), i)
	}
}

func TestAForkStaysWhileItsHasherGoesOn(t *testing.T) {
	b, c := filler(17, 3*blockBytes), filler(18, 150)
	h := hash.New()
	var forks []*hash.Hasher
	for i := range b {
		forks = append(forks, h.Fork())
		check(t, "Write", h.Write(b[i:i+1]), api.OK, i)
	}
	for i, fork := range forks {
		check(t, "a fork that stayed", ask(fork), has(b[:i]), i)
		second := fork.Fork()
		check(t, "Write", fork.Write(c), api.OK, i)
		check(t, "a fork that goes on", ask(fork), has(b[:i], c), i)
		check(t, "a fork's fork", ask(second), has(b[:i]), i)
		check(t, "Write", second.Write(b[i:]), api.OK, i)
		check(t, "a fork's fork that goes on", ask(second), has(b), i)
		check(t, "the fork, behind that", ask(fork), has(b[:i], c), i)
	}
	check(t, "the first one", ask(h), has(b))
}

// Errors: hashers that no call made, and too many bytes.

func TestAHasherThatNoCallMade(t *testing.T) {
	for what, h := range none() {
		for range 2 {
			for _, b := range [][]byte{nil, {}, {1}, filler(19, blockBytes), filler(19, 1000)} {
				check(t, "Write", h.Write(b), api.ErrNil, what, len(b))
				check(t, "Sum", h.Sum(), api.Digest{}, what)
				check(t, "Len", h.Len(), 0, what)
				check(t, "Fork", h.Fork(), nil, what)
			}
		}
		e, looked := refused(h, maxBytes+1)
		check(t, "Write", e, api.ErrNil, what, "too many bytes")
		check(t, "looking", looked, false, what, "too many bytes")
	}
}

func TestTooManyBytes(t *testing.T) {
	for _, had := range []int{0, 1, 2, roomy, 63, 64, 65, 1000} {
		b := filler(20, had)
		h := hasher(t, b)
		for _, n := range []int{maxBytes - had + 1, maxBytes - had + 2, maxBytes + 1, 1 << 61, 1 << 62, math.MaxInt - had, math.MaxInt - 1, math.MaxInt} {
			if n <= maxBytes-had {
				continue
			}
			for _, h := range []*hash.Hasher{h, h.Fork()} {
				e, looked := refused(h, n)
				check(t, "Write", e, api.ErrLong, had, n)
				check(t, "looking", looked, false, had, n)
				// P2: it was not taken, and nothing else has changed.
				check(t, "one that refused", ask(h), has(b), had, n)
			}
		}
		check(t, "Write", h.Write(b), api.OK, had)
		check(t, "one that goes on", ask(h), has(b, b), had)
	}
}

func TestAsManyBytesAsMayBe(t *testing.T) {
	for _, had := range []int{0, 1, 63, 64, 65, 1000} {
		for _, n := range []int{maxBytes - had, maxBytes - had - 1, 1 << 59} {
			// Nobody has so many bytes. But it is not their number for which they are refused: they would have been looked at.
			e, looked := refused(hasher(t, filler(21, had)), n)
			check(t, "Write", e, api.OK, had, n)
			check(t, "looking", looked, true, had, n)
		}
	}
}

func TestOfTooManyBytesIsNoughts(t *testing.T) {
	some := filler(22, 100)
	for _, parts := range [][][]byte{{void(maxBytes + 1)}, {void(math.MaxInt)}, {some, void(maxBytes - 99)}, {some, void(maxBytes + 1), some}, {nil, some, nil, void(math.MaxInt)}} {
		check(t, "Of", hash.Of(parts...), api.Digest{}, len(parts), "parts, too long")
	}
}

// P1: every call ends and none panics.

func callAll(t *testing.T, h *hash.Hasher, parts [][]byte) {
	t.Helper()
	defer func() {
		if r := recover(); r != nil {
			t.Errorf("a panic (%v) at %d parts", r, len(parts))
		}
	}()
	hash.Of(parts...)
	for _, b := range parts {
		h.Write(b)
		h.Sum()
		h.Len()
		h.Fork().Write(b)
		h.Fork().Sum()
		h.Fork().Fork().Len()
	}
}

func TestEveryCallEnds(t *testing.T) {
	var each [][]byte
	for _, n := range lengths() {
		each = append(each, filler(23, n))
	}
	for _, parts := range [][][]byte{nil, {}, {nil}, {{}}, {nil, {}, nil}, each} {
		callAll(t, hash.New(), parts)
		for _, h := range none() {
			callAll(t, h, parts)
		}
	}
}

// P2: no call leaves anything behind that a later one could tell but the hasher's bytes, be it refused or not.

func TestNoCallHangsOnThoseAheadOfIt(t *testing.T) {
	for _, n := range lengths() {
		b := filler(24, n)
		want := has(b)
		for what, h := range none() {
			check(t, "Write", h.Write(b), api.ErrNil, what)
		}
		hash.Of(b, b)
		h := hasher(t, b)
		refused(h, maxBytes+1)
		refused(hash.New(), maxBytes+1)
		check(t, "one that refused", ask(h), want, n)
		check(t, "another one", ask(hasher(t, b)), want, n)
		check(t, "Of", hash.Of(b), want.sum, n)
	}
}
