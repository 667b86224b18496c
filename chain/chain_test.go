package chain_test

import (
	"crypto/hmac"
	"crypto/sha256"
	"encoding/binary"
	"encoding/hex"
	"math"
	"slices"
	"strconv"
	"strings"
	"testing"

	"pelorus/api"
	"pelorus/chain"
)

// The calls as the chapter lists them: another signature would not compile.
var (
	_ func(k api.Key) api.Key                            = chain.Next
	_ func(k api.Key, n int) (api.Key, api.Errno)        = chain.Walk
	_ func(k, commit api.Key, n int) (bool, api.Errno)   = chain.Leads
	_ func(k, commit api.Key, most int) (int, api.Errno) = chain.Find
	_ func(k api.Key, label string, n uint64) api.Key    = chain.Derive
	_ func(k api.Key, n int) ([]api.Key, api.Errno)      = chain.All
)

func check[A comparable](t *testing.T, what string, got, want A, of ...any) {
	t.Helper()
	if got != want {
		t.Errorf("%s of %v: %v, want %v", what, of, got, want)
	}
}

// nextOf is a key's next one, by the library.
func nextOf(k api.Key) api.Key {
	return sha256.Sum256(append([]byte("pelorus.chain"), k[:]...))
}

// chainOf is k, its next one, and so on: n and 1 keys, by the library.
func chainOf(k api.Key, n int) []api.Key {
	all := []api.Key{k}
	for len(all) <= n {
		all = append(all, nextOf(all[len(all)-1]))
	}
	return all
}

// derivedOf is the key derived from k, by the library.
func derivedOf(k api.Key, label string, n uint64) api.Key {
	h := hmac.New(sha256.New, k[:])
	h.Write([]byte(label + "\x00"))
	h.Write(binary.BigEndian.AppendUint64(nil, n))
	return api.Key(h.Sum(nil))
}

// findOf is the first place of a list, at most most, at which commit lies.
func findOf(all []api.Key, commit api.Key, most int) (int, api.Errno) {
	if n := slices.Index(all[:most+1], commit); n >= 0 {
		return n, api.OK
	}
	return 0, api.ErrNone
}

func checkWalk(t *testing.T, k api.Key, n int, want api.Key, told api.Errno, of ...any) {
	t.Helper()
	got, e := chain.Walk(k, n)
	check(t, "Walk", got, want, append(of, n)...)
	check(t, "Walk's error", e, told, append(of, n)...)
}

func checkLeads(t *testing.T, k, commit api.Key, n int, want bool, told api.Errno, of ...any) {
	t.Helper()
	got, e := chain.Leads(k, commit, n)
	check(t, "Leads", got, want, append(of, n)...)
	check(t, "Leads' error", e, told, append(of, n)...)
}

func checkFind(t *testing.T, k, commit api.Key, most, want int, told api.Errno, of ...any) {
	t.Helper()
	got, e := chain.Find(k, commit, most)
	check(t, "Find", got, want, append(of, most)...)
	check(t, "Find's error", e, told, append(of, most)...)
}

func checkAll(t *testing.T, k api.Key, n int, want []api.Key, told api.Errno, of ...any) {
	t.Helper()
	got, e := chain.All(k, n)
	check(t, "All's length", len(got), len(want), append(of, n)...)
	check(t, "whether All is as it should be", slices.Equal(got, want), true, append(of, n)...)
	check(t, "All's error", e, told, append(of, n)...)
}

// What the calls are given.

// filler gives a key that is the same each time, no byte of it a nought.
func filler(seed uint64) api.Key {
	var k api.Key
	x := seed*0x9e3779b97f4a7c15 + 1
	for i := range k {
		x ^= x << 13
		x ^= x >> 7
		x ^= x << 17
		k[i] = byte(x>>32)%255 + 1
	}
	return k
}

// counted is the key 0, 1, 2 and so on to 31.
func counted() api.Key {
	var k api.Key
	for i := range k {
		k[i] = byte(i)
	}
	return k
}

// turned is k with one bit turned.
func turned(k api.Key, bit int) api.Key {
	k[bit/8] ^= 1 << (bit % 8)
	return k
}

func someKeys() []api.Key {
	all := api.Key{}
	for i := range all {
		all[i] = 255
	}
	return []api.Key{{}, all, {1}, {31: 1}, {128}, counted(), filler(1), filler(2)}
}

// steps are those that may be asked for; the others may not.
func steps() []int { return []int{0, 1, 2, 3, 10, 255, 256, 257, 510, 511, api.MaxChain} }

func wrongSteps() []int {
	return []int{-1, -2, -511, -512, -513, math.MinInt32, math.MinInt + 1, math.MinInt,
		api.MaxChain + 1, api.MaxChain + 2, 1024, 65536, 1<<32 - 1, 1 << 32, 1<<32 + 1, math.MaxInt - 1, math.MaxInt}
}

func someLabels() []string {
	return []string{"", "a", "b", "ab", "ba", "A", "aa", "epoch", "tag", "1", "11", "\x00", "\x00\x00", "a\x00", "\x00a", "a\x00b", "a\x00\x00",
		"\x01", "\xff", "\xff\x80", "\u00e9", "pelorus.chain", strings.Repeat("a", 54), strings.Repeat("a", 55), strings.Repeat("a", 56),
		strings.Repeat("a", 64), strings.Repeat("\x00", 64), strings.Repeat("long", 20000)}
}

func someNumbers() []uint64 {
	l := []uint64{0, 1, 2, 255, 256, 257, 65535, 65536, 1<<32 - 1, 1 << 32, 1<<63 - 1, 1 << 63, math.MaxUint64 - 1, math.MaxUint64, 0x0102030405060708}
	return l
}

func keyOf(t *testing.T, digits string) api.Key {
	t.Helper()
	b, err := hex.DecodeString(digits)
	if err != nil || len(b) != len(api.Key{}) {
		t.Fatalf("%s is no key", digits)
	}
	return api.Key(b)
}

// 10.1: steps.

func TestNextKeysThatAreKnown(t *testing.T) {
	for i, c := range []struct {
		key  api.Key
		want string
	}{
		{api.Key{}, "1a0b2bc106e0980b0ce1f896a0ff61f1fa1a38e625e1123be53507dd2a73ad61"},
		{api.Key{1}, "7460531d90c9381cbc2ac7ccf8cc80af42aacb66de4b1106e62dcbc4887d158c"},
		{counted(), "44847f93fef44c0030dc4a6d9f21a4af0723746949cfb457de6f3470cd1438de"},
		{nextOf(api.Key{}), "cd0bb118470306249778df3190bc0ba6c575163805fb82b66d9d4440afbf069e"},
	} {
		check(t, "Next", chain.Next(c.key), keyOf(t, c.want), "example", i)
	}
	checkWalk(t, api.Key{}, api.MaxChain, keyOf(t, "8fca3e223bcc83259972924cb1844f4f9ef0fc696bec803710456b39ee05782e"), api.OK, "noughts")
}

func TestNext(t *testing.T) {
	for i, k := range someKeys() {
		check(t, "Next", chain.Next(k), nextOf(k), "key", i)
		for bit := range 8 * len(k) {
			other := turned(k, bit)
			check(t, "Next", chain.Next(other), nextOf(other), "key", i, "bit", bit)
			check(t, "whether it is the same", chain.Next(other) == chain.Next(k), false, "key", i, "bit", bit)
		}
	}
}

func TestTheChaptersExample(t *testing.T) {
	for i, k := range someKeys() {
		checkWalk(t, k, 0, k, api.OK, "key", i)
	}
}

func TestWalk(t *testing.T) {
	for i, k := range someKeys() {
		all := chainOf(k, api.MaxChain)
		checkWalk(t, k, 1, chain.Next(k), api.OK, "key", i)
		for n, want := range all {
			checkWalk(t, k, n, want, api.OK, "key", i)
		}
	}
}

func TestLeads(t *testing.T) {
	for i, k := range someKeys() {
		all := chainOf(k, api.MaxChain+2)
		for _, n := range steps() {
			checkLeads(t, k, all[n], n, true, api.OK, "key", i, "as many as are asked for")
			checkLeads(t, k, all[n+1], n, false, api.OK, "key", i, "one more")
			checkLeads(t, k, all[n+2], n, false, api.OK, "key", i, "two more")
			if n > 0 {
				checkLeads(t, k, all[n-1], n, false, api.OK, "key", i, "one fewer")
				checkLeads(t, k, k, n, false, api.OK, "key", i, "itself")
			}
			checkLeads(t, k, filler(3), n, false, api.OK, "key", i, "a stranger")
			checkLeads(t, all[n], k, 1, false, api.OK, "key", i, "the other way")
		}
	}
}

func TestACommitmentOfWhichOneBitIsTurned(t *testing.T) {
	k := filler(4)
	for _, n := range []int{0, 1, 5} {
		commit := chainOf(k, n)[n]
		for bit := range 8 * len(commit) {
			checkLeads(t, k, turned(commit, bit), n, false, api.OK, "bit", bit)
			checkFind(t, k, turned(commit, bit), n+3, 0, api.ErrNone, "bit", bit)
		}
	}
}

func TestFind(t *testing.T) {
	for i, k := range someKeys() {
		all := chainOf(k, api.MaxChain+1)
		for _, most := range steps() {
			for _, at := range []int{0, 1, 2, most - 2, most - 1, most, most + 1, api.MaxChain - 1, api.MaxChain, api.MaxChain + 1} {
				if at < 0 || at >= len(all) {
					continue
				}
				want, told := findOf(all, all[at], most)
				checkFind(t, k, all[at], most, want, told, "key", i, "at", at)
			}
			checkFind(t, k, filler(5), most, 0, api.ErrNone, "key", i, "a stranger")
			checkFind(t, k, api.Key{99}, most, 0, api.ErrNone, "key", i, "another stranger")
		}
	}
}

func TestEdgesOfFind(t *testing.T) {
	k := filler(6)
	all := chainOf(k, api.MaxChain+1)
	checkFind(t, k, k, 0, 0, api.OK, "the commitment already")
	checkFind(t, k, k, 1, 0, api.OK, "the commitment already")
	checkFind(t, k, k, api.MaxChain, 0, api.OK, "the commitment already")
	checkFind(t, k, all[1], 0, 0, api.ErrNone, "one step")
	checkFind(t, k, all[1], 1, 1, api.OK, "one step")
	checkFind(t, k, all[2], 1, 0, api.ErrNone, "two steps")
	checkFind(t, k, all[1], api.MaxChain, 1, api.OK, "one step")
	checkFind(t, k, all[api.MaxChain-1], api.MaxChain, api.MaxChain-1, api.OK, "one fewer than MaxChain")
	checkFind(t, k, all[api.MaxChain], api.MaxChain, api.MaxChain, api.OK, "MaxChain")
	checkFind(t, k, all[api.MaxChain], api.MaxChain-1, 0, api.ErrNone, "MaxChain")
	checkFind(t, k, all[api.MaxChain+1], api.MaxChain, 0, api.ErrNone, "one more than MaxChain")
	checkFind(t, all[2], k, api.MaxChain, 0, api.ErrNone, "the other way")
	checkFind(t, all[1], k, 1, 0, api.ErrNone, "the other way")
	checkFind(t, api.Key{}, api.Key{}, 0, 0, api.OK, "noughts, the commitment already")
	checkFind(t, k, api.Key{}, api.MaxChain, 0, api.ErrNone, "a commitment of noughts")
}

func TestStepsThatCanNotBeWalked(t *testing.T) {
	k := filler(7)
	all := chainOf(k, api.MaxChain+2)
	commits := map[string]api.Key{"itself": k, "the next one": all[1], "noughts": {}, "one behind the last one": all[api.MaxChain+1], "two behind it": all[api.MaxChain+2]}
	for _, n := range wrongSteps() {
		checkWalk(t, k, n, api.Key{}, api.ErrArg)
		checkWalk(t, api.Key{}, n, api.Key{}, api.ErrArg, "noughts")
		checkAll(t, k, n, nil, api.ErrArg)
		checkAll(t, api.Key{}, n, nil, api.ErrArg, "noughts")
		for what, commit := range commits {
			checkLeads(t, k, commit, n, false, api.ErrArg, what)
			checkFind(t, k, commit, n, 0, api.ErrArg, what) // ahead of ErrNone
		}
		// What Walk answers beside its error is no commitment.
		checkLeads(t, api.Key{}, api.Key{}, n, false, api.ErrArg, "noughts")
		checkFind(t, api.Key{}, api.Key{}, n, 0, api.ErrArg, "noughts")
	}
}

// 10.2: keys that are derived, and all keys of a chain.

func TestDerivedKeysThatAreKnown(t *testing.T) {
	for i, c := range []struct {
		key   api.Key
		label string
		n     uint64
		want  string
	}{
		{api.Key{}, "", 0, "fecc5ef09c6aa93ddbd645fd2ece6548aae8fdec747e3a4d6de54da7a19da622"},
		{api.Key{1}, "a", 1, "411b18491ab2ec2753ad1e446f1bd8e35662129fc539169f23eedc5c5cee37ec"},
		{api.Key{1}, "a", 256, "6c8a302d0efdb1e55daf79375eb048dd7ae7494a65e748a8136b340e0acdd9eb"},
		{counted(), "epoch", math.MaxUint64, "d00b374f4d2f6090ef281fd4bda0aab0b1969e04331128c40cd465d41eefe1ae"},
		{counted(), "a\x00b", 0x0102030405060708, "f8caa8c3409b32e6878d5ff29812ab76eeeff4ed3b2712e1ad08c4f7e43c641d"},
		{api.Key{}, "\xff\x80", 255, "20b5b72dff407427817841e81e321f22800256d02c1d511bae9a7a62a9735fbf"},
	} {
		check(t, "Derive", chain.Derive(c.key, c.label, c.n), keyOf(t, c.want), "example", i)
	}
}

func TestDerive(t *testing.T) {
	for i, k := range someKeys() {
		for j, label := range someLabels() {
			for _, n := range someNumbers() {
				check(t, "Derive", chain.Derive(k, label, n), derivedOf(k, label, n), "key", i, "label", j, n)
			}
		}
	}
}

func TestEachByteOfALabelAndBitOfANumber(t *testing.T) {
	k := filler(8)
	for i := range 256 {
		label := string([]byte{byte(i)})
		check(t, "Derive", chain.Derive(k, label, 7), derivedOf(k, label, 7), "byte", i)
	}
	for i := range 200 {
		label := strings.Repeat("x", i)
		check(t, "Derive", chain.Derive(k, label, 7), derivedOf(k, label, 7), i, "bytes of label")
	}
	for bit := range 64 {
		n := uint64(1) << bit
		check(t, "Derive", chain.Derive(k, "a", n), derivedOf(k, "a", n), "bit", bit)
		check(t, "Derive", chain.Derive(k, "a", ^n), derivedOf(k, "a", ^n), "all bits but", bit)
	}
}

func TestNoTwoDerivedKeysAreTheSame(t *testing.T) {
	type from struct {
		key   int
		label string
		n     uint64
	}
	seen := map[api.Key]from{}
	for i, k := range someKeys() {
		for _, label := range someLabels() {
			for _, n := range someNumbers() {
				d, f := chain.Derive(k, label, n), from{i, label, n}
				if other, was := seen[d]; was {
					t.Errorf("derived alike: key %d, %s, %d and key %d, %s, %d", f.key, strconv.Quote(f.label), f.n, other.key, strconv.Quote(other.label), other.n)
				}
				seen[d] = f
			}
		}
	}
}

func TestLabelsAndNumbersThatWouldReadTheSame(t *testing.T) {
	// Were there no byte 0 between them and numbers as short as can be, or did a byte 0 end a label, each pair would read the same.
	for i, c := range []struct {
		a string
		n uint64
		b string
		m uint64
	}{
		{"a1", 1, "a", 11},
		{"1", 1, "", 11},
		{"a\x01", 2, "a", 0x0102},
		{"a", 0x01000000000000ff, "a\x01\x00\x00\x00\x00\x00\x00", 255},
		{"a", 0x62, "ab", 0},
		{"", 'a', "a", 0},
		{"\x00", 0, "", 0},
		{"a\x00", 1, "a", 1},
		{"a\x00", 1, "a", 256},
		{"\x00a", 1, "", 1},
		{"a\x00b", 1, "a", 1},
		{"a\x00b", 1, "a\x00c", 1},
		{"a" + strings.Repeat("\x00", 8), 1, "a", 0},
		{"a" + strings.Repeat("\x00", 9), 1, "a", 1},
	} {
		k := filler(9)
		check(t, "whether they are the same", chain.Derive(k, c.a, c.n) == chain.Derive(k, c.b, c.m), false, "pair", i)
		check(t, "Derive", chain.Derive(k, c.a, c.n), derivedOf(k, c.a, c.n), "pair", i, "the one")
		check(t, "Derive", chain.Derive(k, c.b, c.m), derivedOf(k, c.b, c.m), "pair", i, "the other")
	}
}

func TestADerivedKeyIsNoNextOne(t *testing.T) {
	for i, k := range someKeys() {
		for _, label := range someLabels() {
			check(t, "whether it is the next one", chain.Derive(k, label, 0) == chain.Next(k), false, "key", i, strconv.Quote(label[:min(len(label), 70)]))
		}
	}
}

func TestAll(t *testing.T) {
	for i, k := range someKeys() {
		all := chainOf(k, api.MaxChain)
		for n := range all {
			checkAll(t, k, n, all[:n+1], api.OK, "key", i)
		}
		checkAll(t, k, 0, []api.Key{k}, api.OK, "key", i, "0 steps")
		checkAll(t, k, 1, []api.Key{k, nextOf(k)}, api.OK, "key", i, "one step")
	}
}

func TestWalkAndAllAgree(t *testing.T) {
	for i, k := range someKeys() {
		for _, n := range steps() {
			all, _ := chain.All(k, n)
			end, _ := chain.Walk(k, n)
			check(t, "All's last one", all[len(all)-1], end, "key", i, n)
			check(t, "All's first one", all[0], k, "key", i, n)
		}
	}
}

// 10.3 (one behind the other).

func TestToWalkOneBehindTheOther(t *testing.T) {
	for i, k := range []api.Key{{}, counted(), filler(10)} {
		for n := range 40 {
			for m := range 40 {
				checkBoth(t, k, n, m, "key", i)
			}
		}
		for _, n := range steps() {
			for _, m := range steps() {
				if n+m <= api.MaxChain {
					checkBoth(t, k, n, m, "key", i)
				}
			}
			checkBoth(t, k, n, api.MaxChain-n, "key", i)
		}
	}
}

// checkBoth holds n steps and then m against both together.
func checkBoth(t *testing.T, k api.Key, n, m int, of ...any) {
	t.Helper()
	middle, e := chain.Walk(k, n)
	check(t, "Walk's error", e, api.OK, append(of, n)...)
	end, f := chain.Walk(k, n+m)
	check(t, "Walk's error", f, api.OK, append(of, n+m)...)
	checkWalk(t, middle, m, end, api.OK, append(of, n, "and then")...)
}

func TestMoreThanMaxChainInTwoWalks(t *testing.T) {
	k := filler(11)
	all := chainOf(k, 2*api.MaxChain)
	middle, _ := chain.Walk(k, api.MaxChain)
	for _, n := range steps() {
		checkWalk(t, middle, n, all[api.MaxChain+n], api.OK, "behind MaxChain steps")
	}
}

// 10.4 (leads).

func TestEachKeyOfAChainLeadsToEachBehindIt(t *testing.T) {
	for i, k := range []api.Key{{}, filler(12)} {
		all, _ := chain.All(k, 40)
		for from, a := range all {
			for to, b := range all {
				checkPair(t, a, b, to-from, "key", i, from, to)
			}
		}
	}
}

// checkPair holds two keys of a chain against each other, the second of which is so many steps behind the first.
func checkPair(t *testing.T, a, b api.Key, between int, of ...any) {
	t.Helper()
	if between < 0 {
		checkLeads(t, a, b, -between, false, api.OK, append(of, "ahead of it")...)
		checkFind(t, a, b, -between, 0, api.ErrNone, append(of, "ahead of it")...)
		return
	}
	checkLeads(t, a, b, between, true, api.OK, of...)
	checkLeads(t, a, b, between+1, false, api.OK, append(of, "one more")...)
	checkFind(t, a, b, between, between, api.OK, of...)
	checkFind(t, a, b, between+1, between, api.OK, of...)
	if between > 0 {
		checkLeads(t, a, b, between-1, false, api.OK, append(of, "one fewer")...)
		checkFind(t, a, b, between-1, 0, api.ErrNone, append(of, "one fewer")...)
	}
}

func TestAWholeChainLeadsToItsCommitment(t *testing.T) {
	all, _ := chain.All(filler(13), api.MaxChain)
	commit := all[len(all)-1]
	for i, k := range all {
		checkLeads(t, k, commit, api.MaxChain-i, true, api.OK, "place", i)
		checkFind(t, k, commit, api.MaxChain, api.MaxChain-i, api.OK, "place", i)
		checkLeads(t, all[0], k, i, true, api.OK, "the first one, place", i)
	}
}

// 10.5.

func TestWhatIsFoundLeadsThereAndNothingFewer(t *testing.T) {
	k := filler(14)
	all := chainOf(k, api.MaxChain)
	for _, at := range steps() {
		n, e := chain.Find(k, all[at], api.MaxChain)
		check(t, "Find's error", e, api.OK, at)
		checkLeads(t, k, all[at], n, true, api.OK, "found at", at)
		for fewer := range n {
			checkLeads(t, k, all[at], fewer, false, api.OK, "found at", at)
		}
	}
}

func TestWhatIsNotFoundIsLedToByNoSteps(t *testing.T) {
	k := filler(15)
	all := chainOf(k, 61)
	for name, commit := range map[string]api.Key{"one more": all[61], "a stranger": filler(16), "noughts": {}} {
		checkFind(t, k, commit, 60, 0, api.ErrNone, name)
		for n := range 61 {
			checkLeads(t, k, commit, n, false, api.OK, name)
		}
	}
}

// What is handed out is the caller's own; keys are values, so that none that is handed in can be changed.

func TestWhatIsHandedOutIsTheCallersOwn(t *testing.T) {
	k := filler(17)
	want := chainOf(k, 20)
	first, _ := chain.All(k, 20)
	other, _ := chain.All(k, 20)
	clear(first)
	_ = append(first[:3], api.Key{9}, api.Key{9})
	check(t, "whether the other one is as it was", slices.Equal(other, want), true, "All")
	checkAll(t, k, 20, want, api.OK, "once its answer was changed")
	walked, _ := chain.Walk(k, 0)
	clear(walked[:])
	checkWalk(t, k, 0, want[0], api.OK, "once its answer was changed")
}

// P1 and P2: every call ends and none panics; none leaves anything behind that a later one could tell.

func callAll(t *testing.T, k api.Key, label string, number uint64, n int) {
	t.Helper()
	defer func() {
		if r := recover(); r != nil {
			t.Errorf("a panic (%v) at %d steps and %d bytes of label", r, n, len(label))
		}
	}()
	chain.Next(k)
	chain.Walk(k, n)
	chain.Derive(k, label, number)
	chain.All(k, n)
	for _, commit := range []api.Key{{}, k, chain.Next(k)} {
		chain.Leads(k, commit, n)
		chain.Find(k, commit, n)
	}
}

func TestEveryCallEnds(t *testing.T) {
	all := append(steps(), wrongSteps()...)
	for _, k := range someKeys()[:3] {
		for i, n := range all {
			callAll(t, k, someLabels()[i%len(someLabels())], someNumbers()[i%len(someNumbers())], n)
		}
	}
}

func TestNoCallHangsOnThoseAheadOfIt(t *testing.T) {
	k := filler(18)
	all := chainOf(k, api.MaxChain)
	for i, n := range append(steps(), wrongSteps()...) {
		callAll(t, filler(uint64(i)), "other", uint64(i), n)
		check(t, "Next", chain.Next(k), all[1], "behind calls with", n)
		checkWalk(t, k, 20, all[20], api.OK, "behind calls with", n)
		checkLeads(t, k, all[21], 20, false, api.OK, "behind calls with", n)
		checkFind(t, k, all[20], 20, 20, api.OK, "behind calls with", n)
		checkAll(t, k, 20, all[:21], api.OK, "behind calls with", n)
		check(t, "Derive", chain.Derive(k, "a", 1), derivedOf(k, "a", 1), "behind calls with", n)
	}
}
