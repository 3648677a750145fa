package huff

import (
	"math"
	"slices"
	"strconv"
	"strings"
	"testing"

	"cyanotype/api"
	"cyanotype/sec"
)

// share is a value with its code, and which of the 65536 sixteens of bits begin with it: those from From on, below To.
type share struct {
	value    byte
	n, v     int
	from, to int
}

// shares lay codes in other words than the chapter: a code of N bits takes 2^(16-N) sixteens, and each takes them behind the one ahead; its number is the upper N bits of the first it takes.
func shares(t api.Table) []share {
	var l []share
	from := 0
	for i, many := range t.Counts {
		n := i + 1
		for range many {
			to := from + 1<<(16-n)
			l = append(l, share{value: t.Values[len(l)], n: n, v: from >> (16 - n), from: from, to: to})
			from = to
		}
	}
	return l
}

// mayBe is what the chapter asks of Check.
func mayBe(t api.Table) bool {
	sum := 0
	for _, many := range t.Counts {
		if many < 0 || many > 255 {
			return false
		}
		sum += many
	}
	sorted := slices.Sorted(slices.Values(t.Values))
	if sum != len(t.Values) || sum > 256 || len(slices.Compact(sorted)) != sum {
		return false
	}
	for _, s := range shares(t) {
		if s.v == 1<<s.n-1 || s.to > 65536 {
			return false
		}
	}
	return true
}

// codesOf is what it asks of Codes.
func codesOf(t api.Table) [256]api.Code {
	var l [256]api.Code
	if mayBe(t) {
		for _, s := range shares(t) {
			l[s.value] = api.Code{N: s.n, V: s.v}
		}
	}
	return l
}

// foundOf is what it asks of Find: the value, and the length, of each sixteen of bits.
func foundOf(t api.Table) [][2]int {
	l := make([][2]int, 65536)
	if mayBe(t) {
		for _, s := range shares(t) {
			for bits := s.from; bits < s.to; bits++ {
				l[bits] = [2]int{int(s.value), s.n}
			}
		}
	}
	return l
}

// foundIn is what it asks of Find of any bits.
func foundIn(l [][2]int, bits int) [2]int {
	if bits < 0 || bits >= len(l) {
		return [2]int{}
	}
	return l[bits]
}

// bitsOf is a code as a text of noughts and ones.
func bitsOf(c api.Code) string {
	s := strconv.FormatInt(int64(c.V), 2)
	if c.V == 0 {
		s = ""
	}
	return strings.Repeat("0", c.N-len(s)) + s
}

// asked is a table as the tests ask of it.
type asked struct {
	name string
	api.Table
}

// counted is a table of so many codes of some lengths. Its values are all different, as long as there are no more than a byte holds, and in no order.
func counted(name string, counts map[int]int) asked {
	t := asked{name: name}
	sum := 0
	for n, many := range counts {
		t.Counts[n-1] = many
		sum += max(many, 0)
	}
	for i := range sum {
		t.Values = append(t.Values, byte(i*167+91))
	}
	return t
}

// chain has a code of each length up to n, and so many of n.
func chain(n, many int) map[int]int {
	counts := map[int]int{}
	for i := 1; i < n; i++ {
		counts[i] = 1
	}
	counts[n] = many
	return counts
}

// with is the counts that are handed in, with more of a length.
func with(counts map[int]int, n, many int) map[int]int {
	counts[n] += many
	return counts
}

// standardTables are those of Standard.
func standardTables() []asked {
	return []asked{
		{"Standard(0, 0)", Standard(0, 0)}, {"Standard(0, 1)", Standard(0, 1)},
		{"Standard(1, 0)", Standard(1, 0)}, {"Standard(1, 1)", Standard(1, 1)},
	}
}

// oneAlone are the tables of one value, at each length.
func oneAlone() []asked {
	var l []asked
	for n := 1; n <= 16; n++ {
		for _, value := range []byte{0, 1, 127, 128, 255} {
			t := counted("one of length "+strconv.Itoa(n), map[int]int{n: 1})
			t.Values[0] = value
			l = append(l, t)
		}
	}
	return l
}

// fullTables leave no room for one code more of the greatest length that they have (those that go on to 16, of any), or for one value more.
func fullTables() []asked {
	l := []asked{
		counted("255 of length 8", map[int]int{8: 255}),
		counted("255 of length 8, one of 9", map[int]int{8: 255, 9: 1}),
		counted("3 of length 2, 253 of 10", map[int]int{2: 3, 10: 253}),
	}
	for n := 1; n <= 16; n++ {
		l = append(l, counted("one of each length to "+strconv.Itoa(n), chain(n, 1)))
	}
	for n := 1; n <= 7; n++ {
		counts := map[int]int{n: 1<<n - 1}
		l = append(l, counted("all of length "+strconv.Itoa(n), counts))
		for i := n + 1; i <= 16; i++ {
			counts[i] = 1
		}
		l = append(l, counted("all of length "+strconv.Itoa(n)+", and one of each further one", counts))
	}
	return l
}

// otherTables are Checked too, and neither full nor standard.
func otherTables() []asked {
	return []asked{
		{"none", api.Table{}},
		{"none, of an empty list", api.Table{Values: []byte{}}},
		counted("two of length 2, one of 16", map[int]int{2: 2, 16: 1}),
		counted("200 of length 8", map[int]int{8: 200}),
		counted("255 of length 9", map[int]int{9: 255}),
		counted("255 of length 16", map[int]int{16: 255}),
		counted("one of length 15, 255 of 16", map[int]int{15: 1, 16: 255}),
		counted("255 of length 15, one of 16", map[int]int{15: 255, 16: 1}),
		counted("128 of length 9, 128 of 12", map[int]int{9: 128, 12: 128}),
		counted("one of length 1, 200 of 16", map[int]int{1: 1, 16: 200}),
	}
}

// drawn is a table of lengths and values that follow no pattern. It may be Checked, or not.
func drawn(seed int) asked {
	x := uint64(seed)*2654435769 + 88172645463325252
	next := func(n int) int {
		x ^= x << 13
		x ^= x >> 7
		x ^= x << 17
		return int(x >> 8 % uint64(n))
	}
	counts := map[int]int{}
	room := 65536
	for n := 1 + next(6); n <= 16; n++ {
		most := min(room>>(16-n), 20)
		counts[n] = next(most + 1)
		room -= counts[n] << (16 - n)
	}
	t := counted("drawn "+strconv.Itoa(seed), counts)
	for i := range t.Values {
		j := next(i + 1)
		t.Values[i], t.Values[j] = t.Values[j], t.Values[i]
	}
	return t
}

// goodTables are those that are Checked. Each is asked by itself ahead of its use, so that none is here by mistake.
func goodTables(t *testing.T) []asked {
	t.Helper()
	l := slices.Concat(standardTables(), oneAlone(), fullTables(), otherTables())
	for seed := range 60 {
		if d := drawn(seed); mayBe(d.Table) {
			l = append(l, d)
		}
	}
	for _, a := range l {
		if !mayBe(a.Table) {
			t.Fatalf("%s is no table that is Checked", a.name)
		}
	}
	return l
}

// someTables are fewer, for what is asked of all bits.
func someTables(t *testing.T) []asked {
	t.Helper()
	l := slices.Concat(standardTables(), fullTables()[:5], otherTables())
	for n := 1; n <= 16; n++ {
		l = append(l, counted("one of each length to "+strconv.Itoa(n), chain(n, 1)), counted("one of length "+strconv.Itoa(n), map[int]int{n: 1}))
	}
	for _, a := range l {
		if !mayBe(a.Table) {
			t.Fatalf("%s is no table that is Checked", a.name)
		}
	}
	return l
}

// recounted is a table with another count of a length, and the same values.
func recounted(name string, t api.Table, n, many int) asked {
	t.Counts[n-1] = many
	return asked{name, t}
}

// revalued is a table with other values, and the same counts.
func revalued(name string, t api.Table, values []byte) asked {
	t.Values = values
	return asked{name, t}
}

// wrongCounts are tables whose counts are none, or do not go with their values.
func wrongCounts() []asked {
	luma := Standard(1, 0)
	l := []asked{
		counted("256 of length 9", map[int]int{9: 256}),
		counted("256 of length 16", map[int]int{16: 256}),
		revalued("a count and no value", api.Table{Counts: [16]int{1}}, nil),
		revalued("a value and no count", api.Table{}, []byte{0}),
		revalued("256 values and no count", api.Table{}, counted("", map[int]int{16: 256}).Values),
		revalued("one value too few", luma, luma.Values[:161]),
		revalued("one value too many", luma, append(slices.Clone(luma.Values), 0xff)),
		revalued("no values", luma, nil),
		counted("255 of length 8, two of 16", map[int]int{8: 255, 16: 2}),
		counted("255 of two lengths", map[int]int{15: 255, 16: 255}),
		counted("255 of all lengths from 10 on", map[int]int{10: 255, 11: 255, 12: 255, 13: 255, 14: 255, 15: 255, 16: 255}),
	}
	for _, n := range []int{1, 2, 8, 15, 16} {
		name := " at length " + strconv.Itoa(n)
		for _, many := range []int{-1, -2, -255, -256, 256, 257, 65536, 1 << 32, 1<<32 + luma.Counts[n-1], -1 << 32, math.MaxInt, math.MinInt} {
			l = append(l, recounted(strconv.Itoa(many)+name, luma, n, many), recounted(strconv.Itoa(many)+name, api.Table{}, n, many))
		}
		l = append(l, recounted("one more"+name, luma, n, luma.Counts[n-1]+1))
	}
	// As many in all as there are values; but one count is below 0, or above 255, or both, or the sum goes round.
	return append(l,
		asked{"-1, and 1 more", api.Table{Counts: [16]int{7: 3, 8: -1}, Values: []byte{1, 2}}},
		asked{"-1 and 1, no values", api.Table{Counts: [16]int{7: 1, 8: -1}}},
		asked{"256, and -2", api.Table{Counts: [16]int{14: -2, 15: 256}, Values: counted("", map[int]int{16: 254}).Values}},
		asked{"-2, and 256", api.Table{Counts: [16]int{8: -2, 15: 256}, Values: counted("", map[int]int{16: 254}).Values}},
		asked{"twice the least", api.Table{Counts: [16]int{7: math.MinInt, 8: math.MinInt}}},
		asked{"the greatest, the least, and 1", api.Table{Counts: [16]int{13: math.MaxInt, 14: math.MinInt, 15: 1}}})
}

// wrongValues are tables where a value is twice.
func wrongValues() []asked {
	var l []asked
	for _, good := range []api.Table{Standard(0, 0), Standard(1, 0), Standard(1, 1), counted("", map[int]int{8: 255, 9: 1}).Table} {
		last := len(good.Values) - 1
		for _, at := range [][2]int{{0, 1}, {1, 0}, {5, 6}, {last - 1, last}, {0, last}, {last, 0}, {2, last - 3}, {last / 2, last}} {
			values := slices.Clone(good.Values)
			values[at[0]] = values[at[1]]
			l = append(l, revalued("the same at "+strconv.Itoa(at[0])+" and "+strconv.Itoa(at[1]), good, values))
		}
		l = append(l, revalued("all the same", good, make([]byte, len(good.Values))))
	}
	return append(l, counted("257 values", map[int]int{15: 2, 16: 255}), counted("300 values", map[int]int{15: 45, 16: 255}))
}

// wrongCodes are tables where a code is of ones alone, or there is no room for it.
func wrongCodes() []asked {
	var l []asked
	for n := 1; n <= 16; n++ {
		name := strconv.Itoa(n)
		l = append(l, counted("ones of length "+name, chain(n, 2)))
		l = append(l, counted("no room at length "+name, chain(n, 3)))
		if n <= 7 {
			l = append(l, counted("only ones at length "+name, map[int]int{n: 1 << n}), counted("no room, only at length "+name, map[int]int{n: 1<<n + 1}))
		}
		if n < 16 {
			l = append(l, counted("ones of length "+name+", and more behind", with(chain(n, 2), n+1, 1)))
			l = append(l, counted("ones of length "+name+", and more at the end", with(chain(n, 2), 16, 3)))
		}
	}
	return append(l,
		counted("255 of length 1", map[int]int{1: 255}),
		counted("255 of length 7", map[int]int{7: 255}),
		counted("254 of length 8, 4 of 9", map[int]int{8: 254, 9: 4}),
		counted("100 of length 6, 100 of 7", map[int]int{6: 100, 7: 100}))
}

// badTables are those that are not Checked.
func badTables(t *testing.T) []asked {
	t.Helper()
	l := slices.Concat(wrongCounts(), wrongValues(), wrongCodes())
	for _, a := range l {
		if mayBe(a.Table) {
			t.Fatalf("%s is Checked", a.name)
		}
	}
	return l
}

// beyond are numbers that are no sixteen bits, nor a byte: some have the lower bits of those that are.
func beyond() []int {
	return []int{
		-1, -2, -3, -255, -256, -257, -32768, -65535, -65536, -65537, 1<<16 + 5, 65536, 65537, 65538, 65536 + 32768, 131071, 131072, 1<<20 + 3,
		1<<31 - 1, 1 << 31, -1 << 31, -1<<31 - 1, 1<<32 - 1, 1 << 32, 1<<32 + 5, 1<<32 + 65535, -1 << 32, -1<<32 + 5, 1 << 48, -1<<48 + 7, 1 << 62, -1 << 62,
		math.MaxInt, math.MaxInt - 1, math.MaxInt - 65535, math.MinInt, math.MinInt + 1, math.MinInt + 65535,
	}
}

// opened tells what two secrets hold: not on the way, but behind it.
func opened(a, b sec.Sec) [2]int {
	return [2]int{a.Open(nil), b.Open(nil)}
}

// pair is two answers of one call.
func pair(a, b int) [2]int {
	return [2]int{a, b}
}
