package optim

import (
	"math"
	"slices"
	"strconv"
	"testing"

	"cyanotype/api"
)

// most is how often a value comes at most.
const most = 1 << 20

// comesOf is how often the values 0 to 255 come.
func comesOf(often []int) [256]int {
	var l [256]int
	for value := range l {
		if value < len(often) && often[value] > 0 {
			l[value] = min(often[value], most)
		}
	}
	return l
}

// node is a tree as the tests keep it: it is known by the one that it goes up in, and stands till then.
type node struct {
	number, weight int
	parent         *node
}

// lightest is the one of least weight, of as light ones the one of the greatest number, of all that stand but one; and whether it was the number that told.
func lightest(nodes []*node, but *node) (*node, bool) {
	var found *node
	tie := false
	for _, n := range nodes {
		switch {
		case n == but || n.parent != nil:
		case found == nil || n.weight < found.weight:
			found, tie = n, false
		case n.weight == found.weight:
			tie = true
			if n.number > found.number {
				found = n
			}
		}
	}
	return found, tie
}

// sizesOf is the chapter's Sizes, told without a heap: each two lightest trees are looked for among all, and a size is how many trees stand above a value. Behind them it tells 256's, and whether a number told ever.
func sizesOf(often []int) ([]int, int, bool) {
	var nodes []*node
	leaves := map[int]*node{256: {number: 256, weight: 1}}
	for value, many := range comesOf(often) {
		if many > 0 {
			leaves[value] = &node{number: value, weight: many}
			nodes = append(nodes, leaves[value])
		}
	}
	nodes = append(nodes, leaves[256])
	tied := false
	for range len(leaves) - 1 {
		a, first := lightest(nodes, nil)
		b, second := lightest(nodes, a)
		one := &node{number: a.number, weight: a.weight + b.weight}
		a.parent, b.parent = one, one
		nodes = append(nodes, one)
		tied = tied || first || second
	}
	sizes := make([]int, 257)
	for value, leaf := range leaves {
		for n := leaf.parent; n != nil; n = n.parent {
			sizes[value]++
		}
	}
	return sizes[:256], sizes[256], tied
}

// shortOf makes lengths short, as the chapter asks, told by the lengths themselves: each change takes three of them out, and lays three in.
func shortOf(lengths []int) []int {
	for {
		slices.Sort(lengths)
		n := len(lengths)
		if n == 0 || lengths[n-1] <= 16 {
			return lengths
		}
		length := lengths[n-1]
		at := n - 1
		for lengths[at] >= length-1 {
			at--
		}
		lengths[n-1], lengths[n-2] = length-1, lengths[at]+1
		lengths[at]++
	}
}

// bestOf is what the chapter asks of Best.
func bestOf(often []int) api.Table {
	sizes, extra, _ := sizesOf(often)
	var lengths []int
	var t api.Table
	for size := 1; size <= 256; size++ {
		for value := range 256 {
			if sizes[value] == size {
				t.Values = append(t.Values, byte(value))
				lengths = append(lengths, size)
			}
		}
	}
	if len(lengths) == 0 {
		return t
	}
	lengths = shortOf(append(lengths, extra))
	for _, n := range lengths[:len(lengths)-1] {
		t.Counts[n-1]++
	}
	return t
}

// asked is how often values come, as the tests ask of it.
type asked struct {
	name  string
	often []int
}

// at is a list of noughts, up to the last value that is told of: they are told with how often they come.
func at(pairs ...int) []int {
	last := 0
	for i := 0; i < len(pairs); i += 2 {
		last = max(last, pairs[i])
	}
	l := make([]int, last+1)
	for i := 0; i < len(pairs); i += 2 {
		l[pairs[i]] = pairs[i+1]
	}
	return l
}

// alike is a list of the same number.
func alike(n, many int) []int {
	return slices.Repeat([]int{n}, many)
}

// reversed is a list from its end on.
func reversed(l []int) []int {
	l = slices.Clone(l)
	slices.Reverse(l)
	return l
}

// powers are those of two, from 1 on.
func powers(many int) []int {
	var l []int
	for i := range many {
		l = append(l, 1<<i)
	}
	return l
}

// fibonacci are Fibonacci's numbers: 1, 1, 2 and so on.
func fibonacci(many int) []int {
	l := []int{1, 1}
	for len(l) < many {
		l = append(l, l[len(l)-1]+l[len(l)-2])
	}
	return l[:many]
}

// deepest has the greatest sizes that there may be: 36. No tree is heavier than one that is less deep; so all below the value of least size weigh 2^20 at most, as that one does, and such a tree is no deeper than 28 (one of 29 would weigh Fibonacci's 31st number at least, which is more). The least size is 7 at most, as of 257 values no 256 have 8, and others more than 9. So there are 7, one more, and 28.
func deepest() []int {
	l := make([]int, 256)
	for i := range 128 {
		l[i] = most
	}
	for i, n := range fibonacci(28) {
		l[255-i] = n
	}
	return l
}

// noneLists are those of which none comes.
func noneLists() []asked {
	return []asked{
		{"nil", nil}, {"empty", []int{}}, {"a nought", []int{0}}, {"three noughts", alike(0, 3)}, {"256 noughts", alike(0, 256)}, {"300 noughts", alike(0, 300)},
		{"below 0", []int{-1, -5, math.MinInt}}, {"256 below 0", alike(-7, 256)},
		{"noughts, and more behind 256", append(alike(0, 256), 1, 5, most, math.MaxInt)},
		{"below 0, and more behind 256", append(alike(math.MinInt, 256), 3)},
	}
}

// clippedLists have numbers at each end of what they are clipped to, beyond it, and as long as lists may be.
func clippedLists() []asked {
	ends := []int{-1, 0, 1, 2, most - 1, most, most + 1, 2 * most, math.MaxInt, math.MinInt, 1 << 32, 1<<32 + 5, -1 << 32, -1<<32 + 5, 1<<62 + 3}
	l := []asked{
		{"ends", ends}, {"ends, from the last", reversed(ends)},
		{"all at the greatest", alike(math.MaxInt, 256)}, {"all beyond 2^20", alike(most+1, 300)},
		{"2^20 and beyond, alike", []int{most, most + 1, most - 1, math.MaxInt, 3 * most}},
	}
	for _, many := range []int{1, 2, 3, 17, 100, 255, 256, 257, 300, 1000} {
		var drawn []int
		for i := range many {
			drawn = append(drawn, ends[(i*7+3)%len(ends)]>>(i%3))
		}
		l = append(l, asked{"ends, " + strconv.Itoa(many), drawn}, asked{"rising, " + strconv.Itoa(many), rising(many)})
	}
	return l
}

// rising are numbers from 1 on.
func rising(many int) []int {
	var l []int
	for i := range many {
		l = append(l, i+1)
	}
	return l
}

// fewLists are those of which one comes, or two.
func fewLists() []asked {
	var l []asked
	for _, many := range []int{1, 2, 5, most, most + 1} {
		for value := range 256 {
			l = append(l, asked{strconv.Itoa(many) + " times " + strconv.Itoa(value), at(value, many)})
		}
		for _, two := range [][2]int{{0, 1}, {0, 255}, {254, 255}, {127, 128}, {3, 200}} {
			for _, other := range []int{1, 2, 5, 6, most} {
				name := strconv.Itoa(two[0]) + " and " + strconv.Itoa(two[1]) + ", " + strconv.Itoa(many) + " and " + strconv.Itoa(other)
				l = append(l, asked{name, at(two[0], many, two[1], other)})
			}
		}
	}
	return l
}

// alikeLists have values that come as often.
func alikeLists() []asked {
	var l []asked
	for _, n := range []int{1, 2, 3, 7, 1000, most} {
		for _, many := range []int{2, 3, 4, 5, 7, 8, 9, 15, 16, 17, 31, 32, 33, 63, 64, 65, 100, 127, 128, 129, 200, 254, 255, 256} {
			l = append(l, asked{strconv.Itoa(many) + " as often: " + strconv.Itoa(n), alike(n, many)})
		}
	}
	return l
}

// deepLists have sizes above 16.
func deepLists() []asked {
	l := []asked{{"deepest", deepest()}}
	for many := 16; many <= 21; many++ {
		l = append(l, asked{strconv.Itoa(many) + " powers of two", powers(many)}, asked{strconv.Itoa(many) + " powers of two, from the last", reversed(powers(many))})
	}
	for many := 16; many <= 33; many++ {
		f := fibonacci(many)
		l = append(l, asked{strconv.Itoa(many) + " of Fibonacci's", f}, asked{strconv.Itoa(many) + " of Fibonacci's, from the last", reversed(f)})
		l = append(l, asked{strconv.Itoa(many) + " of Fibonacci's, behind many", append(alike(most, 256-many), reversed(f)...)})
		l = append(l, asked{strconv.Itoa(many) + " of Fibonacci's, ahead of many", append(f, alike(f[many-1], 256-many)...)})
		for _, big := range []int{1, 2, 3, 4, 7, 8, 16, 31, 32, 64, 100, 128, 200} {
			l = append(l, asked{strconv.Itoa(many) + " of Fibonacci's, behind " + strconv.Itoa(big), append(alike(most, big), reversed(f)...)})
		}
	}
	return append(l, asked{"60 powers of two", powers(60)}, asked{"80 of Fibonacci's", fibonacci(80)}, asked{"powers of two, 13 times", slices.Repeat(powers(20), 13)})
}

// drawer draws numbers that follow no pattern, the same each time.
type drawer uint64

func newDrawer(seed int) *drawer {
	d := drawer(uint64(seed)*2654435769 + 88172645463325252)
	return &d
}

func (d *drawer) below(n int) int {
	x := uint64(*d)
	x ^= x << 13
	x ^= x >> 7
	x ^= x << 17
	*d = drawer(x)
	return int(x >> 8 % uint64(n))
}

// drawnTied is a list of few numbers that differ, some of them 0, so that many trees are as light.
func drawnTied(seed int) asked {
	d := newDrawer(seed)
	l := make([]int, 1+d.below(256))
	most := 2 + d.below(8)
	for i := range l {
		l[i] = d.below(most)
		if d.below(16) == 0 {
			l[i] <<= d.below(20)
		}
	}
	return asked{"drawn " + strconv.Itoa(seed), l}
}

// drawnFree is a list where the number of no tree ever tells.
func drawnFree(seed int) asked {
	d := newDrawer(seed)
	for {
		l := make([]int, 1+d.below(60))
		bits := 4 + d.below(17)
		for i := range l {
			l[i] = (2 + d.below(most-1)) >> d.below(bits)
		}
		if _, _, tied := sizesOf(l); !tied {
			return asked{"drawn without ties " + strconv.Itoa(seed), l}
		}
	}
}

// drawnDeep is a list of numbers that fall off fast, so that some sizes are above 16, some of them alike.
func drawnDeep(seed int) asked {
	d := newDrawer(seed)
	l := make([]int, 20+d.below(237))
	for i := range l {
		l[i] = 1 << d.below(21)
		if d.below(4) == 0 {
			l[i] += d.below(l[i])
		}
		if d.below(2+seed%7) > 0 {
			l[i] = 0
		}
	}
	return asked{"drawn deep " + strconv.Itoa(seed), l}
}

// lists are all of these, and some drawn ones.
func lists() []asked {
	l := slices.Concat(noneLists(), clippedLists(), fewLists(), alikeLists(), deepLists())
	for seed := range 400 {
		l = append(l, drawnTied(seed), drawnFree(seed), drawnDeep(seed))
	}
	return l
}

func isSame(a, b api.Table) bool {
	return a.Counts == b.Counts && slices.Equal(a.Values, b.Values)
}

// eachList asks something of all lists.
func eachList(t *testing.T, ask func(t *testing.T, a asked)) {
	t.Helper()
	for _, a := range lists() {
		ask(t, a)
		if t.Failed() {
			t.Fatalf("that was of %s: %v", a.name, a.often)
		}
	}
}
