package plane

import (
	"slices"
	"testing"

	"cyanotype/api"
	"cyanotype/sec"
)

func TestSplitSecIsSplit(t *testing.T) {
	for i, p := range publics() {
		m := picture(p, uint64(i))
		got := openedBlocks(SplitSec(p, hidden(m.Pix)))
		wantBlocks(t, "SplitSec", p, got, Split(p, m))
		wantBlocks(t, "SplitSec", p, got, splitSums(p, m.Pix))
	}
}

func TestJoinSecIsJoin(t *testing.T) {
	for i, p := range publics() {
		for _, l := range [][][]api.Block{blocks(p, uint64(i)), Split(p, picture(p, uint64(i)))} {
			got := opened(JoinSec(p, hiddenBlocks(l)))
			if !slices.Equal(got, numbers(Join(p, l).Pix)) || !slices.Equal(got, numbers(joinSums(p, l).Pix)) {
				t.Fatalf("JoinSec of %v is not as Join", p)
			}
		}
	}
}

func TestSecretsThereAndBack(t *testing.T) {
	for i, p := range publics() {
		m := picture(p, uint64(i))
		got := opened(JoinSec(p, SplitSec(p, hidden(m.Pix))))
		if !slices.Equal(got, numbers(Join(p, Split(p, m)).Pix)) {
			t.Fatalf("%v: another there and back", p)
		}
	}
}

// Words that were never laid hold 0, as any other 0.
func TestSecretsOfNoughts(t *testing.T) {
	for _, p := range publics() {
		n := p.W * p.H * channels(p)
		wantBlocks(t, "SplitSec", p, openedBlocks(SplitSec(p, make([]sec.Sec, n))), splitSums(p, make([]byte, n)))
	}
}

func TestSecretsOfMostPixels(t *testing.T) {
	for _, mode := range modes() {
		p := api.P{W: 1024, H: 1024, Mode: mode}
		m := picture(p, 9)
		l := SplitSec(p, hidden(m.Pix))
		wantBlocks(t, "SplitSec", p, openedBlocks(l), Split(p, m))
		if got := opened(JoinSec(p, l)); !slices.Equal(got, numbers(Join(p, Split(p, m)).Pix)) {
			t.Errorf("JoinSec of %v is not as Join", p)
		}
	}
}

func TestSplitSecOfNothing(t *testing.T) {
	none := func(why string, p api.P, n int) {
		t.Helper()
		if l := SplitSec(p, make([]sec.Sec, n)); len(l) != 0 {
			t.Errorf("%s: %d MCUs of %v and %d secrets", why, len(l), p, n)
		}
	}
	for _, p := range publics() {
		all := p.W * p.H * channels(p)
		for _, n := range []int{0, all - 1, all + 1, 2 * all, 3 * all, max(all-3, 0), all + 3} {
			none("how many", p, n)
		}
		if p.Mode != api.Gray {
			none("as many as of a gray one", p, all/3)
		}
	}
	for _, mode := range noModes() {
		for _, n := range []int{0, 24, 72} {
			none("mode", api.P{W: 4, H: 6, Mode: mode}, n)
		}
	}
	for _, mode := range modes() {
		for _, n := range noSides() {
			none("W", api.P{W: n, H: 1, Mode: mode}, 0)
			none("H", api.P{W: 1, H: n, Mode: mode}, 0)
		}
		for _, s := range [][2]int{{65536, 1}, {1, 65536}, {-4, -6}, {17, 61681}, {1024, 1025}} {
			p := api.P{W: s[0], H: s[1], Mode: mode}
			none("product", p, p.W*p.H*channels(p))
		}
		none("nil", api.P{Mode: mode}, 0)
	}
}

// What lies behind the length is not taken.
func TestSecretsBehindTheLength(t *testing.T) {
	for _, mode := range modes() {
		p := api.P{W: 3, H: 3, Mode: mode}
		all := 9 * channels(p)
		if l := SplitSec(p, make([]sec.Sec, 100)[:all-1]); len(l) != 0 {
			t.Errorf("%d MCUs", len(l))
		}
		if l := SplitSec(p, make([]sec.Sec, 100)[:all]); len(l) != 1 {
			t.Errorf("%d MCUs", len(l))
		}
	}
}
