package plane

import (
	"bytes"
	"slices"
	"testing"

	"cyanotype/api"
	"cyanotype/sec"
)

// some are sizes with one MCU and with several.
func some() []api.P {
	var l []api.P
	for _, mode := range modes() {
		l = append(l, api.P{W: 8, H: 8, Mode: mode}, api.P{W: 3, H: 5, Mode: mode}, api.P{W: 33, H: 17, Mode: mode}, api.P{W: 32, H: 32, Mode: mode})
	}
	return l
}

// cloned are blocks in memory of their own.
func cloned[B any](l [][]B) [][]B {
	out := make([][]B, len(l))
	for i, mcu := range l {
		out[i] = slices.Clone(mcu)
	}
	return out
}

func same[B comparable](a, b [][]B) bool {
	return slices.EqualFunc(a, b, func(x, y []B) bool { return slices.Equal(x, y) })
}

// spoil lays another block over all of a list's memory, as far as it can be had.
func spoil[B any](l [][]B, with B) {
	for i := range l {
		mcu := l[i][:cap(l[i])]
		for j := range mcu {
			mcu[j] = with
		}
	}
}

func TestSplitKeepsNothing(t *testing.T) {
	for _, p := range some() {
		m := picture(p, 1)
		given := bytes.Clone(m.Pix)
		first := Split(p, m)
		want := cloned(first)
		second := Split(p, m)
		spoil(second, api.Block{-7})
		if !bytes.Equal(m.Pix, given) {
			t.Fatalf("%v: Split changed its image", p)
		}
		clear(m.Pix)
		if !same(first, want) {
			t.Fatalf("%v: what Split told was changed from outside", p)
		}
	}
}

func TestJoinKeepsNothing(t *testing.T) {
	for _, p := range some() {
		l := blocks(p, 1)
		given := cloned(l)
		first := Join(p, l)
		want := bytes.Clone(first.Pix)
		second := Join(p, l)
		clear(second.Pix[:cap(second.Pix)])
		if !same(l, given) {
			t.Fatalf("%v: Join changed its blocks", p)
		}
		spoil(l, api.Block{-7})
		if !bytes.Equal(first.Pix, want) {
			t.Fatalf("%v: what Join told was changed from outside", p)
		}
	}
}

func TestSplitSecKeepsNothing(t *testing.T) {
	for _, p := range some() {
		pix := hidden(picture(p, 1).Pix)
		given := slices.Clone(pix)
		first := SplitSec(p, pix)
		want := cloned(first)
		second := SplitSec(p, pix)
		spoil(second, [64]sec.Sec{sec.Of(-7)})
		if !slices.Equal(pix, given) {
			t.Fatalf("%v: SplitSec changed its secrets", p)
		}
		clear(pix)
		if !same(first, want) {
			t.Fatalf("%v: what SplitSec told was changed from outside", p)
		}
	}
}

func TestJoinSecKeepsNothing(t *testing.T) {
	for _, p := range some() {
		l := hiddenBlocks(blocks(p, 1))
		given := cloned(l)
		first := JoinSec(p, l)
		want := slices.Clone(first)
		second := JoinSec(p, l)
		clear(second[:cap(second)])
		if !same(l, given) {
			t.Fatalf("%v: JoinSec changed its blocks", p)
		}
		spoil(l, [64]sec.Sec{sec.Of(-7)})
		if !slices.Equal(first, want) {
			t.Fatalf("%v: what JoinSec told was changed from outside", p)
		}
	}
}

// No MCU's list reaches into that of another.
func TestListsOfOneAnswerShareNothing(t *testing.T) {
	for _, p := range some() {
		m := picture(p, 1)
		plain, secret := Split(p, m), SplitSec(p, hidden(m.Pix))
		wantPlain, wantSecret := cloned(plain), cloned(secret)
		spoil(plain[:1], api.Block{-7})
		spoil(secret[:1], [64]sec.Sec{sec.Of(-7)})
		if !same(plain[1:], wantPlain[1:]) || !same(secret[1:], wantSecret[1:]) {
			t.Errorf("%v: the first MCU's memory is another's too", p)
		}
	}
}

// Whatever was asked before, an answer is the same.
func TestCallsKnowNothingOfOneAnother(t *testing.T) {
	for _, p := range some() {
		l := blocks(p, 1)
		want := Join(p, l)
		for _, other := range some() {
			Join(other, blocks(other, 2))
			Split(other, picture(other, 3))
			SplitSec(other, hidden(picture(other, 4).Pix))
		}
		wantImage(t, "Join", p, Join(p, l), want)
	}
}
