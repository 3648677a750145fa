package quant

import (
	"testing"

	"cyanotype/api"
	"cyanotype/sec"
)

func TestSecretsAreAsNumbers(t *testing.T) {
	for _, way := range calls() {
		for _, q := range steps() {
			for _, b := range blocks() {
				got := way.secret(b, q)
				wantBlock(t, way.name+"Sec", b, q, got, way.plain(b, q))
				wantBlock(t, way.name+"Sec", b, q, got, way.want(b, q))
			}
		}
	}
}

func TestOneSecretAlone(t *testing.T) {
	for _, way := range calls() {
		for _, q := range steps()[:12] {
			for _, n := range numbers() {
				for place := range 64 {
					b := alone(place, n)
					wantBlock(t, way.name+"Sec", b, q, way.secret(b, q), way.plain(b, q))
				}
			}
		}
	}
}

// By each step there is, at both ends and between.
func TestSecretsByEachStep(t *testing.T) {
	for d := 1; d <= 255; d++ {
		for seed := range 4 {
			for _, b := range []api.Block{drawn(seed, -32767, 32767), drawn(seed, -1100, 1100), wild(seed)} {
				wantBlock(t, "ForwardSec", b, allSteps(d), forwardHidden(b, allSteps(d)), Forward(b, allSteps(d)))
				wantBlock(t, "BackSec", b, allSteps(d), backHidden(b, allSteps(d)), Back(b, allSteps(d)))
			}
		}
	}
}

// Words that were never laid hold 0.
func TestSecretsOfNoughts(t *testing.T) {
	for _, q := range steps() {
		wantBlock(t, "ForwardSec", api.Block{}, q, opened(ForwardSec([64]sec.Sec{}, q)), api.Block{})
		wantBlock(t, "BackSec", api.Block{}, q, opened(BackSec([64]sec.Sec{}, q)), api.Block{})
	}
}
