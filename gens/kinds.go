package gens

import (
	"astragal/api"
	"astragal/leap"
	"astragal/pcg32"
	"astragal/pcg64"
	"astragal/split"
	"astragal/xoroshiro"
	"astragal/xoshiro"
)

// words are those of a state, of any kind.
type words [4]uint64

// generator is what a kind has and does.
type generator struct {
	name       string
	size, cost int
	refuses    func(words) bool
	seed       func(uint64) words
	step       func(words) words
	next       func(words) (uint64, words)
	jump       func(words, api.U256) words
}

// generatorOf returns the generator of a kind, if there is one.
func generatorOf(kind int) (generator, bool) {
	switch kind {
	case api.Split:
		return ofSplit(), true
	case api.XoshSS:
		fallthrough
	case api.XoshPP:
		fallthrough
	case api.XoshP:
		return ofXoshiro(kind), true
	case api.XoroSS:
		fallthrough
	case api.XoroPP:
		return ofXoroshiro(kind), true
	case api.Pcg32:
		return ofPcg32(), true
	case api.Pcg64:
		return ofPcg64(), true
	}
	return generator{}, false
}

// never reports that no words are refused.
func (w words) never() bool { return false }

// zero reports whether all words are 0.
func (w words) zero() bool { return w == words{} }

// evenSecond reports whether the second word, the inc of Pcg32, is even.
func (w words) evenSecond() bool { return w[1]&1 == 0 }

// evenThird reports whether the third word, the low one of the inc of Pcg64, is even.
func (w words) evenThird() bool { return w[2]&1 == 0 }

func ofSplit() generator {
	next := func(w words) (uint64, words) {
		out, s := split.Next(w[0])
		return out, words{s}
	}
	return generator{
		name: "split", size: 1, cost: 1,
		refuses: words.never,
		seed:    func(n uint64) words { return words{n} },
		step: func(w words) words {
			_, after := next(w)
			return after
		},
		next: next,
		// The state returns after 2^64 steps, so the lowest word of the number is enough.
		jump: func(w words, n api.U256) words { return words{split.Jump(w[0], n[0])} },
	}
}

func (w words) stepXoshiro() words { return words(xoshiro.Step(w)) }

func (w words) jumpXoshiro(n api.U256) words { return words(leap.Jump4(w, n)) }

func ofXoshiro(kind int) generator {
	name, out := "xosh+", xoshiro.P
	switch kind {
	case api.XoshSS:
		name, out = "xosh**", xoshiro.SS
	case api.XoshPP:
		name, out = "xosh++", xoshiro.PP
	}
	return generator{
		name: name, size: 4, cost: 1,
		refuses: words.zero,
		seed:    func(n uint64) words { return words(xoshiro.Seed(n)) },
		step:    words.stepXoshiro,
		next:    func(w words) (uint64, words) { return out(w), w.stepXoshiro() },
		jump:    words.jumpXoshiro,
	}
}

func ofXoroshiro(kind int) generator {
	name := "xoro**"
	if kind == api.XoroPP {
		name = "xoro++"
	}
	two := func(w words) [2]uint64 { return [2]uint64{w[0], w[1]} }
	four := func(s [2]uint64) words { return words{s[0], s[1]} }
	step := func(w words) words { return four(xoroshiro.Step(kind, two(w))) }
	return generator{
		name: name, size: 2, cost: 1,
		refuses: words.zero,
		seed:    func(n uint64) words { return four(xoroshiro.Seed(n)) },
		step:    step,
		next:    func(w words) (uint64, words) { return xoroshiro.Out(kind, two(w)), step(w) },
		jump:    func(w words, n api.U256) words { return four(leap.Jump2(kind, two(w), n)) },
	}
}

func (w words) stepPcg32() words { return words{pcg32.Step(w[0], w[1]), w[1]} }

func (w words) nextPcg32() (uint64, words) {
	then := w.stepPcg32()
	return uint64(pcg32.Out(w[0])) | uint64(pcg32.Out(then[0]))<<32, then.stepPcg32()
}

func ofPcg32() generator {
	return generator{
		name: "pcg32", size: 2, cost: 2,
		refuses: words.evenSecond,
		seed: func(n uint64) words {
			from := split.Words(n, 2)
			s, inc := pcg32.Seed(from[0], from[1])
			return words{s, inc}
		},
		step: words.stepPcg32,
		next: words.nextPcg32,
		// As for Split, the lowest word of the number is enough.
		jump: func(w words, n api.U256) words { return words{pcg32.Advance(w[0], w[1], n[0]), w[1]} },
	}
}

// pcg64 returns the state and the inc of Pcg64.
func (w words) pcg64() (api.U128, api.U128) {
	return api.U128{Lo: w[0], Hi: w[1]}, api.U128{Lo: w[2], Hi: w[3]}
}

func (w words) nextPcg64() (uint64, words) {
	s, inc := w.pcg64()
	out, next := pcg64.Next(s, inc)
	return out, words{next.Lo, next.Hi, inc.Lo, inc.Hi}
}

func (w words) stepPcg64() words {
	_, after := w.nextPcg64()
	return after
}

func ofPcg64() generator {
	return generator{
		name: "pcg64", size: 4, cost: 1,
		refuses: words.evenThird,
		seed: func(n uint64) words {
			var w words
			copy(w[:], split.Words(n, len(w)))
			s, inc := pcg64.Seed(w.pcg64())
			return words{s.Lo, s.Hi, inc.Lo, inc.Hi}
		},
		step: words.stepPcg64,
		next: words.nextPcg64,
		// The state returns after 2^128 steps, so the two lowest words are enough.
		jump: func(w words, n api.U256) words {
			s, inc := w.pcg64()
			s = pcg64.Advance(s, inc, api.U128{Lo: n[0], Hi: n[1]})
			return words{s.Lo, s.Hi, inc.Lo, inc.Hi}
		},
	}
}
