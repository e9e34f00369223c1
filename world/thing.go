package world

import (
	"slices"

	"astragal/alias"
	"astragal/api"
	"astragal/config"
	"astragal/gens"
	"astragal/stream"
	"astragal/tape"
)

// thing is what is behind a handle. Its lists are replaced, and never changed,
// so that a copy is independent; only a hasher is changed.
type thing struct {
	what   int
	hasher *stream.Hasher
	seed   api.Seed
	state  api.State
	table  api.Table
	words  []uint64 // the remaining ones of a tape, or the weights of a table
}

// thingOf makes what a config describes; config.Check accepts it.
func thingOf(c config.Config) thing {
	x := thing{what: c.What}
	switch c.What {
	case config.Hasher:
		x.hasher, _ = stream.New(c.Kind, c.Key)
	case config.Family:
		x.seed = api.Seed{Kind: c.Kind, Bits: c.Bits, Words: c.Words}
	case config.Source:
		x.state, _ = config.State(c)
	case config.Table:
		x.table, _ = alias.Build(c.Words)
		fallthrough
	case config.Tape:
		x.words = c.Words
	}
	return x
}

// config returns the config of the thing as it is now.
func (x thing) config() config.Config {
	c := config.Config{What: x.what}
	switch x.what {
	case config.Hasher:
		c.Kind, c.Key = x.hasher.Kind(), x.hasher.Key()
	case config.Family:
		c.Kind, c.Bits, c.Words = x.seed.Kind, x.seed.Bits, slices.Clone(x.seed.Words)
	case config.Source:
		return config.Of(x.state)
	case config.Table:
		fallthrough
	case config.Tape:
		c.Words = slices.Clone(x.words)
	}
	return c
}

// clone returns an independent thing that continues in the same way.
func (x thing) clone() thing {
	if x.what == config.Hasher {
		x.hasher = x.hasher.Clone()
	}
	return x
}

// tape returns the words that a source or a tape has to give.
func (x thing) tape() *tape.Tape {
	if x.what == config.Tape {
		return tape.New(x.words)
	}
	t, _ := tape.Fed(x.state, api.MaxTape)
	return t
}

// after returns the source or the tape without the words that were taken.
func (x thing) after(used int) thing {
	if x.what == config.Tape {
		x.words = x.words[used:]
		return x
	}
	_, x.state, _ = gens.Words(x.state, used)
	return x
}
