package world

import (
	"slices"

	"astragal/alias"
	"astragal/api"
	"astragal/config"
	"astragal/derive"
	"astragal/family"
	"astragal/gens"
	"astragal/sampler"
	"astragal/scode"
)

const (
	hasherMark   = 'h' // the first byte of an encoded hasher
	jumpNumbers  = 4
	drawNumbers  = 3
	mostOfAsk    = 65536 // the greatest N and K of a request
	halvesOfAKey = 2
)

// failed is the reply of an operation that changed nothing.
func failed(e api.Errno) Reply {
	return Reply{E: e}
}

// numbers is the reply that consists of numbers.
func numbers(n ...uint64) Reply {
	return Reply{N: n}
}

// get returns the thing with the handle h, if it is one of some kinds.
func (w *World) get(h uint64, whats ...int) (thing, api.Errno) {
	x, e := w.things.Get(h)
	if e != api.OK {
		return thing{}, e
	}
	if !slices.Contains(whats, x.what) {
		return thing{}, api.ErrKind
	}
	return x, api.OK
}

// put stores a thing, and replies its handle.
func (w *World) put(x thing) Reply {
	h, e := w.things.Put(x)
	if e != api.OK {
		return failed(e)
	}
	return numbers(h)
}

func (w *World) create(o Op) Reply {
	c, e := config.Decode(o.B)
	if e != api.OK {
		return failed(e)
	}
	return w.put(thingOf(c))
}

func (w *World) write(o Op) Reply {
	x, e := w.get(o.H, config.Hasher)
	if e != api.OK {
		return failed(e)
	}
	return Reply{E: x.hasher.Write(o.B)}
}

func (w *World) sum(o Op) Reply {
	x, e := w.get(o.H, config.Hasher)
	if e != api.OK {
		return failed(e)
	}
	b, e := x.hasher.Sum()
	return Reply{E: e, B: b}
}

func (w *World) reset(o Op) Reply {
	x, e := w.get(o.H, config.Hasher)
	if e != api.OK {
		return failed(e)
	}
	return Reply{E: x.hasher.Reset()}
}

func (w *World) eval(o Op) Reply {
	x, e := w.get(o.H, config.Family)
	if e != api.OK {
		return failed(e)
	}
	if len(o.A) != 1 {
		return failed(api.ErrArg)
	}
	value, e := family.Eval(x.seed, o.A[0])
	if e != api.OK {
		return failed(e)
	}
	return numbers(value)
}

func (w *World) text(o Op) Reply {
	x, e := w.get(o.H, config.Family)
	if e != api.OK {
		return failed(e)
	}
	value, e := family.Text(x.seed, o.B)
	if e != api.OK {
		return failed(e)
	}
	return numbers(value)
}

func (w *World) next(o Op) Reply {
	x, e := w.get(o.H, config.Source, config.Tape)
	if e != api.OK {
		return failed(e)
	}
	word, e := x.tape().Next()
	if e != api.OK {
		return failed(e)
	}
	w.things.Set(o.H, x.after(1))
	return numbers(word)
}

func (w *World) jump(o Op) Reply {
	x, e := w.get(o.H, config.Source)
	if e != api.OK {
		return failed(e)
	}
	if len(o.A) != jumpNumbers {
		return failed(api.ErrArg)
	}
	x.state, e = gens.Jump(x.state, api.U256{o.A[0], o.A[1], o.A[2], o.A[3]})
	if e != api.OK {
		return failed(e)
	}
	return Reply{E: w.things.Set(o.H, x)}
}

func (w *World) draw(o Op) Reply {
	x, e := w.get(o.H, config.Source, config.Tape)
	if e != api.OK {
		return failed(e)
	}
	if len(o.A) < drawNumbers || o.A[1] > mostOfAsk || o.A[2] > mostOfAsk {
		return failed(api.ErrArg)
	}
	// A kind too great for an int becomes a negative one, which does not exist either.
	ask := sampler.Ask{Kind: int(o.A[0]), N: int(o.A[1]), K: int(o.A[2]), Words: o.A[drawNumbers:]}
	out, used, e := sampler.Do(x.tape(), ask)
	if e != api.OK {
		return failed(e)
	}
	w.things.Set(o.H, x.after(used))
	return numbers(append([]uint64{uint64(used)}, out...)...)
}

func (w *World) weigh(o Op) Reply {
	x, e := w.get(o.H, config.Table)
	if e != api.OK {
		return failed(e)
	}
	if len(o.A) != 1 {
		return failed(api.ErrArg)
	}
	from, e := w.get(o.A[0], config.Source, config.Tape)
	if e != api.OK {
		return failed(e)
	}
	t := from.tape()
	item, _, e := alias.Take(t, x.table)
	if e != api.OK {
		return failed(e)
	}
	w.things.Set(o.A[0], from.after(t.Used()))
	return numbers(uint64(item))
}

func (w *World) derive(o Op) Reply {
	if len(o.A) != halvesOfAKey {
		return failed(api.ErrArg)
	}
	key, e := derive.Path(api.U128{Lo: o.A[0], Hi: o.A[1]}, o.S)
	if e != api.OK {
		return failed(e)
	}
	return numbers(key.Lo, key.Hi)
}

func (w *World) marshal(o Op) Reply {
	x, e := w.things.Get(o.H)
	if e != api.OK {
		return failed(e)
	}
	var b []byte
	if x.what == config.Hasher {
		b, e = scode.Marshal(x.hasher)
	} else {
		b, e = config.Encode(x.config())
	}
	return Reply{E: e, B: b}
}

func (w *World) unmarshal(o Op) Reply {
	if len(o.B) == 0 || o.B[0] != hasherMark {
		return w.create(o)
	}
	h, e := scode.Unmarshal(o.B)
	if e != api.OK {
		return failed(e)
	}
	return w.put(thing{what: config.Hasher, hasher: h})
}

func (w *World) clone(o Op) Reply {
	x, e := w.things.Get(o.H)
	if e != api.OK {
		return failed(e)
	}
	return w.put(x.clone())
}

func (w *World) close(o Op) Reply {
	return Reply{E: w.things.Drop(o.H)}
}
