package stream

import (
	"astragal/api"
	"astragal/load"
	"astragal/murmur32"
	"astragal/murmur64"
	"astragal/murmur86"
	"astragal/sip"
	"astragal/xx32"
	"astragal/xx64"
)

// hash is what the hashes of all kinds do alike.
type hash interface {
	Write(b []byte)
	Reset()
	Lanes() ([4]uint64, uint64, []byte)
	Set(lanes [4]uint64, long uint64, tail []byte) bool
}

// content is a hash, with what the kinds do each in its own way.
type content struct {
	hash  hash
	sum   func() []byte
	clone func() content
}

// kind is what a kind has and does.
type kind struct {
	name        string
	size, block int
	most        api.U128 // the greatest halves of a key
	one         func(key api.U128, b []byte) []byte
	make        func(key api.U128) content
}

// kindOf returns what a kind has and does, if there is one.
func kindOf(number int) (kind, bool) {
	switch number {
	case api.Murmur32:
		return ofMurmur32(), true
	case api.Murmur86:
		return ofMurmur86(), true
	case api.Murmur64:
		return ofMurmur64(), true
	case api.Xx32:
		return ofXx32(), true
	case api.Xx64:
		return ofXx64(), true
	case api.Sip24:
		return ofSip(number, "sip24", 8), true
	case api.Sip13:
		return ofSip(number, "sip13", 8), true
	case api.Sip128:
		return ofSip(number, "sip128", 16), true
	}
	return kind{}, false
}

// seed32 is the greatest key of the kinds whose seed has 32 bits, and so on.
func seed32() api.U128  { return api.U128{Lo: 1<<32 - 1} }
func seed64() api.U128  { return api.U128{Lo: 1<<64 - 1} }
func seed128() api.U128 { return api.U128{Hi: 1<<64 - 1, Lo: 1<<64 - 1} }

func bytes32(n uint32) []byte { return load.Put32(nil, n) }

func bytes64(n uint64) []byte { return load.Put64(nil, n) }

func bytes128(n api.U128) []byte { return load.Put64(load.Put64(nil, n.Lo), n.Hi) }

func ofMurmur32() kind {
	return kind{
		name: "murmur32", size: 4, block: 4, most: seed32(),
		one:  func(key api.U128, b []byte) []byte { return bytes32(murmur32.One(uint32(key.Lo), b)) },
		make: func(key api.U128) content { return inMurmur32(murmur32.New(uint32(key.Lo))) },
	}
}

func inMurmur32(h *murmur32.Hash) content {
	return content{
		hash:  h,
		sum:   func() []byte { return bytes32(h.Sum()) },
		clone: func() content { return inMurmur32(h.Clone()) },
	}
}

func ofMurmur86() kind {
	return kind{
		name: "murmur86", size: 16, block: 16, most: seed32(),
		one:  func(key api.U128, b []byte) []byte { return bytes128(murmur86.One(uint32(key.Lo), b)) },
		make: func(key api.U128) content { return inMurmur86(murmur86.New(uint32(key.Lo))) },
	}
}

func inMurmur86(h *murmur86.Hash) content {
	return content{
		hash:  h,
		sum:   func() []byte { return bytes128(h.Sum()) },
		clone: func() content { return inMurmur86(h.Clone()) },
	}
}

func ofMurmur64() kind {
	return kind{
		name: "murmur64", size: 16, block: 16, most: seed32(),
		one:  func(key api.U128, b []byte) []byte { return bytes128(murmur64.One(uint32(key.Lo), b)) },
		make: func(key api.U128) content { return inMurmur64(murmur64.New(uint32(key.Lo))) },
	}
}

func inMurmur64(h *murmur64.Hash) content {
	return content{
		hash:  h,
		sum:   func() []byte { return bytes128(h.Sum()) },
		clone: func() content { return inMurmur64(h.Clone()) },
	}
}

func ofXx32() kind {
	return kind{
		name: "xx32", size: 4, block: 16, most: seed32(),
		one:  func(key api.U128, b []byte) []byte { return bytes32(xx32.One(uint32(key.Lo), b)) },
		make: func(key api.U128) content { return inXx32(xx32.New(uint32(key.Lo))) },
	}
}

func inXx32(h *xx32.Hash) content {
	return content{
		hash:  h,
		sum:   func() []byte { return bytes32(h.Sum()) },
		clone: func() content { return inXx32(h.Clone()) },
	}
}

func ofXx64() kind {
	return kind{
		name: "xx64", size: 8, block: 32, most: seed64(),
		one:  func(key api.U128, b []byte) []byte { return bytes64(xx64.One(key.Lo, b)) },
		make: func(key api.U128) content { return inXx64(xx64.New(key.Lo)) },
	}
}

func inXx64(h *xx64.Hash) content {
	return content{
		hash:  h,
		sum:   func() []byte { return bytes64(h.Sum()) },
		clone: func() content { return inXx64(h.Clone()) },
	}
}

// ofSip is a Sip hash, of whose result the first size bytes count.
func ofSip(number int, name string, size int) kind {
	return kind{
		name: name, size: size, block: 8, most: seed128(),
		one:  func(key api.U128, b []byte) []byte { return bytes128(sip.One(number, key, b))[:size:size] },
		make: func(key api.U128) content { return inSip(sip.New(number, key), size) },
	}
}

func inSip(h *sip.Hash, size int) content {
	return content{
		hash:  h,
		sum:   func() []byte { return bytes128(h.Sum())[:size:size] },
		clone: func() content { return inSip(h.Clone(), size) },
	}
}
