package real

import (
	"colloquy/api"
	"colloquy/heap"
	"colloquy/load"
	"colloquy/word"
)

// ground is a space whose things are objects of a heap. A thing is told by its place in the list of all that were ever made; where its object is, is looked up.
type ground struct {
	heap *heap.Heap
	at   []int                   // where each one is; 0: it has gone
	ids  [api.MaxObjects + 1]int // by hash, which one it is, and 1; 0: none
}

// newGround is a heap's objects as things, by where each one is.
func newGround(h *heap.Heap, at []int) *ground {
	g := &ground{heap: h}
	for _, place := range at {
		g.add(place, h.Hash(place))
	}
	return g
}

// add writes down where the next thing is.
func (g *ground) add(place, hash int) {
	g.at = append(g.at, place)
	g.ids[hash] = len(g.at)
}

// id is which thing's object is at a place.
func (g *ground) id(place int) int {
	id, _ := g.of(g.heap.Hash(place))
	return id
}

// of is the thing that has a hash.
func (g *ground) of(hash int) (int, bool) {
	if hash < 0 || hash >= len(g.ids) || g.ids[hash] == 0 {
		return 0, false
	}
	return g.ids[hash] - 1, true
}

// value is a word as a value.
func (g *ground) value(w uint32) api.Val {
	if word.IsInt(w) {
		return api.Val{N: word.IntOf(w)}
	}
	return api.Val{Obj: true, N: g.id(word.RefOf(w))}
}

func (g *ground) Len() int         { return len(g.at) }
func (g *ground) Class(id int) int { return g.id(g.heap.Class(g.at[id])) }
func (g *ground) Fmt(id int) int   { return g.heap.Fmt(g.at[id]) }
func (g *ground) Hash(id int) int  { return g.heap.Hash(g.at[id]) }
func (g *ground) Size(id int) int  { return g.heap.Size(g.at[id]) }

func (g *ground) Field(id, i int) (api.Val, bool) {
	w := g.heap.Field(g.at[id], i)
	if w == word.Ref(0) { // no object's place: there is no such field
		return api.Val{}, false
	}
	return g.value(w), true
}

func (g *ground) SetField(id, i int, v api.Val) bool {
	return g.heap.SetField(g.at[id], i, load.Word(v, g.at))
}

func (g *ground) Byte(id, i int) int        { return g.heap.Byte(g.at[id], i) }
func (g *ground) SetByte(id, i, v int) bool { return g.heap.SetByte(g.at[id], i, v) }

func (g *ground) Mark(id int) (int, bool) { return g.heap.Mark(g.at[id]) }

func (g *ground) SetMark(id, colour int, final bool) {
	g.heap.SetMark(g.at[id], colour, final)
}

func (g *ground) Make(class, format, size, hash int) bool {
	place, ok := g.heap.Make(format, size, g.at[class], hash)
	if !ok {
		return false
	}
	for i := range size { // refused, where there are bytes
		g.heap.SetField(place, i, word.Ref(g.at[api.Nil]))
	}
	g.add(place, hash)
	return true
}

func (g *ground) Drop(id int) {
	g.heap.Drop(g.at[id])
	g.at[id] = 0
}

// lifted is what an object has, out of the heap; its words are as they were there.
type lifted struct {
	format, class, hash, colour int
	final                       bool
	fields                      []uint32
	bytes                       []int
}

// lift takes an object out of the heap.
func (g *ground) lift(id int) lifted {
	at := g.at[id]
	x := lifted{format: g.heap.Fmt(at), class: g.heap.Class(at), hash: g.heap.Hash(at)}
	x.colour, x.final = g.heap.Mark(at)
	for i := range g.heap.Size(at) {
		if x.format == api.Bytes {
			x.bytes = append(x.bytes, g.heap.Byte(at, i))
		} else {
			x.fields = append(x.fields, g.heap.Field(at, i))
		}
	}
	g.heap.Drop(at)
	return x
}

// lay makes an object of what was lifted.
func (g *ground) lay(id int, x lifted) {
	at, _ := g.heap.Make(x.format, len(x.fields)+len(x.bytes), x.class, x.hash)
	g.heap.SetMark(at, x.colour, x.final)
	for i, w := range x.fields {
		g.heap.SetField(at, i, w)
	}
	for i, v := range x.bytes {
		g.heap.SetByte(at, i, v)
	}
	g.at[id] = at
}

// Become takes both out and lays each anew. There is room: the first one takes the shortest run of words that has as many, so one that is long enough for the other is left. Then all that led to either is told anew.
func (g *ground) Become(a, b int) {
	from := [2]uint32{word.Ref(g.at[a]), word.Ref(g.at[b])}
	x, y := g.lift(a), g.lift(b)
	x.hash, y.hash = y.hash, x.hash
	x.colour, y.colour = y.colour, x.colour
	g.lay(a, y)
	g.lay(b, x)
	to := [2]uint32{word.Ref(g.at[a]), word.Ref(g.at[b])}
	if from != to {
		g.redirect(from, to)
	}
}

// redirect turns each field that is one of two words into the one that stands beside it.
func (g *ground) redirect(from, to [2]uint32) {
	for at := g.heap.Next(0); at != 0; at = g.heap.Next(at) {
		for i := range g.heap.Size(at) {
			switch g.heap.Field(at, i) { // 0, of bytes: no object's place
			case from[0]:
				g.heap.SetField(at, i, to[0])
			case from[1]:
				g.heap.SetField(at, i, to[1])
			}
		}
	}
}
