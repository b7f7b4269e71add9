package tests

import (
	"fmt"
	"math"
	"reflect"
	"runtime"
	"slices"
	"testing"

	"loop.example/g00591/impl"
)

// p12Most is the greatest number of entities, written out, so that a wrong constant does not go unseen.
const p12Most = 200

func p12Kept(x impl.Value) impl.Entity {
	return impl.Entity{Kind: p09Promise, State: p09Kept, Value: x}
}

func p12Of(entities ...impl.Entity) impl.Vat { return impl.Vat{Id: 1, Entities: entities} }

func p12Link(peer int, up bool) impl.Link { return impl.Link{Peer: peer, Up: up} }

// p12Full has every field set, down to those of the lists within its lists, no two elements of a list alike.
func p12Full() impl.Vat {
	v := impl.Vat{Id: 91, Loop: p09FullMessages()}
	for i := range 3 {
		e, l, m := p09Full(), p10Full(), p11Full()
		e.Sent, l.Peer, m.Count = e.Sent+100*i, l.Peer+100*i, m.Count+100*i
		v.Entities = append(v.Entities, e)
		v.Links = append(v.Links, l)
		v.Out = append(v.Out, impl.Outgoing{To: 92 + i, Message: m})
	}
	return v
}

func p12Clone(v impl.Vat) impl.Vat {
	return p09WithoutEmpty(reflect.ValueOf(v)).Interface().(impl.Vat)
}

// p12Same compares all fields by reflection, with nil and empty slices taken for one, and without the program.
func p12Same(a, b impl.Vat) bool {
	return reflect.DeepEqual(p12Clone(a), p12Clone(b))
}

// p12With is the full vat with so many entities.
func p12With(entities int) impl.Vat {
	v := p12Full()
	v.Entities = []impl.Entity{}
	for i := range entities {
		e := p09Full()
		e.Sent = i
		v.Entities = append(v.Entities, e)
	}
	return v
}

// p12Linked is the full vat with these links.
func p12Linked(links ...impl.Link) impl.Vat {
	v := p12Full()
	v.Links = links
	return v
}

func TestP12Constants(t *testing.T) {
	if impl.MaxVats != 4 || impl.MaxLoop != 60 || impl.MaxEntities != p12Most {
		t.Error(impl.MaxVats, impl.MaxLoop, impl.MaxEntities)
	}
}

// p12New writes a new vat field by field.
func p12New(id int, peers []int, script int) impl.Vat {
	v := impl.Vat{Id: id, Entities: []impl.Entity{{Kind: p09Object, Script: script}}}
	for _, peer := range peers {
		v.Links = append(v.Links, impl.Link{Peer: peer, Up: true, Exports: []impl.Export{{Pos: 1, Entity: 0, Count: 1}}, Next: 1})
		v.Entities = append(v.Entities, impl.Entity{Kind: p09Proxy, Peer: peer, Pos: 1, Count: 1})
	}
	return v
}

func p12Peers() [][]int {
	return [][]int{
		nil, {}, {1}, {2}, {4}, {2, 3}, {3, 2}, {1, 2, 3}, {4, 3, 2}, {2, 3, 4, 1}, {2, 2}, {2, 3, 2}, {3, 2, 2}, {2, 2, 2, 2},
		{0}, {-1}, {0, 0}, {5}, {-1, 0, 5}, {1 << 32, 1<<32 + 2, 2}, {math.MaxInt64, math.MinInt64}, {9, 8, 7, 6, 5, 4, 3, 2, 1, 0},
	}
}

func TestP12NewVat(t *testing.T) {
	for _, id := range []int{1, 2, 4, 5, 0, -1, 1 << 32, math.MaxInt64, math.MinInt64} {
		for _, peers := range p12Peers() {
			for _, script := range []int{0, 1, 5, 6, -1, 1 << 32, math.MaxInt64, math.MinInt64} {
				if got, want := impl.NewVat(id, peers, script), p12New(id, peers, script); !p12Same(got, want) {
					t.Errorf("NewVat(%d, %v, %d) is %+v, not %+v", id, peers, script, got, want)
				}
			}
		}
	}
}

func TestP12NewVatIsFoundAgain(t *testing.T) {
	for _, peers := range p12Peers() {
		v := impl.NewVat(1, peers, 2)
		if len(v.Entities) != len(peers)+1 || len(v.Links) != len(peers) || len(v.Loop) != 0 || len(v.Out) != 0 {
			t.Fatalf("NewVat with the peers %v is %+v", peers, v)
		}
		if root := v.Entities[0]; !p09Same(root, impl.NewObject(2, nil)) || !impl.IsEntity(root, 1) {
			t.Errorf("the root is %+v", root)
		}
		for i, peer := range peers {
			l := v.Links[i]
			if l.Peer != peer || !l.Up || impl.FindExport(l, 1) != 0 || impl.PosOf(l, 0) != 1 || impl.FindExport(l, 2) != -1 || impl.FindExport(l, 0) != -1 {
				t.Errorf("with the peers %v, the link %d is %+v", peers, i, l)
			}
			// The root was exported once: it is gone after one release, and the next export has another Pos.
			if impl.FindExport(impl.ReleaseExport(l, 1, 1), 1) != -1 {
				t.Errorf("with the peers %v, the link %d exports the root more than once", peers, i)
			}
			if _, pos := impl.PutExport(l, 7); pos != 2 {
				t.Errorf("with the peers %v, the next Pos of the link %d is %d", peers, i, pos)
			}
			if !p09Same(v.Entities[i+1], impl.NewProxy(peer, 1)) || !impl.IsUp(v, peer) || impl.LinkTo(v, peer) != slices.Index(peers, peer) {
				t.Errorf("with the peers %v, the entity %d is %+v", peers, i+1, v.Entities[i+1])
			}
		}
	}
}

// The chapter gives NewVat no limit: there are a link and an entity for each of the peers, however many they are.
func TestP12NewVatWithManyPeers(t *testing.T) {
	for _, length := range []int{100, p12Most - 2, p12Most - 1, p12Most, p12Most + 1, 500} {
		peers := []int{}
		for i := range length {
			peers = append(peers, i*7%31)
		}
		if got := impl.NewVat(3, peers, 1); !p12Same(got, p12New(3, peers, 1)) {
			t.Errorf("with %d peers, NewVat has %d entities and %d links", length, len(got.Entities), len(got.Links))
		}
		if got := impl.NewVat(3, peers[:5], 1); !p12Same(got, p12New(3, peers[:5], 1)) {
			t.Errorf("what lies behind the peers counts: %+v", got)
		}
	}
}

// p12LinkPool has peers of which many are the same, Up and not Up.
func p12LinkPool() []impl.Link {
	pool := []impl.Link{}
	for _, peer := range []int{1, 2, 0, -1} {
		pool = append(pool, p12Link(peer, true), p12Link(peer, false))
	}
	return pool
}

// p12LinkTo and p12IsUp go from the last link to the first one.
func p12LinkTo(links []impl.Link, peer int) int {
	place := -1
	for i := len(links) - 1; i >= 0; i-- {
		if links[i].Peer == peer {
			place = i
		}
	}
	return place
}

func p12IsUp(links []impl.Link, peer int) bool {
	up := 0
	for i := len(links) - 1; i >= 0; i-- {
		if links[i].Up && links[i].Peer == peer {
			up++
		}
	}
	return up > 0
}

func TestP12LinksOfEveryList(t *testing.T) {
	p10EachList(p12LinkPool(), 4, func(links []impl.Link) {
		for _, peer := range []int{1, 2, 0, -1, 3, 1<<32 + 1, math.MinInt64} {
			v := impl.Vat{Links: links}
			if got := impl.LinkTo(v, peer); got != p12LinkTo(links, peer) {
				t.Fatalf("with the links %v, LinkTo of %d is %d", links, peer, got)
			}
			if got := impl.IsUp(v, peer); got != p12IsUp(links, peer) {
				t.Fatalf("with the links %v, IsUp of %d is %v", links, peer, got)
			}
		}
	})
}

func TestP12LinkToAndIsUp(t *testing.T) {
	up, down := true, false
	cases := []struct {
		links    []impl.Link
		peer, at int
		isUp     bool
	}{
		{nil, 2, -1, false}, {nil, 0, -1, false}, {[]impl.Link{}, 2, -1, false},
		// the first, a middle and the last one, and none
		{[]impl.Link{p12Link(2, up), p12Link(3, up), p12Link(4, up)}, 2, 0, true}, {[]impl.Link{p12Link(2, up), p12Link(3, up), p12Link(4, up)}, 3, 1, true},
		{[]impl.Link{p12Link(2, up), p12Link(3, up), p12Link(4, up)}, 4, 2, true}, {[]impl.Link{p12Link(2, up), p12Link(3, up), p12Link(4, up)}, 1, -1, false},
		{[]impl.Link{p12Link(2, down), p12Link(3, up), p12Link(4, up)}, 2, 0, false}, {[]impl.Link{p12Link(2, up), p12Link(3, down), p12Link(4, up)}, 3, 1, false},
		{[]impl.Link{p12Link(2, up), p12Link(3, up), p12Link(4, down)}, 4, 2, false},
		// several to one peer, in each order
		{[]impl.Link{p12Link(3, up), p12Link(2, up), p12Link(2, down)}, 2, 1, true}, {[]impl.Link{p12Link(3, up), p12Link(2, down), p12Link(2, up)}, 2, 1, true},
		{[]impl.Link{p12Link(2, down), p12Link(3, up), p12Link(2, up)}, 2, 0, true}, {[]impl.Link{p12Link(2, down), p12Link(3, up), p12Link(2, down)}, 2, 0, false},
		{[]impl.Link{p12Link(2, down), p12Link(2, down), p12Link(2, down), p12Link(2, up)}, 2, 0, true},
		// peers that are no vats
		{[]impl.Link{p12Link(0, up)}, 0, 0, true}, {[]impl.Link{p12Link(-1, down), p12Link(-1, up)}, -1, 0, true}, {[]impl.Link{p12Link(1<<32+2, up)}, 2, -1, false},
		{[]impl.Link{p12Link(2, up)}, 1<<32 + 2, -1, false}, {[]impl.Link{p12Link(math.MinInt64, up), p12Link(math.MaxInt64, up)}, math.MaxInt64, 1, true},
	}
	for _, c := range cases {
		for _, v := range []impl.Vat{{Links: c.links}, p12Linked(c.links...)} {
			if at, isUp := impl.LinkTo(v, c.peer), impl.IsUp(v, c.peer); at != c.at || isUp != c.isUp {
				t.Errorf("with the links %v, LinkTo of %d is %d, and IsUp %v", c.links, c.peer, at, isUp)
			}
		}
	}
}

// Nothing of a link counts but its Peer and Up, and nothing of a vat but its links.
func TestP12LinkToAndIsUpLookAtPeerAndUp(t *testing.T) {
	for _, up := range []bool{true, false} {
		full := p10Full()
		full.Peer, full.Up = 7, up
		for _, l := range []impl.Link{full, p12Link(7, up)} {
			v := p12Linked(p12Link(5, !up), l)
			if impl.LinkTo(v, 7) != 1 || impl.IsUp(v, 7) != up {
				t.Errorf("with %+v, LinkTo is %d and IsUp %v", v.Links, impl.LinkTo(v, 7), impl.IsUp(v, 7))
			}
			for _, peer := range []int{v.Id, v.Out[0].To, full.Next, full.Asked, full.Exports[0].Pos} {
				if impl.LinkTo(v, peer) != -1 || impl.IsUp(v, peer) {
					t.Errorf("%d is a peer", peer)
				}
			}
			// What lies behind the links does not count.
			v.Links = v.Links[:1]
			if impl.LinkTo(v, 7) != -1 || impl.IsUp(v, 7) {
				t.Error("behind the links")
			}
		}
	}
}

// p12Look follows the promises one by one and remembers which ones it passed.
func p12Look(v impl.Vat, x impl.Value, passed ...int) impl.Value {
	isReference := x.Kind == 1 && x.N >= 0 && x.N < len(v.Entities)
	if !isReference || v.Entities[x.N].Kind != p09Promise || v.Entities[x.N].State != p09Kept {
		return x
	}
	if slices.Contains(passed, x.N) {
		return p04Broken(0)
	}
	return p12Look(v, v.Entities[x.N].Value, append(passed, x.N)...)
}

// p12ExpectLook looks once and, as promised, twice.
func p12ExpectLook(t *testing.T, v impl.Vat, x, want impl.Value) {
	t.Helper()
	got := impl.Look(v, x)
	if got != want {
		t.Fatalf("with %d entities %+v, Look of %v is %v, not %v", len(v.Entities), v.Entities, x, got, want)
	}
	if again := impl.Look(v, got); again != got {
		t.Fatalf("with %d entities %+v, Look of %v is %v, and of that %v", len(v.Entities), v.Entities, x, got, again)
	}
}

// p12NotKept are entities at which Look ends, many of them with a Value that leads on.
func p12NotKept() []impl.Entity {
	list := []impl.Entity{
		impl.NewObject(0, nil), impl.NewObject(0, []impl.Value{p04Ref(0)}), impl.NewProxy(2, 1), impl.NewPromise(),
		{Kind: p09Promise, State: p09Open, Value: p04Ref(0)}, {Kind: p09Promise, State: p09Away, Value: p04Ref(0), Peer: 2, Pos: 1},
		{Kind: p09Promise, State: p09Held, Value: p04Ref(0), Peer: 2, Pos: 1}, {Kind: p09Promise, State: p09Held, Value: p04Int(5), Peer: 2, Pos: 1},
		{Kind: p09Object, State: p09Kept, Value: p04Ref(0)}, {Kind: p09Proxy, State: p09Kept, Value: p04Ref(0), Peer: 2, Pos: 1, Count: 1}, {}, {State: p09Kept, Value: p04Int(5)},
	}
	for _, n := range p09OtherNumbers() {
		list = append(list, impl.Entity{Kind: p09Promise, State: n, Value: p04Ref(0)}, impl.Entity{Kind: n, State: p09Kept, Value: p04Ref(0)})
	}
	return list
}

// p12Ends are values at which Look ends in a vat with so many entities, valid or not.
func p12Ends(entities int) []impl.Value {
	values := []impl.Value{}
	for _, v := range p04Values() {
		if v.Kind != 1 || v.N < 0 || v.N >= entities {
			values = append(values, v)
		}
	}
	return append(values, p04Ref(entities), p04Ref(entities+1), p04Ref(-1))
}

func TestP12LookOfWhatIsNoReference(t *testing.T) {
	all := []impl.Entity{p12Kept(p04Int(7)), p12Kept(p04Int(8)), p12Kept(p04Int(9))}
	for entities := range 4 {
		v := p12Of(all[:entities]...)
		for _, x := range p12Ends(entities) {
			p12ExpectLook(t, v, x, x)
		}
		for n := range entities {
			p12ExpectLook(t, v, p04Ref(n), p04Int(7+n))
		}
	}
}

func TestP12LookOfReferences(t *testing.T) {
	for _, e := range p12NotKept() {
		for place := range 4 {
			// The others are kept, and must not be taken for the one at this place.
			entities := slices.Repeat([]impl.Entity{p12Kept(p04Int(7))}, 4)
			entities[place] = e
			v := p12Of(entities...)
			p12ExpectLook(t, v, p04Ref(place), p04Ref(place))
			for n := range 4 {
				if n != place {
					p12ExpectLook(t, v, p04Ref(n), p04Int(7))
					// and leads there, if it is kept by that
					v.Entities[n].Value = p04Ref(place)
					p12ExpectLook(t, v, p04Ref(n), p04Ref(place))
					v.Entities[n].Value = p04Int(7)
				}
			}
		}
	}
}

func TestP12LookOfKeptPromises(t *testing.T) {
	for _, x := range p12Ends(3) {
		v := p12Of(p12Kept(x), p12Kept(p04Ref(0)), p12Kept(p04Ref(1)))
		for n := range 3 {
			p12ExpectLook(t, v, p04Ref(n), x)
		}
		// A kept promise counts as one whatever its other fields are.
		full := p09Full()
		full.Kind, full.State, full.Value = p09Promise, p09Kept, x
		p12ExpectLook(t, p12Of(full), p04Ref(0), impl.Look(p12Of(full), x))
		p12ExpectLook(t, p12Of(impl.NewPromise(), full, impl.NewPromise()), p04Ref(1), x)
	}
}

func TestP12LookInCircles(t *testing.T) {
	refs := func(targets ...int) impl.Vat {
		v := p12Of()
		for _, n := range targets {
			v.Entities = append(v.Entities, p12Kept(p04Ref(n)))
		}
		return v
	}
	for _, v := range []impl.Vat{refs(0), refs(0, 0), refs(0, 1), refs(1, 0), refs(1, 1), refs(1, 2, 0), refs(2, 0, 1), refs(1, 2, 1), refs(1, 2, 2), refs(1, 2, 3, 4, 5, 3), refs(5, 4, 3, 2, 1, 0)} {
		for n := range v.Entities {
			p12ExpectLook(t, v, p04Ref(n), p04Broken(0))
		}
		p12ExpectLook(t, v, p04Ref(len(v.Entities)), p04Ref(len(v.Entities)))
		// Behind a circle, others lead to where they led before.
		v.Entities = append(v.Entities, impl.NewPromise(), p12Kept(p04Ref(len(v.Entities))))
		p12ExpectLook(t, v, p04Ref(len(v.Entities)-1), p04Ref(len(v.Entities)-2))
		p12ExpectLook(t, v, p04Ref(0), p04Broken(0))
	}
}

func TestP12LookInEverySmallVat(t *testing.T) {
	pool := []impl.Entity{
		impl.NewObject(0, nil), impl.NewProxy(2, 1), impl.NewPromise(), {Kind: p09Promise, State: p09Held, Value: p04Ref(1), Peer: 2, Pos: 1}, {Kind: p09Object, State: p09Kept, Value: p04Ref(1)},
		p12Kept(p04Int(0)), p12Kept(p04Int(5)), p12Kept(p04Int(-1)), p12Kept(p04Broken(0)), p12Kept(p04Broken(1)), p12Kept(impl.Value{Kind: 3, N: 1}),
	}
	for n := -1; n <= 4; n++ {
		pool = append(pool, p12Kept(p04Ref(n)))
	}
	values := []impl.Value{p04Int(0), p04Int(1), p04Broken(0), p04Broken(1), {Kind: 3, N: 1}, {Kind: -1}}
	for n := -1; n <= 5; n++ {
		values = append(values, p04Ref(n))
	}
	p10EachList(pool, 3, func(entities []impl.Entity) {
		v := p12Of(entities...)
		for _, x := range values {
			p12ExpectLook(t, v, x, p12Look(v, x))
		}
	})
	leading := []impl.Entity{impl.NewObject(0, nil), p12Kept(p04Int(5))}
	for n := range 6 {
		leading = append(leading, p12Kept(p04Ref(n)))
	}
	p10EachList(leading, 6, func(entities []impl.Entity) {
		v := p12Of(entities...)
		for n := range entities {
			p12ExpectLook(t, v, p04Ref(n), p12Look(v, p04Ref(n)))
		}
	})
}

// p12Chain leads through all entities in the order of a walk over their numbers, and ends in a value. Length and stride have no divisor in common.
func p12Chain(length, stride int, end impl.Value) (impl.Vat, []int) {
	v, walk := p12Of(make([]impl.Entity, length)...), []int{}
	for i := range length {
		walk = append(walk, i*stride%length)
	}
	for i, n := range walk {
		next := end
		if i+1 < length {
			next = p04Ref(walk[i+1])
		}
		v.Entities[n] = p12Kept(next)
	}
	return v, walk
}

func TestP12LookAlongLongWays(t *testing.T) {
	for _, length := range []int{1, 2, 3, 5, 59, 61, 100, 199, 200, 201, 501} {
		for _, stride := range []int{1, length - 1, 7} {
			for _, end := range []impl.Value{p04Int(5), p04Int(-5), p04Broken(0), p04Broken(3), p04Ref(length), p04Ref(-1), {Kind: 3}} {
				v, walk := p12Chain(length, stride, end)
				for _, n := range walk {
					p12ExpectLook(t, v, p04Ref(n), end)
				}
				// With what is no kept promise at the end, instead of the last one.
				for _, e := range []impl.Entity{impl.NewObject(0, nil), impl.NewPromise(), impl.NewProxy(2, 1)} {
					last := walk[length-1]
					v.Entities[last] = e
					for _, n := range walk {
						p12ExpectLook(t, v, p04Ref(n), p04Ref(last))
					}
				}
			}
			// With a way back to any of them, there is no end.
			for _, back := range []int{0, length / 2, length - 1} {
				v, walk := p12Chain(length, stride, p04Int(0))
				v.Entities[walk[length-1]].Value = p04Ref(walk[back])
				for _, n := range walk {
					p12ExpectLook(t, v, p04Ref(n), p04Broken(0))
				}
			}
		}
	}
}

// The links, the Loop and all else of a vat say nothing of where a reference leads.
func TestP12LookAtEntitiesAlone(t *testing.T) {
	for _, id := range []int{0, 1, -1} {
		v := p12Full()
		v.Id, v.Entities = id, []impl.Entity{p12Kept(p04Ref(1)), p12Kept(p04Ref(2)), impl.NewPromise()}
		for n := range 3 {
			p12ExpectLook(t, v, p04Ref(n), p04Ref(2))
		}
		// What lies behind the entities does not count.
		v.Entities = v.Entities[:1]
		p12ExpectLook(t, v, p04Ref(0), p04Ref(1))
		p12ExpectLook(t, v, p04Ref(1), p04Ref(1))
	}
}

// p12NewEntities are entities that may be added, valid or not.
func p12NewEntities() []impl.Entity {
	list := []impl.Entity{{}, p09Full(), impl.NewPromise(), impl.NewProxy(2, 3), impl.NewProxy(-1, 0), impl.NewObject(2, p09Args(4)), impl.NewObject(-1, nil), p12Kept(p04Ref(500))}
	for _, name := range p09Names() {
		list = append(list, p09Samples()[name])
	}
	return list
}

func TestP12AddEntity(t *testing.T) {
	for _, length := range []int{0, 1, 2, 3, p12Most - 2, p12Most - 1, p12Most, p12Most + 1, p12Most + 56, 300} {
		for _, e := range p12NewEntities() {
			v := p12With(length)
			want, wantNumber := p12Clone(v), -1
			if length <= p12Most-1 {
				want.Entities, wantNumber = append(want.Entities, p09Clone(e)), length
			}
			got, number := impl.AddEntity(v, e)
			if number != wantNumber || !p12Same(got, want) {
				t.Errorf("with %d entities, AddEntity of %+v is %d, %+v", length, e, number, got)
			}
			if !p12Same(v, p12With(length)) {
				t.Errorf("with %d entities, AddEntity changes its argument", length)
			}
		}
	}
}

func TestP12AddEntityOneAfterTheOther(t *testing.T) {
	v := impl.Vat{}
	for i := range p12Most {
		var number int
		if v, number = impl.AddEntity(v, impl.NewProxy(2, i+1)); number != i || len(v.Entities) != i+1 {
			t.Fatalf("the number of the entity %d is %d, of %d", i, number, len(v.Entities))
		}
	}
	for range 3 {
		got, number := impl.AddEntity(v, impl.NewPromise())
		if number != -1 || !p12Same(got, v) {
			t.Errorf("behind the last place, AddEntity is %d, with %d entities", number, len(got.Entities))
		}
		v = got
	}
	for i, e := range v.Entities {
		if !p09Same(e, impl.NewProxy(2, i+1)) {
			t.Errorf("the entity %d is %+v", i, e)
		}
	}
}

// Two vats that are made from one do not see what is added to the other.
func TestP12AddEntityTwiceToOneVat(t *testing.T) {
	base := impl.NewVat(1, []int{2}, 0)
	for range 20 {
		first, n := impl.AddEntity(base, impl.NewProxy(3, 7))
		second, m := impl.AddEntity(base, impl.NewPromise())
		if n != m || n != len(base.Entities) || !p09Same(first.Entities[n], impl.NewProxy(3, 7)) || !p09Same(second.Entities[m], impl.NewPromise()) {
			t.Errorf("%d is %+v, and %d %+v", n, first.Entities[n], m, second.Entities[m])
		}
		base = second
	}
}

// p12Messages are messages that may be pushed, valid or not.
func p12Messages() []impl.Message {
	list := []impl.Message{{}, p11Full(), {Kind: -1, Args: make([]impl.Wire, 9)}}
	for _, name := range p11Names() {
		list = append(list, p11Samples()[name])
	}
	return list
}

func p12ExpectPushed(t *testing.T, v impl.Vat, to int, m impl.Message, isUp bool) {
	t.Helper()
	before, want := p12Clone(v), p12Clone(v)
	if isUp {
		want.Out = append(want.Out, impl.Outgoing{To: to, Message: p11Clone(m)})
	}
	if got := impl.Push(v, to, m); !p12Same(got, want) {
		t.Errorf("with the links %+v, Push to %d has the Out %+v, not %+v", v.Links, to, got.Out, want.Out)
	}
	if !p12Same(v, before) {
		t.Errorf("with the links %+v, Push to %d changes its argument", v.Links, to)
	}
}

func TestP12Push(t *testing.T) {
	up, down := true, false
	cases := []struct {
		links []impl.Link
		to    int
		isUp  bool
	}{
		{nil, 2, false}, {nil, 0, false}, {[]impl.Link{p12Link(2, up)}, 2, true}, {[]impl.Link{p12Link(2, down)}, 2, false}, {[]impl.Link{p12Link(2, up)}, 3, false},
		{[]impl.Link{p12Link(2, up), p12Link(3, down), p12Link(4, up)}, 2, true}, {[]impl.Link{p12Link(2, up), p12Link(3, down), p12Link(4, up)}, 3, false}, {[]impl.Link{p12Link(2, up), p12Link(3, down), p12Link(4, up)}, 4, true},
		{[]impl.Link{p12Link(2, down), p12Link(2, up)}, 2, true}, {[]impl.Link{p12Link(2, up), p12Link(2, down)}, 2, true}, {[]impl.Link{p12Link(2, down), p12Link(2, down)}, 2, false}, {[]impl.Link{p12Link(2, up), p12Link(2, up)}, 2, true},
		{[]impl.Link{p12Link(3, up), p12Link(2, down), p12Link(3, up), p12Link(2, down), p12Link(2, up)}, 2, true},
		{[]impl.Link{p12Link(0, up)}, 0, true}, {[]impl.Link{p12Link(-1, up)}, -1, true}, {[]impl.Link{p12Link(-1, up)}, 1, false}, {[]impl.Link{p12Link(1<<32+2, up)}, 2, false}, {[]impl.Link{p12Link(2, up)}, 1<<32 + 2, false},
	}
	for _, c := range cases {
		for _, m := range p12Messages() {
			v := p12Linked(c.links...)
			p12ExpectPushed(t, v, c.to, m, c.isUp)
			v.Out = nil
			p12ExpectPushed(t, v, c.to, m, c.isUp)
		}
	}
}

func TestP12PushWithEveryListOfLinks(t *testing.T) {
	m := p11Samples()["call of an export"]
	p10EachList(p12LinkPool(), 3, func(links []impl.Link) {
		for _, to := range []int{1, 2, 0, -1, 3} {
			p12ExpectPushed(t, impl.Vat{Id: 1, Links: links, Out: []impl.Outgoing{{To: 5, Message: p11Full()}}}, to, m, p12IsUp(links, to))
		}
	})
}

func TestP12PushOneAfterTheOther(t *testing.T) {
	v, want := impl.NewVat(1, []int{2, 3}, 0), []impl.Outgoing{}
	v.Links[1].Up = false
	// The chapter gives Out no limit: 500 messages are more than any other list of messages may have.
	for i := range 1500 {
		// The vat 3 cannot be reached, and to the vat 1 there is no link.
		to, m := i%3+1, impl.Message{Kind: p11Finish, Question: i + 1}
		if to == 2 {
			want = append(want, impl.Outgoing{To: to, Message: m})
		}
		v = impl.Push(v, to, m)
	}
	if !reflect.DeepEqual(p12Clone(impl.Vat{Out: v.Out}), p12Clone(impl.Vat{Out: want})) {
		t.Errorf("Out has %d messages: %+v", len(v.Out), v.Out)
	}
	if len(v.Entities) != 3 || len(v.Links) != 2 || len(v.Loop) != 0 || v.Id != 1 {
		t.Errorf("%+v", v)
	}
}

// p12Block is the memory of a slice, the room behind it included.
type p12Block struct {
	from, to uintptr
}

// p12Blocks returns the memory of all slices in v, however deep, also of those that lie in the room behind others.
func p12Blocks(v reflect.Value) []p12Block {
	blocks := []p12Block{}
	switch v.Kind() {
	case reflect.Struct:
		for i := range v.NumField() {
			blocks = append(blocks, p12Blocks(v.Field(i))...)
		}
	case reflect.Slice:
		if v.Cap() > 0 {
			blocks = append(blocks, p12Block{v.Pointer(), v.Pointer() + uintptr(v.Cap())*v.Type().Elem().Size()})
		}
		whole := v.Slice(0, v.Cap())
		for i := range whole.Len() {
			blocks = append(blocks, p12Blocks(whole.Index(i))...)
		}
	}
	return blocks
}

// p12Overlaps reports whether two of the blocks have memory in common.
func p12Overlaps(blocks []p12Block) bool {
	sorted := slices.Clone(blocks)
	slices.SortFunc(sorted, func(a, b p12Block) int {
		if a.from < b.from {
			return -1
		}
		return 1
	})
	for i := 1; i < len(sorted); i++ {
		if sorted[i].from < sorted[i-1].to {
			return true
		}
	}
	return false
}

// p12Filler is a value of this type in which nothing is 0 or empty.
func p12Filler(of reflect.Type) reflect.Value {
	v := reflect.New(of).Elem()
	switch of.Kind() {
	case reflect.Struct:
		for i := range v.NumField() {
			v.Field(i).Set(p12Filler(v.Field(i).Type()))
		}
	case reflect.Slice:
		v = reflect.Append(v, p12Filler(of.Elem()))
	case reflect.Int:
		v.SetInt(-77)
	case reflect.String:
		v.SetString("spare")
	case reflect.Bool:
		v.SetBool(true)
	}
	return v
}

// p12WithRoom returns a deep copy in which each slice has room behind it, filled with what no test expects.
func p12WithRoom(v reflect.Value) reflect.Value {
	kept := reflect.New(v.Type()).Elem()
	switch v.Kind() {
	case reflect.Struct:
		for i := range v.NumField() {
			kept.Field(i).Set(p12WithRoom(v.Field(i)))
		}
	case reflect.Slice:
		list := reflect.MakeSlice(v.Type(), 0, v.Len()+3)
		for i := range v.Len() {
			list = reflect.Append(list, p12WithRoom(v.Index(i)))
		}
		for range 3 {
			list = reflect.Append(list, p12Filler(v.Type().Elem()))
		}
		kept.Set(list.Slice(0, v.Len()))
	default:
		kept.Set(v)
	}
	return kept
}

// p12Whole returns a deep copy in which each slice reaches to the end of the room behind it.
func p12Whole(v reflect.Value) reflect.Value {
	if v.Kind() == reflect.Slice {
		v = v.Slice(0, v.Cap())
	}
	kept := reflect.New(v.Type()).Elem()
	switch v.Kind() {
	case reflect.Struct:
		for i := range v.NumField() {
			kept.Field(i).Set(p12Whole(v.Field(i)))
		}
	case reflect.Slice:
		for i := range v.Len() {
			kept = reflect.Append(kept, p12Whole(v.Index(i)))
		}
	default:
		kept.Set(v)
	}
	return kept
}

// p12Arguments are all that the functions of the chapter take, beside numbers.
type p12Arguments struct {
	Vat     impl.Vat
	Other   impl.Vat
	Peers   []int
	Entity  impl.Entity
	Message impl.Message
}

func (a p12Arguments) withRoom() p12Arguments {
	return p12WithRoom(reflect.ValueOf(a)).Interface().(p12Arguments)
}

func (a p12Arguments) whole() p12Arguments {
	return p12Whole(reflect.ValueOf(a)).Interface().(p12Arguments)
}

// p12ArgumentLists are vats with and without a place for an entity, with and without elements.
func p12ArgumentLists() map[string]p12Arguments {
	full, empty := p12Full(), impl.Vat{Entities: []impl.Entity{{}}, Loop: []impl.Sent{{}}, Links: []impl.Link{{}}, Out: []impl.Outgoing{{}}}
	leading := p12Full()
	leading.Entities = []impl.Entity{p12Kept(p04Ref(1)), p12Kept(p04Ref(2)), p12Kept(p04Int(7))}
	return map[string]p12Arguments{
		"full":                 {full, p12Full(), []int{2, 3, 2}, p09Full(), p11Full()},
		"nothing":              {},
		"elements of nothing":  {empty, empty, []int{0}, impl.Entity{}, impl.Message{}},
		"one entity too many":  {p12With(p12Most + 1), p12With(p12Most + 1), []int{1}, p09Full(), p11Full()},
		"one entity to go":     {p12With(p12Most - 1), p12With(p12Most - 2), []int{1, 4}, p09Full(), p11Full()},
		"promises that lead":   {leading, full, nil, p12Kept(p04Ref(0)), p11Samples()["call with one"]},
		"a new vat":            {impl.NewVat(1, []int{2, 3}, 0), impl.NewVat(1, []int{2, 3}, 0), []int{2, 3}, impl.NewObject(1, p09Args(2)), p11Samples()["echo"]},
		"a new vat, not alike": {impl.NewVat(1, nil, 0), impl.NewVat(1, []int{2}, 0), []int{}, impl.NewPromise(), p11Samples()["return of mine"]},
	}
}

// p12Calls are the calls that return a vat, for each way that they may go.
func p12Calls() map[string]func(a p12Arguments) impl.Vat {
	push := func(to int) func(a p12Arguments) impl.Vat {
		return func(a p12Arguments) impl.Vat { return impl.Push(a.Vat, to, a.Message) }
	}
	return map[string]func(a p12Arguments) impl.Vat{
		"NewVat":                        func(a p12Arguments) impl.Vat { return impl.NewVat(1, a.Peers, 2) },
		"AddEntity":                     func(a p12Arguments) impl.Vat { v, _ := impl.AddEntity(a.Vat, a.Entity); return v },
		"AddEntity of one of the vat's": func(a p12Arguments) impl.Vat { v, _ := impl.AddEntity(a.Vat, p12Last(a)); return v },
		"Push to 2":                     push(2), "Push to 102": push(102), "Push to 0": push(0), "Push to nobody": push(-5),
		"Push of one of the vat's": func(a p12Arguments) impl.Vat { return impl.Push(a.Vat, 2, p12LastOut(a)) },
	}
}

// p12Last and p12LastOut share the memory of the vat.
func p12Last(a p12Arguments) impl.Entity {
	if len(a.Vat.Entities) == 0 {
		return a.Entity
	}
	return a.Vat.Entities[len(a.Vat.Entities)-1]
}

func p12LastOut(a p12Arguments) impl.Message {
	if len(a.Vat.Out) == 0 {
		return a.Message
	}
	return a.Vat.Out[len(a.Vat.Out)-1].Message
}

func TestP12VatsShareNoMemory(t *testing.T) {
	for name, list := range p12ArgumentLists() {
		for call, function := range p12Calls() {
			a := list.withRoom()
			before := a.whole()
			want := p12Clone(function(list))
			got, other := function(a), function(a)
			if !reflect.DeepEqual(a.whole(), before) {
				t.Errorf("%s with %s has written into its arguments", call, name)
			}
			if p12Overlaps(slices.Concat(p12Blocks(reflect.ValueOf(got)), p12Blocks(reflect.ValueOf(other)), p12Blocks(reflect.ValueOf(a)))) {
				t.Errorf("%s with %s: the result shares memory with the arguments, with itself or with another result", call, name)
			}
			if !p12Same(got, want) || !p12Same(other, want) {
				t.Errorf("%s with %s: what lies behind the arguments counts", call, name)
			}
			runtime.KeepAlive(a)
		}
	}
}

// What the test above relies on: it does find memory that is shared.
func TestP12BlocksFindSharedMemory(t *testing.T) {
	shared := p12Full()
	blocks := p12Blocks(reflect.ValueOf(shared))
	// 4 lists, 3 entities with 3 lists and 3 messages with Args, 3 messages of the Loop, 3 links with 3 lists, and 3 messages of Out.
	if len(blocks) != 4+3*(3+3)+3+3*3+3 || p12Overlaps(blocks) {
		t.Errorf("%d blocks: %v", len(blocks), blocks)
	}
	places := p09Leaves(reflect.ValueOf(&shared).Elem())
	for i, place := range places {
		if place.Kind() != reflect.Slice || place.Len() == 0 {
			continue
		}
		// A part of the list, with room behind it, is the same memory still.
		part := p12Arguments{}
		if !p12SetFirst(reflect.ValueOf(&part).Elem(), place.Slice(0, 0)) {
			t.Fatalf("no place for %v", place.Type())
		}
		if !p12Overlaps(slices.Concat(blocks, p12Blocks(reflect.ValueOf(part)))) {
			t.Errorf("the list at %d is not found", i)
		}
	}
	runtime.KeepAlive(shared)
}

// p12SetFirst puts a list into the first place of its type in v; lists that are within others get one element.
func p12SetFirst(v reflect.Value, list reflect.Value) bool {
	switch v.Kind() {
	case reflect.Struct:
		for i := range v.NumField() {
			if p12SetFirst(v.Field(i), list) {
				return true
			}
		}
	case reflect.Slice:
		if v.Type() == list.Type() {
			v.Set(list)
			return true
		}
		within := reflect.MakeSlice(v.Type(), 1, 1)
		if within.Index(0).Kind() == reflect.Struct && p12SetFirst(within.Index(0), list) {
			v.Set(within)
			return true
		}
	}
	return false
}

func TestP12NothingIsWritten(t *testing.T) {
	for name, list := range p12ArgumentLists() {
		a := list.withRoom()
		before := a.whole()
		for n := -3; n <= 6; n++ {
			impl.LinkTo(a.Vat, n)
			impl.IsUp(a.Vat, n)
			for kind := -1; kind <= 4; kind++ {
				impl.Look(a.Vat, impl.Value{Kind: kind, N: n})
			}
		}
		impl.EqualVats(a.Vat, a.Other)
		impl.EqualVats(a.Other, a.Vat)
		impl.EqualVats(a.Vat, a.Vat)
		if !reflect.DeepEqual(a.whole(), before) {
			t.Errorf("with %s, the arguments have become %+v", name, a)
		}
	}
}

func TestP12EqualVatsThatAreAlike(t *testing.T) {
	list := []impl.Vat{
		{}, p12Full(), {Id: 1}, {Id: -1}, p12With(0), p12With(1), p12Linked(), p12Linked(p12Link(2, true)), p12Linked(p12Link(2, false)),
		{Entities: make([]impl.Entity, 1)}, {Loop: make([]impl.Sent, 1)}, {Links: make([]impl.Link, 1)}, {Out: make([]impl.Outgoing, 1)},
		impl.NewVat(1, []int{2, 3}, 0), impl.NewVat(1, []int{3, 2}, 0), impl.NewVat(1, []int{2}, 0), impl.NewVat(1, []int{2, 3}, 1), impl.NewVat(2, []int{2, 3}, 0), impl.NewVat(math.MinInt64, nil, math.MaxInt64),
	}
	for i, a := range list {
		for j, b := range list {
			// Copies, so that equal memory is not what makes them equal.
			if got := impl.EqualVats(a, p12Clone(b)); got != (i == j) {
				t.Errorf("EqualVats of %+v and %+v is %v", a, b, got)
			}
		}
		if !impl.EqualVats(a, a) {
			t.Errorf("%+v is not equal to itself", a)
		}
	}
}

func p12ExpectDifferent(t *testing.T, name string, a, b impl.Vat) {
	t.Helper()
	if impl.EqualVats(a, b) || impl.EqualVats(b, a) {
		t.Errorf("%s: %+v is equal to %+v", name, a, b)
	}
	if !impl.EqualVats(b, p12Clone(b)) {
		t.Errorf("%s: %+v is not equal to its copy", name, b)
	}
}

func TestP12EqualVatsThatDifferInOnePlace(t *testing.T) {
	full, changed := p12Full(), p12Full()
	places := p09Leaves(reflect.ValueOf(&changed).Elem())
	// Id and 4 lists, and 3 each of entities with 57 places, messages of the Loop with 11, links with 28, and messages of Out with 19.
	if len(places) != 5+3*57+3*11+3*28+3*19 {
		t.Fatalf("%d places", len(places))
	}
	for i, place := range places {
		tried := 0
		p09Variants(place, func() {
			tried++
			p12ExpectDifferent(t, fmt.Sprint("place ", i), full, changed)
		})
		if tried == 0 {
			t.Errorf("place %d was not changed", i)
		}
	}
	if !impl.EqualVats(full, changed) || !impl.EqualVats(changed, full) {
		t.Errorf("%+v and %+v are not equal", full, changed)
	}
}

func TestP12EqualVatsThatDifferInTwoPlaces(t *testing.T) {
	// Two fields that are exchanged, or whose difference is made up for by that of another one.
	edits := []func(v *impl.Vat){
		func(v *impl.Vat) { v.Id, v.Links[0].Peer = v.Links[0].Peer, v.Id },
		func(v *impl.Vat) { v.Id, v.Out[0].To = v.Out[0].To, v.Id },
		func(v *impl.Vat) { v.Id, v.Out[0].To = v.Id+1, v.Out[0].To-1 },
		func(v *impl.Vat) {
			v.Loop, v.Entities[0].Queue = append(v.Loop, v.Entities[0].Queue[0]), v.Entities[0].Queue[1:]
		},
		func(v *impl.Vat) { v.Loop, v.Entities[0].Queue = v.Loop[1:], append(v.Entities[0].Queue, v.Loop[0]) },
		func(v *impl.Vat) { v.Entities[0].Sent, v.Entities[1].Sent = v.Entities[1].Sent, v.Entities[0].Sent },
		func(v *impl.Vat) {
			v.Entities[0].Sent, v.Entities[1].Sent = v.Entities[0].Sent+1, v.Entities[1].Sent-1
		},
		func(v *impl.Vat) { v.Loop[0].Tag, v.Loop[1].Tag = v.Loop[1].Tag, v.Loop[0].Tag },
		func(v *impl.Vat) { v.Loop[0].Args, v.Loop[2].Args = v.Loop[2].Args, v.Loop[0].Args },
		func(v *impl.Vat) { v.Links[0].Peer, v.Links[1].Peer = v.Links[1].Peer, v.Links[0].Peer },
		func(v *impl.Vat) { v.Out[0].To, v.Out[1].To = v.Out[1].To, v.Out[0].To },
		func(v *impl.Vat) { v.Out[1].To, v.Out[2].To = v.Out[1].To+1, v.Out[2].To-1 },
		func(v *impl.Vat) { v.Out[0].Message, v.Out[1].Message = v.Out[1].Message, v.Out[0].Message },
		func(v *impl.Vat) { v.Out[0].To, v.Out[0].Message.Kind = v.Out[0].Message.Kind, v.Out[0].To },
	}
	for i, edit := range edits {
		changed := p12Full()
		edit(&changed)
		p12ExpectDifferent(t, fmt.Sprint("edit ", i), p12Full(), changed)
	}
	p12ExpectDifferent(t, "the roots and proxies of two peers", impl.NewVat(1, []int{2, 3}, 0), impl.NewVat(1, []int{3, 2}, 0))
}

func TestP12EqualVatsWithElementsInAnotherOrder(t *testing.T) {
	for i := range 3 {
		for j := range i {
			swaps := map[string]func(v *impl.Vat){
				"Entities":  func(v *impl.Vat) { v.Entities[i], v.Entities[j] = v.Entities[j], v.Entities[i] },
				"Loop":      func(v *impl.Vat) { v.Loop[i], v.Loop[j] = v.Loop[j], v.Loop[i] },
				"Links":     func(v *impl.Vat) { v.Links[i], v.Links[j] = v.Links[j], v.Links[i] },
				"Out":       func(v *impl.Vat) { v.Out[i], v.Out[j] = v.Out[j], v.Out[i] },
				"Exports":   func(v *impl.Vat) { l := v.Links[1].Exports; l[i], l[j] = l[j], l[i] },
				"Questions": func(v *impl.Vat) { l := v.Links[1].Questions; l[i], l[j] = l[j], l[i] },
				"Answers":   func(v *impl.Vat) { l := v.Links[1].Answers; l[i], l[j] = l[j], l[i] },
				"Queue":     func(v *impl.Vat) { l := v.Entities[1].Queue; l[i], l[j] = l[j], l[i] },
				"Slots":     func(v *impl.Vat) { l := v.Entities[1].Slots; l[i], l[j] = l[j], l[i] },
				"Askers":    func(v *impl.Vat) { l := v.Entities[1].Askers; l[i], l[j] = l[j], l[i] },
				"Args":      func(v *impl.Vat) { l := v.Out[1].Message.Args; l[i], l[j] = l[j], l[i] },
			}
			for name, swap := range swaps {
				changed := p12Full()
				swap(&changed)
				p12ExpectDifferent(t, fmt.Sprint(name, " ", i, " and ", j), p12Full(), changed)
			}
		}
	}
}

// p12SetLists gives a vat lists of this length, of elements that are alike, or zero.
func p12SetLists(v *impl.Vat, place, length int) {
	switch place {
	case 0:
		v.Entities = make([]impl.Entity, length)
	case 1:
		v.Entities = slices.Repeat([]impl.Entity{p09Full()}, length)
	case 2:
		v.Loop = make([]impl.Sent, length)
	case 3:
		v.Loop = slices.Repeat(p09FullMessages()[:1], length)
	case 4:
		v.Links = make([]impl.Link, length)
	case 5:
		v.Links = slices.Repeat([]impl.Link{p10Full()}, length)
	case 6:
		v.Out = make([]impl.Outgoing, length)
	case 7:
		v.Out = slices.Repeat([]impl.Outgoing{{To: 2, Message: p11Full()}}, length)
	}
}

func TestP12EqualVatsWithListsOfDifferentLength(t *testing.T) {
	for i := range 5 {
		for j := range 5 {
			for place := range 8 {
				a, b := p12Full(), p12Full()
				p12SetLists(&a, place, i)
				p12SetLists(&b, place, j)
				if got := impl.EqualVats(a, b); got != (i == j) {
					t.Errorf("EqualVats of %+v and %+v is %v", a, b, got)
				}
			}
		}
	}
	// The lengths count, not what lies in the spare capacity.
	full := p12Full()
	for _, cut := range []func(v *impl.Vat){
		func(v *impl.Vat) { v.Entities = v.Entities[:2] },
		func(v *impl.Vat) { v.Loop = v.Loop[:2] },
		func(v *impl.Vat) { v.Links = v.Links[:2] },
		func(v *impl.Vat) { v.Out = v.Out[:2] },
	} {
		part := full
		cut(&part)
		p12ExpectDifferent(t, "a part of one memory", full, part)
	}
}

// p12Emptied are vats without elements, or with elements whose lists have none: nil, empty, and with room behind them.
func p12Emptied() [3][]impl.Vat {
	outer := []impl.Vat{{}, {Entities: []impl.Entity{}}, {Loop: []impl.Sent{}}, {Links: []impl.Link{}}, {Out: []impl.Outgoing{}}}
	full := p12Full()
	outer = append(outer, impl.Vat{Entities: []impl.Entity{}, Loop: []impl.Sent{}, Links: []impl.Link{}, Out: []impl.Outgoing{}}, impl.Vat{Entities: full.Entities[:0], Loop: full.Loop[:0], Links: full.Links[:0], Out: full.Out[:0]})
	inner, deepest := []impl.Vat{}, []impl.Vat{}
	for _, e := range []impl.Entity{{}, {Slots: []impl.Value{}}, {Queue: []impl.Sent{}}, {Askers: []impl.Asker{}}, {Slots: full.Entities[0].Slots[:0], Queue: full.Entities[0].Queue[:0]}} {
		for _, l := range []impl.Link{{}, {Exports: []impl.Export{}}, {Questions: []impl.Question{}}, {Answers: full.Links[0].Answers[:0]}} {
			inner = append(inner, impl.Vat{Entities: []impl.Entity{e}, Links: []impl.Link{l}})
		}
	}
	for _, s := range []impl.Sent{{}, {Args: []impl.Value{}}, {Args: full.Loop[0].Args[:0]}} {
		for _, m := range []impl.Message{{}, {Args: []impl.Wire{}}, {Args: full.Out[0].Message.Args[:0]}} {
			deepest = append(deepest, impl.Vat{Entities: []impl.Entity{{Queue: []impl.Sent{s}}}, Loop: []impl.Sent{s}, Out: []impl.Outgoing{{Message: m}}})
		}
	}
	return [3][]impl.Vat{outer, inner, deepest}
}

func TestP12EqualVatsWithNilAndEmptyLists(t *testing.T) {
	for i, first := range p12Emptied() {
		for j, second := range p12Emptied() {
			for _, a := range first {
				for _, b := range second {
					if impl.EqualVats(a, b) != (i == j) || impl.EqualVats(b, a) != (i == j) {
						t.Errorf("EqualVats of %#v and %#v is %v", a, b, i != j)
					}
				}
			}
		}
	}
}

// What the functions return is equal to what was asked for, whether the lists in it are nil or empty.
func TestP12ResultsAreEqual(t *testing.T) {
	for _, v := range []impl.Vat{{}, p12Full(), p12With(p12Most), impl.NewVat(1, []int{2, 3}, 0), p12Linked()} {
		if !impl.EqualVats(impl.Push(v, -5, p11Full()), v) {
			t.Errorf("Push to nobody is not equal to %+v", v)
		}
		if got, number := impl.AddEntity(v, impl.NewPromise()); impl.EqualVats(got, v) != (number == -1) {
			t.Errorf("AddEntity of %d in %+v", number, v)
		}
	}
	if v := p12Full(); impl.EqualVats(impl.Push(v, 2, p11Full()), v) || !impl.EqualVats(impl.Push(v, 2, p11Full()), impl.Push(v, 2, p11Full())) {
		t.Error("Push")
	}
	if !impl.EqualVats(impl.NewVat(1, []int{2, 3}, 4), p12New(1, []int{2, 3}, 4)) || !impl.EqualVats(impl.NewVat(1, nil, 4), impl.NewVat(1, []int{}, 4)) {
		t.Error("NewVat")
	}
}
