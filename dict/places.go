package dict

import "proteus/api"

// place is a property's. One that is not taken is a hole: any text may be a name, so that no name can tell it.
type place struct {
	taken bool
	name  string
	v     api.Value
}

// places are in the order in which properties came, with holes where some went; each name leads to its own.
type places struct {
	list []place
	of   map[string]int
}

// noPlaces has room for some.
func noPlaces(room int) *places {
	return &places{list: make([]place, 0, room), of: make(map[string]int, room)}
}

// count is how many are taken.
func (p *places) count() int { return len(p.of) }

// holes is how many are not.
func (p *places) holes() int { return len(p.list) - len(p.of) }

func (p *places) value(name string) (api.Value, bool) {
	i, there := p.of[name]
	if !there {
		return api.Value{}, false
	}
	return p.list[i].v, true
}

// set tells whether the name had no place.
func (p *places) set(name string, v api.Value) bool {
	if i, there := p.of[name]; there {
		p.list[i].v = v
		return false
	}
	p.of[name] = len(p.list)
	p.list = append(p.list, place{taken: true, name: name, v: v})
	return true
}

// drop tells whether the name had a place, which is a hole then. Waiting till half of all are holes, a pressing costs each drop only a little.
func (p *places) drop(name string) bool {
	i, there := p.of[name]
	if !there {
		return false
	}
	delete(p.of, name)
	p.list[i] = place{}
	if 2*p.holes() >= len(p.list) {
		*p = *p.pressed()
	}
	return true
}

// pressed is the same without holes, in memory of its own: what is gone takes none any more.
func (p *places) pressed() *places {
	out := noPlaces(p.count())
	for _, at := range p.list {
		if at.taken {
			out.set(at.name, at.v)
		}
	}
	return out
}

// nth is the name of the i-th that is taken; there are more than i.
func (p *places) nth(i int) string {
	if p.holes() == 0 {
		return p.list[i].name
	}
	for _, at := range p.list {
		if !at.taken {
			continue
		}
		if i == 0 {
			return at.name
		}
		i--
	}
	return ""
}

func (p *places) names() []string {
	out := make([]string, 0, p.count())
	for _, at := range p.list {
		if at.taken {
			out = append(out, at.name)
		}
	}
	return out
}
