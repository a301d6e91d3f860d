package tests

import (
	"fmt"
	"slices"
	"strings"
	"testing"

	"loop.example/g00167/impl"
)

// decides asks for one decision and holds it against the model's and against what is written here.
func decides(t *testing.T, s impl.Side, a impl.Ask, signed []string, now int, at string, code, detail int) {
	t.Helper()
	if c, d := modelDecideAsk(s, a, signed, now, at); c != code || d != detail {
		t.Errorf("the model of DecideAsk(%s, %s, %s, %v, %.60q) tells %v, %v; asked: %v, %v", short(s), short(a), short(signed), now, at, c, d, code, detail)
	}
	if c, d := impl.DecideAsk(s, a, signed, now, at); c != code || d != detail {
		t.Errorf("DecideAsk(%s, %s, %s, %v, %.60q) = %v, %v; asked: %v, %v", short(s), short(a), short(signed), now, at, c, d, code, detail)
	}
}

// rulesRead tells the rules of a text of lines that have `+` between.
func rulesRead(text string) []impl.Rule {
	rules, ok := modelReadPolicy(strings.ReplaceAll(text, "+", "\n") + "\n")
	if !ok {
		panic(text)
	}
	return modelPlain(rules)
}

// A token from p/w0 over p/w1 and p/w2 to p/w3, right from 7 until 98, with serials from 10 on.
var askedToken = chainOf(3)

func forced(policy string, revoked ...int) impl.Side {
	return impl.Side{Force: snapshotOf(4, rulesRead(policy), revoked...)}
}

func TestDecideAskOrdinary(t *testing.T) {
	signed := modelSigned(askedToken)
	for _, c := range []struct {
		policy, method, path string
		code, detail         int
	}{
		{"allow */* * /**", "get", "/", impl.MeshOk, 0},
		{"allow p/w2 * /**", "get", "/a/b", impl.MeshOk, 0},
		{"allow p/w2 get /a/b", "get", "/a/b", impl.MeshOk, 0},
		{"allow p/w2 get /a/b", "put", "/a/b", impl.MeshPolicy, impl.DecideNone},
		{"allow p/w2 get /a/b", "get", "/a", impl.MeshPolicy, impl.DecideNone},
		// Those ahead of the last need no rule that allows, and none that does helps the last one.
		{"allow p/w0 * /**", "get", "/", impl.MeshPolicy, impl.DecideNone},
		{"allow p/w0 * /**+allow p/w1 * /**", "get", "/", impl.MeshPolicy, impl.DecideNone},
		{"allow p/w3 * /**", "get", "/", impl.MeshPolicy, impl.DecideNone},
		// One of them that is denied is enough, the first as well as a later one.
		{"allow */* * /**+deny p/w0 * /**", "get", "/", impl.MeshPolicy, impl.DecideDeny},
		{"allow */* * /**+deny p/w1 * /**", "get", "/", impl.MeshPolicy, impl.DecideDeny},
		{"allow */* * /**+deny p/w2 * /**", "get", "/", impl.MeshPolicy, impl.DecideDeny},
		{"allow */* * /**+deny p/w3 * /**", "get", "/", impl.MeshOk, 0},
		{"allow */* * /**+deny p/w0 put /**", "get", "/", impl.MeshOk, 0},
		{"allow */* * /**+deny p/w0 put /**", "put", "/", impl.MeshPolicy, impl.DecideDeny},
		{"allow */* * /**+deny p/w0 * /a", "get", "/b", impl.MeshOk, 0},
		{"allow */* * /**+deny p/w1 * /a/*", "get", "/a/b", impl.MeshPolicy, impl.DecideDeny},
		// What denies one ahead is told ahead of what no rule says of the last.
		{"deny p/w0 * /**", "get", "/", impl.MeshPolicy, impl.DecideDeny},
		{"deny p/w1 * /**+allow p/w0 * /**", "get", "/", impl.MeshPolicy, impl.DecideDeny},
		{"deny p/w2 * /**", "get", "/", impl.MeshPolicy, impl.DecideDeny},
		{"deny p/w3 * /**", "get", "/", impl.MeshPolicy, impl.DecideNone},
	} {
		decides(t, forced(c.policy), impl.Ask{Token: askedToken, Method: c.method, Path: c.path}, signed, 50, "p/w3", c.code, c.detail)
	}
	// No rule at all, and a token of one link and of MaxLinks.
	decides(t, impl.Side{Force: impl.Snapshot{Number: 1}}, impl.Ask{Token: askedToken, Method: "get", Path: "/"}, signed, 50, "p/w3", impl.MeshPolicy, impl.DecideNone)
	for n := 1; n <= 6; n++ {
		a := impl.Ask{Token: chainOf(n), Method: "get", Path: "/"}
		last, to := fmt.Sprintf("p/w%d", n-1), fmt.Sprintf("p/w%d", n)
		decides(t, forced("allow "+last+" get /"), a, modelSigned(a.Token), 50, to, impl.MeshOk, 0)
		decides(t, forced("deny "+last+" get /+allow */* * /**"), a, modelSigned(a.Token), 50, to, impl.MeshPolicy, impl.DecideDeny)
		if n > 1 {
			decides(t, forced("deny p/w0 get /+allow */* * /**"), a, modelSigned(a.Token), 50, to, impl.MeshPolicy, impl.DecideDeny)
		}
	}
}

// Each code that CheckToken tells is the detail.
func TestDecideAskTokens(t *testing.T) {
	signed := modelSigned(askedToken)
	ask := func(l []impl.Link) impl.Ask { return impl.Ask{Token: l, Method: "get", Path: "/"} }
	open := "allow */* * /**"
	for _, l := range [][]impl.Link{nil, {}, chainOf(7), {linkOf("p/a", "p/b", 0, 0, 50)}, {linkOf("p/a", "b", 1, 0, 50)}, {linkOf("p/a", "p/b", 1, 51, 50)}, {askedToken[0], askedToken[2]}} {
		decides(t, forced(open), ask(l), signed, 50, "p/w3", impl.MeshToken, impl.TokenForm)
	}
	for _, now := range []int{-1, 100001} {
		decides(t, forced(open), ask(askedToken), signed, now, "p/w3", impl.MeshToken, impl.TokenForm)
	}
	for _, at := range notNames {
		decides(t, forced(open), ask(askedToken), signed, 50, at, impl.MeshToken, impl.TokenForm)
	}
	many := append(make([]string, 198), signed...)
	decides(t, forced(open), ask(askedToken), many[1:], 50, "p/w3", impl.MeshOk, 0)
	decides(t, forced(open), ask(askedToken), many, 50, "p/w3", impl.MeshToken, impl.TokenForm)
	for i := range signed {
		decides(t, forced(open), ask(askedToken), slices.Delete(slices.Clone(signed), i, i+1), 50, "p/w3", impl.MeshToken, impl.TokenSigned)
	}
	decides(t, forced(open), ask(askedToken), nil, 50, "p/w3", impl.MeshToken, impl.TokenSigned)
	for now, code := range map[int]int{0: impl.TokenTime, 6: impl.TokenTime, 7: 0, 98: 0, 99: impl.TokenTime, 100000: impl.TokenTime} {
		decides(t, forced(open), ask(askedToken), signed, now, "p/w3", min(code, 1)*impl.MeshToken, code)
	}
	for serial, code := range map[int]int{1: 0, 9: 0, 10: impl.TokenRevoked, 11: impl.TokenRevoked, 12: impl.TokenRevoked, 13: 0} {
		decides(t, forced(open, serial), ask(askedToken), signed, 50, "p/w3", min(code, 1)*impl.MeshToken, code)
		decides(t, forced(open, modelRising([]int{2, 3, serial}, upFrom(50, 197))...), ask(askedToken), signed, 50, "p/w3", min(code, 1)*impl.MeshToken, code)
	}
	for _, at := range []string{"p/w0", "p/w1", "p/w2", "p/w4", "p/w33"} {
		decides(t, forced(open), ask(askedToken), signed, 50, at, impl.MeshToken, impl.TokenTo)
	}
}

// All sets of faults: the first in the document's order is told.
func TestDecideAskOrder(t *testing.T) {
	for set := range 512 {
		s, a := forced("allow */* get /"), impl.Ask{Token: askedToken, Method: "get", Path: "/"}
		signed, now, at := modelSigned(askedToken), 50, "p/w3"
		code, detail := impl.MeshOk, 0
		if set&256 != 0 {
			s.Force.Policy = rulesRead("deny p/w1 * /**+allow */* get /")
			code, detail = impl.MeshPolicy, impl.DecideDeny
		}
		if set&128 != 0 {
			at, code, detail = "p/w4", impl.MeshToken, impl.TokenTo
		}
		if set&64 != 0 {
			s.Force.Revoked = []int{5, 11}
			code, detail = impl.MeshToken, impl.TokenRevoked
		}
		if set&32 != 0 {
			now, code, detail = 99, impl.MeshToken, impl.TokenTime
		}
		if set&16 != 0 {
			signed, code, detail = signed[1:], impl.MeshToken, impl.TokenSigned
		}
		if set&8 != 0 {
			a.Token, code, detail = nil, impl.MeshToken, impl.TokenForm
		}
		if set&4 != 0 {
			s, code, detail = sideWith(s.Force, 5, nil, 7), impl.MeshComing, 0
		}
		if set&2 != 0 {
			s.Force, code, detail = nothing, impl.MeshForce, 0
		}
		if set&1 != 0 {
			a.Path, code, detail = "/*", impl.MeshBad, 0
		}
		decides(t, s, a, signed, now, at, code, detail)
		a.Path, a.Method = "/", "*"
		decides(t, s, a, signed, now, at, impl.MeshBad, 0)
		a.Method = "get"
		s.Has = append(s.Has, true)
		decides(t, s, a, signed, now, at, impl.MeshBad, 0)
	}
}

func TestDecideAskWrong(t *testing.T) {
	signed, open := modelSigned(askedToken), "allow */* * /**"
	for _, s := range append([]string{"GET", "get ", "post", "getput"}, nearTexts...) {
		decides(t, forced(open), impl.Ask{Token: askedToken, Method: s, Path: "/"}, signed, 50, "p/w3", impl.MeshBad, 0)
		code := impl.MeshBad
		if pathForm.MatchString(s) {
			code = impl.MeshOk
		}
		decides(t, forced(open), impl.Ask{Token: askedToken, Method: "put", Path: s}, signed, 50, "p/w3", code, 0)
	}
	ask := impl.Ask{Token: askedToken, Method: "get", Path: "/"}
	rules := rulesRead(open)
	for _, s := range []impl.Side{
		{Force: snapshotOf(0, rules)}, {Force: snapshotOf(-1, rules)}, {Force: snapshotOf(100001, rules)}, {Force: snapshotOf(0, nil, 1)},
		{Force: snapshotOf(1, slices.Repeat(rules, 2))}, {Force: snapshotOf(1, rules, 2, 1)}, {Force: snapshotOf(1, rules, 0)}, {Force: snapshotOf(1, []impl.Rule{{}})},
		{Force: snapshotOf(1, rules, upFrom(1, 201)...)}, {Force: snapshotOf(1, rulesNumbered(upFrom(0, 31)...))},
		{Force: snapshotOf(3, rules), Coming: 3}, {Force: snapshotOf(3, rules), Coming: 2}, {Force: snapshotOf(3, rules), Coming: -1}, {Force: snapshotOf(3, rules), Coming: 100001},
		{Force: snapshotOf(3, rules), Has: []bool{false}, Rules: make([]impl.Rule, 1), Serials: []int{0}},
		{Coming: 1, Has: make([]bool, 231), Rules: make([]impl.Rule, 231), Serials: make([]int, 231)},
		{Coming: 1, Has: []bool{true}, Rules: make([]impl.Rule, 1), Serials: []int{0}}, {Coming: 1, Has: []bool{true}},
	} {
		decides(t, s, ask, signed, 50, "p/w3", impl.MeshBad, 0)
	}
	// Coming with no place at all, with some, and with all that there may be.
	for _, n := range []int{0, 1, 230} {
		decides(t, sideWith(snapshotOf(3, rules), 4, make([]any, n)...), ask, signed, 50, "p/w3", impl.MeshComing, 0)
		decides(t, sideWith(nothing, 4, make([]any, n)...), ask, signed, 50, "p/w3", impl.MeshForce, 0)
	}
	decides(t, impl.Side{}, ask, signed, 50, "p/w3", impl.MeshForce, 0)
	decides(t, impl.Side{}, impl.Ask{}, nil, 0, "", impl.MeshBad, 0)
}

// permits asks whether a delivery was permitted and holds it against the model.
func permits(t *testing.T, m impl.Mesh, d impl.Delivery, want bool) {
	t.Helper()
	if got, is := impl.PermittedBy(m, d), modelPermitted(m, d); got != want || is != want {
		t.Errorf("PermittedBy(%s, %s) = %v, the model tells %v", short(m), short(d), got, is)
	}
}

func TestPermittedByEdges(t *testing.T) {
	m := plays(t, delivered())
	for _, d := range m.Delivered {
		permits(t, m, d, true)
	}
	good := m.Delivered[0] // at p/b, from p/a, from 10 until 510
	change := func(f func(d *impl.Delivery)) impl.Delivery {
		d := good
		d.Ask.Token = slices.Clone(d.Ask.Token)
		f(&d)
		return d
	}
	for _, time := range []int{10, 11, 510} {
		permits(t, m, change(func(d *impl.Delivery) { d.Time = time }), true)
	}
	for _, time := range []int{9, 511, -1, 100001} {
		permits(t, m, change(func(d *impl.Delivery) { d.Time = time }), false)
	}
	for _, version := range append([]int{2, -2}, oddNumbers...) {
		permits(t, m, change(func(d *impl.Delivery) { d.Version = version }), version == 1)
	}
	for _, at := range append([]string{"p/a", "p/c", "p/e"}, notNames...) {
		permits(t, m, change(func(d *impl.Delivery) { d.At = at }), false)
	}
	for _, s := range append([]string{"put", "GET"}, nearTexts...) {
		permits(t, m, change(func(d *impl.Delivery) { d.Ask.Method = s }), s == "put")
		permits(t, m, change(func(d *impl.Delivery) { d.Ask.Path = s }), pathForm.MatchString(s))
	}
	permits(t, m, change(func(d *impl.Delivery) { d.Ask.Token[0].Serial = 2 }), false)
	permits(t, m, change(func(d *impl.Delivery) { d.Ask.Token = nil }), false)
	permits(t, m, impl.Delivery{}, false)
	permits(t, impl.Mesh{}, good, false)
	// It need not stand in Delivered, and what else the mesh has does not count: just its Versions and what was signed.
	permits(t, impl.Mesh{Now: -5, Issuer: impl.Issuer{Signed: m.Issuer.Signed, Next: -1}, Versions: m.Versions}, good, true)
	permits(t, impl.Mesh{Versions: m.Versions}, good, false)
	permits(t, impl.Mesh{Issuer: m.Issuer}, good, false)
	// What was revoked later does not take back what was delivered.
	m = plays(t, after(delivered(), at(impl.ActRevoke, "p/a")))
	permits(t, m, good, true)
	permits(t, m, m.Delivered[1], true)
	permits(t, m, change(func(d *impl.Delivery) { d.Version = 2 }), true)                                                            // the last serial alone is revoked
	permits(t, m, impl.Delivery{At: "p/c", Ask: m.Delivered[1].Ask, Version: 2, Time: 10}, false)                                    // and this is it
	permits(t, plays(t, after(delivered(), actPolicy("deny p/a * /**\n"))), change(func(d *impl.Delivery) { d.Version = 2 }), false) // another policy
}

// A version that is no longer kept permits nothing any more.
func TestPermittedByVersionsKept(t *testing.T) {
	acts := delivered()
	for n := range 24 {
		m := plays(t, acts)
		kept := n < 20
		if m.Versions[0].Number == 1 != kept {
			t.Fatal(n, m.Versions)
		}
		permits(t, m, m.Delivered[0], kept)
		permits(t, m, m.Delivered[1], kept)
		acts = after(acts, actPolicy(""))
	}
}

// Of Versions that no mesh would have the first with the number counts, and is asked as what is in force.
func TestPermittedByOddVersions(t *testing.T) {
	m := plays(t, delivered())
	d, open := m.Delivered[0], m.Versions[0]
	shut := snapshotOf(1, nil)
	for _, c := range []struct {
		versions []impl.Snapshot
		want     bool
	}{
		{[]impl.Snapshot{open, shut}, true},
		{[]impl.Snapshot{shut, open}, false},
		{[]impl.Snapshot{snapshotOf(7, nil), snapshotOf(3, nil), open}, true},
		{append(versionsFrom(2, 25), open), true},
		{[]impl.Snapshot{snapshotOf(1, slices.Repeat(open.Policy, 2))}, false},
		{[]impl.Snapshot{snapshotOf(1, open.Policy, 3, 2)}, false},
		{[]impl.Snapshot{snapshotOf(1, open.Policy, 2, 3)}, true},
	} {
		odd := m
		odd.Versions = c.versions
		permits(t, odd, d, c.want)
	}
	// Number 0 is nothing in force.
	zero := m
	zero.Versions = []impl.Snapshot{{}}
	d.Version = 0
	permits(t, zero, d, false)
}

// crowded tells a mesh with so many sidecars and deliveries, by hand.
func crowded(sides, deliveries int) impl.Mesh {
	m, _, _ := impl.PlayMesh(delivered())
	for len(m.Sidecars) < sides {
		m.Sidecars = append(m.Sidecars, impl.Sidecar{Name: "p/z"})
	}
	m.Sidecars = m.Sidecars[:sides]
	for len(m.Delivered) < deliveries {
		m.Delivered = append(m.Delivered, m.Delivered[len(m.Delivered)%2])
	}
	m.Delivered = m.Delivered[:deliveries]
	return m
}

// A mesh of more than MaxSides sidecars, or more than twice MaxActs deliveries, is none.
func TestMeshAsSaid(t *testing.T) {
	d := crowded(0, 2).Delivered[0]
	for _, c := range []struct {
		sides, deliveries int
		good              bool
	}{{0, 0, true}, {10, 0, true}, {11, 0, false}, {0, 240, true}, {0, 241, false}, {10, 240, true}, {11, 240, false}, {10, 241, false}, {9, 239, true}, {1000, 1000, false}} {
		m := crowded(c.sides, c.deliveries)
		if got, is := impl.LogsGood(m), modelLogsGood(m); got != c.good || is != c.good {
			t.Error(c, got, is)
		}
		permits(t, m, d, c.good)
		for i, name := range []string{"p/b", "p/c", "p/a", ""} {
			got, ok := impl.DeliveredAt(m, name)
			want := 0
			if c.good && i < 2 {
				want = (c.deliveries + 1 - i) / 2
			}
			if ok != c.good || len(got) != want {
				t.Error(c, name, len(got), ok)
			}
		}
	}
}

func TestLogsGoodEdges(t *testing.T) {
	for n := range 11 {
		m := impl.Mesh{Sidecars: make([]impl.Sidecar, n)}
		for i := range m.Sidecars {
			m.Sidecars[i].Log = logOf(numbered(i * 6)...)
		}
		if !impl.LogsGood(m) {
			t.Error(n, short(m))
		}
		for i := range n {
			before := m.Sidecars[i].Log
			for k := range before {
				broken := slices.Clone(before)
				broken[k].Sum++
				m.Sidecars[i].Log = broken
				if impl.LogsGood(m) {
					t.Error(n, i, k)
				}
			}
			for _, wrong := range [][]impl.Record{{{}}, logOf(numbered(61)...), logOf("\n"), logOf(strings.Repeat("x", 81))} {
				m.Sidecars[i].Log = wrong
				if impl.LogsGood(m) {
					t.Error(n, i, short(wrong))
				}
			}
			m.Sidecars[i].Log = before
		}
	}
	// Nothing else of a mesh is asked.
	odd := impl.Mesh{Now: -1, Versions: make([]impl.Snapshot, 50), Sidecars: make([]impl.Sidecar, 10), Delivered: make([]impl.Delivery, 240)}
	if !impl.LogsGood(odd) || !impl.LogsGood(impl.Mesh{}) {
		t.Error(short(odd))
	}
}

func TestDeliveredAtEdges(t *testing.T) {
	var m impl.Mesh
	for i := range 240 {
		d := impl.Delivery{At: []string{"p/a", "p/b", "", "x", "p/a"}[i%5], Version: i, Time: -i, Ask: impl.Ask{Method: fmt.Sprint(i), Path: "*", Token: chainOf(i % 8)}}
		m.Delivered = append(m.Delivered, d)
	}
	for _, name := range append([]string{"p/a", "p/b", "", "x", "p/c", "p/a ", "P/a"}, nearTexts...) {
		got, ok := impl.DeliveredAt(m, name)
		want, is := modelDeliveredAt(m, name)
		if !ok || !is || !slices.EqualFunc(got, want, sameDelivery) {
			t.Errorf("DeliveredAt(%.60q) = %s, %v", name, short(got), ok)
		}
	}
	got, _ := impl.DeliveredAt(m, "p/a")
	for i, d := range got {
		if want := i/2*5 + i%2*4; len(got) != 96 || d.Version != want || !sameDelivery(d, m.Delivered[want]) {
			t.Error(i, d)
		}
	}
}
