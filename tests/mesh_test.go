package tests

import (
	"fmt"
	"math"
	"slices"
	"strings"
	"testing"

	"loop.example/g00167/impl"
)

func TestMeshConstants(t *testing.T) {
	limits := []int{impl.MaxSides, impl.MaxQueue, impl.MaxActs}
	kinds := []int{impl.ActEnrol, impl.ActRevoke, impl.ActPolicy, impl.ActTick, impl.ActMail, impl.ActPush, impl.ActAsk, impl.ActHop, impl.ActForge, impl.ActDecide, impl.ActCrash}
	codes := []int{impl.MeshOk, impl.MeshBad, impl.MeshNone, impl.MeshFull, impl.MeshForce, impl.MeshComing, impl.MeshToken, impl.MeshPolicy}
	if !slices.Equal(limits, []int{10, 8, 120}) || !slices.Equal(kinds, upFrom(1, 11)) || !slices.Equal(codes, upFrom(0, 8)) {
		t.Error(limits, kinds, codes)
	}
}

func TestNewMesh(t *testing.T) {
	m := impl.NewMesh()
	if !sameMesh(m, impl.Mesh{Issuer: impl.Issuer{Next: 1}}) || !impl.LogsGood(m) {
		t.Error(m)
	}
	for _, acts := range [][]impl.Act{nil, {}} {
		if m, codes, ok := impl.PlayMesh(acts); !ok || len(codes) != 0 || !sameMesh(m, impl.NewMesh()) {
			t.Error(m, codes, ok)
		}
	}
}

// ordinaryActs, each with its code: a policy comes to two of three; asks are decided ahead of it, behind it, and while the next one comes.
var ordinaryActs = []struct {
	act  impl.Act
	code int
}{
	{actPolicy("deny p/c * /**\nallow p/a * /**\nallow p/b get /x\n"), 0},
	{at(impl.ActEnrol, "p/b"), 0},
	{at(impl.ActEnrol, "p/a"), 0},
	{at(impl.ActEnrol, "p/c"), 0},
	{actAsk("p/a", "p/b", "get", "/x", 50), 0},
	{at(impl.ActDecide, "p/b"), 4},
	{at(impl.ActPush, "p/b"), 0},
	{at(impl.ActPush, "p/a"), 0},
	{actTick(5), 0},
	{actAsk("p/a", "p/b", "get", "/x", 50), 0},
	{at(impl.ActDecide, "p/b"), 0},
	{actTick(1), 0},
	{actHop("p/b", 0, "p/a", "get", "/x"), 0},
	{at(impl.ActDecide, "p/a"), 0},
	{actHop("p/b", 0, "p/a", "put", "/x"), 0},
	{at(impl.ActDecide, "p/a"), 7},
	{actAsk("p/c", "p/a", "get", "/y", 10), 0},
	{at(impl.ActDecide, "p/a"), 7},
	{at(impl.ActDecide, "p/a"), 2},
	{actMail("p/b", 0), 0},
	{at(impl.ActRevoke, "p/a"), 0},
	{actMail("p/b", 0), 0},
	{actForge("p/b", "get", "/x", "p/a p/b 2 5 55;"), 0},
	{at(impl.ActDecide, "p/b"), 5},
	{actForge("p/b", "get", "/x", "p/a p/b 2 5 55;"), 0},
	{at(impl.ActPush, "p/b"), 0},
	{at(impl.ActDecide, "p/b"), 6},
	{actAsk("p/a", "p/b", "get", "/x", 50), 3},
	{actForge("p/b", "put", "/", "p/z p/b 9 0 50;"), 0},
	{actForge("p/a", "put", "/", "p/z p/b 9 0 50;"), 0},
	{at(impl.ActCrash, "p/a"), 0},
	{actMail("p/c", 0), 0},
	{actMail("p/c", 4), 0},
}

// ordinaryMesh is written out here, from the document's words alone.
func ordinaryMesh() impl.Mesh {
	rules := []impl.Rule{{Who: "p/a", Method: "*", Path: "/**"}, {Who: "p/b", Method: "get", Path: "/x"}, {Deny: true, Who: "p/c", Method: "*", Path: "/**"}}
	one, two := snapshotOf(1, rules), snapshotOf(2, rules, 2)
	first := []impl.Link{linkOf("p/a", "p/b", 2, 5, 55)}
	second := []impl.Link{linkOf("p/a", "p/b", 2, 5, 55), linkOf("p/b", "p/a", 3, 6, 55)}
	forged := []impl.Link{linkOf("p/z", "p/b", 9, 0, 50)}
	return impl.Mesh{
		Now: 6,
		Issuer: impl.Issuer{
			Works:   []impl.Work{workOf("p/a", false, 2), workOf("p/b", true, 4), workOf("p/c", true, 5)},
			Next:    6,
			Revoked: []int{2},
			Signed: []string{"p/a p/b 1 0 50;", "p/a p/b 2 5 55;", "p/a p/b 2 5 55;p/b p/a 3 6 55;",
				"p/a p/b 2 5 55;p/b p/a 4 6 55;", "p/c p/a 5 6 16;"},
		},
		Versions: []impl.Snapshot{one, two},
		Sidecars: []impl.Sidecar{
			{Name: "p/b", Side: impl.Side{Force: two}, Queue: []impl.Ask{{Token: forged, Method: "put", Path: "/"}},
				Log: logOf("4 0 p/a /x", "0 0 p/a /x", "5 0 p/a /x", "6 4 p/a /x")},
			{Name: "p/a", Side: impl.Side{Force: one}, Log: logOf("0 0 p/a /x", "7 3 p/a /x", "7 2 p/c /y")},
			{Name: "p/c", Side: sideWith(nothing, 2, nil, nil, nil, 2)},
		},
		Delivered: []impl.Delivery{
			{At: "p/b", Ask: impl.Ask{Token: first, Method: "get", Path: "/x"}, Version: 1, Time: 5},
			{At: "p/a", Ask: impl.Ask{Token: second, Method: "get", Path: "/x"}, Version: 1, Time: 6},
		},
	}
}

func TestMeshOrdinary(t *testing.T) {
	var acts []impl.Act
	var want []int
	for _, c := range ordinaryActs {
		acts, want = append(acts, c.act), append(want, c.code)
	}
	m, codes := played(t, acts)
	if !slices.Equal(codes, want) || !sameMesh(m, ordinaryMesh()) {
		t.Fatalf("%+v, %v", m, codes)
	}
	if !impl.LogsGood(m) {
		t.Error(m.Sidecars)
	}
	for i, d := range m.Delivered {
		if got, ok := impl.DeliveredAt(m, d.At); !ok || len(got) != 1 || !sameDelivery(got[0], d) || !impl.PermittedBy(m, d) {
			t.Error(i, got, ok)
		}
	}
	if got, ok := impl.DeliveredAt(m, "p/c"); !ok || len(got) != 0 {
		t.Error(got, ok)
	}
	// Each front of the acts tells the front of the codes.
	for n := range acts {
		if _, front := played(t, acts[:n]); !slices.Equal(front, want[:n]) {
			t.Error(n, front)
		}
	}
}

func TestActsEdges(t *testing.T) {
	ticks := slices.Repeat([]impl.Act{actTick(1)}, 120)
	if m := plays(t, ticks); m.Now != 120 {
		t.Error(m.Now)
	}
	if m := plays(t, ticks[:119]); m.Now != 119 {
		t.Error(m.Now)
	}
	for _, n := range []int{121, 122, 1000} {
		if m, codes, ok := impl.PlayMesh(slices.Repeat(ticks[:1], n)); ok || len(codes) != 0 || !sameMesh(m, impl.Mesh{}) {
			t.Error(n, short(m), codes, ok)
		}
	}
	// Also acts that tell a code count.
	if _, codes, ok := impl.PlayMesh(make([]impl.Act, 120)); !ok || !slices.Equal(codes, slices.Repeat([]int{impl.MeshBad}, 120)) {
		t.Error(codes, ok)
	}
	if m, codes, ok := impl.PlayMesh(make([]impl.Act, 121)); ok || len(codes) != 0 || !sameMesh(m, impl.Mesh{}) {
		t.Error(short(m), codes, ok)
	}
}

// changesNothing asks that the last acts tell these codes, and that the mesh is as it was ahead of them.
func changesNothing(t *testing.T, acts []impl.Act, codes ...int) {
	t.Helper()
	behind := plays(t, acts, codes...)
	if ahead := plays(t, acts[:len(acts)-len(codes)]); !sameMesh(ahead, behind) {
		t.Errorf("%s: %s is %s", short(acts), short(ahead), short(behind))
	}
}

func TestActKindNone(t *testing.T) {
	acts := after(ready(openText, "p/a", "p/b"), actAsk("p/a", "p/b", "get", "/", 5))
	for _, kind := range append([]int{12, 13, -2, 1 << 40, -1 << 40, 1<<32 + 1, 1<<32 + 10}, oddNumbers...) {
		if kind < 1 || kind > 11 {
			odd := actAsk("p/a", "p/b", "get", "/", 5)
			odd.Kind = kind
			changesNothing(t, after(acts, odd), impl.MeshBad)
			changesNothing(t, after(acts, impl.Act{Kind: kind}), impl.MeshBad)
		}
	}
}

var notNames = slices.DeleteFunc(append([]string{"p/a ", "p/a\n", "p/a p/b", "*/a"}, nearTexts...), nameForm.MatchString)

// crew tells n names.
func crew(n int) []string {
	var names []string
	for _, w := range crowd(n) {
		names = append(names, w.Name)
	}
	return names
}

func TestActEnrol(t *testing.T) {
	for _, name := range notNames {
		changesNothing(t, []impl.Act{at(impl.ActEnrol, "p/a"), at(impl.ActEnrol, name)}, impl.IssueBad)
	}
	changesNothing(t, []impl.Act{at(impl.ActEnrol, "p/a"), at(impl.ActEnrol, "p/a")}, impl.IssueTwice)
	names := crew(11)
	slices.Reverse(names)
	m := plays(t, atEach(impl.ActEnrol, names[:10]...))
	for i, c := range m.Sidecars {
		if !sameSidecar(c, impl.Sidecar{Name: names[i]}) || len(m.Sidecars) != 10 || len(m.Issuer.Works) != 10 {
			t.Error(i, m)
		}
	}
	// One more is not enrolled; a code of the issuer goes ahead.
	changesNothing(t, atEach(impl.ActEnrol, names...), impl.MeshFull)
	changesNothing(t, after(atEach(impl.ActEnrol, names[:10]...), at(impl.ActEnrol, "p"), at(impl.ActEnrol, names[3])), impl.IssueBad, impl.IssueTwice)
	changesNothing(t, after(atEach(impl.ActEnrol, names...), actAsk(names[10], names[0], "get", "/", 1), at(impl.ActDecide, names[10])), impl.MeshFull, impl.IssueNone, impl.MeshNone)
	// Who was there comes back, though there are MaxSides.
	m = plays(t, after(atEach(impl.ActEnrol, names[:10]...), at(impl.ActRevoke, names[3]), at(impl.ActEnrol, names[3])))
	if len(m.Sidecars) != 10 || m.Sidecars[3].Name != names[3] || !m.Issuer.Works[7].Live {
		t.Error(m)
	}
}

// A work that is revoked and enrolled again keeps its one sidecar, with all that is there.
func TestEnrolledAgainKeepsItsSidecar(t *testing.T) {
	acts := after(ready(openText, "p/a", "p/b"),
		actAsk("p/a", "p/b", "get", "/", 5), at(impl.ActDecide, "p/b"), actAsk("p/a", "p/b", "put", "/x", 5),
		actPolicy(""), actMail("p/b", 0), at(impl.ActRevoke, "p/b"))
	ahead := plays(t, acts)
	m := plays(t, after(acts, at(impl.ActEnrol, "p/b")))
	if len(m.Sidecars) != 2 || !sameSidecar(m.Sidecars[1], ahead.Sidecars[1]) || !m.Issuer.Works[1].Live {
		t.Error(m)
	}
	c := m.Sidecars[1]
	if c.Name != "p/b" || c.Side.Force.Number != 1 || c.Side.Coming != 2 || len(c.Queue) != 1 || len(c.Log) != 1 {
		t.Error(c)
	}
	// Time and again.
	for range 20 {
		acts = after(acts, at(impl.ActEnrol, "p/b"), at(impl.ActRevoke, "p/b"))
	}
	if m := plays(t, acts); len(m.Sidecars) != 2 || !sameSidecar(m.Sidecars[1], c) {
		t.Error(m)
	}
}

func TestActRevoke(t *testing.T) {
	for _, name := range notNames {
		changesNothing(t, []impl.Act{at(impl.ActEnrol, "p/a"), at(impl.ActRevoke, name)}, impl.IssueBad)
	}
	changesNothing(t, []impl.Act{at(impl.ActEnrol, "p/a"), at(impl.ActRevoke, "p/b")}, impl.IssueNone)
	changesNothing(t, []impl.Act{at(impl.ActEnrol, "p/a"), at(impl.ActRevoke, "p/a"), at(impl.ActRevoke, "p/a")}, impl.IssueNone)
	// Without any version there is one then, without a rule.
	m := plays(t, []impl.Act{at(impl.ActEnrol, "p/a"), at(impl.ActRevoke, "p/a")})
	if !sameVersions(m.Versions, []impl.Snapshot{{Number: 1}}) || len(m.Sidecars) != 1 || m.Issuer.Works[0].Live {
		t.Error(m)
	}
	m = plays(t, []impl.Act{at(impl.ActEnrol, "p/a"), actAsk("p/a", "p/a", "get", "/", 0), at(impl.ActRevoke, "p/a")})
	if !sameVersions(m.Versions, []impl.Snapshot{snapshotOf(1, nil, 1)}) {
		t.Error(m.Versions)
	}
	// With one its policy stays, the last one's if there are more; all that was revoked is told again.
	a, b := impl.Rule{Who: "a/a", Method: "get", Path: "/"}, impl.Rule{Deny: true, Who: "b/b", Method: "*", Path: "/**"}
	m = plays(t, after(atEach(impl.ActEnrol, "p/a", "p/b"),
		actAsk("p/a", "p/b", "get", "/", 1), actAsk("p/b", "p/a", "get", "/", 1),
		actPolicy(modelText(a)+"\n"), actPolicy(modelText(b)+"\n"), at(impl.ActRevoke, "p/b"), at(impl.ActRevoke, "p/a"), actPolicy(modelText(a)+"\n")))
	want := []impl.Snapshot{snapshotOf(1, []impl.Rule{a}), snapshotOf(2, []impl.Rule{b}), snapshotOf(3, []impl.Rule{b}, 2), snapshotOf(4, []impl.Rule{b}, 1, 2), snapshotOf(5, []impl.Rule{a}, 1, 2)}
	if !sameVersions(m.Versions, want) {
		t.Error(m.Versions)
	}
}

func TestActPolicy(t *testing.T) {
	for _, text := range append([]string{"x", "\n", "allow a/b get /", "allow a/b get /\n\n", "allow a/b get /\ndeny\n", "allow a/b get / \n", "none", "allow a/b get /+deny a/b get /\n"}, nearTexts...) {
		if text != "" {
			changesNothing(t, []impl.Act{actPolicy(openText), actPolicy(text)}, impl.MeshBad)
			changesNothing(t, []impl.Act{actPolicy(text)}, impl.MeshBad)
		}
	}
	// No rule is a policy, too; rules are told plain.
	m := plays(t, []impl.Act{actPolicy(""), actPolicy("deny b/b get /\nallow z/z get /\nallow a/a get /\nallow z/z get /\n")})
	want := []impl.Rule{{Who: "a/a", Method: "get", Path: "/"}, {Who: "z/z", Method: "get", Path: "/"}, {Deny: true, Who: "b/b", Method: "get", Path: "/"}}
	if !sameVersions(m.Versions, []impl.Snapshot{{Number: 1}, snapshotOf(2, want)}) {
		t.Error(m.Versions)
	}
	// MaxRules and one more, MaxPolicy bytes and one more.
	rule := "allow a/b get /\n"
	plays(t, []impl.Act{actPolicy(strings.Repeat(rule, 30))})
	changesNothing(t, []impl.Act{actPolicy(strings.Repeat(rule, 31))}, impl.MeshBad)
	most := strings.Repeat(modelText(ruleOfLength(49))+"\n", 30)
	if len(most) != impl.MaxPolicy {
		t.Fatal(len(most))
	}
	plays(t, []impl.Act{actPolicy(most)})
	changesNothing(t, []impl.Act{actPolicy(most[:1450] + modelText(ruleOfLength(50)) + "\n")}, impl.MeshBad)
}

// Of more than MaxKept versions the first goes, by a policy and by a revocation.
func TestVersionsOfAMesh(t *testing.T) {
	for n := 18; n <= 24; n++ {
		acts := slices.Repeat([]impl.Act{actPolicy(openText)}, n)
		m := plays(t, acts)
		least := max(1, n-19)
		if len(m.Versions) != min(n, 20) || m.Versions[0].Number != least || m.Versions[len(m.Versions)-1].Number != n {
			t.Error(n, m.Versions)
		}
		m = plays(t, after([]impl.Act{at(impl.ActEnrol, "p/a")}, after(acts[1:], at(impl.ActRevoke, "p/a"))...))
		if len(m.Versions) != min(n, 20) || m.Versions[0].Number != least || m.Versions[len(m.Versions)-1].Number != n {
			t.Error(n, m.Versions)
		}
	}
}

func TestActTick(t *testing.T) {
	for _, n := range []int{1, 2, 99999, 100000} {
		if m := plays(t, []impl.Act{actTick(n)}); !sameMesh(m, impl.Mesh{Now: n, Issuer: impl.Issuer{Next: 1}}) {
			t.Error(n, m)
		}
	}
	for _, n := range []int{0, -1, 100001, 100002, math.MinInt, math.MaxInt, math.MaxInt - 4, math.MinInt + 5, 1 << 32} {
		changesNothing(t, []impl.Act{actTick(n)}, impl.MeshBad)
		changesNothing(t, []impl.Act{actTick(5), actTick(n)}, impl.MeshBad)
	}
	for _, now := range []int{1, 2, 500, 99999, 100000} {
		if now < 100000 {
			if m := plays(t, []impl.Act{actTick(now), actTick(100000 - now)}); m.Now != 100000 {
				t.Error(now, m)
			}
		}
		changesNothing(t, []impl.Act{actTick(now), actTick(100001 - now)}, impl.MeshBad)
		changesNothing(t, []impl.Act{actTick(now), actTick(100000)}, impl.MeshBad)
	}
}

func TestActMail(t *testing.T) {
	acts := after(atEach(impl.ActEnrol, "p/a", "p/b"), actPolicy("allow a/b get /\ndeny b/c put /x\n"))
	// MeshNone goes ahead of MeshBad.
	for _, n := range []int{0, 3, 4, -1, math.MaxInt} {
		changesNothing(t, after(acts, actMail("p/c", n)), impl.MeshNone)
		changesNothing(t, after(acts[:2], actMail("p/a", n)), impl.MeshNone)
		changesNothing(t, []impl.Act{actMail("p/a", n)}, impl.MeshNone)
	}
	for _, name := range notNames {
		changesNothing(t, after(acts, actMail(name, 0)), impl.MeshNone)
	}
	// Four mails: the begin at 0, two rules, the commit at 3.
	for _, n := range []int{-1, 4, 5, math.MinInt, math.MaxInt, 1 << 32} {
		changesNothing(t, after(acts, actMail("p/a", n)), impl.MeshBad)
	}
	rules := []impl.Rule{{Who: "a/b", Method: "get", Path: "/"}, {Deny: true, Who: "b/c", Method: "put", Path: "/x"}}
	sides := []impl.Side{sideWith(nothing, 1, nil, nil), sideWith(nothing, 1, rules[0], nil), sideWith(nothing, 1, rules[0], rules[1]), {Force: snapshotOf(1, rules)}}
	for n, want := range sides {
		acts = after(acts, actMail("p/a", n))
		if m := plays(t, acts); !sameSide(m.Sidecars[0].Side, want) || !sameSide(m.Sidecars[1].Side, impl.Side{}) {
			t.Error(n, m)
		}
	}
	// What is in force is not changed by its own mails; those of the last version count alone.
	for n := range 4 {
		m := plays(t, after(acts, actMail("p/a", n)))
		if !sameSide(m.Sidecars[0].Side, sides[3]) {
			t.Error(n, m)
		}
	}
	acts = after(acts, actPolicy(""))
	for n, code := range []int{0, 0, 1, 1} {
		plays(t, after(acts, actMail("p/a", n)), code)
	}
	if m := plays(t, after(acts, actMail("p/a", 0))); !sameSide(m.Sidecars[0].Side, sideWith(snapshotOf(1, rules), 2)) {
		t.Error(m)
	}
	if m := plays(t, after(acts, actMail("p/a", 0), actMail("p/a", 1))); !sameSide(m.Sidecars[0].Side, impl.Side{Force: snapshotOf(2, nil)}) {
		t.Error(m)
	}
}

func TestActPush(t *testing.T) {
	acts := atEach(impl.ActEnrol, "p/a", "p/b")
	changesNothing(t, after(acts, at(impl.ActPush, "p/a")), impl.MeshNone)
	changesNothing(t, after(acts, actPolicy(openText), at(impl.ActPush, "p/c")), impl.MeshNone)
	for _, name := range notNames {
		changesNothing(t, after(acts, actPolicy(openText), at(impl.ActPush, name)), impl.MeshNone)
	}
	open := []impl.Rule{{Who: "*/*", Method: "*", Path: "/**"}}
	acts = after(acts, actPolicy("allow a/b get /\n"), actMail("p/a", 0), actMail("p/a", 1))
	// A version that was coming in part is whole behind a push; the last one alone is pushed.
	if m := plays(t, after(acts, at(impl.ActPush, "p/a"))); !sameSide(m.Sidecars[0].Side, impl.Side{Force: m.Versions[0]}) || !sameSide(m.Sidecars[1].Side, impl.Side{}) {
		t.Error(m)
	}
	acts = after(acts, actPolicy(openText), at(impl.ActPush, "p/a"))
	m := plays(t, acts)
	if !sameSide(m.Sidecars[0].Side, impl.Side{Force: snapshotOf(2, open)}) {
		t.Error(m)
	}
	if again := plays(t, after(acts, at(impl.ActPush, "p/a"))); !sameMesh(m, again) {
		t.Error(again)
	}
	// As many rules as there may be.
	most := strings.Repeat(modelText(ruleOfLength(49))+"\n", 29) + openText
	m = plays(t, []impl.Act{at(impl.ActEnrol, "p/a"), actPolicy(most), at(impl.ActPush, "p/a")})
	if !sameSide(m.Sidecars[0].Side, impl.Side{Force: m.Versions[0]}) {
		t.Error(m)
	}
}

// filled tells acts that fill the queue at B with asks of A, so that n places are left.
func filled(acts []impl.Act, a, b string, left int) []impl.Act {
	for range impl.MaxQueue - left {
		acts = after(acts, actAsk(a, b, "get", "/", 5))
	}
	return acts
}

// All sets of faults of an ask: the first in the document's order is told, and nothing is issued.
func TestActAskOrder(t *testing.T) {
	for set := range 32 {
		acts := filled(ready(openText, "p/a", "p/b", "p/c"), "p/a", "p/b", 1-set/16)
		act := actAsk("p/c", "p/b", "get", "/", 5)
		code := impl.MeshOk
		if set&16 != 0 {
			code = impl.MeshFull
		}
		if set&8 != 0 {
			act.A, code = "p/d", impl.IssueNone
		}
		if set&4 != 0 {
			act.N, code = -1, impl.IssueBad
		}
		if set&2 != 0 {
			act.Method, code = "*", impl.MeshBad
		}
		if set&1 != 0 {
			act.B, code = "p/d", impl.MeshNone
		}
		if code == impl.MeshOk {
			m := plays(t, after(acts, act))
			if len(m.Sidecars[1].Queue) != 8 || m.Issuer.Next != 9 || len(m.Issuer.Signed) != 8 {
				t.Error(m)
			}
			continue
		}
		changesNothing(t, after(acts, act), code)
	}
}

func TestActAskWrong(t *testing.T) {
	acts := ready(openText, "p/a", "p/b")
	for _, s := range append([]string{"GET", "get ", "post", "getput"}, nearTexts...) {
		changesNothing(t, after(acts, actAsk("p/a", "p/b", s, "/", 5)), impl.MeshBad)
	}
	for _, s := range append([]string{"/x/*", "x", "/x/"}, nearTexts...) {
		if !pathForm.MatchString(s) {
			changesNothing(t, after(acts, actAsk("p/a", "p/b", "get", s, 5)), impl.MeshBad)
		}
	}
	for _, name := range notNames {
		changesNothing(t, after(acts, actAsk(name, "p/b", "get", "/", 5)), impl.IssueBad)
		changesNothing(t, after(acts, actAsk("p/a", name, "get", "/", 5)), impl.MeshNone)
	}
	for _, n := range []int{-1, 100001, math.MinInt, math.MaxInt, 1 << 32} {
		changesNothing(t, after(acts, actAsk("p/a", "p/b", "get", "/", n)), impl.IssueBad)
	}
	// Who is revoked may not ask, but may be asked.
	acts = after(acts, at(impl.ActRevoke, "p/a"))
	changesNothing(t, after(acts, actAsk("p/a", "p/b", "get", "/", 5)), impl.IssueNone)
	if m := plays(t, after(acts, actAsk("p/b", "p/a", "get", "/", 5))); len(m.Sidecars[0].Queue) != 1 {
		t.Error(m)
	}
}

func TestActAskEdges(t *testing.T) {
	acts := after(ready(openText, "p/a", "p/b"), actTick(99000))
	for _, c := range []struct{ life, until int }{{0, 99000}, {1, 99001}, {999, 99999}, {1000, 100000}, {1001, 100000}, {100000, 100000}} {
		m := plays(t, after(acts, actAsk("p/a", "p/b", "put", "/a/b/c/d/e/f", c.life)))
		want := impl.Ask{Token: []impl.Link{linkOf("p/a", "p/b", 1, 99000, c.until)}, Method: "put", Path: "/a/b/c/d/e/f"}
		if len(m.Sidecars[1].Queue) != 1 || !sameAsk(m.Sidecars[1].Queue[0], want) || len(m.Sidecars[0].Queue) != 0 {
			t.Error(c, m)
		}
	}
	// One may ask itself.
	m := plays(t, after(acts, actAsk("p/a", "p/a", "get", "/", 0), at(impl.ActDecide, "p/a")))
	if len(m.Delivered) != 1 || m.Delivered[0].At != "p/a" || m.Delivered[0].Time != 99000 {
		t.Error(m)
	}
}

// delivered tells acts behind which Delivered has two: at p/b from p/a, and at p/c from p/a.
func delivered() []impl.Act {
	return after(ready(openText, "p/a", "p/b", "p/c", "p/d"), actTick(10),
		actAsk("p/a", "p/b", "get", "/", 500), at(impl.ActDecide, "p/b"), actAsk("p/a", "p/c", "put", "/x", 50), at(impl.ActDecide, "p/c"))
}

// All sets of faults of a hop: the first in the document's order is told, and nothing is issued.
func TestActHopOrder(t *testing.T) {
	for set := range 64 {
		acts := filled(delivered(), "p/a", "p/d", 1-set/32)
		act := actHop("p/c", 1, "p/d", "get", "/")
		code := impl.MeshOk
		if set&32 != 0 {
			code = impl.MeshFull
		}
		if set&16 != 0 {
			acts, code = after(acts, actTick(60)), impl.IssueFull
		}
		if set&8 != 0 {
			acts, code = after(acts, at(impl.ActRevoke, "p/c")), impl.IssueNone
		}
		if set&4 != 0 {
			act.Path, code = "/*", impl.MeshBad
		}
		if set&2 != 0 {
			act.N, code = 0, impl.MeshNone
		}
		if set&1 != 0 {
			act.B, code = "p/e", impl.MeshNone
		}
		if code == impl.MeshOk {
			m := plays(t, after(acts, act))
			if len(m.Sidecars[3].Queue) != 8 || m.Issuer.Next != 11 || len(m.Issuer.Signed) != 10 {
				t.Error(m)
			}
			continue
		}
		changesNothing(t, after(acts, act), code)
	}
}

func TestActHopWrong(t *testing.T) {
	acts := delivered()
	for _, n := range []int{-1, 2, 3, math.MinInt, math.MaxInt, 1 << 32} {
		changesNothing(t, after(acts, actHop("p/b", n, "p/d", "get", "/")), impl.MeshNone)
	}
	changesNothing(t, after(ready(openText, "p/a"), actHop("p/a", 0, "p/a", "get", "/")), impl.MeshNone)
	for _, name := range append([]string{"p/a", "p/c", "p/d", "p/e"}, notNames...) {
		changesNothing(t, after(acts, actHop(name, 0, "p/d", "get", "/")), impl.MeshNone)
	}
	for _, name := range notNames {
		changesNothing(t, after(acts, actHop("p/b", 0, name, "get", "/")), impl.MeshNone)
	}
	for _, s := range append([]string{"GET", "get ", "post"}, nearTexts...) {
		changesNothing(t, after(acts, actHop("p/b", 0, "p/d", s, "/")), impl.MeshBad)
		if !pathForm.MatchString(s) {
			changesNothing(t, after(acts, actHop("p/b", 0, "p/d", "get", s)), impl.MeshBad)
		}
	}
	changesNothing(t, after(acts, at(impl.ActRevoke, "p/b"), actHop("p/b", 0, "p/d", "get", "/")), impl.IssueNone)
	// What was handed out to a work that is revoked may be handed on when it is there again.
	plays(t, after(acts, at(impl.ActRevoke, "p/b"), at(impl.ActEnrol, "p/b"), actHop("p/b", 0, "p/d", "get", "/")))
}

func TestActHopEdges(t *testing.T) {
	acts := delivered()
	// A life of 100, but not beyond the link ahead; when that is over there is no hop.
	for _, c := range []struct{ place, tick, until int }{{0, 1, 111}, {0, 400, 510}, {0, 401, 510}, {0, 500, 510}, {1, 1, 60}, {1, 50, 60}} {
		who := []string{"p/b", "p/c"}[c.place]
		m := plays(t, after(acts, actTick(c.tick), actHop(who, c.place, "p/d", "put", "/y")))
		want := impl.Ask{Method: "put", Path: "/y", Token: append(slices.Clone(m.Delivered[c.place].Ask.Token), linkOf(who, "p/d", 3, 10+c.tick, c.until))}
		if q := m.Sidecars[3].Queue; len(q) != 1 || !sameAsk(q[0], want) || !slices.Contains(m.Issuer.Signed, modelTokenText(want.Token)) {
			t.Error(c, m)
		}
	}
	changesNothing(t, after(acts, actTick(501), actHop("p/b", 0, "p/d", "get", "/")), impl.IssueFull)
	changesNothing(t, after(acts, actTick(51), actHop("p/c", 1, "p/d", "get", "/")), impl.IssueFull)
	// N is a place, not a life: the second delivery may be hopped though 1 is a short life.
	if m := plays(t, after(acts, actHop("p/c", 1, "p/d", "get", "/"))); m.Sidecars[3].Queue[0].Token[1].Until != 60 {
		t.Error(m)
	}
}

// A token of MaxLinks links is delivered; it is handed on no more.
func TestActHopMaxLinks(t *testing.T) {
	names := crew(8)
	acts := after(ready(openText, names...), actAsk(names[0], names[1], "get", "/", 50), at(impl.ActDecide, names[1]))
	for i := range 5 {
		acts = after(acts, actTick(1), actHop(names[i+1], i, names[i+2], "get", "/"), at(impl.ActDecide, names[i+2]))
	}
	m := plays(t, acts)
	if len(m.Delivered) != 6 || len(m.Delivered[5].Ask.Token) != 6 {
		t.Fatal(m.Delivered)
	}
	changesNothing(t, after(acts, actHop(names[6], 5, names[7], "get", "/")), impl.IssueFull)
	for i, d := range m.Delivered {
		if len(d.Ask.Token) != i+1 || d.At != names[i+1] || d.Version != 1 || d.Time != i || !impl.PermittedBy(m, d) {
			t.Error(i, d)
		}
	}
}

// All sets of faults of a forged token: the first in the document's order is told.
func TestActForgeOrder(t *testing.T) {
	for set := range 32 {
		acts := filled(ready(openText, "p/a", "p/b"), "p/a", "p/b", 1-set/16)
		act := actForge("p/b", "get", "/", "p/z p/b 9 0 50;")
		code := impl.MeshOk
		if set&16 != 0 {
			code = impl.MeshFull
		}
		if set&8 != 0 {
			act.Path, code = "x", impl.MeshBad
		}
		if set&4 != 0 {
			act.Method, code = "", impl.MeshBad
		}
		if set&2 != 0 {
			act.Text, code = "p/z p/b 9 0 50", impl.MeshBad
		}
		if set&1 != 0 {
			act.B, code = "p/z", impl.MeshNone
		}
		if code == impl.MeshOk {
			ahead, m := plays(t, acts), plays(t, after(acts, act))
			want := impl.Ask{Token: []impl.Link{linkOf("p/z", "p/b", 9, 0, 50)}, Method: "get", Path: "/"}
			if q := m.Sidecars[1].Queue; len(q) != 8 || !sameAsk(q[7], want) || !sameIssuer(ahead.Issuer, m.Issuer) {
				t.Error(m)
			}
			continue
		}
		changesNothing(t, after(acts, act), code)
	}
}

func TestActForgeWrong(t *testing.T) {
	acts := ready(openText, "p/a", "p/b")
	texts := []string{";", "p/z p/b 9 0 50", "p/z p/b 9 0 50;;", "p/z p/b 0 0 50;", "p/z p/b 9 51 50;", "p/z p/b 9 0 100001;", "p/z p/b 09 0 50;", "p/z p/b 9 0 50;p/z p/b 9 0 50;", " p/z p/b 9 0 50;", modelTokenText(chainOf(7))}
	for _, text := range append(texts, nearTexts...) {
		changesNothing(t, after(acts, actForge("p/b", "get", "/", text)), impl.MeshBad)
	}
	for _, s := range append([]string{"GET", "get ", "post"}, nearTexts...) {
		changesNothing(t, after(acts, actForge("p/b", s, "/", "p/z p/b 9 0 50;")), impl.MeshBad)
		if !pathForm.MatchString(s) {
			changesNothing(t, after(acts, actForge("p/b", "get", s, "p/z p/b 9 0 50;")), impl.MeshBad)
		}
	}
	for _, name := range notNames {
		changesNothing(t, after(acts, actForge(name, "get", "/", "p/z p/b 9 0 50;")), impl.MeshNone)
	}
	// A is not asked for.
	act := actForge("p/b", "get", "/", modelTokenText(chainOf(6)))
	act.A, act.N = "nobody", -5
	if m := plays(t, after(acts, act)); !slices.Equal(m.Sidecars[1].Queue[0].Token, chainOf(6)) {
		t.Error(m)
	}
}

// A token forged from a signed text is the one that was signed; from another one it is none.
func TestForgedTokens(t *testing.T) {
	acts := after(ready(openText, "p/a", "p/b", "p/c"), actAsk("p/a", "p/b", "get", "/", 50), at(impl.ActDecide, "p/b"), actHop("p/b", 0, "p/c", "get", "/"))
	one, two := "p/a p/b 1 0 50;", "p/a p/b 1 0 50;p/b p/c 2 0 50;"
	for _, c := range []struct {
		name, text string
		code       int
		note       string
	}{
		{"p/b", one, impl.MeshOk, "0 0 p/a /"},
		{"p/c", two, impl.MeshOk, "0 0 p/a /"},
		{"p/c", one, impl.MeshToken, "6 5 p/a /"},
		{"p/b", two, impl.MeshToken, "6 5 p/a /"},
		{"p/b", "p/a p/b 1 0 51;", impl.MeshToken, "6 2 p/a /"},
		{"p/b", "p/a p/b 2 0 50;", impl.MeshToken, "6 2 p/a /"},
		{"p/c", "p/a p/c 1 0 50;", impl.MeshToken, "6 2 p/a /"},
		{"p/c", "p/b p/c 2 0 50;", impl.MeshToken, "6 2 p/b /"},
		{"p/a", two + "p/c p/a 3 0 50;", impl.MeshToken, "6 2 p/a /"},
		{"p/b", "zz/z p/b 7 0 50;", impl.MeshToken, "6 2 zz/z /"},
	} {
		m := plays(t, after(acts, at(impl.ActCrash, "p/c"), actForge(c.name, "get", "/", c.text), at(impl.ActDecide, c.name)), c.code)
		i := slices.IndexFunc(m.Sidecars, func(s impl.Sidecar) bool { return s.Name == c.name })
		if l := m.Sidecars[i].Log; l[len(l)-1].Note != c.note {
			t.Error(c, l)
		}
		want := 1
		if c.code == impl.MeshOk {
			want = 2
		}
		if len(m.Delivered) != want {
			t.Error(c, m.Delivered)
		}
	}
}

// A Queue of MaxQueue takes no ask, no hop and no forged token, and nothing is issued then; when one goes there is room for one.
func TestQueueEdges(t *testing.T) {
	more := []impl.Act{actAsk("p/a", "p/b", "get", "/", 5), actHop("p/c", 1, "p/b", "get", "/"), actForge("p/b", "get", "/", "p/z p/b 9 0 50;")}
	acts := filled(delivered(), "p/d", "p/b", 0)
	if m := plays(t, acts); len(m.Sidecars[1].Queue) != impl.MaxQueue {
		t.Fatal(m)
	}
	for _, act := range more {
		changesNothing(t, after(acts, act), impl.MeshFull)
		m := plays(t, after(acts, act, at(impl.ActDecide, "p/b"), act, act), impl.MeshFull, 0, 0, impl.MeshFull)
		if len(m.Sidecars[1].Queue) != impl.MaxQueue {
			t.Error(m)
		}
		// Another queue is another one.
		act.B = "p/c"
		plays(t, after(acts, act))
	}
	changesNothing(t, after(acts, slices.Concat(more, more)...), slices.Repeat([]int{impl.MeshFull}, 6)...)
}

// The first that came is decided first.
func TestQueueInOrder(t *testing.T) {
	acts := ready("allow p/a get /a/**\nallow p/b get /b/**\n", "p/a", "p/b", "p/c")
	var asked []string
	for i := range 8 {
		name := []string{"a", "b"}[i/2%2]
		path := fmt.Sprintf("/%s/%d", name, i)
		acts = after(acts, actAsk("p/"+name, "p/c", "get", path, 5))
		asked = append(asked, fmt.Sprintf("0 0 p/%s %s", name, path))
	}
	for n := range 9 {
		m := plays(t, acts)
		c := m.Sidecars[2]
		if len(c.Queue) != 8-n || len(m.Delivered) != n || !slices.Equal(notesOf(c.Log), asked[:n]) {
			t.Error(n, m)
		}
		acts = after(acts, at(impl.ActDecide, "p/c"))
	}
	changesNothing(t, acts, impl.MeshNone)
}

func TestActDecideWrong(t *testing.T) {
	acts := ready(openText, "p/a", "p/b")
	changesNothing(t, after(acts, at(impl.ActDecide, "p/a"), at(impl.ActDecide, "p/c")), impl.MeshNone, impl.MeshNone)
	acts = after(acts, actAsk("p/a", "p/b", "get", "/", 5))
	changesNothing(t, after(acts, at(impl.ActDecide, "p/a")), impl.MeshNone)
	for _, name := range notNames {
		changesNothing(t, after(acts, at(impl.ActDecide, name)), impl.MeshNone)
	}
}

// What a decision leaves behind: the ask is gone and told in the log, whatever the code is; only MeshOk delivers.
func TestActDecide(t *testing.T) {
	long := "/a1b2c3d4/a1b2c3d4/a1b2c3d4/a1b2c3d4/a1b2c3d4/a1b2c3d4"
	who := "a1b2c3d4/z9y8x7w6"
	start := after(atEach(impl.ActEnrol, who, "p/b"), actPolicy("allow a1b2c3d4/* get /**\ndeny */* put /deny\n"))
	for _, c := range []struct {
		acts []impl.Act
		code int
		note string
	}{
		{[]impl.Act{actAsk(who, "p/b", "get", long, 5)}, impl.MeshForce, "4 0 " + who + " " + long},
		{[]impl.Act{actMail("p/b", 0), actAsk(who, "p/b", "get", long, 5)}, impl.MeshForce, "4 0 " + who + " " + long},
		{[]impl.Act{at(impl.ActPush, "p/b"), actPolicy(""), actMail("p/b", 0), actAsk(who, "p/b", "get", long, 5)}, impl.MeshComing, "5 0 " + who + " " + long},
		{[]impl.Act{at(impl.ActPush, "p/b"), actAsk(who, "p/b", "get", long, 5)}, impl.MeshOk, "0 0 " + who + " " + long},
		{[]impl.Act{at(impl.ActPush, "p/b"), actAsk(who, "p/b", "get", long, 5), actTick(5)}, impl.MeshOk, "0 0 " + who + " " + long},
		{[]impl.Act{at(impl.ActPush, "p/b"), actAsk(who, "p/b", "get", long, 5), actTick(6)}, impl.MeshToken, "6 3 " + who + " " + long},
		{[]impl.Act{at(impl.ActPush, "p/b"), actForge("p/b", "get", "/", "p/z p/b 9 0 50;")}, impl.MeshToken, "6 2 p/z /"},
		{[]impl.Act{actAsk(who, "p/b", "get", "/", 5), at(impl.ActRevoke, who), at(impl.ActPush, "p/b")}, impl.MeshToken, "6 4 " + who + " /"},
		{[]impl.Act{at(impl.ActPush, "p/b"), actAsk(who, "p/b", "put", "/deny", 5)}, impl.MeshPolicy, "7 2 " + who + " /deny"},
		{[]impl.Act{at(impl.ActPush, "p/b"), actAsk(who, "p/b", "put", "/", 5)}, impl.MeshPolicy, "7 3 " + who + " /"},
		{[]impl.Act{at(impl.ActPush, "p/b"), actAsk("p/b", "p/b", "get", "/", 5)}, impl.MeshPolicy, "7 3 p/b /"},
	} {
		acts := after(start, c.acts...)
		ahead := plays(t, acts)
		m := plays(t, after(acts, at(impl.ActDecide, "p/b")), c.code)
		side := m.Sidecars[1]
		if len(side.Queue) != 0 || !slices.Equal(side.Log, logOf(c.note)) || !impl.LogsGood(m) {
			t.Error(c, side)
		}
		if !sameIssuer(ahead.Issuer, m.Issuer) || !sameVersions(ahead.Versions, m.Versions) || !sameSide(ahead.Sidecars[1].Side, side.Side) || !sameSidecar(ahead.Sidecars[0], m.Sidecars[0]) {
			t.Error(c, m)
		}
		if c.code != impl.MeshOk {
			if len(m.Delivered) != 0 {
				t.Error(c, m.Delivered)
			}
			continue
		}
		want := impl.Delivery{At: "p/b", Ask: ahead.Sidecars[1].Queue[0], Version: 1, Time: ahead.Now}
		if len(m.Delivered) != 1 || !sameDelivery(m.Delivered[0], want) || !impl.PermittedBy(m, want) {
			t.Error(c, m.Delivered)
		}
	}
}

// What is revoked counts at a sidecar only from when that version is in force there; until then the old one decides, and while it comes nobody does.
func TestRevocationComesToASidecar(t *testing.T) {
	acts := after(ready(openText, "p/a", "p/b"), actAsk("p/a", "p/b", "get", "/", 50), at(impl.ActRevoke, "p/a"))
	token := "p/a p/b 1 0 50;"
	decided := func(acts []impl.Act, codes ...int) {
		t.Helper()
		plays(t, after(acts, at(impl.ActDecide, "p/b")), codes...)
	}
	decided(acts, impl.MeshOk)
	for n := range 2 {
		acts = after(acts, actMail("p/b", n))
		decided(acts, impl.MeshComing)
	}
	decided(after(acts, at(impl.ActCrash, "p/b"), actForge("p/b", "get", "/", token)), impl.MeshOk)
	decided(after(acts, actMail("p/b", 3)), impl.MeshComing)
	acts = after(acts, actMail("p/b", 2))
	decided(acts, impl.MeshComing)
	decided(after(acts, actMail("p/b", 3)), impl.MeshToken)
	decided(after(acts, at(impl.ActPush, "p/b")), impl.MeshToken)
}

// A log has at most 59 records within MaxActs acts: each needs an ask and a decision, and all of them one enrolment.
func TestLogAsLongAsActsAllow(t *testing.T) {
	acts := []impl.Act{at(impl.ActEnrol, "p/b")}
	for range 59 {
		acts = after(acts, actForge("p/b", "get", "/x", "p/z p/b 9 0 50;"), at(impl.ActDecide, "p/b"))
	}
	acts = after(acts, actForge("p/b", "get", "/x", "p/z p/b 9 0 50;"))
	m, codes := played(t, acts)
	if len(acts) != impl.MaxActs || len(m.Sidecars[0].Log) != 59 || len(m.Sidecars[0].Queue) != 1 || codes[118] != impl.MeshForce || !impl.LogsGood(m) {
		t.Error(len(acts), m, codes)
	}
	if !slices.Equal(m.Sidecars[0].Log, logOf(slices.Repeat([]string{"4 0 p/z /x"}, 59)...)) {
		t.Error(m.Sidecars[0].Log)
	}
}

func TestActCrash(t *testing.T) {
	acts := after(delivered(), actAsk("p/a", "p/b", "get", "/", 5), actAsk("p/c", "p/b", "get", "/", 5), actPolicy(""), actMail("p/b", 0))
	ahead := plays(t, acts)
	if c := ahead.Sidecars[1]; len(c.Queue) != 2 || c.Side.Coming != 2 || len(c.Log) != 1 {
		t.Fatal(c)
	}
	want := ahead
	want.Sidecars = slices.Clone(ahead.Sidecars)
	want.Sidecars[1].Queue, want.Sidecars[1].Side = nil, impl.Side{Force: ahead.Versions[0]}
	if m := plays(t, after(acts, at(impl.ActCrash, "p/b"))); !sameMesh(m, want) {
		t.Error(m)
	}
	plays(t, after(acts, at(impl.ActCrash, "p/b"), at(impl.ActDecide, "p/b")), impl.MeshNone)
	// What crashed may crash again, and is asked again; one with nothing in force, nothing coming and nothing waiting crashes, too.
	if m := plays(t, after(acts, at(impl.ActCrash, "p/b"), at(impl.ActCrash, "p/b"))); !sameMesh(m, want) {
		t.Error(m)
	}
	plays(t, after(acts, at(impl.ActCrash, "p/b"), actHop("p/b", 0, "p/b", "get", "/"), at(impl.ActDecide, "p/b")))
	plays(t, []impl.Act{at(impl.ActEnrol, "p/a"), at(impl.ActCrash, "p/a")})
	// The door that a version shut is open again, though nobody waits there any more.
	m := plays(t, after(delivered(), actPolicy(""), actMail("p/b", 0), at(impl.ActCrash, "p/b"), actAsk("p/a", "p/b", "get", "/", 5), at(impl.ActDecide, "p/b")))
	if len(m.Delivered) != 3 || m.Delivered[2].Version != 1 {
		t.Error(m.Delivered)
	}
	for _, name := range append([]string{"p/e", "p/bb"}, notNames...) {
		changesNothing(t, after(acts, at(impl.ActCrash, name)), impl.MeshNone)
	}
}
