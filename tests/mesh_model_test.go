package tests

import (
	"fmt"
	"slices"
	"strings"
	"testing"

	"loop.example/g00167/impl"
)

// The model keeps sidecars by their name in a map, and their logs as notes alone; it leans on the models of the chapters ahead and calls nothing of the program.

type carModel struct {
	side  impl.Side
	queue []impl.Ask
	notes []string
}

type meshModel struct {
	now       int
	issuer    impl.Issuer
	versions  []impl.Snapshot
	names     []string
	cars      map[string]*carModel
	delivered []impl.Delivery
}

func newMeshModel() *meshModel {
	return &meshModel{issuer: impl.Issuer{Next: 1}, cars: map[string]*carModel{}}
}

func (m *meshModel) told() impl.Mesh {
	mesh := impl.Mesh{Now: m.now, Issuer: m.issuer, Versions: m.versions, Delivered: m.delivered}
	for _, name := range m.names {
		c := m.cars[name]
		mesh.Sidecars = append(mesh.Sidecars, impl.Sidecar{Name: name, Side: c.side, Queue: c.queue, Log: logOf(c.notes...)})
	}
	return mesh
}

func modelPlay(acts []impl.Act) (impl.Mesh, []int, bool) {
	if len(acts) > 120 {
		return impl.Mesh{}, nil, false
	}
	m := newMeshModel()
	var codes []int
	for _, a := range acts {
		codes = append(codes, m.act(a))
	}
	return m.told(), codes, true
}

func (m *meshModel) act(a impl.Act) int {
	switch a.Kind {
	case 1:
		return m.enrol(a.A)
	case 2:
		return m.revoke(a.A)
	case 3:
		rules, ok := modelReadPolicy(a.Text)
		if !ok {
			return 1
		}
		return m.put(rules, m.issuer)
	case 4:
		if a.N < 1 || a.N > 100000 || a.N > 100000-m.now {
			return 1
		}
		m.now += a.N
		return 0
	case 5, 6:
		return m.bring(a)
	case 7, 8, 9:
		return m.request(a)
	case 10:
		return m.decide(a.A)
	case 11:
		c := m.cars[a.A]
		if c == nil {
			return 2
		}
		c.side, c.queue = impl.Side{Force: c.side.Force}, nil
		return 0
	}
	return 1
}

func (m *meshModel) enrol(name string) int {
	got := modelEnrol(m.issuer, name)
	if got.code != 0 {
		return got.code
	}
	if m.cars[name] == nil {
		if len(m.cars) >= 10 {
			return 3
		}
		m.cars[name], m.names = &carModel{}, append(m.names, name)
	}
	m.issuer = got.s
	return 0
}

func (m *meshModel) revoke(name string) int {
	got := modelRevoke(m.issuer, name)
	if got.code != 0 {
		return got.code
	}
	var rules []impl.Rule
	for _, s := range m.versions {
		rules = s.Policy
	}
	return m.put(rules, got.s)
}

func (m *meshModel) put(rules []impl.Rule, issuer impl.Issuer) int {
	versions, ok := modelPut(m.versions, rules, issuer.Revoked)
	if !ok {
		return 3
	}
	m.versions, m.issuer = versions, issuer
	return 0
}

// bring is a mail or a push of the last version.
func (m *meshModel) bring(a impl.Act) int {
	c := m.cars[a.A]
	if c == nil || len(m.versions) == 0 {
		return 2
	}
	last := m.versions[len(m.versions)-1]
	if a.Kind == 6 {
		c.side, _, _ = modelPush(c.side, last, nil, 2)
		return 0
	}
	mails, _ := modelMails(last)
	if a.N < 0 || a.N > len(mails)-1 {
		return 1
	}
	c.side, _ = modelTake(c.side, mails[a.N])
	return 0
}

// request is an ask, a hop or a forged token: what is asked of all of them stands once.
func (m *meshModel) request(a impl.Act) int {
	c := m.cars[a.B]
	hops := a.Kind == 8
	if c == nil || hops && (a.N < 0 || a.N >= len(m.delivered) || m.delivered[a.N].At != a.A) {
		return 2
	}
	forged, reads := modelLinks(a.Text)
	if !modelGoodRequest(a.Method, a.Path) || a.Kind == 9 && !reads {
		return 1
	}
	got := issuerAnswer{s: m.issuer, l: forged}
	switch a.Kind {
	case 7:
		got = modelIssue(m.issuer, a.A, a.B, m.now, a.N)
	case 8:
		got = modelHop(m.issuer, m.delivered[a.N].Ask.Token, a.B, m.now, 100)
	}
	if got.code != 0 {
		return got.code
	}
	if len(c.queue) >= 8 {
		return 3
	}
	m.issuer = got.s
	c.queue = append(c.queue, impl.Ask{Token: got.l, Method: a.Method, Path: a.Path})
	return 0
}

func (m *meshModel) decide(name string) int {
	c := m.cars[name]
	if c == nil || len(c.queue) == 0 {
		return 2
	}
	if len(c.notes) >= 60 {
		return 3
	}
	ask := c.queue[0]
	c.queue = slices.Delete(slices.Clone(c.queue), 0, 1)
	code, detail := modelDecideAsk(c.side, ask, m.issuer.Signed, m.now, name)
	c.notes = append(c.notes, fmt.Sprintf("%d %d %s %s", code, detail, ask.Token[0].Who, ask.Path))
	if code == 0 {
		m.delivered = append(m.delivered, impl.Delivery{At: name, Ask: ask, Version: c.side.Force.Number, Time: m.now})
	}
	return code
}

func modelGoodRequest(method, path string) bool {
	return (method == "get" || method == "put") && pathForm.MatchString(path)
}

func modelReadPolicy(text string) ([]impl.Rule, bool) {
	var rules []impl.Rule
	for _, line := range strings.SplitAfter(text, "\n") {
		if line == "" {
			continue // what SplitAfter tells behind the last byte 10
		}
		line, ended := strings.CutSuffix(line, "\n")
		if !ended || !ruleForm.MatchString(line) {
			return nil, false
		}
		words := strings.Split(line, " ")
		rules = append(rules, impl.Rule{Deny: words[0] == "deny", Who: words[1], Method: words[2], Path: words[3]})
	}
	return rules, len(text) <= 1500 && len(rules) <= 30
}

func modelDecideAsk(s impl.Side, a impl.Ask, signed []string, now int, at string) (int, int) {
	if !modelGoodSide(s) || !modelGoodRequest(a.Method, a.Path) {
		return 1, 0
	}
	if s.Force.Number == 0 {
		return 4, 0
	}
	if s.Coming != 0 {
		return 5, 0
	}
	if code := modelCheck(a.Token, signed, now, s.Force.Revoked, at); code != 0 {
		return 6, code
	}
	var decisions []int
	for _, k := range a.Token {
		decision, _ := modelDecide(s.Force.Policy, impl.Call{Who: k.Who, Method: a.Method, Path: a.Path})
		decisions = append(decisions, decision)
	}
	last := len(decisions) - 1
	if slices.Contains(decisions[:last], 2) {
		return 7, 2
	}
	if decisions[last] != 1 {
		return 7, decisions[last]
	}
	return 0, 0
}

func modelFits(m impl.Mesh) bool {
	return len(m.Sidecars) <= 10 && len(m.Delivered) <= 240
}

func modelLogsGood(m impl.Mesh) bool {
	return modelFits(m) && !slices.ContainsFunc(m.Sidecars, func(c impl.Sidecar) bool { return !modelGoodLog(c.Log) })
}

func modelDeliveredAt(m impl.Mesh, name string) ([]impl.Delivery, bool) {
	if !modelFits(m) {
		return nil, false
	}
	return slices.DeleteFunc(slices.Clone(m.Delivered), func(d impl.Delivery) bool { return d.At != name }), true
}

func modelPermitted(m impl.Mesh, d impl.Delivery) bool {
	i := slices.IndexFunc(m.Versions, func(s impl.Snapshot) bool { return s.Number == d.Version })
	if i < 0 || !modelFits(m) {
		return false
	}
	code, _ := modelDecideAsk(impl.Side{Force: m.Versions[i]}, d.Ask, m.Issuer.Signed, d.Time, d.At)
	return code == 0
}

func sameAsk(a, b impl.Ask) bool {
	return slices.Equal(a.Token, b.Token) && a.Method == b.Method && a.Path == b.Path
}

func sameSidecar(a, b impl.Sidecar) bool {
	return a.Name == b.Name && sameSide(a.Side, b.Side) && slices.EqualFunc(a.Queue, b.Queue, sameAsk) && slices.Equal(a.Log, b.Log)
}

func sameDelivery(a, b impl.Delivery) bool {
	return a.At == b.At && sameAsk(a.Ask, b.Ask) && a.Version == b.Version && a.Time == b.Time
}

func sameMesh(a, b impl.Mesh) bool {
	return a.Now == b.Now && sameIssuer(a.Issuer, b.Issuer) && sameVersions(a.Versions, b.Versions) &&
		slices.EqualFunc(a.Sidecars, b.Sidecars, sameSidecar) && slices.EqualFunc(a.Delivered, b.Delivered, sameDelivery)
}

// played asks for a mesh and holds it, its codes and what is told of it against the model's.
func played(t *testing.T, acts []impl.Act) (impl.Mesh, []int) {
	t.Helper()
	m, codes, ok := impl.PlayMesh(acts)
	want, asked, is := modelPlay(acts)
	if ok != is || !slices.Equal(codes, asked) || !sameMesh(m, want) {
		t.Fatalf("PlayMesh(%s) = %s, %v, %v; asked: %s, %v", short(acts), short(m), codes, ok, short(want), asked)
	}
	return m, codes
}

// plays asks that the last acts tell these codes, and all ahead of them MeshOk.
func plays(t *testing.T, acts []impl.Act, codes ...int) impl.Mesh {
	t.Helper()
	m, got := played(t, acts)
	want := append(make([]int, len(acts)-len(codes)), codes...)
	if !slices.Equal(got, want) {
		t.Errorf("%s: %v; asked: %v", short(acts), got, want)
	}
	return m
}

// at tells an act that names a sidecar alone.
func at(kind int, name string) impl.Act {
	return impl.Act{Kind: kind, A: name}
}

func atEach(kind int, names ...string) []impl.Act {
	var acts []impl.Act
	for _, name := range names {
		acts = append(acts, at(kind, name))
	}
	return acts
}

func actPolicy(text string) impl.Act {
	return impl.Act{Kind: impl.ActPolicy, Text: text}
}

func actTick(n int) impl.Act {
	return impl.Act{Kind: impl.ActTick, N: n}
}

func actMail(name string, n int) impl.Act {
	return impl.Act{Kind: impl.ActMail, A: name, N: n}
}

func actAsk(a, b, method, path string, n int) impl.Act {
	return impl.Act{Kind: impl.ActAsk, A: a, B: b, N: n, Method: method, Path: path}
}

func actHop(a string, n int, b, method, path string) impl.Act {
	return impl.Act{Kind: impl.ActHop, A: a, B: b, N: n, Method: method, Path: path}
}

func actForge(b, method, path, text string) impl.Act {
	return impl.Act{Kind: impl.ActForge, B: b, Method: method, Path: path, Text: text}
}

// after tells acts behind others, as a list of its own.
func after(acts []impl.Act, more ...impl.Act) []impl.Act {
	return slices.Concat(acts, more)
}

const openText = "allow */* * /**\n"

// ready tells acts that enrol these names, and bring a policy to each.
func ready(policy string, names ...string) []impl.Act {
	return slices.Concat([]impl.Act{actPolicy(policy)}, atEach(impl.ActEnrol, names...), atEach(impl.ActPush, names...))
}
