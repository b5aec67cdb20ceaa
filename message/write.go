package message

import (
	"strings"

	"noria/api"
	"noria/resource"
	"noria/wire"
)

// The Nums of the fields of a Req, and of a Have in it.
const (
	reqType   = 1
	reqDelta  = 2
	reqNonce  = 3
	reqSub    = 4
	reqUnsub  = 5
	reqHave   = 6
	reqDetail = 7

	haveName = 1
	haveSeq  = 2
)

// The Nums of the fields of a Resp.
const (
	respType      = 1
	respDelta     = 2
	respNonce     = 3
	respVersion   = 4
	respResources = 5
	respRemoved   = 6
	respMore      = 7
)

// The Num of the field of a Ping.
const pingNumber = 1

// The Nums of the fields of a Status.
const (
	statusType   = 1
	statusName   = 2
	statusSeq    = 3
	statusOK     = 4
	statusDetail = 5
)

// message is one that grows: of those fields alone that are not 0, false, or empty.
type message struct{ strings.Builder }

// begun is a message of that Kind that has no fields yet.
func begun(kind byte) *message {
	m := &message{}
	m.WriteByte(kind)
	return m
}

func writeReq(r Req) string {
	m := begun(kindReq)
	m.number(reqType, uint64(r.Type))
	m.flag(reqDelta, r.Delta)
	m.number(reqNonce, r.Nonce)
	m.texts(reqSub, r.Sub)
	m.texts(reqUnsub, r.Unsub)
	for _, h := range r.Have {
		m.text(reqHave, writeHave(h))
	}
	m.text(reqDetail, r.Detail)
	return m.String()
}

func writeHave(h Have) string {
	var m message
	m.text(haveName, h.Name)
	m.number(haveSeq, h.Seq)
	return m.String()
}

func writeResp(r Resp) string {
	m := begun(kindResp)
	m.number(respType, uint64(r.Type))
	m.flag(respDelta, r.Delta)
	m.number(respNonce, r.Nonce)
	m.number(respVersion, r.Version)
	for _, x := range r.Resources {
		m.resource(x)
	}
	m.texts(respRemoved, r.Removed)
	m.flag(respMore, r.More)
	return m.String()
}

func writePing(n uint64) string {
	m := begun(kindPing)
	m.number(pingNumber, n)
	return m.String()
}

func writeStatus(s Status) string {
	m := begun(kindStatus)
	m.number(statusType, uint64(s.Key.Type))
	m.text(statusName, s.Key.Name)
	m.number(statusSeq, s.Seq)
	m.flag(statusOK, s.OK)
	m.text(statusDetail, s.Detail)
	return m.String()
}

func (m *message) number(num int, n uint64) {
	if n != 0 {
		m.WriteString(wire.Number(num, n))
	}
}

func (m *message) flag(num int, is bool) {
	if is {
		m.number(num, 1)
	}
}

func (m *message) text(num int, s string) {
	if s != "" {
		m.WriteString(wire.Text(num, s))
	}
}

func (m *message) texts(num int, l []string) {
	for _, s := range l {
		m.text(num, s)
	}
}

func (m *message) resource(r api.Resource) {
	// All of a Resp that is right are right: none is refused here.
	s, _ := resource.Put(r)
	m.text(respResources, s)
}
