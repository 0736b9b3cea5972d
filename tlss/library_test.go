package tlss_test

import (
	"encoding/hex"
	"testing"

	"pendulum/api"
	"pendulum/tlsc"
	"pendulum/tlss"
)

// recorded is what a client of Go's own library said to a server's end of this package, whose certificate it trusted, and what it made of what that said: the server says the same each time, so that the talk can be had again. (The client's code was altered to offer what chapter 14's HsClient has alone. Its first record's version was written as the others', and a record that is said for whatever stands between was left away.)
type recorded struct {
	leaf, hello, finish, data                    string
	keysClient, keysServer, appClient, appServer string
	heard, exported                              string
}

func record(t *testing.T) recorded {
	t.Helper()
	of := func(s string) string {
		out, err := hex.DecodeString(s)
		if err != nil {
			t.Fatal(err)
		}
		return string(out)
	}
	return recorded{
		leaf: of("3082012a3081d1a003020102020109300a06082a8648ce3d040302300c310a300806035504030c01723022180f31393730303130313030303134305a180f3139" +
			"3730303130313030313634305a300c310a300806035504030c01733059301306072a8648ce3d020106082a8648ce3d030107034200047cf27b188d034f7e8a52" +
			"380304b51ac3c08969e277f21b35a60b48fc4766997807775510db8ed040293d9ac69f7430dbba7dade63ce982299e04b79d227873d1a320301e300c0603551d" +
			"130101ff04023000300e0603551d11040730058203782e61300a06082a8648ce3d040302034800304502203ed113b7883b4c590638379db0c21cda16742ed025" +
			"5048bf433391d374bc21d1022100a0de2be18cdf35ef9fb50b898689f77d987963c07d5c7c652c1deb8b7d50566b"),
		hello: of("16030300aa010000a603034d0790daa9526f4c0899fee69d167f635560dff700f3183890d773df6081cf5f2034d04867a13dbf405746edc48731222c836c61ce" +
			"178e5157fc9aba3d00dbf30e000213010100005b000000080006000003782e61000a00040002001d000d0004000204030010000a0008076e74736b652f31002b" +
			"0003020304003300260024001d002032999a282583e6a0f3a1353a07c8bf72ac62a9b78128ac32b852b739d7cfd92a"),
		finish:     of("17030300359667be097cab10b83524f1c5d9d22d13b8b9c63aec69886d793d3c6d381dbbb57f5e80a6d553b90dd242f6ad1804cda872b8632b61"),
		data:       of("1703030015fa1ddab7ddc553844e08f2f6125c0866c400f33ee1"),
		keysClient: of("ba028827cf14aacd525f1c46c72d2dafedc6e0b0f100ed8cd1fa54b681399d92"),
		keysServer: of("5b5b9d57a29b5433292a6f5c9bc30f766d8964bade32d99c868df6874c945390"),
		appClient:  of("7d4bdf69897a03166095c895b60b7011ba7e28b912024766f7f83799e79ffcd3"),
		appServer:  of("4e45595eb66e3edaa455db2ac3d4bf4f66d3b88185953bf55eaea8633463e504"),
		heard:      of("1703030015071bdd901b89ec8eec36fb3e6cb7991db2ef28b631"),
		exported:   of("24d72c877fa9d7d22352eb976d7be8a9415f7eb0eea68ccc3c536ec1823d3e6d"),
	}
}

// P17.1, P17.2, P17.4: a client of Go's own library takes what a server's end says, and both have the same secrets, hear each other, and export the same.
func TestLibraryClient(t *testing.T) {
	r := record(t)
	if got := certified(t, leaf(t), rootSecret()); got != r.leaf {
		t.Errorf("the certificate is %s", hexed(got))
	}
	x, e := tlss.Listen([]string{r.leaf}, serverSecret(), api.Num{12345}, drawn(5, 32), drawn(4, 32))
	if e != api.OK {
		t.Fatal(e)
	}
	x, said, _ := hold(t, x, r.hello)
	if x.State != api.TsHand || said == "" || x.Name != host || len(x.Session) != 32 {
		t.Fatalf("the library's hello: the state %d, %v", x.State, x.Why)
	}
	x, _, _ = hold(t, x, r.finish)
	if x.State != api.TsOpen {
		t.Fatalf("the library's end of the handshake: the state %d, %v", x.State, x.Why)
	}
	if x.Keys.Client != r.keysClient || x.Keys.Server != r.keysServer || x.App.Client != r.appClient || x.App.Server != r.appServer {
		t.Error("the secrets are not the library's")
	}
	x, _, told := hold(t, x, r.data)
	if told != "tick" || x.State != api.TsOpen {
		t.Errorf("the library's data: told %s, the state %d, %v", hexed(told), x.State, x.Why)
	}
	if _, said, e := tlsc.Send(x, "tock"); e != api.OK || said != r.heard {
		t.Errorf("Send says %s, %v; the library heard %s", hexed(said), e, hexed(r.heard))
	}
	if got, e := tlsc.Export(x, "EXPORTER-network-time-security", "\x00\x00\x00\x0f\x00", 32); e != api.OK || got != r.exported {
		t.Errorf("Export tells %s, %v; the library's is %s", hexed(got), e, hexed(r.exported))
	}
}
