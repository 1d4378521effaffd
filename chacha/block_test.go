package chacha_test

import (
	"bytes"
	"testing"

	"coffret/api"
	"coffret/chacha"
	"coffret/sample"
)

// P4.1: the examples of RFC 8439, 2.3.2 and A.1.
func TestBlockOfPublishedExamples(t *testing.T) {
	for _, c := range []struct {
		k     api.Key
		n     chacha.Nonce
		count uint32
		block string
	}{
		{counted(), chacha.Nonce{3: 9, 7: 0x4a}, 1, "10f1e7e4d13b5915500fdd1fa32071c4c7d1f4c733c068030422aa9ac3d46c4ed2826446079faa0914c2d705d98b02a2b5129cd1de164eb9cbd083e8a2503c4e"},
		{api.Key{}, chacha.Nonce{}, 0, "76b8e0ada0f13d90405d6ae55386bd28bdd219b8a08ded1aa836efcc8b770dc7da41597c5157488d7724e03fb8d84a376a43b8f41518a11cc387b669b2ee6586"},
		{api.Key{}, chacha.Nonce{}, 1, "9f07e7be5551387a98ba977c732d080dcb0f29a048e3656912c6533e32ee7aed29b721769ce64e43d57133b074d839d531ed1f28510afb45ace10a1f4b794d6f"},
		{api.Key{31: 1}, chacha.Nonce{}, 1, "3aeb5224ecf849929b9d828db1ced4dd832025e8018b8160b82284f3c949aa5a8eca00bbb4a73bdad192b5c42f73f2fd4e273644c8b36125a64addeb006c13a0"},
		{api.Key{1: 0xff}, chacha.Nonce{}, 2, "72d54dfbf12ec44b362692df94137f328fea8da73990265ec1bbbea1ae9af0ca13b25aa26cb4a648cb9b9d1be65b2c0924a66c54d545ec1b7374f4872e99f096"},
		{api.Key{}, chacha.Nonce{11: 2}, 0, "c2c64d378cd536374ae204b9ef933fcd1a8b2288b3dfa49672ab765b54ee27c78a970e0e955c14f3a88e741b97c286f75f8fc299e8148362fa198a39531bed6d"},
	} {
		if got := chacha.Block(c.k, c.n, c.count); hex(got[:]) != c.block {
			t.Errorf("Block of %x, %x, %d: %x, want %s", c.k, c.n, c.count, got, c.block)
		}
	}
}

// P4.1: keys, nonces and counts of zeros, of ones in every bit, and of others, from another program.
func TestBlockAtEdges(t *testing.T) {
	for _, c := range []struct {
		k     api.Key
		n     chacha.Nonce
		count uint32
		block string
	}{
		{api.Key{}, chacha.Nonce{}, 0, "76b8e0ada0f13d90405d6ae55386bd28bdd219b8a08ded1aa836efcc8b770dc7da41597c5157488d7724e03fb8d84a376a43b8f41518a11cc387b669b2ee6586"},
		{api.Key{}, chacha.Nonce{}, 1, "9f07e7be5551387a98ba977c732d080dcb0f29a048e3656912c6533e32ee7aed29b721769ce64e43d57133b074d839d531ed1f28510afb45ace10a1f4b794d6f"},
		{api.Key{}, chacha.Nonce{}, 0x7fffffff, "10044ff03c4fe3ec3db7f8a4929a4580ba76fdfac26d7aae1c6522fec4bd83099f7d52afa1ebe144308110833fbf5fa55b68393134574ffd29bd144d4056518a"},
		{api.Key{}, chacha.Nonce{}, 0x80000000, "7a73bf222d4c436578ea504cf5cc10c51e0c4c80acdc5febcfeb046e5f3616a3d7ec4e3c0cc9c6f4c81a286439c8376d0416488b50f5d2f2812668bdb4f696e1"},
		{api.Key{}, chacha.Nonce{}, 0xff000000, "40d7854f4c36eeff811bbdbb1ce7c643a0ba0435f5bc6e28dc968f63ae35303c3b289e549c0659822b8470f2ef8ddc9f34ce3b60d54df7e80c60ec948fe1a4f5"},
		{api.Key{}, chacha.Nonce{}, 0xffffffff, "ace4cd09e294d1912d4ad205d06f95d9c2f2bfcf453e8753f128765b62215f4d92c74f2f626c6a640c0b1284d839ec81f1696281dafc3e684593937023b58b1d"},
		{api.Key{}, onesNonce(), 0, "4c7ac8d76b06506f9948ba673b2a8e6fa5a7acee3e5efe4755ec7fb58634ec768d8433746cac2d91b5c4ee322c5d6b1aa546862651beac88fec91e4114546950"},
		{api.Key{}, onesNonce(), 1, "bece28efa4d7461f55093eaf4330c907d85cfc6956899314a4e2a6fd85e0ddd7ccec9bc9d866dd956e92e7d3d4c93b0c29b2bcc5512d2ec9fc860685d6056d3d"},
		{api.Key{}, onesNonce(), 0x7fffffff, "c2298c03eff6c4841292765e6b9ec34c1330294453628bcaac8a6a9aeeed21f48618c9cac78752f51abe778438b39bdc8ff2fec253a12e5c111af620cf4689df"},
		{api.Key{}, onesNonce(), 0x80000000, "22b1eb4ce96549f93da87baf741358b559a193ddb0a31b3a87e0e63e2a9ba07d02f5f0c45c9e5235068fa689deb5b3f30d55f0c89a25431bbe4524eedee5791c"},
		{api.Key{}, onesNonce(), 0xff000000, "92ed16eab05b0c2d3aed3a1876adc88084a38208bff4b9995e3791bf796660f2988c74c70fc2643d289967732cf91a0a886b1a97b2d28061042b6f64123746ab"},
		{api.Key{}, onesNonce(), 0xffffffff, "943220af6f2fed168a3e27665a64188e35934fb58d13e9af615c65d4bd8d46673b4331c2cd812bdf81e9a586d35ee87cf68b0b68b7e27be323cf67fdbfe96c4b"},
		{api.Key{}, someNonce(), 0, "9bee1386f59f15310ba95c272f4b2ff4e5a741c0df8ec3eeab34e135bf40fc35ce86857ffc8919c07b5181441ed31a07ec5d1e10f73031933ac34aef6d87093b"},
		{api.Key{}, someNonce(), 1, "c63a74c8c6df8590f5080d124ffa496c9a32c29d235aae029ea3f44dcfdc2344aabe4ae91233f03feab7491642ac500ee21ded6b7c2c89d8da60ccdd5f34fac1"},
		{api.Key{}, someNonce(), 0x7fffffff, "c18b916771dd82df862c5ddc1858b5f3a58b159d580e625c4172ddce02953e6bc68c63b90d9e3cd656fa54ff44f5ed9a77b8d7f4327596573a16afeb97d18f0b"},
		{api.Key{}, someNonce(), 0x80000000, "5cb5326c6f2c5d46098ace10e52eb3fb451c2d3479b4748cc50bf06c6facc6ce0c9fd9c4c22174deddc61989d872279b6c31029b65269ba40f18ac9a6a5e72cb"},
		{api.Key{}, someNonce(), 0xff000000, "2ac011d312890b6878a5a77cbe4f5842d50406fc4d2315b5a81b1e0c1dd5e55f580f3f8b51bfd494e80bb4739c50670a903d0499f1aa704810e32c670bff0b5f"},
		{api.Key{}, someNonce(), 0xffffffff, "a331a7110dc7adf213eee534497f39a91378e0e12c76306123818e20164d1b97707a6c08afbf9668068fcacae4915042d3567d2568a1aaa03ecd36992709af93"},
		{onesKey(), chacha.Nonce{}, 0, "f6b898412f4ab061943167c1e23efaa2ba98e345a093f0b06da13bffdbd4b2c766dd107034b4582a2ef42c5e1ea475f2fea477a10a9f1d75b3635243b2506b32"},
		{onesKey(), chacha.Nonce{}, 1, "2f8b53541ed20ddaa5dea1b78f1fc08446de1f93b0e07080f7f2ee9be681e43ff2b916c8b1bf6123854d2fca5384f128199f7a1b2f847316481429b4b35238cc"},
		{onesKey(), chacha.Nonce{}, 0x7fffffff, "cb255bb7d7e3f0e91d9337c49c9277eb9de8e76100c65b2b8d233cf05ec73742c9f83016a412f2ece934dbbdc085bd2cb8fcf735e846240d88a68d03887f8e13"},
		{onesKey(), chacha.Nonce{}, 0x80000000, "3373eb027d095ccc6fa7aa5c2948da294130dcf6ca5235ec75b4dd9cb43436abe8098f7971e3a71dea504ddd4e20a9537b52546f432c4e9a59d95fb2864d7a5f"},
		{onesKey(), chacha.Nonce{}, 0xff000000, "3524d3865ef533ab5473398cfcbce6d0fb638445c57f29b92986d8c0f62cc087ec99e02ecf51f7bdbf850bcb0dd26296209cce1f8c50067244823d678f7d2f3b"},
		{onesKey(), chacha.Nonce{}, 0xffffffff, "0128cce1088c30077725485a23579c387fb1f4f1379c47466718a758e8eb88869e68a983c35eebc42726391f68325a7e06a63f85ee0ed9472b8f3e38580227f2"},
		{onesKey(), onesNonce(), 0, "d6e63495eafed7fc3bf8e7c419fa77be8234a6a49df517ebab06c8f65d9f7a17d3a64d4b97c911e6995b65c79336220cb63b703e25d3d45f5fee90a37bbe0535"},
		{onesKey(), onesNonce(), 1, "dd27403cec1ebe4296d37d313887a4d6a072251f72443b65d214aba1075c6acb273f4254dadef8fa97521fbfa2ab11430132caedd34aecc26ce09b8dd1facadd"},
		{onesKey(), onesNonce(), 0x7fffffff, "ed9c11482edbddfcc1e78af4ce5b7ec01eba21b51a393361ad0a5bf733f0c0432870d7d8966367c1b37129e63b5d05f21d6b2e6a95c669b95abd59aa4d8a75dd"},
		{onesKey(), onesNonce(), 0x80000000, "cc0f55f09878471bdf93880d15edbb04166e4f50e86c52b0f8ca39a27e3889ec123b29d24fe033c08a003aaa9d74e2204f85e182526d369a66b84e9e95a94e1a"},
		{onesKey(), onesNonce(), 0xff000000, "5d1ae87457d94f16ca3af644b0f100b8c0ebf9eb17f78fb2c1f2962aae13b95c64998d5ff9fceb405313541c94fb4757de366e35aef1f6100a3327ff6bc3b69f"},
		{onesKey(), onesNonce(), 0xffffffff, "d72b21cfa4b6b0c41d61f62b8a11159c6a4f63bc56c2035796c7ad37811121bbec56d54a530f3a933dd28a50feb23bfaf64f405be985f3718bdf4683e96be749"},
		{onesKey(), someNonce(), 0, "2a99c726da22d304aad40bc485ee6a2e89fc6d43e68af192d125b36e287ca42fb939d5a1a593ad6ad0d0af6542d10a0076a23baacc1d3a8d4758da63abac7fe3"},
		{onesKey(), someNonce(), 1, "69934665c2526393036e4d753e70cdcece8a77facaecd6f0d3e0ab9ba74ca7f6bca279494ae0f35b64bbc0b39dfc2eef36131c355423727b0128de4ae0793422"},
		{onesKey(), someNonce(), 0x7fffffff, "9b7fcbd99c095d7aa0fef2a0ac5b54c6d45736d9d05a42d2df1de2e03cd1951d7b53a45b700df852cc164b9c7111c8e5723f89ea3d1e8e75be732e73830cce51"},
		{onesKey(), someNonce(), 0x80000000, "8b19dec5b4bc2bd88519aa50e64ad906a6f0c722e705d035d3f6250848a9108c1f64e01132053885cf81926b15e37e02ffcc2a09a4c312b4d754c6826923b224"},
		{onesKey(), someNonce(), 0xff000000, "f8195ca444a06cef6ac1dc6e367f501c508f17c37899cef9b1429389422230d1f88b5f4dd308defcc747c6738ac7e04c5bbcc6a730c3ed94939fbe48400ff278"},
		{onesKey(), someNonce(), 0xffffffff, "1cc3026568e27a9526312980d31eabdc0006455821453e6fed2b5c7a670ccd884ddc48bbf539ba5c772fbff43d6d217babc5b26f2bc37d6d08323f002ebb2bb0"},
		{someKey(), chacha.Nonce{}, 0, "7a54c09c1d27b11a193beb07387ac35bac93ff795f093b4522afa1c6da6bd62b98b08b2d1b31fbc85a16b8afa5ce913dc801eb28b071c4cfffd4bcd95ea3ac0c"},
		{someKey(), chacha.Nonce{}, 1, "dc77fd6a5b0079008ab0f8192c48c10223255c95cff5ee8d022e2030413996fa81c4afa0f38958e4de87b9fb1afb32966d95ea83db797563ea5aa234df96bb10"},
		{someKey(), chacha.Nonce{}, 0x7fffffff, "a85180472615eecd9a16dca50b587a7c36cdb7e28512fb57d2c324bfe8ff40211fdd8d392d422edb04e78d015c148a3528136eb4e65d8d6a6a381b7166e1e89f"},
		{someKey(), chacha.Nonce{}, 0x80000000, "dfa5b4894b7b8c80fd1ae983f2445dcb39f17ea94a3a8d35304471fbcd8b624bd724181a2a5c5b3d0f3d07040ca99b6b3fa43127acd43bd91be0e8aaf09c7238"},
		{someKey(), chacha.Nonce{}, 0xff000000, "70e70878029cf1ece6b11a0ccee5daa1ab694da2942fcfc1bd55ddfc693b50fc7ac5bb1c462a1a0c0df65f1094fe2b1e5da5915c039519c5ca49d0b0fa3457f6"},
		{someKey(), chacha.Nonce{}, 0xffffffff, "eb0540dbc5b988691359033d06c809a3d08a18cd6b8e8021034df7e51e4b24644a8ab462505ba700525a1df497d5f95e50dbc26ccacc930fc548a69c16097f8b"},
		{someKey(), onesNonce(), 0, "d8502f0066801b44dcc2fdba0925420a58542c66f8150855d03ed87d14979ba69d167b3d5bdc9ae5029a7d787d9b6062adc56f5764700f0b971205ff0464b088"},
		{someKey(), onesNonce(), 1, "0f3b7bfea1a57e7a9579d3ef5ef70649859657765f2a454f9ef414e06e35b2434ef0aa1a7ad6f74ee8b63835832f8ba2adaca22e8a10f6b41b1a05b55b4fff22"},
		{someKey(), onesNonce(), 0x7fffffff, "902ff27081b982433a883a679f510264e6420360f8055f7287f2ee455a6965dde41734c8297cbe890a1b36bf4da3b7adb97dfc045f6417aaf0f67dc59c9a44cb"},
		{someKey(), onesNonce(), 0x80000000, "3ee37e9da88ced8a5fd32bedd4a8850053e99e4d44a4e8c5f251386d81191a8f05ab35a816eaeaafd6716a7f7abab353358d56f3f8e614e2338bd819b7077d47"},
		{someKey(), onesNonce(), 0xff000000, "a4176c39648bbf6bc11ed2df7f3d0b1fd57ed25c2d382e8135c8b652b895c54a5d2b4023d071f478566a9cc320c6511fd484e2a14a24132ed51b3101303df6de"},
		{someKey(), onesNonce(), 0xffffffff, "37074ac426e403fd2cdf79df24e05482c7cd6665bee467b10c1c11849595d6801ed92c628c29872ae68bb4f5011694ce1da4c9e3530d2dcd5cd36e7d4dae2d33"},
		{someKey(), someNonce(), 0, "2092c3079a663f69e240fd67fafaa7059ecf788166c503e9755d934f13203838d039b03085b21f31da189dd77fb749068340bd6379beecccd0539d99d72da76b"},
		{someKey(), someNonce(), 1, "c8a1e1a3247a2d56d271ae3498e45b6d313cfc2375732090cdcd3ce0a5c363fe796d0581965d15388248d3f54fed5982ec7b60e52003a3cda014e8bd9eb429ac"},
		{someKey(), someNonce(), 0x7fffffff, "62cdf56dd1d37483a50fdf8895d85c9ddd4b5cb525fc18297a99a44821d421e5dbe561e837801ca149372062f57a78c9e111c4781c0037c6e6dbb47a3e88c461"},
		{someKey(), someNonce(), 0x80000000, "bf4413fa6ad42a1aec64066b393e7b2add03c7f7a7e83ce20ccca249a34951ed81595eeea29e6d5c4dff865e08cfe2e12569ca90dfc4e02186297737f9713ed1"},
		{someKey(), someNonce(), 0xff000000, "c0a6be73a12598dfdf8a2a5374d4d51126d70c3caccd12933a500178f59d49a04f15d58c069928a0a7a2a6a2fbcc5109a43c33cdc990cfe44bceeb23b7bb0bcc"},
		{someKey(), someNonce(), 0xffffffff, "e94b76ed6db891df3c0dd098e707731a5ff0e917fde5ab41eb30995e0fccd5c98cb9658e0d3438864b92a0ef35593a86f46961760201c831a3339e3dfa865950"},
	} {
		if got := chacha.Block(c.k, c.n, c.count); hex(got[:]) != c.block {
			t.Errorf("Block of %x, %x, %x: %x, want %s", c.k, c.n, c.count, got, c.block)
		}
	}
}

// P4.1: the chapter's words taken plainly, with each bit of the count alone, and about it.
func TestBlockIsAsTheChapterSays(t *testing.T) {
	for _, k := range keys() {
		for _, n := range nonces() {
			for bit := range 32 {
				for _, count := range []uint32{1<<bit - 1, 1 << bit, 1<<bit + 1, ^uint32(1 << bit)} {
					if got, want := chacha.Block(k, n, count), plainBlock(k, n, count); got != want {
						t.Fatalf("Block of %x, %x, %x: %x, want %x", k, n, count, got, want)
					}
				}
			}
		}
	}
}

// P4.1: each bit of the key, the nonce and the count alone is laid where the chapter says, and none is left out.
func TestBlockHangsOnEveryBit(t *testing.T) {
	met := map[[64]byte]int{}
	meet := func(k api.Key, n chacha.Nonce, count uint32) {
		got := chacha.Block(k, n, count)
		if want := plainBlock(k, n, count); got != want {
			t.Errorf("Block of %x, %x, %x: %x, want %x", k, n, count, got, want)
		}
		met[got]++
	}
	meet(api.Key{}, chacha.Nonce{}, 0)
	for i := range 8 * 32 {
		meet(bitKey(i), chacha.Nonce{}, 0)
	}
	for i := range 8 * 12 {
		meet(api.Key{}, bitNonce(i), 0)
	}
	for i := range 32 {
		meet(api.Key{}, chacha.Nonce{}, 1<<i)
	}
	if want := 1 + 8*32 + 8*12 + 32; len(met) != want {
		t.Errorf("%d blocks come of it, want %d", len(met), want)
	}
}

// Rule 5: what a block is hangs on nothing that was asked before.
func TestBlockIsTheSameAgain(t *testing.T) {
	first := chacha.Block(someKey(), someNonce(), 7)
	kept := bytes.Clone(first[:])
	for i := range first {
		first[i] = '!'
	}
	chacha.Block(onesKey(), onesNonce(), 8)
	chacha.Stream(onesKey(), onesNonce(), 7, sample.Text(100))
	if again := chacha.Block(someKey(), someNonce(), 7); !bytes.Equal(again[:], kept) {
		t.Errorf("asked again it is %x, was %x", again, kept)
	}
}
